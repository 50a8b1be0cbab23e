import Derived.Test.YtmgibmmpopoboaaEOp
namespace Go.Proofs.Ytmgibmmpopoboaa
open Go.RowKit Go.Deep
theorem p8 {W:World} {p o m:Nat} {u:TypeId} {x y z:List Value} (ho:aL W p u m) (h:W.rangeAt p o (x++(y++z))) (y':List Value) (hl:y'.length=y.length) (hm:o+(x++(y++z)).length≤m):(W.setCells p (o+x.length) y').rangeAt p o (x++(y'++z)):=by
 obtain⟨h1,h2⟩:=dB h;obtain⟨_,h3⟩:=dB h2;simp only[List.length_append]at hm;refine lz ?_ (lz ?_ ?_)
 ·exact World.rangeAt_setCells_apart h1 _ _ _ (Or.inr (Or.inl (by omega)))
 ·exact World.rangeAt_setCells_same _ _ _ _ (aR ho _ _ (by omega))
 ·rw[hl];exact World.rangeAt_setCells_apart h3 _ _ _ (Or.inr (Or.inr (by omega)))
def cv (W:World) (p o lo:Nat) (l:List Pl.Bl):Prop:=∃ u m vs G,aL W p u m∧o+l.length*3≤m∧W.rangeAt p o vs∧Rep W false (bP l.length ar) G (l.flatMap blD) vs∧(∀ b∈G,lo≤b∧b≠p)∧lo≤p
theorem cv.ae {W W':World} {p o lo:Nat} {l:List Pl.Bl} (h:cv W p o lo l) (hb:Bel W W'):cv W' p o lo l:=by
 obtain⟨u,m,vs,G,h1,h2,h3,h4,h5,h6⟩:=h;exact⟨u,m,vs,G,h1.ae hb,h2,aA h3 h1.lt hb,h4.ae hb,h5,h6⟩
theorem cv.aY {W W':World} {T:Nat→Prop} {p o lo:Nat} {l:List Pl.Bl} (h:cv W p o lo l) (hb:Marks T W W') (hT:∀ b,T b→b<lo):cv W' p o lo l:=by
 obtain⟨u,m,vs,G,h1,h2,h3,h4,h5,h6⟩:=h;have hp:¬ T p:=fun e=>by have:=hT p e;omega
 exact⟨u,m,vs,G,hb.own _ _ _ h1,h2,cM h3 fun j _=>hb.cell h1.lt hp _,h4.aY hb fun b fE e=>by have:=hT b e;have:=(h5 b fE).1;omega,h5,h6⟩
theorem cv.lt {W:World} {p o lo:Nat} {l:List Pl.Bl} (h:cv W p o lo l):p<W.heap.size:=by
 obtain⟨u,m,vs,G,h1,_⟩:=h;exact h1.lt
theorem cv.lo {W:World} {p o lo:Nat} {l:List Pl.Bl} (h:cv W p o lo l):lo≤p:=by
 obtain⟨u,m,vs,G,_,_,_,_,_,h6⟩:=h;exact h6
theorem cv.at_ {W:World} {p o lo:Nat} {l:List Pl.Bl} (h:cv W p o lo l) {k:Nat} (hk:k<l.length) {N:Nat} (hN:W.heap.size≤N):∃ a m,W.rangeAt p (o+k*3) [.string (l.getD k Pl.aG).kind,.string (l.getD k Pl.aG).name,.slice a (l.getD k Pl.aG).lines.length m]∧Dat (fun b=>lo≤b∧b≠p) N N W aJ [aU (l.getD k Pl.aG).lines] [.slice a (l.getD k Pl.aG).lines.length m]:=by
 obtain⟨u,m,vs,G,h1,h2,h3,h4,h5,h6⟩:=h;obtain⟨ve,G',hE,hg,hG⟩:=h4.elE hk h3;have e:el ar.length k (l.flatMap blD)=blD (l.getD k Pl.aG):=fJ Pl.aG blD 3 iy l k hk;rw[e]at hE;obtain⟨F2,v2,eM,hc,r2⟩:=dZ hE;subst hc;obtain⟨a,m',fK⟩:=r2.raw.aP;subst fK;exact⟨a,m',hg,F2,r2,fun b hb=>Or.inl ⟨h5 b (hG b (by rw[eM];simp[hb])),zL (r2.lt b hb) hN⟩⟩
theorem cv.raw {W:World} {p o lo:Nat} {l:List Pl.Bl} (h:cv W p o lo l) {c:Nat} (hc:l.length≤maxLen∧l.length≤c):Raw W aV [aW l] [.slice (some ⟨p,o,none⟩) l.length c]:=by
 obtain⟨u,m,vs,G,h1,h2,h3,h4,h5,h6⟩:=h;exact .row _ _ p o l.length c vs (l.flatMap blD) h1.lt ⟨hc.1,hc.2⟩ h3 h4.raw .nil
theorem cv.put {W:World} {p o lo N:Nat} {l:List Pl.Bl} (h:cv W p o lo l) {k:Nat} (hk:k<l.length) (x:Pl.Bl) {lv:Value} (hD:Dat (fun b=>lo≤b∧b≠p) N N W aJ [aU x.lines] [lv]) (hN:p<N):cv (W.setCells p (o+k*3) [.string x.kind,.string x.name,lv]) p o lo (l.set k x):=by
 obtain⟨u,m,vs,G,h1,h2,h3,h4,h5,h6⟩:=h;obtain⟨FD,rD,fD⟩:=hD;have Eu:∀ b∈FD,lo≤b∧b≠p:=fun b hb=>by
  rcases fD b hb with q|q
  ·exact q.1
  ·exact⟨by omega,by omega⟩
 have hm:Marks (fun b=>b=p) W (W.setCells p (o+k*3) [.string x.kind,.string x.name,lv]):=aN (S:=fun b=>b=p) rfl _ _ _;have pd:vs.length=l.length*3:=by rw[h4.len,bq];rfl
 have hrc:=h4;rw[eG hk]at h4;obtain⟨F1,F2,d1,d2,c1,c2,hF,hd,bd,r1,r2⟩:=Rep.cut _ h4;obtain⟨F3,F4,d3,d4,c3,c4,eM,Gh,kj,r3,r4⟩:=Rep.cut _ r2;subst hF;subst bd;subst eM;subst kj;subst Gh;have jU:c1.length=k*3:=by rw[r1.len,bq];rfl
 have Jz:c3.length=3:=by rw[r3.len];rfl
 have BH:d1.length=k*3:=by rw[r1.raw.typ.len,bq];rfl
 have qK:d3.length=3:=by rw[r3.raw.typ.len];rfl
 have J8:l=l.take k++(l.getD k Pl.aG::l.drop (k+1)):=by
  have e:l.getD k Pl.aG=l[k]:=by simp[hk]
  rw[e,← List.drop_eq_getElem_cons hk,List.take_append_drop]
 have ht:((l.take k).flatMap blD).length=k*3:=by rw[fO blD 3 iy,List.length_take,Nat.min_eq_left (by omega)]
 have hs:l.flatMap blD=(l.take k).flatMap blD++(blD (l.getD k Pl.aG)++(l.drop (k+1)).flatMap blD):=by
  conv=>lhs;rw[J8]
  rw[List.flatMap_append,List.flatMap_cons]
 obtain⟨g1,g2⟩:=List.append_inj (hd.symm.trans hs) (by rw[BH,ht]);obtain⟨g3,g4⟩:=List.append_inj g2 (by rw[qK];rfl);subst g1;subst g4;have Hd:(l.set k x).flatMap blD=(l.take k).flatMap blD++(blD x++(l.drop (k+1)).flatMap blD):=by
  rw[List.set_eq_take_append_cons_drop,if_pos hk,List.flatMap_append,List.flatMap_cons]
 refine⟨u,m,c1++([.string x.kind,.string x.name,lv]++c4),F1++((FD++[])++F4),dE _ _ _ h1,by rw[List.length_set];exact h2, ?_, ?_,fun b hb=> ?_,h6⟩
 ·have:=p8 h1 h3 [.string x.kind,.string x.name,lv] (by rw[Jz];rfl) (by rw[pd];exact h2);rw[jU]at this;exact this
 ·rw[List.length_set,Hd,eG hk];have hx:Rep W false ar (FD++[]) (blD x) [.string x.kind,.string x.name,lv]:=bB x.kind x.name rD;exact(r1.app (hx.app r4)).aY hm fun b hb e=>by
   simp only[List.mem_append,List.not_mem_nil,or_false]at hb;rcases hb with hb|hb|hb
   ·exact(h5 b (by simp[hb])).2 e
   ·exact(Eu b hb).2 e
   ·exact(h5 b (by simp[hb])).2 e
 ·simp only[List.mem_append,List.not_mem_nil,or_false]at hb;rcases hb with hb|hb|hb
  ·exact h5 b (by simp[hb])
  ·exact Eu b hb
  ·exact h5 b (by simp[hb])
theorem kI {W:World} {F:List Nat} {l:List Pl.Bl} {v:Value} {lo:Nat} (h:Rep W false aV F [aW l] [v]) (nd:F.Nodup) (eN:∀ b∈F,lo≤b) (hl:0<l.length):∃ p o c,v=.slice (some ⟨p,o,none⟩) l.length c∧l.length≤c∧cv W p o lo l:=by
 rcases h.slice with⟨_,h0,_⟩|⟨p,o,c,u,m,G,hv,hF,hn,ho,hm,_,vs,hr,hR⟩
 ·omega
 subst hF;rw[List.nodup_cons]at nd;exact⟨p,o,c,hv,hn.2.1,u,m,vs,G,ho,hm,hr,hR,fun b hb=>⟨eN b (by simp[hb]),fun e=>nd.1 (e ▸ hb)⟩,eN p (by simp)⟩
namespace Pl
theorem CP {α:Type} (l:List α) (k:Nat) (d x:α) (hk:k<l.length):(l.set k x).getD k d=x:=by
 simp[hk]
theorem zO {α:Type} (l:List α) (k:Nat) (x y:α):(l.set k x).set k y=l.set k y:=by simp
end Pl
def mz (lo p:Nat) (W:World) (sh:List Sh) (A:List Dt) (c:List Value):Prop:=∃ F,Rep W false sh F A c∧∀ b∈F,lo≤b∧b≠p
theorem mz.ae {lo p:Nat} {W W':World} {sh:List Sh} {A:List Dt} {c:List Value} (h:mz lo p W sh A c) (hb:Bel W W'):mz lo p W' sh A c:=by
 obtain⟨F,r,f⟩:=h;exact⟨F,r.ae hb,f⟩
theorem mz.aY {lo p:Nat} {W W':World} {sh:List Sh} {A:List Dt} {c:List Value} (h:mz lo p W sh A c) (hb:Marks (fun b=>b=p) W W'):mz lo p W' sh A c:=by
 obtain⟨F,r,f⟩:=h;exact⟨F,r.aY hb fun b fE e=>(f b fE).2 e,f⟩
theorem mz.dat {lo p N:Nat} {W:World} {sh:List Sh} {A:List Dt} {c:List Value} (h:mz lo p W sh A c) (hN:W.heap.size≤N):Dat (fun b=>lo≤b∧b≠p) N N W sh A c:=by
 obtain⟨F,r,f⟩:=h;exact⟨F,r,fun b hb=>Or.inl ⟨f b hb,zL (r.lt b hb) hN⟩⟩
theorem cv.there {W:World} {p o lo:Nat} {l:List Pl.Bl} (h:cv W p o lo l) {k:Nat} (hk:k<l.length):W.there p (o+k*3) 3:=by
 obtain⟨u,m,vs,G,h1,h2,_⟩:=h;exact aR h1 _ _ (by omega)
namespace Pl
def fp (g:Bl→Bl) (s:List Bl) (i:Nat):List Bl:=(s.map g).take i++s.drop i
theorem rU (g:Bl→Bl) (s:List Bl) (i:Nat) (hi:i≤s.length):(fp g s i).length=s.length:=by
 unfold fp;rw[List.length_append,List.length_take,List.length_drop,List.length_map];omega
theorem pK (g:Bl→Bl) (s:List Bl):fp g s 0=s:=by simp[fp]
theorem sM (g:Bl→Bl) (s:List Bl):fp g s s.length=s.map g:=by
 unfold fp;rw[List.take_of_length_le (by simp),List.drop_length,List.append_nil]
theorem j2 (g:Bl→Bl) (s:List Bl) (i:Nat) (hi:i<s.length):fp g s i=(s.map g).take i++s.getD i aG::s.drop (i+1):=by
 have e:s.getD i aG=s[i]:=by simp[hi]
 unfold fp;rw[e,← List.drop_eq_getElem_cons hi]
theorem vq (g:Bl→Bl) (s:List Bl) (i:Nat) (hi:i<s.length):((s.map g).take i).length=i:=by rw[List.length_take,List.length_map];omega
theorem rN (g:Bl→Bl) (s:List Bl) (i:Nat) (hi:i<s.length):(fp g s i).getD i aG=s.getD i aG:=by
 rw[j2 g s i hi];have h:=vq g s i hi;rw[List.getD_eq_getElem?_getD,List.getElem?_append_right (by omega),h];simp
theorem rR (g:Bl→Bl) (s:List Bl) (i:Nat) (hi:i<s.length) (x:Bl):(fp g s i).set i x=(s.map g).take i++x::s.drop (i+1):=by
 rw[j2 g s i hi];have h:=vq g s i hi;rw[List.set_append_right _ _ (by omega),h];simp
theorem wM (g:Bl→Bl) (s:List Bl) (i:Nat) (hi:i<s.length):(fp g s i).set i (s.getD i aG)=fp g s i:=by rw[rR g s i hi,j2 g s i hi]
theorem pz (g:Bl→Bl) (s:List Bl) (i:Nat) (hi:i<s.length):(fp g s i).set i (g (s.getD i aG))=fp g s (i+1):=by
 have e:s.getD i aG=s[i]:=by simp[hi]
 rw[rR g s i hi];unfold fp;rw[List.take_succ_eq_append_getElem (by simpa using hi),List.append_assoc,e];simp
def cj (kind:ByteArray) (acc:List Ln) (r:Ru):List Ln:=if !r.many&&decide ((aI acc r.key).length=0) then dD kind acc ⟨r.key,r.dflt⟩ else acc
def cp (kind:ByteArray) (l:List Ln) (rs:List Ru):List Ln:=rs.foldl (cj kind) l
def dN (b:Bl):Bl:=⟨b.kind,b.name,cp b.kind b.lines (aj b.kind)⟩
def bH (s:List Bl):List Bl:=if aM s then s.map dN else []
theorem tQ (l:List Ru) (k:Nat) (h:k<l.length):l.take (k+1)=l.take k++[l.getD k aO]:=by
 have e:l.getD k aO=l[k]:=by simp[h]
 rw[e,List.take_succ_eq_append_getElem h]
theorem rQ (kind:ByteArray) (l:List Ln) (rs:List Ru) (k:Nat) (hk:k<rs.length):cp kind l (rs.take (k+1))=cj kind (cp kind l (rs.take k)) (rs.getD k aO):=by
 rw[tQ rs k hk];simp[cp]
theorem p6 (kind:ByteArray) (l:List Ln) (r:Ru):(cj kind l r).length≤l.length+1:=by
 unfold cj;split
 ·rw[lO];exact zE
 ·omega
theorem nC (kind:ByteArray):∀ (rs:List Ru) (l:List Ln),(cp kind l rs).length≤l.length+rs.length
 |[],l=>zE
 |r::rs,l=>by
  have:=nC kind rs (cj kind l r);have h2:=p6 kind l r;rw[cp]at this;rw[cp,List.foldl_cons,List.length_cons];omega
theorem qb (kind:ByteArray) (l:List Ln) (r:Ru) (y:Ln) (h:y∈cj kind l r):y∈l∨y=⟨r.key,r.dflt⟩:=by
 unfold cj at h;split at h
 ·rw[js]at h;exact h.symm
 ·exact Or.inl h
theorem nW (kind:ByteArray):∀ (rs:List Ru) (l:List Ln) (y:Ln),y∈cp kind l rs→y∈l∨∃ r∈rs,y=⟨r.key,r.dflt⟩
 |[],l,y,h=>Or.inl h
 |r::rs,l,y,h=>by
  rw[cp,List.foldl_cons]at h;rcases nW kind rs (cj kind l r) y (by rw[cp];exact h) with h|⟨q,hq,e⟩
  ·rcases qb kind l r y h with h|h
   ·exact Or.inl h
   ·exact Or.inr ⟨r,by simp,h⟩
  ·exact Or.inr ⟨q,by simp[hq],e⟩
end Pl
theorem cP (kind:ByteArray):(Pl.aj kind).length≤12:=by
 unfold Pl.aj;split
 ·decide
 ·split
  ·decide
  ·split<;>decide
theorem vB {m:Nat} {b:Pl.Bl} (h:Sm m b) (k:Nat):(Pl.cp b.kind b.lines ((Pl.aj b.kind).take k)).length≤m+12∧∀ x∈Pl.cp b.kind b.lines ((Pl.aj b.kind).take k),x.ws.length≤4194304:=by
 refine⟨?_,fun x hx=> ?_⟩
 ·have h1:=Pl.nC b.kind ((Pl.aj b.kind).take k) b.lines;have h2:=h.ln;have h3:=cP b.kind;rw[List.length_take]at h1;omega
 ·rcases Pl.nW _ _ _ _ hx with h1|⟨r,hr,e⟩
  ·exact(h.ws x h1).1
  ·rw[e];exact j5 b.kind r (List.mem_of_mem_take hr)
theorem rC {S:Nat→Prop} {B lo:Nat} {W:World} {l:List Pl.Ru} {v:Value} (h:Dat S B lo W [.row 40 aC] [bQ l] [v]) {k:Nat} (hk:k<l.length):∃ p o c a1 c1 a3 c3,v=.slice (some ⟨p,o,none⟩) l.length c∧p<W.heap.size∧W.rangeAt p (o+k*4) [.string (l.getD k Pl.aO).key,.slice a1 (l.getD k Pl.aO).args.length c1,.bool (l.getD k Pl.aO).many,.slice a3 (l.getD k Pl.aO).dflt.length c3]∧Dat S B lo W cA [.row (l.getD k Pl.aO).dflt.length (txD (l.getD k Pl.aO).dflt)] [.slice a3 (l.getD k Pl.aO).dflt.length c3]:=by
 obtain⟨F,r,f⟩:=h;rcases r.slice with⟨_,h0,_⟩|⟨p,o,c,u,m,G,hv,hF,hn,ho,hm,_,vs,hr,hR⟩
 ·omega
 obtain⟨ve,G',hE,hg,hG⟩:=hR.elE hk hr;have e:el aC.length k (l.flatMap ruD)=ruD (l.getD k Pl.aO):=fJ Pl.aO ruD 4 mL l k hk;rw[e]at hE;obtain⟨F1,v1,F3,v3,eM,hc,r1,r3⟩:=dS hE;subst hc;obtain⟨a1,m1,jK⟩:=r1.raw.aP;subst jK;obtain⟨a3,m3,oh⟩:=r3.raw.aP;subst oh;exact⟨p,o,c,a1,m1,a3,m3,hv,ho.lt,hg,F3,r3,fun b hb=>f b (by rw[hF];exact List.mem_cons_of_mem _ (hG b (by rw[eM];simp[hb])))⟩
namespace Pl
def bM (kind:ByteArray) (x:Ln):Bool:=match bJ (aj kind) x.key with
 |none=>true
 |some j=>((aj kind).getD j aO).many|| !bO ((aj kind).getD j aO).dflt x.ws
def dI (b:Bl):Bl:=⟨b.kind,b.name,b.lines.filter (bM b.kind)⟩
def bR (s:List Bl):List Bl:=if aM s then s.map dI else []
theorem lQ {kind key:ByteArray} {ws:List ByteArray} (h:bU kind key ws=true):∃ j,bJ (aj kind) key=some j:=by
 unfold bU at h;cases hj:bJ (aj kind) key with
 |none=>rw[hj]at h;simp at h
 |some j=>exact⟨j,rfl⟩
theorem ub {s:List Bl} (h:aM s=true) {i k:Nat} (hi:i<s.length) (hk:k<(s.getD i aG).lines.length):∃ j,bJ (aj (s.getD i aG).kind) ((s.getD i aG).lines.getD k aQ).key=some j:=by
 unfold aM at h;rw[Bool.and_eq_true,List.all_eq_true]at h;have h1:=h.2 i (List.mem_range.2 hi);unfold cQ at h1;simp only[Bool.and_eq_true]at h1;have h2:=h1.1.2;unfold bA at h2;rw[List.all_eq_true]at h2;have h3:=h2 k (List.mem_range.2 hk);unfold cV at h3;simp only[Bool.and_eq_true]at h3;exact lQ h3.1.1
end Pl
theorem cv.Le {W:World} {p o lo N:Nat} {l:List Pl.Bl} (h:cv W p o lo l) {k:Nat} (hk:k<l.length) (ls:List Pl.Ln) {lv:Value} (hD:Dat (fun b=>lo≤b∧b≠p) N N W aJ [aU ls] [lv]) (hN:p<N):cv (W.setCell ⟨p,o+k*3+2,none⟩ lv) p o lo (l.set k ⟨(l.getD k Pl.aG).kind,(l.getD k Pl.aG).name,ls⟩):=by
 obtain⟨u,m,vs,G,h1,h2,h3,h4,h5,h6⟩:=h;obtain⟨FD,rD,fD⟩:=hD;have Eu:∀ b∈FD,lo≤b∧b≠p:=fun b hb=>by
  rcases fD b hb with q|q
  ·exact q.1
  ·exact⟨by omega,by omega⟩
 have hm:Marks (fun b=>b=p) W (W.setCell ⟨p,o+k*3+2,none⟩ lv):=Marks.sc (S:=fun b=>b=p) W rfl _ _;have pd:vs.length=l.length*3:=by rw[h4.len,bq];rfl
 rw[eG hk]at h4;obtain⟨F1,F2,d1,d2,c1,c2,hF,hd,bd,r1,r2⟩:=Rep.cut _ h4;obtain⟨F3,F4,d3,d4,c3,c4,eM,Gh,kj,r3,r4⟩:=Rep.cut _ r2;subst hF;subst bd;subst eM;subst kj;subst Gh;have jU:c1.length=k*3:=by rw[r1.len,bq];rfl
 have BH:d1.length=k*3:=by rw[r1.raw.typ.len,bq];rfl
 have qK:d3.length=3:=by rw[r3.raw.typ.len];rfl
 have J8:l=l.take k++(l.getD k Pl.aG::l.drop (k+1)):=by
  have e:l.getD k Pl.aG=l[k]:=by simp[hk]
  rw[e,← List.drop_eq_getElem_cons hk,List.take_append_drop]
 have ht:((l.take k).flatMap blD).length=k*3:=by rw[fO blD 3 iy,List.length_take,Nat.min_eq_left (by omega)]
 have hs:l.flatMap blD=(l.take k).flatMap blD++(blD (l.getD k Pl.aG)++(l.drop (k+1)).flatMap blD):=by
  conv=>lhs;rw[J8]
  rw[List.flatMap_append,List.flatMap_cons]
 obtain⟨g1,g2⟩:=List.append_inj (hd.symm.trans hs) (by rw[BH,ht]);obtain⟨g3,g4⟩:=List.append_inj g2 (by rw[qK];rfl);subst g1;subst g4;rw[g3]at r3;obtain⟨Fb,vb,hFb,hcb,rb⟩:=dZ r3;subst hcb;have Hd:(l.set k ⟨(l.getD k Pl.aG).kind,(l.getD k Pl.aG).name,ls⟩).flatMap blD=(l.take k).flatMap blD++(blD ⟨(l.getD k Pl.aG).kind,(l.getD k Pl.aG).name,ls⟩++(l.drop (k+1)).flatMap blD):=by
  rw[List.set_eq_take_append_cons_drop,if_pos hk,List.flatMap_append,List.flatMap_cons]
 refine⟨u,m,c1++([.string (l.getD k Pl.aG).kind,.string (l.getD k Pl.aG).name,lv]++c4),F1++((FD++[])++F4),h1.setCell _ _,by rw[List.length_set];exact h2, ?_, ?_,fun b hb=> ?_,h6⟩
 ·have e1:c1++([.string (l.getD k Pl.aG).kind,.string (l.getD k Pl.aG).name,vb]++c4)=(c1++[.string (l.getD k Pl.aG).kind,.string (l.getD k Pl.aG).name])++([vb]++c4):=by simp
  have e2:c1++([.string (l.getD k Pl.aG).kind,.string (l.getD k Pl.aG).name,lv]++c4)=(c1++[.string (l.getD k Pl.aG).kind,.string (l.getD k Pl.aG).name])++([lv]++c4):=by simp
  rw[e1]at h3 pd;have:=p8 h1 h3 [lv] rfl (by rw[pd];exact h2);rw[e2];have e3:o+(c1++([.string (l.getD k Pl.aG).kind,.string (l.getD k Pl.aG).name]:List Value)).length=o+k*3+2:=by rw[List.length_append,jU];rfl
  rw[e3]at this;exact this
 ·rw[List.length_set,Hd,eG hk];have hx:Rep W false ar (FD++[]) (blD ⟨(l.getD k Pl.aG).kind,(l.getD k Pl.aG).name,ls⟩) [.string (l.getD k Pl.aG).kind,.string (l.getD k Pl.aG).name,lv]:=bB _ _ rD;exact(r1.app (hx.app r4)).aY hm fun b hb e=>by
   simp only[List.mem_append,List.not_mem_nil,or_false]at hb;rcases hb with hb|hb|hb
   ·exact(h5 b (by simp[hb])).2 e
   ·exact(Eu b hb).2 e
   ·exact(h5 b (by simp[hb])).2 e
 ·simp only[List.mem_append,List.not_mem_nil,or_false]at hb;rcases hb with hb|hb|hb
  ·exact h5 b (by simp[hb])
  ·exact Eu b hb
  ·exact h5 b (by simp[hb])
theorem cv.IV {W:World} {p o lo:Nat} {l:List Pl.Bl} (h:cv W p o lo l) {k:Nat} (hk:k<l.length):∃ v,W.cell? ⟨p,o+k*3+2,none⟩=some v:=by
 obtain⟨a,m,hg,_⟩:=h.at_ hk zE;exact⟨_,hg 2 _ rfl⟩
theorem cv.frozen {W:World} {p o lo:Nat} {l:List Pl.Bl} (h:cv W p o lo l) (j:Nat):W.frozen? ⟨p,j,none⟩=false:=by
 obtain⟨u,m,vs,G,h1,_⟩:=h;exact h1.frozen j
theorem zi {Q:Nat→Prop} {F:List Nat} {W:World} {l:List Pl.Ru} {v:Value} (h:Rep W false [.row 40 aC] F [bQ l] [v]) (hQ:∀ b∈F,Q b) {k:Nat} (hk:k<l.length):∃ p o c a1 c1 a3 c3 F',v=.slice (some ⟨p,o,none⟩) l.length c∧p<W.heap.size∧W.rangeAt p (o+k*4) [.string (l.getD k Pl.aO).key,.slice a1 (l.getD k Pl.aO).args.length c1,.bool (l.getD k Pl.aO).many,.slice a3 (l.getD k Pl.aO).dflt.length c3]∧Rep W false cA F' [.row (l.getD k Pl.aO).dflt.length (txD (l.getD k Pl.aO).dflt)] [.slice a3 (l.getD k Pl.aO).dflt.length c3]∧∀ b∈F',Q b:=by
 obtain⟨p,o,c,a1,c1,a3,c3,hv,hp,hg,F',r',f'⟩:=rC (S:=Q) (B:=W.heap.size) (lo:=W.heap.size) ⟨F,h,fun b hb=>Or.inl ⟨hQ b hb,h.lt b hb⟩⟩ hk;refine⟨p,o,c,a1,c1,a3,c3,F',hv,hp,hg,r',fun b hb=> ?_⟩;rcases f' b hb with q|q
 ·exact q.1
 ·have:=r'.lt b hb;omega
theorem wj {lo p N:Nat} {W:World} {l:List Pl.Ln} {v:Value} (h:Dat (fun b=>lo≤b∧b≠p) N N W aJ [aU l] [v]) (hN:W.heap.size≤N) {k:Nat} (hk:k<l.length):∃ p2 o2 c2 aw cw G,v=.slice (some ⟨p2,o2,none⟩) l.length c2∧p2<W.heap.size∧W.rangeAt p2 (o2+k*2) [.string (l.getD k Pl.aQ).key,.slice aw (l.getD k Pl.aQ).ws.length cw]∧Rep W false au G (lnD (l.getD k Pl.aQ)) [.string (l.getD k Pl.aQ).key,.slice aw (l.getD k Pl.aQ).ws.length cw]∧∀ b∈G,lo≤b∧b≠p:=by
 obtain⟨p2,o2,c2,aw,cw,hv,hp,_,hg,F,r,f⟩:=Cx h hk;refine⟨p2,o2,c2,aw,cw,F++[],hv,hp,hg,cS _ r,fun b hb=> ?_⟩;rw[List.append_nil]at hb;rcases f b hb with q|q
 ·exact q.1
 ·have:=r.lt b hb;omega
end Go.Proofs.Ytmgibmmpopoboaa
