import Derived.Test.YtmgibmmpopoboaaEDq
namespace Go.Proofs.Ytmgibmmpopoboaa
open Go.RowKit Go.Deep
def i4 (W:World) (p o lo:Nat) (pre post:List Pl.Bl) (H:Nat→Prop):Prop:=∃ u m c1 c3 c4 F1 F4,aL W p u m∧o+(pre.length+1+post.length)*3≤m∧W.rangeAt p o (c1++(c3++c4))∧c3.length=3∧Rep W false (bP pre.length ar) F1 (pre.flatMap blD) c1∧Rep W false (bP post.length ar) F4 (post.flatMap blD) c4∧(∀ b∈F1++F4,lo≤b∧b≠p∧¬ H b)∧lo≤p∧¬ H p
theorem i4.ae {W W':World} {p o lo:Nat} {pre post:List Pl.Bl} {H:Nat→Prop} (h:i4 W p o lo pre post H) (hb:Bel W W'):i4 W' p o lo pre post H:=by
 obtain⟨u,m,c1,c3,c4,F1,F4,h1,h2,h3,h4,h5,h6,h7,h8⟩:=h;exact⟨u,m,c1,c3,c4,F1,F4,h1.ae hb,h2,aA h3 h1.lt hb,h4,h5.ae hb,h6.ae hb,h7,h8⟩
theorem i4.aY {W W':World} {T:Nat→Prop} {p o lo:Nat} {pre post:List Pl.Bl} {H:Nat→Prop} (h:i4 W p o lo pre post H) (hb:Marks T W W') (hT:∀ b,T b→H b∨b<lo):i4 W' p o lo pre post H:=by
 obtain⟨u,m,c1,c3,c4,F1,F4,h1,h2,h3,h4,h5,h6,h7,h8,h9⟩:=h;have hp:¬ T p:=fun e=>by rcases hT p e with q|q;exact h9 q;omega
 have hn:∀ b∈F1++F4,¬ T b:=fun b fE e=>by
  have:=h7 b fE;rcases hT b e with q|q
  ·exact this.2.2 q
  ·omega
 exact⟨u,m,c1,c3,c4,F1,F4,hb.own _ _ _ h1,h2,cM h3 fun j _=>hb.cell h1.lt hp _,h4,h5.aY hb fun b fE=>hn b (by simp[fE]),h6.aY hb fun b fE=>hn b (by simp[fE]),h7,h8,h9⟩
theorem i4.lo {W:World} {p o lo:Nat} {pre post:List Pl.Bl} {H:Nat→Prop} (h:i4 W p o lo pre post H):lo≤p:=by
 obtain⟨u,m,_,_,_,_,_,h1,h2,h3,h4,h5,h6,h7,h8,_⟩:=h;exact h8
theorem i4.lt {W:World} {p o lo:Nat} {pre post:List Pl.Bl} {H:Nat→Prop} (h:i4 W p o lo pre post H):p<W.heap.size:=by
 obtain⟨u,m,_,_,_,_,_,h1,_⟩:=h;exact h1.lt
theorem i4.there {W:World} {p o lo:Nat} {pre post:List Pl.Bl} {H:Nat→Prop} (h:i4 W p o lo pre post H):W.there p (o+pre.length*3) 3:=by
 obtain⟨u,m,_,_,_,_,_,h1,h2,_⟩:=h;exact aR h1 _ _ (by omega)
theorem i4.fill {W:World} {p o lo N:Nat} {pre post:List Pl.Bl} {H:Nat→Prop} (h:i4 W p o lo pre post H) (x:Pl.Bl) {lv:Value} (hD:Dat (fun b=>lo≤b∧b≠p) N N W aJ [aU x.lines] [lv]) (hN:p<N):cv (W.setCells p (o+pre.length*3) [.string x.kind,.string x.name,lv]) p o lo (pre++x::post):=by
 obtain⟨u,m,c1,c3,c4,F1,F4,h1,h2,h3,h4,r1,r4,h7,h8,_⟩:=h;obtain⟨FD,rD,fD⟩:=hD;have Eu:∀ b∈FD,lo≤b∧b≠p:=fun b hb=>by
  rcases fD b hb with q|q
  ·exact q.1
  ·exact⟨by omega,by omega⟩
 have hm:Marks (fun b=>b=p) W (W.setCells p (o+pre.length*3) [.string x.kind,.string x.name,lv]):=aN (S:=fun b=>b=p) rfl _ _ _;have jU:c1.length=pre.length*3:=by rw[r1.len,bq];rfl
 have hc4:c4.length=post.length*3:=by rw[r4.len,bq];rfl
 have iN:(pre++x::post).length=pre.length+1+post.length:=by simp;omega
 refine⟨u,m,c1++([.string x.kind,.string x.name,lv]++c4),F1++((FD++[])++F4),dE _ _ _ h1,by rw[iN];exact h2, ?_, ?_,fun b hb=> ?_,h8⟩
 ·have:=p8 h1 h3 [.string x.kind,.string x.name,lv] (by rw[h4];rfl) (by simp only[List.length_append];omega);rw[jU]at this;exact this
 ·have hx:Rep W false ar (FD++[]) (blD x) [.string x.kind,.string x.name,lv]:=bB x.kind x.name rD;have e:bP (pre++x::post).length ar=bP pre.length ar++(ar++bP post.length ar):=by
   have hk:pre.length<(pre++x::post).length:=by simp
   rw[eG hk];congr 3;rw[iN];omega
  have e2:(pre++x::post).flatMap blD=pre.flatMap blD++(blD x++post.flatMap blD):=by rw[List.flatMap_append,List.flatMap_cons]
  rw[e,e2];exact(r1.app (hx.app r4)).aY hm fun b hb e=>by
   have e:b=p:=e;simp only[List.mem_append,List.not_mem_nil,or_false]at hb;rcases hb with hb|hb|hb
   ·exact(h7 b (by simp[hb])).2.1 e
   ·exact(Eu b hb).2 e
   ·exact(h7 b (by simp[hb])).2.1 e
 ·simp only[List.mem_append,List.not_mem_nil,or_false]at hb;rcases hb with hb|hb|hb
  ·have:=h7 b (by simp[hb]);exact⟨this.1,this.2.1⟩
  ·exact Eu b hb
  ·have:=h7 b (by simp[hb]);exact⟨this.1,this.2.1⟩
theorem Cq {W:World} {F:List Nat} {l:List Pl.Bl} {v:Value} {lo k Q:Nat} (h:Rep W false aV F [aW l] [v]) (nd:F.Nodup) (eN:∀ b∈F,lo≤b∧b<Q) (hk:k<l.length):∃ p o c la lc Gk,v=.slice (some ⟨p,o,none⟩) l.length c∧(l.length≤maxLen∧l.length≤c)∧W.rangeAt p (o+k*3) [.string (l.getD k Pl.aG).kind,.string (l.getD k Pl.aG).name,.slice la (l.getD k Pl.aG).lines.length lc]∧Rep W false aJ Gk [aU (l.getD k Pl.aG).lines] [.slice la (l.getD k Pl.aG).lines.length lc]∧Gk.Nodup∧(∀ b∈Gk,lo≤b∧b≠p∧b<Q)∧i4 W p o lo (l.take k) (l.drop (k+1)) (fun b=>b∈Gk∨Q≤b)∧p<Q:=by
 rcases h.slice with⟨_,h0,_⟩|⟨p,o,c,u,m,G,hv,hF,hn,ho,hm,_,vs,hr,hR⟩
 ·omega
 subst hF;rw[List.nodup_cons]at nd;obtain⟨ndp,nd⟩:=nd;have pd:vs.length=l.length*3:=by rw[hR.len,bq];rfl
 rw[eG hk]at hR;obtain⟨F1,F2,d1,d2,c1,c2,hF,hd,bd,r1,r2⟩:=Rep.cut _ hR;obtain⟨F3,F4,d3,d4,c3,c4,eM,Gh,kj,r3,r4⟩:=Rep.cut _ r2;subst hF;subst bd;subst eM;subst kj;subst Gh;have jU:c1.length=k*3:=by rw[r1.len,bq];rfl
 have Jz:c3.length=3:=by rw[r3.len];rfl
 have BH:d1.length=k*3:=by rw[r1.raw.typ.len,bq];rfl
 have qK:d3.length=3:=by rw[r3.raw.typ.len];rfl
 have J8:l=l.take k++(l.getD k Pl.aG::l.drop (k+1)):=by
  have e:l.getD k Pl.aG=l[k]:=by simp[hk]
  rw[e,← List.drop_eq_getElem_cons hk,List.take_append_drop]
 have ht:((l.take k).flatMap blD).length=k*3:=by rw[fO blD 3 iy,List.length_take,Nat.min_eq_left (by omega)]
 have hs:l.flatMap blD=(l.take k).flatMap blD++(blD (l.getD k Pl.aG)++(l.drop (k+1)).flatMap blD):=by
  conv=>lhs;rw[J8]
  rw[List.flatMap_append,List.flatMap_cons]
 obtain⟨g1,g2⟩:=List.append_inj (hd.symm.trans hs) (by rw[BH,ht]);obtain⟨g3,g4⟩:=List.append_inj g2 (by rw[qK];rfl);subst g1;subst g3;subst g4;obtain⟨Gk,v2,hG,hc,rk⟩:=dZ r3;subst hc;obtain⟨la,lc,fK⟩:=rk.raw.aP;subst fK;have hG3:F3=Gk:=by rw[hG,List.append_nil]
 subst hG3;rw[List.nodup_append]at nd;obtain⟨n1,n2,n3⟩:=nd;rw[List.nodup_append]at n2;obtain⟨n4,n5,n6⟩:=n2;have oE:(l.take k).length=k:=by rw[List.length_take];omega
 have hld:(l.drop (k+1)).length=l.length - (k+1):=List.length_drop;refine⟨p,o,c,la,lc,F3,hv,⟨hn.1,hn.2.1⟩, ?_,rk,n4,fun b hb=>⟨(eN b (by simp[hb])).1,fun e=>ndp (by rw[← e];simp[hb]),(eN b (by simp[hb])).2⟩,⟨u,m,c1,_,c4,F1,F4,ho,by rw[oE,hld];have q2:o+l.length*3≤m:=hm;omega,hr,Jz,by rw[oE];exact r1,by rw[hld];exact r4,fun b hb=> ?_,(eN p (by simp)).1, ?_⟩,(eN p (by simp)).2⟩
 ·have:=(dB (dB hr).2).1;rw[jU]at this;exact this
 ·rcases List.mem_append.1 hb with q|q
  ·exact⟨(eN b (by simp[q])).1,fun e=>ndp (by rw[← e];simp[q]),fun eV=>by rcases eV with eV|eV;exact n3 b q b (by simp[eV]) rfl;have:=(eN b (by simp[q])).2;omega⟩
  ·exact⟨(eN b (by simp[q])).1,fun e=>ndp (by rw[← e];simp[q]),fun eV=>by rcases eV with eV|eV;exact n6 b eV b q rfl;have:=(eN b (by simp[q])).2;omega⟩
 ·rintro(hb|hb)
  ·exact ndp (by simp[hb])
  ·have:=(eN p (by simp)).2;omega
theorem IE:∀ (n:Nat) (es:List Dt),Typ (bP n au) es→∃ l:List Pl.Ln,es=l.flatMap lnD∧l.length=n
 |0,es,h=>by rw[dj]at h;exact⟨[],h.c_n,rfl⟩
 |n+1,es,h=>by
  rw[cR]at h;obtain⟨d1,d2,rfl,h1,h2⟩:=Typ.cut au h;obtain⟨l,rfl,hl⟩:=IE n d2 h2;obtain⟨k,m,e,rfl,ht⟩:=p7 h1;obtain⟨ws,rfl,hw⟩:=Ed m e ht;subst hw;exact⟨⟨k,ws⟩::l,rfl,by rw[List.length_cons,hl]⟩
theorem IU:∀ (n:Nat) (es:List Dt),Typ (bP n ar) es→∃ l:List Pl.Bl,es=l.flatMap blD∧l.length=n
 |0,es,h=>by rw[dj]at h;exact⟨[],h.c_n,rfl⟩
 |n+1,es,h=>by
  rw[cR]at h;obtain⟨d1,d2,rfl,h1,h2⟩:=Typ.cut ar h;obtain⟨l,rfl,hl⟩:=IU n d2 h2;obtain⟨k,nm,m,e,rfl,ht⟩:=oM h1;obtain⟨ls,rfl,hw⟩:=IE m e ht;subst hw;exact⟨⟨k,nm,ls⟩::l,rfl,by rw[List.length_cons,hl]⟩
theorem FO (ds:List Dt) (h:Typ bX ds):∃ s:List Pl.Bl,ds=[aW s]:=by
 obtain⟨n,e,rfl,ht⟩:=yF h;obtain⟨s,rfl,hs⟩:=IU n e ht;subst hs;exact⟨s,rfl⟩
theorem Cp (a b:List Pl.Bl):Pl.wsh (a++b)=Pl.wsh a+Pl.wsh b:=by
 unfold Pl.wsh;rw[List.map_append,List.sum_append]
theorem iS (x:Pl.Bl) (s:List Pl.Bl):Pl.wsh (x::s)=Pl.wbl x+1+Pl.wsh s:=by
 unfold Pl.wsh;rw[List.map_cons,List.sum_cons]
theorem sr (s:List Pl.Bl) (x:Pl.Bl):Pl.wsh (s++[x])=Pl.wsh s+(Pl.wbl x+1):=by
 rw[Cp,iS];simp[Pl.wsh]
theorem mI:∀ (s:List Pl.Bl) (k:Nat) (x:Pl.Bl),Pl.wsh (s.set k x)≤Pl.wsh s+(Pl.wbl x+1)
 |[],k,x=>by simp[Pl.wsh]
 |y::s,0,x=>by rw[List.set_cons_zero,iS,iS];omega
 |y::s,k+1,x=>by
  have:=mI s k x;rw[List.set_cons_succ,iS,iS];omega
def cE:List Dt→Nat
 |[]=>0
 |.row _ es::ds=>cE es+cE ds
 |.i _::ds=>cE ds
 |.b _::ds=>cE ds
 |.s _::ds=>cE ds+1
theorem g5:∀ (a b:List Dt),cE (a++b)=cE a+cE b
 |[],b=>by simp[cE]
 |.row n e::a,b=>by have:=g5 a b;rw[List.cons_append,cE,cE];omega
 |.i n::a,b=>by have:=g5 a b;rw[List.cons_append,cE,cE];omega
 |.b n::a,b=>by have:=g5 a b;rw[List.cons_append,cE,cE];omega
 |.s n::a,b=>by have:=g5 a b;rw[List.cons_append,cE,cE];omega
theorem PkD.wt {t:ByteArray} {x y:List Dt} (h:PkD t x y):wtL y≤wtL x+cE x*t.size:=by
 induction h with
 |nil=>exact Nat.le_add_right _ _
 |same a h ih=>
  cases a with
  |i n=>rw[wtL,wtL,cE];exact ih
  |b n=>rw[wtL,wtL,cE];exact ih
  |s n=>rw[wtL,wtL,cE,Nat.succ_mul];omega
  |row n e=>rw[wtL,wtL,cE,Nat.add_mul];omega
 |put a h ih=>rw[wtL,wtL,cE,Nat.succ_mul];omega
 |row n he h ih1 ih2=>rw[wtL,wtL,cE,Nat.add_mul];omega
theorem vh:∀ ws:List ByteArray,cE (txD ws)=ws.length
 |[]=>by simp[txD,cE]
 |x::ws=>by
  have:=vh ws;unfold txD at this ⊢;rw[List.map_cons,cE,List.length_cons,this]
theorem sV:∀ l:List Pl.Ln,(∀ x∈l,LnB x)→cE (l.flatMap lnD)≤l.length*4
 |[],_=>by simp[cE]
 |x::l,h=>by
  have h1:=sV l fun y hy=>h y (by simp[hy]);have h2:=(h x (by simp)).2.1;have h3:=vh x.ws;rw[List.flatMap_cons,g5,List.length_cons,Nat.succ_mul];have:cE (lnD x)=1+x.ws.length:=by unfold lnD;rw[cE,cE,cE,h3];omega
  omega
theorem rJ:∀ s:List Pl.Bl,(∀ b∈s,∀ x∈b.lines,LnB x)→cE (s.flatMap blD)≤s.length*2+tl s*4
 |[],_=>by simp[cE]
 |b::s,h=>by
  have h1:=rJ s fun c hc=>h c (by simp[hc]);have h2:=sV b.lines (h b (by simp));have h4:tl (b::s)=b.lines.length+tl s:=by simp[tl]
  rw[List.flatMap_cons,g5,List.length_cons,h4,Nat.succ_mul,Nat.add_mul];have:cE (blD b)=2+cE (b.lines.flatMap lnD):=by unfold blD aU;rw[cE,cE,cE,cE];omega
  omega
theorem SdB.cE {s:List Pl.Bl} (h:SdB 66 40 s):cE [aW s]≤292:=by
 have h1:=rJ s fun b hb=>(h.all b hb).2.2;have h2:=h.len;have h3:=h.tot;have:Go.Proofs.Ytmgibmmpopoboaa.cE [aW s]=Go.Proofs.Ytmgibmmpopoboaa.cE (s.flatMap blD):=by unfold aW;rw[Go.Proofs.Ytmgibmmpopoboaa.cE,Go.Proofs.Ytmgibmmpopoboaa.cE];omega
 omega
theorem PkD.Cr {t:ByteArray} {n n':Nat} {e e':List Dt} (h:PkD t [.row n e] [.row n' e']):n'=n:=by
 have q:∀ x y,PkD t x y→x=[.row n e]→y=[.row n' e']→n'=n:=by
  intro x y h;cases h with
  |nil=>intro h1;cases h1
  |same a h=>intro h1 h2;injection h1 with h3 _;injection h2 with h4 _;rw[h3]at h4;injection h4 with h5 _;exact h5.symm
  |put a h=>intro h1;injection h1 with h3 _;cases h3
  |row m he h=>intro h1 h2;injection h1 with h3 _;injection h2 with h4 _;injection h3 with h5 _;injection h4 with h6 _;omega
 exact q _ _ h rfl rfl
theorem As {W:World} {F:List Nat} {t:ByteArray} {s:List Pl.Bl} {ds:List Dt} {v:Value} (h:Rep W false aV F ds [v]) (hp:PkD t [aW s] ds):∃ s',ds=[aW s']∧s'.length=s.length∧Pl.wsh s'≤Pl.wsh s+cE [aW s]*t.size:=by
 obtain⟨s',rfl⟩:=FO ds h.raw.typ;refine⟨s',rfl, ?_, ?_⟩
 ·unfold aW at hp;exact hp.Cr
 ·have:=hp.wt;rw[gU,gU]at this;exact this
set_option maxHeartbeats 40000000
set_option maxRecDepth 8000
noncomputable def sfst:Code→Code
 |.seq a _=>a
 |c=>c
noncomputable def ssnd:Code→Code
 |.seq _ b=>b
 |c=>c
theorem sfst_seq (a b:Code):sfst (.seq a b)=a:=rfl
theorem ssnd_seq (a b:Code):ssnd (.seq a b)=b:=rfl
noncomputable def sk0:Code:=(Try.f43.body).getD .skip
noncomputable def sk1:Code:=ssnd sk0
noncomputable def sk2:Code:=ssnd sk1
noncomputable def sk3:Code:=ssnd sk2
noncomputable def sk4:Code:=ssnd sk3
noncomputable def sk5:Code:=ssnd sk4
noncomputable def sk6:Code:=ssnd sk5
noncomputable def sk7:Code:=ssnd sk6
noncomputable def sw:Code:=ssnd (sfst sk6)
theorem IJ:sk0=.seq (sfst sk0) (.seq (sfst sk1) (.seq (sfst sk2) (.seq (sfst sk3) (.seq (sfst sk4) (.seq (sfst sk5) sk6))))):=by kernel_rfl
theorem IK:sk6=.seq (.seq (sfst (sfst sk6)) sw) sk7:=by kernel_rfl
theorem IF:sk7=.seq (sfst sk7) (ssnd sk7):=by kernel_rfl
def Fw (R:Nat) (v:Value) (len p:Nat) (W0:World):Ending→World→Prop:=fun e W'=>(∃ s' Ik,e=.returned (.agg #[Ik])∧fq W' W0.heap.size s' Ik∧Sw s')∧Fr R W0 W'∧∃ q,q≤p+1000000∧Rd W' R v len q
def SpQ (R:Nat) (v:Value) (len p:Nat) (W0:World):Exit→Act→World→Prop:=bodyPost Try.prog Try.f43 (Fw R v len p W0)
structure SP (W0 X:World) (R B0 Q BX lo:Nat) (xv:Value) (bk bn:ByteArray) (lv:Value):Prop where
 fr:Fr R W0 X
 res:aK X B0 25 [.slice none 0 0]
 box:aK X Q 25 [xv]
 bbx:aK X BX 32 [.string bk,.string bn,lv]
 ord:R<W0.heap.size∧W0.heap.size<B0∧B0<lo∧lo≤Q∧Q<BX∧BX<X.heap.size
theorem SP.step {W0 X X':World} {R B0 Q BX lo:Nat} {xv lv:Value} {bk bn:ByteArray} (h:SP W0 X R B0 Q BX lo xv bk bn lv) (hF:Fr R X X'):SP W0 X' R B0 Q BX lo xv bk bn lv:=by
 have ho:=h.ord;exact⟨h.fr.trans hF,h.res.fr hF (by omega),h.box.fr hF (by omega),h.bbx.fr hF (by omega),by have:=hF.bel.size;omega⟩
theorem SP.ae {W0 X X':World} {R B0 Q BX lo:Nat} {xv lv:Value} {bk bn:ByteArray} (h:SP W0 X R B0 Q BX lo xv bk bn lv) (hb:Bel X X'):SP W0 X' R B0 Q BX lo xv bk bn lv:=by
 have ho:=h.ord;exact⟨h.fr.trans (Fr.bh hb (by omega)),h.res.ae hb,h.box.ae hb,h.bbx.ae hb,by have:=hb.size;omega⟩
theorem SP.mks {W0 X X':World} {R B0 Q BX lo:Nat} {xv lv:Value} {bk bn:ByteArray} {T:Nat→Prop} (h:SP W0 X R B0 Q BX lo xv bk bn lv) (hm:Marks T X X') (hT:∀ b,T b→lo≤b∧b≠Q∧b≠BX):SP W0 X' R B0 Q BX lo xv bk bn lv:=by
 have ho:=h.ord;exact⟨h.fr.mks hm (fun b e=>by have:=hT b e;omega) ho.1,h.res.mks hm (fun e=>by have:=hT _ e;omega),h.box.mks hm (fun e=>(hT _ e).2.1 rfl),h.bbx.mks hm (fun e=>(hT _ e).2.2 rfl),by have:=hm.size;omega⟩
theorem SP.grow {W0 X X':World} {R B0 Q BX lo:Nat} {xv lv:Value} {bk bn:ByteArray} {row:Option Nat} (h:SP W0 X R B0 Q BX lo xv bk bn lv) (hg:X.grownBy X' row) (hT:∀ b,row=some b→lo≤b∧b≠Q∧b≠BX):SP W0 X' R B0 Q BX lo xv bk bn lv:=by
 have ho:=h.ord;exact⟨h.fr.grown hg (fun b e=>by have:=hT b e;omega) ho.1,h.res.grow hg (fun e=>by have:=hT _ e;omega),h.box.grow hg (fun e=>(hT _ e).2.1 rfl),h.bbx.grow hg (fun e=>(hT _ e).2.2 rfl),by have:=hg.size;omega⟩
theorem SP.Lj {W0 X:World} {R B0 Q BX lo:Nat} {xv lv lv':Value} {bk bn bk' bn':ByteArray} (h:SP W0 X R B0 Q BX lo xv bk bn lv):SP W0 (X.setCells BX 0 [.string bk',.string bn',lv']) R B0 Q BX lo xv bk' bn' lv':=by
 have ho:=h.ord;have m:Marks (fun b=>b=BX) X (X.setCells BX 0 [.string bk',.string bn',lv']):=aN (S:=fun b=>b=BX) rfl _ _ _;have t:X.there BX 0 [.string bk',.string bn',lv'].length:=aR h.bbx.own _ _ (by simp);exact⟨h.fr.mks m (fun b e=>by have:b=BX:=e;omega) ho.1,h.res.mks m (by omega),h.box.mks m (by omega),⟨dE _ _ _ h.bbx.own,World.rangeAt_setCells_same _ _ _ _ t⟩,by have:=m.size;omega⟩
theorem SP.CS {W0 X X':World} {R B0 Q BX lo:Nat} {xv lv lv':Value} {bk bn bk' bn':ByteArray} (h:SP W0 X R B0 Q BX lo xv bk bn lv) (m:Marks (fun b=>b=BX) X X') (hb:aK X' BX 32 [.string bk',.string bn',lv']):SP W0 X' R B0 Q BX lo xv bk' bn' lv':=by
 have ho:=h.ord;exact⟨h.fr.mks m (fun b e=>by have:b=BX:=e;omega) ho.1,h.res.mks m (by omega),h.box.mks m (by omega),hb,by have:=m.size;omega⟩
theorem dA (W0 W:World) (R:Nat) (v:Value) (len p q B0 Q BX lo xp xo xc k n:Nat) (s':List Pl.Bl) (bk bn:ByteArray) (la:Option Addr) (ll lc:Nat) (HP:Hid (SP W0 W R B0 Q BX lo (.slice (some ⟨xp,xo,none⟩) n xc) bk bn (.slice la ll lc))) (HX:Hid (cv (W.setCells xp (xo+k*3) [.string bk,.string bn,.slice la ll lc]) xp xo lo s'∧Sw s')) (HN:Hid (s'.length=n∧(n≤maxLen∧n≤xc)∧k<n∧xp≠Q∧xp≠BX∧lo≤xp∧W.there xp (xo+k*3) 3)) (HR:Hid (Rd W R v len q∧q≤p+1000000)) (u1 u2 u3 u8 u9 u10 u11 u12 u13 u14 u15 u16 u17 u18 u19 u20 u21 u22 u23 u24 u25 u26 u27 u28 u29 u30 u31 u32 u33 u34 u35 u36 u37 u38 u39 u40 u41 u42 u43 u44 u45 u46 u47 u48 u49 u50 u51 u52 u53 u54 u55 u56 u57 u58 u59 u60 u61 u62 u63 u64 u65 u66 u67 u68 u69 u70 u71 u72 u73 u74 u75 u76 u77 u78 u79 u80 u81 u82 u83 u84 u85 u86 u87 u88 u89 u90 u91 u92 u93 u94 u95 u96 u97 u98 u99 u100 u101 u102 u103 u104 u105 u106 u107 u108 u109 u110 u111 u112 u113 u114 u115 u116 u117 u118 u119 u120 u121 u122 u123 u124 u125 u126 u127 u128 u129 u130 u131 u132 u133 u134 u135 u136 u137 u138 u139 u140 u141 u142 u143 u144 u145 u146 u147 u148 u149 u150 u151 u152 u153 u154 u155 u156 u157 u158 u159 u160 u161 u162 u163 u164 u165 u166 u167 u168 u169 u170 u171 u172 u173 u174 u175 u176 u177 u178 u179 u180 u181 u182 u183 u184 u185 u186 u187 u188 u189 u190 u191 u192 u193 u194 u195 u196 u197 u198:Value):
  Code.wp Try.prog sk7 (SpQ R v len p W0) {tmps:=#[.pointer (some ⟨R,0,none⟩),u1,u2,u3,.pointer (some ⟨B0,0,none⟩),.pointer (some ⟨Q,0,none⟩),.int .i64 (k:Int),.pointer (some ⟨BX,0,none⟩),u8,u9,u10,u11,u12,u13,u14,u15,u16,u17,u18,u19,u20,u21,u22,u23,u24,u25,u26,u27,u28,u29,u30,u31,u32,u33,u34,u35,u36,u37,u38,u39,u40,u41,u42,u43,u44,u45,u46,u47,u48,u49,u50,u51,u52,u53,u54,u55,u56,u57,u58,u59,u60,u61,u62,u63,u64,u65,u66,u67,u68,u69,u70,u71,u72,u73,u74,u75,u76,u77,u78,u79,u80,u81,u82,u83,u84,u85,u86,u87,u88,u89,u90,u91,u92,u93,u94,u95,u96,u97,u98,u99,u100,u101,u102,u103,u104,u105,u106,u107,u108,u109,u110,u111,u112,u113,u114,u115,u116,u117,u118,u119,u120,u121,u122,u123,u124,u125,u126,u127,u128,u129,u130,u131,u132,u133,u134,u135,u136,u137,u138,u139,u140,u141,u142,u143,u144,u145,u146,u147,u148,u149,u150,u151,u152,u153,u154,u155,u156,u157,u158,u159,u160,u161,u162,u163,u164,u165,u166,u167,u168,u169,u170,u171,u172,u173,u174,u175,u176,u177,u178,u179,u180,u181,u182,u183,u184,u185,u186,u187,u188,u189,u190,u191,u192,u193,u194,u195,u196,u197,u198],defers:=[]} W:=by
 unfold SpQ;rw[IF];simp only[sk7,sk6,sk5,sk4,sk3,sk2,sk1,sk0,Try.f43,Option.getD_some,sfst_seq,ssnd_seq];have jH:=HP.out.box.at_;have lf:=HP.out.box.own.lt;have x0:=HP.out.box.get 0 _ rfl;have gh:=HP.out.bbx.at_;have gM:=HP.out.bbx.own.lt;have de:(k:Int)<(n:Int):=by have:=HN.out.2.2.1;omega
 have dd:(0:Int)≤(k:Int):=by omega
 have bG:W.there xp (xo+k*3) (#[.string bk,.string bn,.slice la ll lc]:Array Value).size:=HN.out.2.2.2.2.2.2;go_upto_region 40 with(first|(refine wpList_load_mid rfl 32 _ rfl BX 0 rfl [.string bk,.string bn,.slice la ll lc] _ gh Try.underlying32 rfl (by kernel_rfl) ?_)|(refine wpList_store_mid rfl 32 _ _ rfl xp (xo+k*3) #[.string bk,.string bn,.slice la ll lc] rfl rfl bG (by kernel_rfl) (by simp[Value.oneCell']) ?_))
 obtain⟨W2,pV⟩:∃ W2,W2=W.setCells xp (xo+k*3) [.string bk,.string bn,.slice la ll lc]:=⟨_,rfl⟩
 have mS:Marks (fun b=>b=xp) W W2:=by rw[pV];exact aN (S:=fun b=>b=xp) rfl _ _ _
 have mq:=HN.out;have gO:=uh (HP.out.mks mS (fun b e=>by have:b=xp:=e;subst this;exact⟨mq.2.2.2.2.2.1,mq.2.2.2.1,mq.2.2.2.2.1⟩));have qV:=HP.out.ord;have eO:=uh (HR.out.1.mks mS (fun b e=>by have:b=xp:=e;have:=mq.2.2.2.2.2.1;omega));have pS:Hid (cv W2 xp xo lo s'):=by show cv _ _ _ _ _;rw[pV];exact HX.out.1
 first|rw[← pV]|(simp only[List.toList_toArray];rw[← pV])
 clear pV mS jH lf x0 gh gM de dd bG;have jH:=gO.out.box.at_;have lf:=gO.out.box.own.lt;have bG:W2.there B0 0 (#[.slice (some ⟨xp,xo,none⟩) n xc]:Array Value).size:=aR gO.out.res.own _ _ (by simp);go_wp2_with (first|(refine wpList_load_mid rfl 25 _ rfl Q 0 rfl [.slice (some ⟨xp,xo,none⟩) n xc] _ jH Try.underlying25 rfl (by kernel_rfl) ?_)|(refine wpList_store_mid rfl 25 _ _ rfl B0 0 #[.slice (some ⟨xp,xo,none⟩) n xc] rfl rfl bG (by kernel_rfl) (by simp[Value.oneCell']) ?_))
 obtain⟨we,bj⟩:∃ we,we=W2.setCells B0 0 [.slice (some ⟨xp,xo,none⟩) n xc]:=⟨_,rfl⟩
 have dv:we.rangeAt B0 0 [.slice (some ⟨xp,xo,none⟩) n xc]:=by rw[bj];exact World.rangeAt_setCells_same _ _ _ _ bG
 have hm:Marks (fun b=>b=B0) W2 we:=by rw[bj];exact aN (S:=fun b=>b=B0) rfl _ _ _
 have HE:Hid (cv we xp xo lo s'∧Fr R W0 we∧Rd we R v len q):=⟨pS.out.aY hm (fun b e=>by have:b=B0:=e;omega),gO.out.fr.mks hm (fun b e=>by have:b=B0:=e;omega) qV.1,eO.out.mks hm (fun b e=>by have:b=B0:=e;omega)⟩
 first|rw[← bj]|(simp only[List.toList_toArray];rw[← bj])
 try simp only[Act.put]
 refine bodyPost_ret (v:=.agg #[.slice (some ⟨xp,xo,none⟩) n xc]) (by simp[results,asAddr,run_loadVar_mid (P:=Try.prog) _ _ _ 25 [.slice (some ⟨xp,xo,none⟩) n xc] _ dv Try.underlying25 rfl (by kernel_rfl)]) rfl ?_;refine⟨⟨s',_,rfl,Or.inr ⟨xp,xo,xc,by rw[mq.1],by rw[mq.1];exact mq.2.1,HE.out.1.lower (by omega)⟩,HX.out.2⟩,HE.out.2.1,q,HR.out.2,HE.out.2.2⟩
theorem pg {s:List Pl.Bl} {k:Nat} (h:k<s.length):s.getD k Pl.aG∈s:=by
 have e:s.getD k Pl.aG=s[k]:=by simp[h]
 rw[e];exact List.getElem_mem _
theorem zT {W:World} {p lo:Nat} {a b:ByteArray} (h:aK W p 32 [.string a,.string b,.slice none 0 0]) (hl:lo≤p):cv W p 0 lo [⟨a,b,[]⟩]:=by
 have hx:Rep W false ar ([]++[]) (blD ⟨a,b,[]⟩) [.string a,.string b,.slice none 0 0]:=bB a b (Rep.emp _ _ none rfl .nil);refine⟨32,3,_,[],h.own,by simp,h.at_, ?_,by simp,hl⟩;have e:bP [(⟨a,b,[]⟩:Pl.Bl)].length ar=ar++[]:=rfl;have e2:[(⟨a,b,[]⟩:Pl.Bl)].flatMap blD=blD ⟨a,b,[]⟩:=by simp
 rw[e,e2,List.append_nil];simpa using hx
structure SX (W:World) (lo Q BX xp xo xc:Nat) (s:List Pl.Bl) (k:Nat) (b:Pl.Bl) (la:Option Addr) (lc:Nat):Prop where
 is:s.getD k Pl.aG=b
 rep:∃ F,Rep W false aV F [aW s] [.slice (some ⟨xp,xo,none⟩) s.length xc]∧F.Nodup∧∀ b∈F,lo≤b∧b<Q
 cells:W.rangeAt xp (xo+k*3) [.string b.kind,.string b.name,.slice la b.lines.length lc]
 hole:∃ Gk,Rep W false aJ Gk [aU b.lines] [.slice la b.lines.length lc]∧Gk.Nodup∧(∀ b∈Gk,lo≤b∧b≠xp∧b<Q)∧i4 W xp xo lo (s.take k) (s.drop (k+1)) (fun b=>b∈Gk∨Q≤b)
 lt:lo≤xp∧xp<Q∧Q<BX∧Q<W.heap.size
theorem SX.aY {W W':World} {T:Nat→Prop} {lo Q BX xp xo xc:Nat} {s:List Pl.Bl} {k:Nat} {b:Pl.Bl} {la:Option Addr} {lc:Nat} (h:SX W lo Q BX xp xo xc s k b la lc) (hm:Marks T W W') (hT:∀ b,T b→b<lo∨Q≤b):SX W' lo Q BX xp xo xc s k b la lc:=by
 obtain⟨hi,⟨F,r,nd,hF⟩,hc,⟨Gk,rk,nk,hG,hh⟩,hl⟩:=h;have hn:∀ b,lo≤b∧b<Q→¬ T b:=fun b hb e=>by have:=hT b e;omega
 exact⟨hi,⟨F,r.aY hm fun b hb=>hn b (hF b hb),nd,hF⟩,cM hc fun j _=>hm.cell (by omega) (hn xp ⟨hl.1,hl.2.1⟩) _,⟨Gk,rk.aY hm fun b hb=>hn b ⟨(hG b hb).1,(hG b hb).2.2⟩,nk,hG,hh.aY hm fun b e=>by rcases hT b e with q|q;exact Or.inr q;exact Or.inl (Or.inr q)⟩,hl.1,hl.2.1,hl.2.2.1,by have:=hm.size;omega⟩
theorem SX.ae {W W':World} {lo Q BX xp xo xc:Nat} {s:List Pl.Bl} {k:Nat} {b:Pl.Bl} {la:Option Addr} {lc:Nat} (h:SX W lo Q BX xp xo xc s k b la lc) (hb:Bel W W'):SX W' lo Q BX xp xo xc s k b la lc:=h.aY (Marks.bh (fun _=>False) hb) (fun _ e=>e.elim)
theorem SX.step {W X:World} {R lo Q BX xp xo xc:Nat} {s:List Pl.Bl} {k:Nat} {b:Pl.Bl} {la:Option Addr} {lc:Nat} {v v':Value} {n n' p p':Nat} (h:SX W lo Q BX xp xo xc s k b la lc) (hF:Fr R W X) (h1:Rd W R v n p) (h2:Rd X R v' n' p') (hR:R<lo):SX X lo Q BX xp xo xc s k b la lc:=h.aY (hF.eJ h1 h2) fun b e=>by have:b=R:=e;omega
theorem SX.row {W:World} {lo Q BX xp xo xc:Nat} {s:List Pl.Bl} {k:Nat} {b:Pl.Bl} {la:Option Addr} {lc:Nat} (h:SX W lo Q BX xp xo xc s k b la lc) (hk:k<s.length):cv W xp xo lo s:=by
 obtain⟨F,r,nd,hF⟩:=h.rep;obtain⟨p,o,c,e,_,hx⟩:=kI r nd (fun b hb=>(hF b hb).1) (by omega);injection e with e _ _
 injection e with e
 injection e with e1 e2 _
 subst e1;subst e2;exact hx
theorem SX.lines {W:World} {lo Q BX xp xo xc:Nat} {s:List Pl.Bl} {k:Nat} {b:Pl.Bl} {la:Option Addr} {lc:Nat} (h:SX W lo Q BX xp xo xc s k b la lc) {N:Nat} (hN:W.heap.size≤N):Dat (fun b=>lo≤b∧b≠xp) N N W aJ [aU b.lines] [.slice la b.lines.length lc]:=by
 obtain⟨Gk,rk,nk,hG,hh⟩:=h.hole;exact⟨Gk,rk,fun b hb=>Or.inl ⟨⟨(hG b hb).1,(hG b hb).2.1⟩,by have:=rk.lt b hb;omega⟩⟩
def gH (j:Nat):Prop:=∀ (W0 W:World) (b:Pl.Bl) (R:Nat) (v:Value) (len p q B0 Q BX lo xp xo xc k n:Nat) (s:List Pl.Bl) (la:Option Addr) (lc:Nat) (_:Hid (SP W0 W R B0 Q BX lo (.slice (some ⟨xp,xo,none⟩) s.length xc) b.kind b.name (.slice la b.lines.length lc))) (_:Hid (SX W lo Q BX xp xo xc s k b la lc)) (_:Hid (k<s.length∧(0<b.lines.length→n<b.lines.length)∧(s.length≤maxLen∧s.length≤xc))) (_:Hid (SdB 66 40 s)) (_:Hid (Rd W R v len q∧q≤p+10∧p≤300000000000)) (K:Act→World→Prop) (_:∀ a w,Code.wp Try.prog sk7 (SpQ R v len p W0) a w→K a w) (u1 u2 u3 u9 u10 u11 u12 u13 u14 u15 u16 u17 u18 u19 u20 u21 u22 u23 u24 u25 u26 u27 u28 u29 u30 u31 u32 u33 u34 u35 u36 u37 u39 u40 u41 u42 u43 u44 u45 u46 u47 u48 u49 u50 u51 u52 u53 u54 u55 u56 u57 u58 u59 u60 u61 u62 u63 u64 u65 u66 u67 u68 u69 u70 u71 u72 u73 u74 u75 u76 u77 u78 u79 u80 u81 u82 u83 u84 u85 u86 u87 u88 u89 u90 u91 u92 u93 u94 u95 u96 u97 u98 u99 u100 u101 u102 u103 u104 u105 u106 u107 u108 u109 u110 u111 u112 u113 u114 u115 u116 u117 u118 u119 u120 u121 u122 u123 u124 u125 u126 u127 u128 u129 u130 u131 u132 u133 u134 u135 u136 u137 u138 u139 u140 u141 u142 u143 u144 u145 u146 u147 u148 u149 u150 u151 u152 u153 u154 u155 u156 u157 u158 u159 u160 u161 u162 u163 u164 u165 u166 u167 u168 u169 u170 u171 u172 u173 u174 u175 u176 u177 u178 u179 u180 u181 u182 u183 u184 u185 u186 u187 u188 u189 u190 u191 u192 u193 u194 u195 u196 u197 u198:Value),Code.wp Try.prog sw (Exit.then K (SpQ R v len p W0)) {tmps:=#[.pointer (some ⟨R,0,none⟩),u1,u2,u3,.pointer (some ⟨B0,0,none⟩),.pointer (some ⟨Q,0,none⟩),.int .i64 (k:Int),.pointer (some ⟨BX,0,none⟩),.int .i64 (n:Int),u9,u10,u11,u12,u13,u14,u15,u16,u17,u18,u19,u20,u21,u22,u23,u24,u25,u26,u27,u28,u29,u30,u31,u32,u33,u34,u35,u36,u37,.int .i64 (j:Int),u39,u40,u41,u42,u43,u44,u45,u46,u47,u48,u49,u50,u51,u52,u53,u54,u55,u56,u57,u58,u59,u60,u61,u62,u63,u64,u65,u66,u67,u68,u69,u70,u71,u72,u73,u74,u75,u76,u77,u78,u79,u80,u81,u82,u83,u84,u85,u86,u87,u88,u89,u90,u91,u92,u93,u94,u95,u96,u97,u98,u99,u100,u101,u102,u103,u104,u105,u106,u107,u108,u109,u110,u111,u112,u113,u114,u115,u116,u117,u118,u119,u120,u121,u122,u123,u124,u125,u126,u127,u128,u129,u130,u131,u132,u133,u134,u135,u136,u137,u138,u139,u140,u141,u142,u143,u144,u145,u146,u147,u148,u149,u150,u151,u152,u153,u154,u155,u156,u157,u158,u159,u160,u161,u162,u163,u164,u165,u166,u167,u168,u169,u170,u171,u172,u173,u174,u175,u176,u177,u178,u179,u180,u181,u182,u183,u184,u185,u186,u187,u188,u189,u190,u191,u192,u193,u194,u195,u196,u197,u198],defers:=[]} W
theorem Cz (hc:∀ j,j<9→gH j):iV Try.prog 43:=by
 intro R v len p W0 s sv h hp qz hB;obtain⟨sa,sc,D5⟩:=qz.aP;subst D5;have km:=uh h;have Iy:=uh qz;have HB:=uh hB;have HC:=uh hc;have BT:=uh hp;clear h qz hB hc hp;obtain⟨wa,aS⟩:∃ wa,wa=(W0.alloc (.cells #[.slice sa s.length sc] 25)).alloc (.cells #[.slice none 0 0] 25):=⟨_,rfl⟩
 obtain⟨SB,Lc⟩:∃ SB,SB=W0.heap.size:=⟨_,rfl⟩
 obtain⟨B0,tw⟩:∃ B0,B0=W0.heap.size+1:=⟨_,rfl⟩
 have gh:Bel W0 wa:=by rw[aS];exact ah (ah zR _) _
 have Kf:wa.heap.size=W0.heap.size+2:=by rw[aS];simp
 have oZ:Hid (aK wa SB 25 [.slice sa s.length sc]):=by show aK _ _ _ _;rw[aS,Lc];exact(aK.new W0 [.slice sa s.length sc] 25 _ rfl).ae (ah zR _)
 have cu:Hid (aK wa B0 25 [.slice none 0 0]):=by show aK _ _ _ _;rw[aS,tw];exact aK.new (W0.alloc (.cells #[.slice sa s.length sc] 25)) [.slice none 0 0] 25 _ (by simp)
 have Ho:=uh (km.out.ae gh);have HSa:=uh (Iy.out.ae gh);have HFa:=uh (Fr.bh gh km.out.own.lt);have HZ:Hid (wa.heap.size=W0.heap.size+2∧B0=W0.heap.size+1∧SB=W0.heap.size∧R<W0.heap.size):=⟨Kf,tw,Lc,km.out.own.lt⟩
 have Iz:=uh (eH s (.slice sa s.length sc) wa HSa.out (by have:=HB.out.len;omega) (fun b hb=>⟨by have:=qd hb;have:=HB.out.tot;omega,fun x hx=>by have:=((HB.out.all b hb).2.2 x hx).2.1;omega⟩));clear gh km Iy Kf;go_enter Try.func43,Try.ntmps43
 show Code.wp Try.prog sk0 _ _ _;rw[IJ];simp only[sk5,sk4,sk3,sk2,sk1,sk0,Try.f43,Option.getD_some,sfst_seq,ssnd_seq];go_upto_region 1 with fail
 rw[← aS,← tw,← Lc];clear aS Lc tw;have Di:=oZ.out.at_;have AR:=oZ.out.own.lt;go_wp2_with (refine wpList_load_mid rfl 25 _ rfl SB 0 rfl [.slice sa s.length sc] _ Di Try.underlying25 rfl (by kernel_rfl) ?_)
 refine Iz.out.mono ?_;rintro e W1 ⟨c,F,rfl,hr,kY,eN,bZ⟩;obtain⟨F2,v2,eM,hc,r2⟩:=du hr;subst hc;obtain⟨ca,cm,fK⟩:=r2.raw.aP;subst fK;rw[List.append_nil]at eM;subst eM;clear hr;obtain⟨Q,hQ⟩:∃ Q,Q=W1.heap.size:=⟨_,rfl⟩
 obtain⟨W2,pV⟩:∃ W2,W2=W1.alloc (.cells #[.slice ca s.length cm] 25):=⟨_,rfl⟩
 have dP:Bel W1 W2:=by rw[pV];exact ah zR _
 have DX:Bel wa W2:=⟨by rw[dP.os,bZ.os],by rw[dP.tape,bZ.tape],by rw[dP.output,bZ.output],Nat.le_trans bZ.size dP.size,fun k hk=>by rw[dP.block k (by have:=bZ.size;omega),bZ.block k hk]⟩
 have B5:Hid (aK W2 Q 25 [.slice ca s.length cm]):=by show aK _ _ _ _;rw[pV,hQ];exact aK.new _ _ _ _ rfl
 have gQ:=uh (cu.out.ae DX);have eO:=uh (Ho.out.ae DX);have Bs:=uh (HFa.out.trans (Fr.bh DX Ho.out.own.lt));have BN:Hid (Rep W2 false aV F [aW s] [.slice ca s.length cm]∧F.Nodup∧∀ b∈F,W0.heap.size+2≤b∧b<Q):=⟨r2.ae dP,kY,fun b hb=>⟨by have:=eN b hb;have:=HZ.out;omega,by rw[hQ];exact r2.lt b hb⟩⟩
 have Iu:Hid (W2.heap.size=Q+1∧W0.heap.size+2≤Q∧B0=W0.heap.size+1∧R<W0.heap.size):=by
  refine⟨by rw[pV,hQ];simp,by have:=bZ.size;have:=HZ.out;omega,HZ.out.2.1,HZ.out.2.2.2⟩
 go_upto_region 2 with fail
 rw[← pV,← hQ];clear pV hQ bZ dP DX Di AR kY eN r2 Iz oZ cu Ho HSa HFa HZ;have x0:=B5.out.get 0 _ rfl;have xl:=B5.out.own.lt;have tm:=uh (bp R v len p (s.length:Int) W2 eO.out (by have:=BT.out;omega) (by have:=HB.out.len;omega));go_wp2_with fail
 refine tm.out.mono ?_;rintro e W3 ⟨⟨rm,rfl,ia⟩,iK,jb⟩;obtain⟨k,rfl,hk⟩:=ia.nat;have yA:=iK.eJ eO.out jb;have KK:Hid (Q<W3.heap.size∧W0.heap.size+2≤Q∧B0=W0.heap.size+1∧R<W0.heap.size):=⟨by have:=iK.bel.size;have:=Iu.out;omega,Iu.out.2⟩
 have yy:=uh (B5.out.fr iK (by have:=Iu.out;omega));have mg:=uh (gQ.out.fr iK (by have:=Iu.out;omega));have L8:=uh (Bs.out.trans iK);have B8:=uh jb;have vK:Hid (Rep W3 false aV F [aW s] [.slice ca s.length cm]∧F.Nodup∧∀ b∈F,W0.heap.size+2≤b∧b<Q):=⟨BN.out.1.aY yA (fun b hb e=>by have:b=R:=e;have:=BN.out.2.2 b hb;have:=Iu.out;omega),BN.out.2⟩
 clear x0 xl tm ia iK jb yA Iu B5 gQ Bs eO BN;have x0:=yy.out.get 0 _ rfl;have xl:=yy.out.own.lt;by_cases s5:s.length=0
 ·have JH:((s.length:Int)==0)=true:=by simp[s5]
  have qD:Bel W3 (W3.alloc (.cells #[.string {data:=#[]},.string {data:=#[]},.slice none 0 0] 32)):=ah zR _;have JI:Hid (aK (W3.alloc (.cells #[.string {data:=#[]},.string {data:=#[]},.slice none 0 0] 32)) W3.heap.size 32 [.string {data:=#[]},.string {data:=#[]},.slice none 0 0]):=aK.new _ _ _ _ rfl;have EL:=uh (mg.out.ae qD);have bG:(W3.alloc (.cells #[.string {data:=#[]},.string {data:=#[]},.slice none 0 0] 32)).there B0 0 (#[.slice (some ⟨W3.heap.size,0,none⟩) 1 1]:Array Value).size:=aR EL.out.own _ _ (by simp);go_wp2_with (refine wpList_store_mid rfl 25 _ _ rfl B0 0 #[.slice (some ⟨W3.heap.size,0,none⟩) 1 1] rfl rfl bG (by kernel_rfl) (by simp[Value.oneCell']) ?_)
  obtain⟨we,bj⟩:∃ we,we=(W3.alloc (.cells #[.string {data:=#[]},.string {data:=#[]},.slice none 0 0] 32)).setCells B0 0 [.slice (some ⟨W3.heap.size,0,none⟩) 1 1]:=⟨_,rfl⟩
  have dv:we.rangeAt B0 0 [.slice (some ⟨W3.heap.size,0,none⟩) 1 1]:=by rw[bj];exact World.rangeAt_setCells_same _ _ _ _ bG
  have hm:Marks (fun b=>b=B0) (W3.alloc (.cells #[.string {data:=#[]},.string {data:=#[]},.slice none 0 0] 32)) we:=by rw[bj];exact aN (S:=fun b=>b=B0) rfl _ _ _
  have hz:=KK.out;have HE:Hid (cv we W3.heap.size 0 W0.heap.size [⟨{data:=#[]},{data:=#[]},[]⟩]∧Fr R W0 we∧Rd we R v len (p+1)):=⟨zT (JI.out.mks hm (fun e=>by have:W3.heap.size=B0:=e;omega)) (by omega),(L8.out.trans (Fr.bh qD (by omega))).mks hm (fun b e=>by have:b=B0:=e;omega) hz.2.2.2,(B8.out.ae qD).mks hm (fun b e=>by have:b=B0:=e;omega)⟩
  first|rw[← bj]|(simp only[List.toList_toArray];rw[← bj])
  try simp only[Act.put]
  refine bodyPost_ret (v:=.agg #[.slice (some ⟨W3.heap.size,0,none⟩) 1 1]) (by simp[results,asAddr,run_loadVar_mid (P:=Try.prog) _ _ _ 25 [.slice (some ⟨W3.heap.size,0,none⟩) 1 1] _ dv Try.underlying25 rfl (by kernel_rfl)]) rfl ?_;exact⟨⟨[⟨{data:=#[]},{data:=#[]},[]⟩],_,rfl,Or.inr ⟨_,_,_,rfl,⟨by decide,by decide⟩,HE.out.1⟩,by decide,by decide⟩,HE.out.2.1,p+1,by omega,HE.out.2.2⟩
 have JH:((s.length:Int)==0)=false:=beq_eq_false_iff_ne.2 (by omega);have yz:k<s.length:=by have:=hk (by omega);omega
 obtain⟨xp,xo,xc,la,lc,Gk,hv,Lb,fZ,rk,nk,hG,hh,hpQ⟩:=Cq vK.out.1 vK.out.2.1 vK.out.2.2 yz;obtain⟨b,GV⟩:∃ b,s.getD k Pl.aG=b:=⟨_,rfl⟩
 rw[GV]at fZ rk;injection hv with jK _ oh
 subst jK;subst oh;have de:(k:Int)<(s.length:Int):=by omega
 have dd:(0:Int)≤(k:Int):=by omega
 have Lz:xp<W3.heap.size:=hh.lt;obtain⟨BX,AT⟩:∃ BX,BX=W3.heap.size:=⟨_,rfl⟩
 obtain⟨W4,oW⟩:∃ W4,W4=W3.alloc (.cells #[.string b.kind,.string b.name,.slice la b.lines.length lc] 32):=⟨_,rfl⟩
 have qD:Bel W3 W4:=by rw[oW];exact ah zR _
 have hz:=KK.out;have Je:W4.heap.size=W3.heap.size+1:=by rw[oW];simp
 have qU:Hid (SX W4 (W0.heap.size+2) Q BX xp xo cm s k b la lc):=by
  have hS:SX W3 (W0.heap.size+2) Q BX xp xo cm s k b la lc:=⟨GV,⟨F,vK.out⟩,fZ,⟨Gk,rk,nk,hG,hh⟩,hh.lo,hpQ,by omega,by omega⟩
  exact hS.ae qD
 have D4:Hid (SP W0 W4 R B0 Q BX (W0.heap.size+2) (.slice (some ⟨xp,xo,none⟩) s.length cm) b.kind b.name (.slice la b.lines.length lc)):=by
  refine⟨L8.out.trans (Fr.bh qD (by omega)),mg.out.ae qD,yy.out.ae qD, ?_,by have:=Je;omega⟩;rw[oW,AT];exact aK.new _ _ _ _ rfl
 have mv:=uh (B8.out.ae qD);clear hz;have K7:Hid (k<s.length∧(s.length≤maxLen∧s.length≤cm)):=⟨yz,Lb⟩
 go_upto_region 6 with(refine wpList_load_mid rfl 32 _ rfl xp (xo+k*3) rfl [.string b.kind,.string b.name,.slice la b.lines.length lc] _ fZ Try.underlying32 rfl (by kernel_rfl) ?_)
 rw[← oW,← AT];clear GV Je oW AT qD fZ rk nk hG hh hpQ de dd Lz x0 xl mg yy L8 B8 vK Lb;obtain⟨lo,eN⟩:∃ lo,lo=W0.heap.size+2:=⟨_,rfl⟩
 rw[← eN]at qU D4;have Ls:R<lo:=by have:=KK.out;omega
 have HZ4:Hid (R<lo):=Ls;clear eN KK JH hk s5;have b2:=D4.out.bbx.get 2 _ rfl;have bl:=D4.out.bbx.own.lt;have lb:Hid (b.lines.length≤40):=by
  have hm:b∈s:=by rw[← qU.out.is];exact pg K7.out.1
  have:=qd hm;have:=HB.out.tot;show _≤_;omega
 have tm:=uh (bp R v len (p+1) (b.lines.length:Int) W4 mv.out (by have:=BT.out;omega) (by have:=lb.out;omega));go_wp2_with fail
 refine tm.out.mono ?_;rintro e W5 ⟨⟨rm,rfl,ia⟩,IA,Hr⟩;obtain⟨n,rfl,hn⟩:=ia.nat;have HX5:=uh (qU.out.step IA mv.out Hr HZ4.out);have HP5:=uh (D4.out.step IA);have Bh:=uh Hr;have HN5:Hid (k<s.length∧(0<b.lines.length→n<b.lines.length)∧(s.length≤maxLen∧s.length≤cm)):=⟨K7.out.1,fun h0=>by have:=hn (by omega);omega,K7.out.2⟩
 clear K7 hn ia IA Hr tm b2 bl qU D4 mv;have tm:=uh (bp R v len (p+2) 9 W5 Bh.out (by have:=BT.out;omega) (by omega));go_wp2_with fail
 rw[IK];simp only[sk6,sk5,sk4,sk3,sk2,sk1,sk0,Try.f43,Option.getD_some,sfst_seq,ssnd_seq];go_wp2_with fail
 refine tm.out.mono ?_;rintro e W6 ⟨⟨rm,rfl,ia⟩,Mh,Mm⟩;obtain⟨j,rfl,hj⟩:=ia.nat;have hj9:j<9:=by have:=hj (by omega);omega
 have BA:=uh (HX5.out.step Mh Bh.out Mm HZ4.out);have HP6:=uh (HP5.out.step Mh);have BB:Hid (Rd W6 R v len (p+3)∧p+3≤p+10∧p≤300000000000):=⟨Mm,by omega,BT.out⟩
 clear ia Mh Mm tm HX5 HP5 Bh hj;go_wp2_with fail
 exact HC.out j hj9 W0 W6 b R v len p (p+3) B0 Q BX lo xp xo cm k n s la lc HP6 BA HN5 HB BB _ (by assumption) _ _ _ _ _ _ _ _ _ _ _ _ _ _ _ _ _ _ _ _ _ _ _ _ _ _ _ _ _ _ _ _ _ _ _ _ _ _ _ _ _ _ _ _ _ _ _ _ _ _ _ _ _ _ _ _ _ _ _ _ _ _ _ _ _ _ _ _ _ _ _ _ _ _ _ _ _ _ _ _ _ _ _ _ _ _ _ _ _ _ _ _ _ _ _ _ _ _ _ _ _ _ _ _ _ _ _ _ _ _ _ _ _ _ _ _ _ _ _ _ _ _ _ _ _ _ _ _ _ _ _ _ _ _ _ _ _ _ _ _ _ _ _ _ _ _ _ _ _ _ _ _ _ _ _ _ _ _ _ _ _ _ _ _ _ _ _ _ _ _ _ _ _ _ _ _ _ _ _ _ _ _ _ _ _ _ _ _ _ _ _ _
theorem C7 (b:Pl.Bl):Pl.wsh [b]=Pl.wbl b+1:=by simp[Pl.wsh]
theorem SdB.wsh {s:List Pl.Bl} (h:SdB 66 40 s):Pl.wsh s≤483946:=by
 have hw:=qs s h.all;have h1:s.length*41≤66*41:=Nat.mul_le_mul_right _ h.len;have h2:tl s*12031≤40*12031:=Nat.mul_le_mul_right _ h.tot;omega
theorem SdB.one {s:List Pl.Bl} (h:SdB 66 40 s) {b:Pl.Bl} (hb:b∈s):Pl.wbl b≤84257∧b.kind.size≤20∧b.name.size≤20:=by
 have h0:=h.all b hb;have hw:=qs [b] (fun c hc=>by rw[List.mem_singleton]at hc;subst hc;exact h0);have h2:tl [b]=b.lines.length:=by simp[tl]
 have h3:=h.per b hb;rw[C7,h2]at hw;simp only[List.length_singleton]at hw;have h4:b.lines.length*12031≤7*12031:=Nat.mul_le_mul_right _ h3;exact⟨by omega,h0.1,h0.2.1⟩
theorem SdB.set {s:List Pl.Bl} (h:SdB 66 40 s) (k:Nat) (x:Pl.Bl) (hx:Pl.wbl x≤300000):Sw (s.set k x):=by
 have h1:=mI s k x;have h2:=h.wsh;have h3:=h.len;exact⟨by rw[List.length_set];omega,by omega⟩
theorem CR {l:List Pl.Ln} {x:Pl.Ln} (h:x∈l):Pl.wln x+1≤(l.map fun x=>Pl.wln x+1).sum:=by
 induction l with
 |nil=>cases h
 |cons y l ih=>
  rw[List.map_cons,List.sum_cons];rcases List.mem_cons.1 h with rfl|q
  ·omega
  ·have:=ih q;omega
theorem kU {W:World} {F:List Nat} {n:Nat} {es:List Dt} {p o c:Nat} (h:Rep W false aV F [.row n es] [.slice (some ⟨p,o,none⟩) n c]) (hn:0<n):∃ G,F=p::G:=by
 rcases h.slice with⟨_,h0,_⟩|⟨p',o',c',u,m,G,hv,hF,_⟩
 ·omega
 ·injection hv with hv _ _
  injection hv with hv
  injection hv with hv _ _
  exact⟨G,by rw[hF,hv]⟩
theorem SP.Eh {W0 X X':World} {R B0 Q BX lo:Nat} {xv xv' lv:Value} {bk bn:ByteArray} (h:SP W0 X R B0 Q BX lo xv bk bn lv) (m:Marks (fun b=>b=Q) X X') (hb:aK X' Q 25 [xv']):SP W0 X' R B0 Q BX lo xv' bk bn lv:=by
 have ho:=h.ord;exact⟨h.fr.mks m (fun b e=>by have:b=Q:=e;omega) ho.1,h.res.mks m (by omega),hb,h.bbx.mks m (by omega),by have:=m.size;omega⟩
theorem sC {W:World} {F:List Nat} {l:List Pl.Bl} {p o c lo:Nat} (h:Rep W false aV F [aW l] [.slice (some ⟨p,o,none⟩) l.length c]) (nd:∀ p G,F=p::G→p ∉ G) (eN:∀ b∈F,lo≤b) (hl:0<l.length):cv W p o lo l∧l.length≤maxLen∧l.length≤c:=by
 rcases h.slice with⟨_,h0,_⟩|⟨p',o',c',u,m,G,hv,hF,hn,ho,hm,_,vs,hr,hR⟩
 ·omega
 subst hF;injection hv with hv _ h3
 injection hv with hv
 injection hv with h1 h2 _
 subst h1;subst h2;subst h3;have hp:=nd _ _ rfl;exact⟨⟨u,m,vs,G,ho,hm,hr,hR,fun b hb=>⟨eN b (by simp[hb]),fun e=>hp (e ▸ hb)⟩,eN p (by simp)⟩,hn.1,hn.2.1⟩
theorem dU {W:World} {l:List Pl.Ln} {F:List Nat} {la:Option Addr} {lc:Nat} (h:Rep W false aJ F [aU l] [.slice la l.length lc]) {k:Nat} (hk:k<l.length):∃ p o u m aw cw F',la=some ⟨p,o,none⟩∧p∈F∧aL W p u m∧o+l.length*2≤m∧W.rangeAt p (o+k*2) [.string (l.getD k Pl.aQ).key,.slice aw (l.getD k Pl.aQ).ws.length cw]∧Rep W false au F' (lnD (l.getD k Pl.aQ)) [.string (l.getD k Pl.aQ).key,.slice aw (l.getD k Pl.aQ).ws.length cw]∧(∃ G,F=p::G∧∀ b∈F',b∈G)∧(l.length≤maxLen∧l.length≤lc):=by
 rcases h.slice with⟨_,e0,_⟩|⟨p,o,c,u,m,G,hv,hF,hn,ho,hm,_,vs,hr,hR⟩
 ·omega
 ·injection hv with hv _ hc
  subst hv;subst hc;obtain⟨ve,G',hE,hg,hb⟩:=hR.elF hk hr;have e:el au.length k (l.flatMap lnD)=lnD (l.getD k Pl.aQ):=fJ Pl.aQ lnD 2 kT l k hk;rw[e]at hE;obtain⟨F1,v1,oF,jK,r1⟩:=dT hE;obtain⟨aw,cw,ew⟩:=r1.raw.aP;subst ew;subst jK;exact⟨p,o,u,m,aw,cw,G',rfl,by rw[hF];simp,ho,hm,hg,hE,⟨G,hF,hb⟩,hn.1,hn.2.1⟩
theorem IQ {W:World} {p o:Nat} {u:TypeId} {m:Nat} (ho:aL W p u m) (hO:o<m) {v:Value} (hv:W.cell? ⟨p,o,none⟩=some v) (q i:Nat):(W.setCell ⟨p,o,none⟩ v).cell? ⟨q,i,none⟩=W.cell? ⟨q,i,none⟩:=by
 by_cases e:q=p∧i=o
 ·obtain⟨rfl,rfl⟩:=e;rw[qZ ho _ hO,hv]
 ·exact l4 _ _ _ _ _ _ (by by_cases h:q=p;right;intro h2;exact e ⟨h,h2⟩;left;exact h)
theorem zK {p:Nat} {u:TypeId} {m:Nat}:∀ (cs:List Value) (W:World) (o:Nat),aL W p u m→o+cs.length≤m→W.rangeAt p o cs→∀ q i,(W.setCells p o cs).cell? ⟨q,i,none⟩=W.cell? ⟨q,i,none⟩
 |[],W,o,_,_,_,q,i=>rfl
 |v::cs,W,o,ho,hm,hr,q,i=>by
  obtain⟨h1,h2⟩:=C3 hr;simp only[List.length_cons]at hm;have hid:=IQ ho (by omega:o<m) h1;have ih:=zK cs (W.setCell ⟨p,o,none⟩ v) (o+1) (dE [v] _ _ ho) (by omega) (cM h2 fun j _=>hid _ _) q i;show ((W.setCell ⟨p,o,none⟩ v).setCells p (o+1) cs).cell? ⟨q,i,none⟩=_;rw[ih,hid]
theorem cv.same {W:World} {p o lo:Nat} {l:List Pl.Bl} (h:cv W p o lo l) {k:Nat} (hk:k<l.length) {x y z:Value} (hc:W.rangeAt p (o+k*3) [x,y,z]):cv (W.setCells p (o+k*3) [x,y,z]) p o lo l:=by
 obtain⟨u,m,vs,G,h1,h2,h3,h4,h5,h6⟩:=h;have hm:Marks (fun b=>b=p) W (W.setCells p (o+k*3) [x,y,z]):=aN (S:=fun b=>b=p) rfl _ _ _;exact⟨u,m,vs,G,dE _ _ _ h1,h2,cM h3 fun j _=>zK _ _ _ h1 (by simp only[List.length_cons,List.length_nil];omega) hc _ _,h4.aY hm fun b hb e=>(h5 b hb).2 e,h5,h6⟩
theorem SX.hn {W:World} {lo Q BX xp xo xc:Nat} {s:List Pl.Bl} {k:Nat} {b:Pl.Bl} {la:Option Addr} {lc:Nat} (h:SX W lo Q BX xp xo xc s k b la lc) (hk:k<s.length) (hx:s.length≤maxLen∧s.length≤xc) {s':List Pl.Bl} (hl:s'.length=s.length):s'.length=s.length∧(s.length≤maxLen∧s.length≤xc)∧k<s.length∧xp≠Q∧xp≠BX∧lo≤xp∧W.there xp (xo+k*3) 3:=by
 have:=h.lt;exact⟨hl,hx,hk,by omega,by omega,h.lt.1,(h.row hk).there hk⟩
theorem SX.none {W:World} {lo Q BX xp xo xc:Nat} {s:List Pl.Bl} {k:Nat} {b:Pl.Bl} {la:Option Addr} {lc:Nat} (h:SX W lo Q BX xp xo xc s k b la lc) (hk:k<s.length) (hB:SdB 66 40 s):cv (W.setCells xp (xo+k*3) [.string b.kind,.string b.name,.slice la b.lines.length lc]) xp xo lo s∧Sw s:=
 ⟨(h.row hk).same hk h.cells,hB.sw⟩
theorem nT {W:World} {ws:List ByteArray} {key:ByteArray} {F':List Nat} {aw:Option Addr} {cw:Nat} (h:Rep W false au F' [.s key,.row ws.length (txD ws)] [.string key,.slice aw ws.length cw]) (h0:0<ws.length):∃ p o u m x,aw=some ⟨p,o,none⟩∧p∈F'∧aL W p u m∧o<m∧W.cell? ⟨p,o,none⟩=some (.string x):=by
 obtain⟨F1,v1,oF,jK,r1⟩:=dT h;injection jK with _ jK
 injection jK with jK _
 subst jK;rcases r1.slice with⟨_,e0,_⟩|⟨p,o,c,u,m,G,hv,hF,hn,ho,hm,_,vs,hr,hR⟩
 ·omega
 ·injection hv with hv _ hc
  subst hv;subst hc;obtain⟨ve,G',hE,hg,hb⟩:=hR.elF h0 hr;have e:el 1 0 (txD ws)=[.s (ws.getD 0 ⟨#[]⟩)]:=gC (⟨#[]⟩:ByteArray) Dt.s ws 0 h0;have Gp:Rep W false [.s] G' [.s (ws.getD 0 ⟨#[]⟩)] ve:=by rw[← e];exact hE
  obtain⟨x,hx,_⟩:=Gp.c_s;subst hx;have hc:=aF hg 0 _ rfl;have mS:o+ws.length*1≤m:=hm;exact⟨p,o,u,m,_,rfl,by rw[oF,hF];simp,ho,by omega,by simpa using hc⟩
theorem yK {W0 X:World} {R B0 Q BX lo xp xo xc k:Nat} {s:List Pl.Bl} {b:Pl.Bl} {la:Option Addr} {lc:Nat} (HP:SP W0 X R B0 Q BX lo (.slice (some ⟨xp,xo,none⟩) s.length xc) b.kind b.name (.slice la b.lines.length lc)) (HX:SX X lo Q BX xp xo xc s k b la lc) (hk:k<s.length) (Lb:s.length≤maxLen∧s.length≤xc) (hB:SdB 66 40 s) {B O:Nat} {u:TypeId} {m:Nat} (hb:lo≤B∧B<Q∧B≠xp) (ho:aL X B u m) (hO:O<m) {x t:ByteArray} (hx:X.cell? ⟨B,O,none⟩=some (.string x)) (ht:t.size≤250) (W3:World) (hW:W3=X.setCell ⟨B,O,none⟩ (.string t)):
  ∃ s',SP W0 W3 R B0 Q BX lo (.slice (some ⟨xp,xo,none⟩) s.length xc) b.kind b.name (.slice la b.lines.length lc)∧(cv (W3.setCells xp (xo+k*3) [.string b.kind,.string b.name,.slice la b.lines.length lc]) xp xo lo s'∧Sw s')∧(s'.length=s.length∧(s.length≤maxLen∧s.length≤xc)∧k<s.length∧xp≠Q∧xp≠BX∧lo≤xp∧W3.there xp (xo+k*3) 3):=by
 have hm:Marks (fun b=>b=B) X W3:=by rw[hW];exact Marks.sc (S:=fun b=>b=B) X rfl _ _
 obtain⟨F,r,nd,hF⟩:=HX.rep;have hl:=HX.lt;obtain⟨ds',r',pk⟩:=r.Lg ho hO hx (t:=t) _ (PkV.refl _ _);rw[← hW]at r';obtain⟨s',e,gj,hw⟩:=As r' pk;subst e;have hls':=gj.symm;have h1:=hB.wsh;have h2:=hB.cE;have h3:cE [aW s]*t.size≤292*250:=Nat.mul_le_mul h2 ht;rw[← gj]at r';obtain⟨p',o',c',e,_,dw⟩:=kI r' nd (fun b hb=>(hF b hb).1) (by omega);injection e with e _ _
 injection e with e
 injection e with e1 e2 _
 subst e1;subst e2;have hc:W3.rangeAt xp (xo+k*3) [.string b.kind,.string b.name,.slice la b.lines.length lc]:=cM HX.cells fun j _=>hm.cell (by omega) (fun e=>hb.2.2 e.symm) _;exact⟨s',HP.mks hm (fun c e=>by have:c=B:=e;have:=HP.ord;omega),⟨dw.same (by omega) hc,by have:=hB.len;omega,by omega⟩,gj,Lb,hk,by omega,by omega,hl.1,dw.there (by omega)⟩
theorem SX.mem {W:World} {lo Q BX xp xo xc:Nat} {s:List Pl.Bl} {k:Nat} {b:Pl.Bl} {la:Option Addr} {lc:Nat} (h:SX W lo Q BX xp xo xc s k b la lc) (hk:k<s.length):b∈s:=by
 rw[← h.is];exact pg hk
end Go.Proofs.Ytmgibmmpopoboaa
