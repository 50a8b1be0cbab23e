import Derived.Test.YtmgibmmpopoboaaEDa
import Derived.Test.YtmgibmmpopoboaaEWx
import Derived.Test.YtmgibmmpopoboaaEYe
import Derived.Test.YtmgibmmpopoboaaEYg
import Derived.Test.YtmgibmmpopoboaaETr
namespace Go.Proofs.Ytmgibmmpopoboaa
open Go.RowKit Go.Deep
theorem jo {α:Type} {lt:α→α→Bool} (irr:∀ a,lt a a=false) (tr:∀ a b c,lt a b=true→lt b c=true→lt a c=true):∀ (x y:List α),x.Pairwise (fun a b=>lt a b=true)→y.Pairwise (fun a b=>lt a b=true)→(∀ z,z∈x↔z∈y)→x=y
 |[],[],_,_,_=>rfl
 |[],b::y,_,_,h=>by have:=(h b).2 (by simp);cases this
 |a::x,[],_,_,h=>by have:=(h a).1 (by simp);cases this
 |a::x,b::y,hx,hy,h=>by
  rw[List.pairwise_cons]at hx hy;have e:a=b:=by
   rcases List.mem_cons.1 ((h a).1 (by simp)) with e|e
   ·exact e
   ·rcases List.mem_cons.1 ((h b).2 (by simp)) with q|q
    ·exact q.symm
    ·have h1:=hy.1 a e;have h2:=hx.1 b q;have:=tr _ _ _ h1 h2;rw[irr]at this;cases this
  subst e;refine congrArg _ (jo irr tr x y hx.2 hy.2 fun z=>⟨fun hz=> ?_,fun hz=> ?_⟩)
  ·rcases List.mem_cons.1 ((h z).1 (List.mem_cons_of_mem _ hz)) with e|e
   ·subst e;have:=hx.1 z hz;rw[irr]at this;cases this
   ·exact e
  ·rcases List.mem_cons.1 ((h z).2 (List.mem_cons_of_mem _ hz)) with e|e
   ·subst e;have:=hy.1 z hz;rw[irr]at this;cases this
   ·exact e
theorem ui (kind:ByteArray) (a:Pl.Ln):Pl.aT kind a a=false:=by
 cases h:Pl.aT kind a a
 ·rfl
 ·have h1:=((py kind).neg a a).2 h;have:gZ (Pl.aj kind) a a=0:=by
   show eF (dm _ _) (cK _ _)=0;unfold eF;rw[if_pos ((cJ _ _).2 rfl)];exact(fN _ _).2 rfl
  omega
theorem E5 (a:Pl.Bl):Pl.ahead a a=false:=by
 cases h:Pl.ahead a a
 ·rfl
 ·have h1:=(pG.neg a a).2 h;have:et a a=0:=by
   show eF (bT _ _) (bT _ _)=0;unfold eF;rw[if_pos ((bE _ _).2 (by unfold Pl.eC;simp))];exact(bE _ _).2 (by unfold Pl.eC;simp)
  omega
def sk (rs:List Pl.Ru):Bool:=(List.range rs.length).all fun i=>Pl.ixI (Pl.bJ rs (rs.getD i Pl.aO).key)==(i:Int)
theorem xy (kind:ByteArray):sk (Pl.aj kind)=true:=by
 unfold Pl.aj;split
 ·decide+kernel
 ·split
  ·decide+kernel
  ·split<;>decide+kernel
theorem ja {kind:ByteArray} {i:Nat} (hi:i<(Pl.aj kind).length):Pl.dk kind ((Pl.aj kind).getD i Pl.aO).key=(i:Int):=by
 have h:=xy kind;unfold sk at h;rw[List.all_eq_true]at h;have:=h i (List.mem_range.2 hi);exact by simpa [Pl.dk]using this
theorem ny (kind:ByteArray):(Pl.aj kind).Pairwise fun a b=>Pl.dk kind a.key<Pl.dk kind b.key:=by
 rw[List.pairwise_iff_getElem];intro i j hi hj LL;have e1:(Pl.aj kind).getD i Pl.aO=(Pl.aj kind)[i]:=by simp[hi]
 have e2:(Pl.aj kind).getD j Pl.aO=(Pl.aj kind)[j]:=by simp[hj]
 rw[← e1,← e2,ja hi,ja hj];omega
theorem gG {l:List Pl.Ln} {key:ByteArray} {x:Pl.Ln}:x∈Pl.aI l key↔x∈l∧x.key=key:=by
 unfold Pl.aI;rw[List.mem_filter];constructor
 ·exact fun h=>⟨h.1,il h.2⟩
 ·exact fun h=>⟨h.1,by rw[h.2];simp⟩
theorem g8 {r:Pl.Ru} {l:List Pl.Ln} {x:Pl.Ln}:x∈Pl.bw r l↔(x∈l∧x.key=r.key)∨(r.many=false∧(∀ y∈l,y.key≠r.key)∧x=⟨r.key,r.dflt⟩):=by
 have IC:(Pl.aI l r.key).length=0↔∀ y∈l,y.key≠r.key:=by
  rw[List.length_eq_zero_iff];constructor
  ·intro h y hy e;have:=(gG (l:=l) (key:=r.key)).2 ⟨hy,e⟩;rw[h]at this;cases this
  ·intro h;rw[List.eq_nil_iff_forall_not_mem];intro y hy;exact h y (gG.1 hy).1 (gG.1 hy).2
 unfold Pl.bw;split
 ·rename_i h
  rw[Bool.and_eq_true,decide_eq_true_iff,Bool.not_eq_true']at h;rw[List.mem_singleton];constructor
  ·exact fun e=>Or.inr ⟨h.2,IC.1 h.1,e⟩
  ·rintro(⟨h1,h2⟩|⟨_,_,e⟩)
   ·exact absurd h2 (IC.1 h.1 x h1)
   ·exact e
 ·rename_i h
  rw[Bool.and_eq_true,decide_eq_true_iff,Bool.not_eq_true']at h;rw[gG];constructor
  ·exact Or.inl
  ·rintro(q|⟨h1,h2,_⟩)
   ·exact q
   ·exact absurd ⟨IC.2 h2,h1⟩ h
theorem gW {r:Pl.Ru} {l:List Pl.Ln} {x:Pl.Ln} (h:x∈Pl.bw r l):x.key=r.key:=by
 rcases g8.1 h with⟨_,e⟩|⟨_,_,e⟩
 ·exact e
 ·rw[e]
theorem nF {kind:ByteArray} {l:List Pl.Ln} (h:l.Pairwise fun a b=>Pl.aT kind a b=true) (r:Pl.Ru):(Pl.bw r l).Pairwise fun a b=>Pl.aT kind a b=true:=by
 unfold Pl.bw;split
 ·simp
 ·exact h.sublist List.filter_sublist
theorem AM {kind:ByteArray} {a b:Pl.Ln} (h:Pl.dk kind a.key<Pl.dk kind b.key):Pl.aT kind a b=true:=by
 unfold Pl.aT;rw[decide_eq_true h];rfl
theorem gB {kind:ByteArray} {l:List Pl.Ln} (h:l.Pairwise fun a b=>Pl.aT kind a b=true):(Pl.filled kind l).Pairwise fun a b=>Pl.aT kind a b=true:=by
 unfold Pl.filled;rw[List.pairwise_flatMap];refine⟨fun r _=>nF h r,(ny kind).imp fun {a b} KQ x hx y hy=>AM ?_⟩;rw[gW hx,gW hy];exact KQ
def z6 (kind:ByteArray) (l:List Pl.Ln):Prop:=∀ x∈l,∃ r∈Pl.aj kind,x.key=r.key
theorem nt {kind:ByteArray} {l:List Pl.Ln} (h:Pl.bA kind l=true):z6 kind l:=fun x hx=>by
 obtain⟨j,hj⟩:=Pl.lQ (jv h x hx);have hl:=Pl.fm hj;refine⟨(Pl.aj kind).getD j Pl.aO, ?_,(sj hj).symm⟩;have e:(Pl.aj kind).getD j Pl.aO=(Pl.aj kind)[j]:=by simp[hl]
 rw[e];exact List.getElem_mem hl
theorem qj {kind:ByteArray} {a b:Pl.Ru} (ha:a∈Pl.aj kind) (hb:b∈Pl.aj kind) (h:Pl.dk kind a.key=Pl.dk kind b.key):a=b:=by
 obtain⟨i,hi,rfl⟩:=List.getElem_of_mem ha;obtain⟨j,hj,rfl⟩:=List.getElem_of_mem hb;have e1:(Pl.aj kind).getD i Pl.aO=(Pl.aj kind)[i]:=by simp[hi]
 have e2:(Pl.aj kind).getD j Pl.aO=(Pl.aj kind)[j]:=by simp[hj]
 rw[← e1,← e2,ja hi,ja hj]at h;have:i=j:=by omega
 subst this;rfl
theorem jY {kind:ByteArray} {l:List Pl.Ln} (hl:z6 kind l) {x:Pl.Ln}:x∈Pl.filled kind l↔x∈l∨∃ r∈Pl.aj kind,r.many=false∧(∀ y∈l,y.key≠r.key)∧x=⟨r.key,r.dflt⟩:=by
 unfold Pl.filled;rw[List.mem_flatMap];constructor
 ·rintro⟨r,hr,hx⟩;rcases g8.1 hx with q|q
  ·exact Or.inl q.1
  ·exact Or.inr ⟨r,hr,q⟩
 ·rintro(h|⟨r,hr,q⟩)
  ·obtain⟨r,hr,e⟩:=hl x h;exact⟨r,hr,g8.2 (Or.inl ⟨h,e⟩)⟩
  ·exact⟨r,hr,g8.2 (Or.inr q)⟩
theorem yL {kind:ByteArray} {l:List Pl.Ln} (h:l.Pairwise fun a b=>Pl.aT kind a b=true) (t:Pl.Ln) (hn:∀ y∈l,gZ (Pl.aj kind) y t≠0):(Pl.dD kind l t).Pairwise fun a b=>Pl.aT kind a b=true:=by
 unfold Pl.dD;rw[wP (Pl.aT kind) l t];refine pl_pair (py kind) Pl.aQ h t fun q=> ?_;have e:l.getD (dt (Pl.aT kind) l t) Pl.aQ=l[dt (Pl.aT kind) l t]'q.1:=by simp[q.1]
 exact hn _ (List.getElem_mem q.1) (by rw[← e];exact q.2)
theorem xq {kind:ByteArray} {a b:Pl.Ln} (h:gZ (Pl.aj kind) a b=0):Pl.dk kind a.key=Pl.dk kind b.key∧a.ws=b.ws:=by
 have h':eF (dm (Pl.ixI (Pl.bJ (Pl.aj kind) a.key)) (Pl.ixI (Pl.bJ (Pl.aj kind) b.key))) (cK a.ws b.ws)=0:=h;unfold eF at h';split at h'
 ·rename_i q
  exact⟨(cJ _ _).1 q,(fN _ _).1 h'⟩
 ·rename_i q;exact absurd h' q
theorem se (kind:ByteArray) (l:List Pl.Ln) (hl:z6 kind l):∀ (rs pre:List Pl.Ru) (acc:List Pl.Ln),(pre++rs)=Pl.aj kind→acc.Pairwise (fun a b=>Pl.aT kind a b=true)→
  (∀ x,x∈acc↔x∈l∨∃ r∈pre,r.many=false∧(∀ y∈l,y.key≠r.key)∧x=⟨r.key,r.dflt⟩)→
  (Pl.cp kind acc rs).Pairwise (fun a b=>Pl.aT kind a b=true)∧∀ x,x∈Pl.cp kind acc rs↔x∈l∨∃ r∈pre++rs,r.many=false∧(∀ y∈l,y.key≠r.key)∧x=⟨r.key,r.dflt⟩
 |[],pre,acc,_,hp,hm=>by rw[List.append_nil];exact⟨hp,hm⟩
 |r::rs,pre,acc,bC,hp,hm=>by
  have hr:r∈Pl.aj kind:=by rw[← bC];simp
  have L0:∀ q∈pre,q∈Pl.aj kind:=fun q hq=>by rw[← bC];simp[hq]
  have EF:∀ q∈pre,q.key≠r.key:=fun q hq e=>by
   have h1:=ny kind;rw[← bC,List.pairwise_append]at h1;have:=h1.2.2 q hq r (by simp);rw[e]at this;omega
  have Bk:(Pl.aI acc r.key).length=0↔∀ y∈l,y.key≠r.key:=by
   rw[List.length_eq_zero_iff,List.eq_nil_iff_forall_not_mem];constructor
   ·intro h y hy e;exact h y (gG.2 ⟨(hm y).2 (Or.inl hy),e⟩)
   ·intro h y hy;obtain⟨h1,h2⟩:=gG.1 hy;rcases(hm y).1 h1 with q|⟨p,x9,_,_,e⟩
    ·exact h y q h2
    ·exact EF p x9 (by rw[e]at h2;exact h2)
  have e0:Pl.cp kind acc (r::rs)=Pl.cp kind (Pl.cj kind acc r) rs:=rfl;have e1:pre++r::rs=(pre++[r])++rs:=by simp
  rw[e0,e1];refine se kind l hl rs (pre++[r]) _ (by rw[← bC];simp) ?_ ?_
  ·unfold Pl.cj;split
   ·rename_i hc
    rw[Bool.and_eq_true,decide_eq_true_iff,Bool.not_eq_true']at hc;refine yL hp _ fun y hy e=> ?_;have h1:=(xq e).1;rcases(hm y).1 hy with q|⟨p,x9,_,_,e2⟩
    ·obtain⟨r',xX,e'⟩:=hl y q;rw[e']at h1;have:=qj xX hr h1;exact Bk.1 hc.2 y q (by rw[e',this])
    ·rw[e2]at h1;have:=qj (L0 p x9) hr h1;exact EF p x9 (by rw[this])
   ·exact hp
  ·intro x;unfold Pl.cj;split
   ·rename_i hc
    rw[Bool.and_eq_true,decide_eq_true_iff,Bool.not_eq_true']at hc;rw[Pl.js,hm];constructor
    ·rintro(e|e|⟨p,x9,q⟩)
     ·exact Or.inr ⟨r,by simp,hc.1,Bk.1 hc.2,e⟩
     ·exact Or.inl e
     ·exact Or.inr ⟨p,by simp[x9],q⟩
    ·rintro(e|⟨p,x9,q⟩)
     ·exact Or.inr (Or.inl e)
     ·rcases List.mem_append.1 x9 with h1|h1
      ·exact Or.inr (Or.inr ⟨p,h1,q⟩)
      ·rw[List.mem_singleton]at h1;subst h1;exact Or.inl q.2.2
   ·rename_i hc
    rw[Bool.and_eq_true,decide_eq_true_iff,Bool.not_eq_true']at hc;rw[hm];constructor
    ·rintro(e|⟨p,x9,q⟩)
     ·exact Or.inl e
     ·exact Or.inr ⟨p,by simp[x9],q⟩
    ·rintro(e|⟨p,x9,q⟩)
     ·exact Or.inl e
     ·rcases List.mem_append.1 x9 with h1|h1
      ·exact Or.inr ⟨p,h1,q⟩
      ·rw[List.mem_singleton]at h1;subst h1;exact absurd ⟨q.1,Bk.2 q.2.1⟩ hc
theorem wX {kind:ByteArray} {l:List Pl.Ln} (h:Pl.bA kind l=true):Pl.filled kind l=Pl.cp kind l (Pl.aj kind):=by
 have hr:=nt h;have hp:=fY h;obtain⟨h1,h2⟩:=se kind l hr (Pl.aj kind) [] l rfl hp (fun x=>by simp);refine jo (ui kind) (py kind).tr _ _ (gB hp) h1 fun z=> ?_;rw[jY hr,h2 z];simp
theorem fill_eq (s:List Pl.Bl):(if Pl.aM s then s.map (fun x=>(⟨x.kind,x.name,Pl.filled x.kind x.lines⟩:Pl.Bl)) else [])=Pl.bH s:=by
 unfold Pl.bH;cases hv:Pl.aM s
 ·rfl
 ·simp only[if_true];refine List.map_congr_left fun x hx=> ?_;rw[wX (cI hv x hx)];rfl
theorem iU (a b:List ByteArray):Pl.bO a b=true↔a=b:=by
 unfold Pl.bO;rw[Bool.and_eq_true,Bool.not_eq_true',Bool.not_eq_true'];constructor
 ·rintro⟨h1,h2⟩;by_cases e:cK a b=0
  ·exact(fN a b).1 e
  ·have h3:=lD a b (fun q=>by rw[(dK a b).1 q]at h1;cases h1) e;rw[(dK b a).1 h3]at h2;cases h2
 ·intro e;subst e;have:¬ Pl.cU a a=true:=fun q=>by have:=(dK a a).2 q;have:=(fN a a).2 rfl;omega
  rw[Bool.not_eq_true]at this;exact⟨this,this⟩
theorem tZ (a b:List ByteArray):Pl.bO a b=Pl.gn b a:=by
 rw[Bool.eq_iff_iff,iU,rG];exact⟨Eq.symm,Eq.symm⟩
theorem tM {kind:ByteArray} {l:List Pl.Ln} (h:Pl.bA kind l=true):Pl.trimmed kind l=l.filter (Pl.bM kind):=by
 unfold Pl.trimmed;refine List.filter_congr fun x hx=> ?_;obtain⟨j,hj⟩:=Pl.lQ (jv h x hx);unfold Pl.nJ Pl.bM;rw[hj];simp only[tZ]
theorem CT (s:List Pl.Bl):(if Pl.aM s then s.map (fun x=>(⟨x.kind,x.name,Pl.trimmed x.kind x.lines⟩:Pl.Bl)) else [])=Pl.bR s:=by
 unfold Pl.bR;cases hv:Pl.aM s
 ·rfl
 ·simp only[if_true];refine List.map_congr_left fun x hx=> ?_;rw[tM (cI hv x hx)];rfl
theorem nh {m:Bool} {a b:Nat} (h:a≤b) (hb:Pl.eU m b=true):Pl.eU m a=true:=by
 unfold Pl.eU at hb ⊢;cases m<;>simp at hb ⊢<;>omega
theorem jn (l:List Pl.Ln) (key:ByteArray):Pl.aX l key=(Pl.aI l key).length:=by
 unfold Pl.aX Pl.aI;rw[List.countP_eq_length_filter];rfl
theorem CL {l:List Pl.Ln} (i:Nat) (key:ByteArray):Pl.aX (l.take i) key≤Pl.aX l key:=(List.take_sublist i l).countP_le
theorem rM (l:List Pl.Ln) (key:ByteArray):∀ k,k≤l.length→Pl.aX (l.take k) key=0∨∃ i,i<k∧(l.getD i Pl.aQ).key=key∧Pl.aX (l.take (i+1)) key=Pl.aX (l.take k) key
 |0,_=>Or.inl (by simp[Pl.aX])
 |k+1,h=>by
  have hk:k<l.length:=by omega
  by_cases e:(l.getD k Pl.aQ).key=key
  ·exact Or.inr ⟨k,by omega,e,rfl⟩
  ·have hs:Pl.aX (l.take (k+1)) key=Pl.aX (l.take k) key:=by
    unfold Pl.aX;have e2:l.getD k Pl.aQ=l[k]:=by simp[hk]
    rw[List.take_succ_eq_append_getElem hk,List.countP_append,List.countP_singleton,← e2];have:Pl.eC (l.getD k Pl.aQ).key key=false:=by
     rw[Bool.eq_false_iff];exact fun q=>e (jN q)
    rw[this];simp
   rcases rM l key k (by omega) with q|⟨i,hi,q1,q2⟩
   ·exact Or.inl (by rw[hs];exact q)
   ·exact Or.inr ⟨i,by omega,q1,by rw[hs];exact q2⟩
theorem lL {kind:ByteArray} {l:List Pl.Ln} (h:Pl.bA kind l=true) (key:ByteArray):Pl.aX l key=0∨Pl.eU (Pl.fh kind key) (Pl.aX l key)=true:=by
 rcases rM l key l.length zE with q|⟨i,hi,q1,q2⟩
 ·left;rwa [List.take_length]at q
 ·right;rw[List.take_length]at q2;have:=nD h hi;unfold Pl.cV at this;rw[Bool.and_eq_true]at this;rw[q1,q2]at this;exact this.2
theorem mY {kind:ByteArray} {l:List Pl.Ln} (hp:l.Pairwise fun a b=>Pl.aT kind a b=true) (hf:∀ x∈l,Pl.bU kind x.key x.ws=true) (hc:∀ x∈l,Pl.eU (Pl.fh kind x.key) (Pl.aX l x.key)=true):Pl.bA kind l=true:=by
 unfold Pl.bA;rw[List.all_eq_true];intro i hi;have hi:=List.mem_range.1 hi;have e:l.getD i Pl.aQ=l[i]:=by simp[hi]
 have hm:l.getD i Pl.aQ∈l:=by rw[e];exact List.getElem_mem hi
 unfold Pl.cV;rw[Bool.and_eq_true,Bool.and_eq_true,Bool.or_eq_true];refine⟨⟨hf _ hm, ?_⟩,nh (CL _ _) (hc _ hm)⟩;by_cases h0:i=0
 ·left;simpa using h0
 ·right;have h1:i - 1<l.length:=by omega
  have e1:l.getD (i - 1) Pl.aQ=l[i - 1]:=by simp[h1]
  rw[e,e1];exact(List.pairwise_iff_getElem.1 hp) (i - 1) i h1 hi (by omega)
theorem nz {kind:ByteArray} {r:Pl.Ru} (hr:r∈Pl.aj kind):∃ j,Pl.bJ (Pl.aj kind) r.key=some j∧(Pl.aj kind).getD j Pl.aO=r:=by
 obtain⟨i,hi,e⟩:=List.getElem_of_mem hr;have e1:(Pl.aj kind).getD i Pl.aO=(Pl.aj kind)[i]:=by simp[hi]
 have hp:=ja hi;rw[e1,e]at hp;unfold Pl.dk at hp;cases hj:Pl.bJ (Pl.aj kind) r.key with
 |none=>rw[hj]at hp;simp[Pl.ixI]at hp
 |some j=>
  rw[hj]at hp;have:j=i:=by simp[Pl.ixI]at hp;omega
  subst this;exact⟨j,rfl,by rw[e1,e]⟩
theorem qp {kind:ByteArray} {r:Pl.Ru} (hr:r∈Pl.aj kind):Pl.fh kind r.key=r.many:=by
 obtain⟨j,h1,h2⟩:=nz hr;unfold Pl.fh;rw[h1];show ((Pl.aj kind).getD j Pl.aO).many=_;rw[h2]
theorem vy {kind:ByteArray} {r:Pl.Ru} (hr:r∈Pl.aj kind) (x:Pl.Ln) (hx:x.key=r.key):Pl.bM kind x=(r.many|| !Pl.bO r.dflt x.ws):=by
 obtain⟨j,h1,h2⟩:=nz hr;unfold Pl.bM;rw[hx,h1];show (((Pl.aj kind).getD j Pl.aO).many|| !Pl.bO ((Pl.aj kind).getD j Pl.aO).dflt x.ws)=_;rw[h2]
theorem key_inj {kind:ByteArray} {a b:Pl.Ru} (ha:a∈Pl.aj kind) (hb:b∈Pl.aj kind) (h:a.key=b.key):a=b:=qj ha hb (by rw[h])
theorem xw (kind:ByteArray):∀ r∈Pl.aj kind,r.many=false→Pl.bU kind r.key r.dflt=true:=by
 have e:∀ key ws,Pl.bU kind key ws=match Pl.bJ (Pl.aj kind) key with
   |none=>false
   |some j=>Pl.gD ((Pl.aj kind).getD j Pl.aO).args ws:=fun _ _=>rfl
 intro r hr hm;rw[e];revert hr hm
 unfold Pl.aj;split
 ·revert r;decide+kernel
 ·split
  ·revert r;decide+kernel
  ·split
   ·revert r;decide+kernel
   ·intro h;cases h
theorem si {kind:ByteArray} {l:List Pl.Ln} (h:Pl.bA kind l=true) {r:Pl.Ru} (hr:r∈Pl.aj kind) (hm:r.many=false):(Pl.aI l r.key).length≤1:=by
 have:=lL h r.key;rw[jn,qp hr,hm]at this;rcases this with q|q
 ·omega
 ·unfold Pl.eU at q;simp at q;omega
theorem pO {kind:ByteArray} {l:List Pl.Ln} (h:Pl.bA kind l=true) {r:Pl.Ru} (hr:r∈Pl.aj kind) (hm:r.many=false):(Pl.bw r l).length=1:=by
 have:=si h hr hm;unfold Pl.bw;rw[hm];by_cases e:(Pl.aI l r.key).length=0
 ·simp[e]
 ·simp[e];omega
theorem tK (r:Pl.Ru) (l:List Pl.Ln):(if decide ((Pl.bw r l).length=0)&& !r.many then [⟨r.key,r.dflt⟩] else Pl.bw r l)=Pl.bw r l:=by
 unfold Pl.bw;cases r.many
 ·by_cases e:(Pl.aI l r.key).length=0
  ·simp[e]
  ·simp[e]
 ·simp
theorem kE {kind:ByteArray} {l:List Pl.Ln} (h:Pl.bA kind l=true) {r:Pl.Ru} (hr:r∈Pl.aj kind):Pl.aI (Pl.filled kind l) r.key=Pl.bw r l:=by
 have hp:=fY h;refine jo (lt:=Pl.aT kind) (ui kind) (py kind).tr _ _ ((gB hp).filter _) (nF hp r) fun z=> ?_;rw[gG];unfold Pl.filled;rw[List.mem_flatMap];constructor
 ·rintro⟨⟨q,hq,hz⟩,hk⟩;have:q=r:=key_inj hq hr (by rw[← gW hz,hk]);rwa [this]at hz
 ·exact fun hz=>⟨⟨r,hr,hz⟩,gW hz⟩
theorem wh {kind:ByteArray} {l:List Pl.Ln} (h:Pl.bA kind l=true):Pl.bA kind (Pl.filled kind l)=true:=by
 refine mY (gB (fY h)) (fun x hx=> ?_) (fun x hx=> ?_)
 ·rcases(jY (nt h)).1 hx with q|⟨r,hr,hm,_,rfl⟩
  ·exact jv h x q
  ·exact xw kind r hr hm
 ·unfold Pl.filled at hx;obtain⟨r,hr,hz⟩:=List.mem_flatMap.1 hx;rw[gW hz,qp hr,jn,kE h hr];cases hm:r.many
  ·rw[pO h hr hm];rfl
  ·have e:Pl.bw r l=Pl.aI l r.key:=by unfold Pl.bw;simp[hm]
   have:=lL h r.key;rw[jn,qp hr,hm]at this;rw[e];rcases this with q|q
   ·rw[q];rfl
   ·exact q
theorem CU {kind:ByteArray} {l:List Pl.Ln} (h:Pl.bA kind l=true):Pl.bA kind (l.filter (Pl.bM kind))=true:=by
 refine mY ((fY h).filter _) (fun x hx=>jv h x (List.mem_filter.1 hx).1) (fun x hx=> ?_);rcases lL h x.key with q|q
 ·exact absurd q (by
   have:x∈Pl.aI l x.key:=gG.2 ⟨(List.mem_filter.1 hx).1,rfl⟩;rw[jn];have:=List.length_pos_of_mem this;omega)
 ·exact nh ((List.filter_sublist).countP_le) q
theorem kK {kind:ByteArray} {l:List Pl.Ln} (h:Pl.bA kind l=true) {r:Pl.Ru} (hr:r∈Pl.aj kind):Pl.bw r (Pl.filled kind l)=Pl.bw r l:=by
 have e:=kE h hr;show (if decide ((Pl.aI (Pl.filled kind l) r.key).length=0)&& !r.many then [⟨r.key,r.dflt⟩] else Pl.aI (Pl.filled kind l) r.key)=_;rw[e];exact tK r l
theorem nj {kind:ByteArray} {l:List Pl.Ln} (key:ByteArray):Pl.aI (l.filter (Pl.bM kind)) key=(Pl.aI l key).filter (Pl.bM kind):=by
 unfold Pl.aI;rw[List.filter_filter,List.filter_filter];exact List.filter_congr fun x _=>Bool.and_comm _ _
theorem nL {kind:ByteArray} {l:List Pl.Ln} (h:Pl.bA kind l=true) {r:Pl.Ru} (hr:r∈Pl.aj kind):Pl.bw r (l.filter (Pl.bM kind))=Pl.bw r l:=by
 have hk:∀ x∈Pl.aI l r.key,Pl.bM kind x=(r.many|| !Pl.bO r.dflt x.ws):=fun x hx=>vy hr x (gG.1 hx).2;cases hm:r.many
 ·have h1:=si h hr hm;unfold Pl.bw;rw[nj,hm];rcases hl:Pl.aI l r.key with _|⟨y,t⟩
  ·simp
  ·rw[hl]at h1 hk;have ht:t=[]:=by simp at h1;exact h1
   subst ht;have hy:=hk y (by simp);rw[hm,Bool.false_or]at hy;have hyk:y.key=r.key:=(gG.1 (by rw[hl];simp:y∈Pl.aI l r.key)).2;rw[List.filter_cons,hy];cases hw:Pl.bO r.dflt y.ws
   ·simp
   ·have e:=(iU _ _).1 hw;obtain⟨a,b⟩:=y;simp at e hyk;simp[e,hyk]
 ·unfold Pl.bw;rw[nj,hm,List.filter_eq_self.2 (fun x hx=>by rw[hk x hx,hm];rfl)]
theorem kG {kind:ByteArray} {l l':List Pl.Ln} (h:∀ r∈Pl.aj kind,Pl.bw r l=Pl.bw r l'):Pl.filled kind l=Pl.filled kind l':=by
 unfold Pl.filled;rw[List.flatMap_def,List.flatMap_def,List.map_congr_left h]
theorem sl {kind:ByteArray} {l:List Pl.Ln} (h:Pl.bA kind l=true):(Pl.filled kind l).filter (Pl.bM kind)=l.filter (Pl.bM kind):=by
 have hp:=fY h;refine jo (lt:=Pl.aT kind) (ui kind) (py kind).tr _ _ ((gB hp).filter _) (hp.filter _) fun z=> ?_;rw[List.mem_filter,List.mem_filter,jY (nt h)];constructor
 ·rintro⟨q|⟨r,hr,hm,_,rfl⟩,hk⟩
  ·exact⟨q,hk⟩
  ·rw[vy hr ⟨r.key,r.dflt⟩ rfl,hm,(iU _ _).2 rfl]at hk;simp at hk
 ·exact fun q=>⟨Or.inl q.1,q.2⟩
theorem pA {s:List Pl.Bl} (hv:Pl.aM s=true) (g:Pl.Bl→Pl.Bl) (hk:∀ b,(g b).kind=b.kind) (hn:∀ b,(g b).name=b.name) (hl:∀ b∈s,Pl.bA b.kind (g b).lines=true):Pl.aM (s.map g)=true:=by
 unfold Pl.aM;rw[Bool.and_eq_true,List.length_map,decide_eq_true_iff,List.all_eq_true];refine⟨gY hv,fun i hi=> ?_⟩;have hi:=List.mem_range.1 hi;have at_:∀ j,j<s.length→(s.map g).getD j Pl.aG=g (s.getD j Pl.aG):=fun j hj=>by simp[hj]
 have hm:s.getD i Pl.aG∈s:=by simp[hi]
 have h0:=n9 hv hi;unfold Pl.cQ at h0 ⊢;rw[Bool.and_eq_true,Bool.and_eq_true,Bool.and_eq_true,Bool.or_eq_true]at h0;rw[at_ i hi,hk,hn,Bool.and_eq_true,Bool.and_eq_true,Bool.and_eq_true,Bool.or_eq_true];refine⟨⟨h0.1.1,hl _ hm⟩, ?_⟩;rcases h0.2 with q|q
 ·exact Or.inl q
 ·by_cases z:i=0
  ·left;simpa using z
  ·right;rw[at_ (i - 1) (by omega)];unfold Pl.ahead at q ⊢;rw[hk,hk,hn,hn];exact q
theorem iu {s:List Pl.Bl} (hv:Pl.aM s=true):Pl.bH s=s.map fun x=>(⟨x.kind,x.name,Pl.filled x.kind x.lines⟩:Pl.Bl):=by
 rw[← fill_eq,hv];rfl
theorem kR {s:List Pl.Bl} (hv:Pl.aM s=true):Pl.bR s=s.map fun x=>(⟨x.kind,x.name,x.lines.filter (Pl.bM x.kind)⟩:Pl.Bl):=by
 unfold Pl.bR;rw[hv];rfl
theorem iv {s:List Pl.Bl} (hv:Pl.aM s=true):Pl.aM (Pl.bH s)=true:=by
 rw[iu hv];exact pA hv _ (fun _=>rfl) (fun _=>rfl) fun b hb=>wh (cI hv b hb)
theorem j4 {s:List Pl.Bl} (hv:Pl.aM s=true):Pl.aM (Pl.bR s)=true:=by
 rw[kR hv];exact pA hv _ (fun _=>rfl) (fun _=>rfl) fun b hb=>CU (cI hv b hb)
theorem xA {s:List Pl.Bl} (hv:Pl.aM s=true):Pl.bH (Pl.bH s)=Pl.bH s:=by
 rw[iu (iv hv),iu hv,List.map_map];refine List.map_congr_left fun b hb=> ?_;show (⟨b.kind,b.name,Pl.filled b.kind (Pl.filled b.kind b.lines)⟩:Pl.Bl)=_;rw[kG fun r hr=>kK (cI hv b hb) hr]
theorem wi {s:List Pl.Bl} (hv:Pl.aM s=true):Pl.bH (Pl.bR s)=Pl.bH s:=by
 rw[iu (j4 hv),kR hv,iu hv,List.map_map];refine List.map_congr_left fun b hb=> ?_;show (⟨b.kind,b.name,Pl.filled b.kind (b.lines.filter (Pl.bM b.kind))⟩:Pl.Bl)=_;rw[kG fun r hr=>nL (cI hv b hb) hr]
theorem xC {s:List Pl.Bl} (hv:Pl.aM s=true):Pl.bR (Pl.bH s)=Pl.bR s:=by
 rw[kR (iv hv),iu hv,kR hv,List.map_map];refine List.map_congr_left fun b hb=> ?_;show (⟨b.kind,b.name,(Pl.filled b.kind b.lines).filter (Pl.bM b.kind)⟩:Pl.Bl)=_;rw[sl (cI hv b hb)]
theorem wB {s:List Pl.Bl} (hv:Pl.aM s=false):Pl.bH s=[]∧Pl.bR s=[]:=by
 unfold Pl.bH Pl.bR;rw[hv];exact⟨rfl,rfl⟩
theorem get_at {s:List Pl.Bl} (hv:Pl.aM s=true) {b:Pl.Bl} (hb:b∈s) {r:Pl.Ru} (hr:r∈Pl.aj b.kind):Pl.bV s b.kind b.name r.key=(Pl.bw r b.lines,true):=by
 obtain⟨i,hi,e⟩:=List.getElem_of_mem hb;obtain⟨j,h1,h2⟩:=nz hr;have hp:=List.pairwise_iff_getElem.1 (jZ hv);have hf:Pl.dJ s b.kind b.name=some i:=by
  have:=nO (kind:=b.kind) (name:=b.name) s 0 i hi (by rw[e];unfold Pl.isB;simp) (fun k hk=>by
   rw[Bool.eq_false_iff];intro q;unfold Pl.isB at q;rw[Bool.and_eq_true]at q;have q1:(s[k]'(by omega)).kind=b.kind:=il q.1;have q2:(s[k]'(by omega)).name=b.name:=il q.2;have h3:=hp k i (by omega) hi hk;have h4:=E5 b;rw[e]at h3;unfold Pl.ahead at h3 h4;rw[q1,q2,h4]at h3;cases h3)
  unfold Pl.dJ;rw[this];simp
 have eb:s.getD i Pl.aG=b:=by rw[← e];simp[hi]
 unfold Pl.bV;rw[hv,hf,h1];show (if decide ((Pl.aI (s.getD i Pl.aG).lines r.key).length=0)&& !((Pl.aj b.kind).getD j Pl.aO).many then [⟨r.key,((Pl.aj b.kind).getD j Pl.aO).dflt⟩] else Pl.aI (s.getD i Pl.aG).lines r.key,true)=_;rw[eb,h2];rfl
theorem Ao {s:List Pl.Bl} (hv:Pl.aM s=true) {b:Pl.Bl} (hb:b∈s) {r:Pl.Ru} (hr:r∈Pl.aj b.kind):Pl.bV (Pl.bH s) b.kind b.name r.key=(Pl.bw r b.lines,true):=by
 have hm:(⟨b.kind,b.name,Pl.filled b.kind b.lines⟩:Pl.Bl)∈Pl.bH s:=by rw[iu hv];exact List.mem_map.2 ⟨b,hb,rfl⟩
 have:=get_at (iv hv) hm (r:=r) hr;rw[this,kK (cI hv b hb) hr]
theorem Ap {s:List Pl.Bl} (hv:Pl.aM s=true) {b:Pl.Bl} (hb:b∈s) {r:Pl.Ru} (hr:r∈Pl.aj b.kind):Pl.bV (Pl.bR s) b.kind b.name r.key=(Pl.bw r b.lines,true):=by
 have hm:(⟨b.kind,b.name,b.lines.filter (Pl.bM b.kind)⟩:Pl.Bl)∈Pl.bR s:=by rw[kR hv];exact List.mem_map.2 ⟨b,hb,rfl⟩
 have:=get_at (j4 hv) hm (r:=r) hr;rw[this,nL (cI hv b hb) hr]
set_option maxHeartbeats 40000000
set_option maxRecDepth 8000
theorem pt (r:Pl.Ru) (l:List Pl.Ln):(Pl.bw r l).length≤l.length+1:=by
 unfold Pl.bw;split
 ·simp
 ·exact Nat.le_succ_of_le (Pl.ef _ _)
theorem mW (l:List Pl.Ln):∀ rs:List Pl.Ru,(rs.flatMap (fun r=>Pl.bw r l)).length≤rs.length*(l.length+1)
 |[]=>by simp
 |r::rs=>by
  have:=mW l rs;have h2:=pt r l;rw[List.flatMap_cons,List.length_append,List.length_cons,Nat.succ_mul];omega
theorem CC (kind:ByteArray) (ra:Option Addr) (rc:Nat) (l:List Pl.Ln) (v:Value) (w:World) (hr:Raw w [.row 40 aC] [bQ (Pl.aj kind)] [.slice ra (Pl.aj kind).length rc]) (h:Raw w aJ [aU l] [v]) (hl:l.length≤1048576) (hw:∀ x∈l,x.ws.length≤4194304):
  Calls Try.prog 20 #[.agg #[.slice ra (Pl.aj kind).length rc],v] w (fe aJ (aU (Pl.filled kind l)) w):=by
 have HL:=uh h;have KX:=uh (And.intro hl hw);have ez:=uh hr;have It:=uh (j5 kind);have iD:=uh (Pl.cP kind);have HFE:Hid (Pl.filled kind l=(Pl.aj kind).flatMap (fun r=>Pl.bw r l)):=rfl;obtain⟨rs,AX⟩:∃ rs,rs=Pl.aj kind:=⟨_,rfl⟩
 rw[← AX]at ez It iD HFE;rw[← AX];obtain⟨va,vc,ev⟩:=h.aP;subst ev;clear h hr hl hw AX;obtain⟨n,hn⟩:∃ n,n=rs.length:=⟨_,rfl⟩
 have HN:=uh hn;have eD:rs.length=n:=hn.symm;clear hn;rw[eD]at iD;rw[eD];clear eD;obtain⟨b0,bD⟩:∃ b,b=w.heap.size:=⟨_,rfl⟩
 have HZ:=uh bD;obtain⟨wa,aS⟩:∃ wa,wa=w.alloc (.cells #[.slice ra n rc] 64):=⟨_,rfl⟩
 have HB:Hid (Bel w wa):=by show Below _ _ _;rw[aS];exact ah zR _
 have cu:Hid (aD wa b0 [.slice ra n rc]):=by show aD _ _ _;rw[aS,bD];exact aD.new w #[.slice ra n rc] _ _ rfl
 go_enter Try.func20,Try.ntmps20
 go_upto_region 1 with fail
 rw[← aS,← bD];clear aS bD;have x0:=cu.out.get 0 _ rfl;have xl:=cu.out.lt;go_wp2;clear x0 xl;go_loopw [5,11] (fun vo vi wr=>∃ (k:Nat) (G:List Nat) (xs:List Value),k≤n∧vi=.int .i64 k∧Gr wr w.heap.size 53 au vo ((rs.take k).flatMap (fun r=>Pl.bw r l)).length G (((rs.take k).flatMap (fun r=>Pl.bw r l)).flatMap lnD) xs∧Bel w wr) (fun _ vi _=>n - (intOf vi).toNat)
 case atStart=>exact⟨0,[],[],zN,rfl,Gr.nil _ _ _ _,HB.out⟩
 case round=>
  obtain⟨k,G,xs,hk,rfl,hG,hB⟩:=hrel;have fF:=uh hG;have dV:=uh hB;obtain⟨ua,uc,xK⟩:=hG.shape;subst xK;clear hG hB;by_cases bN:k<n
  rotate_left
  ·have kg:rs.take k=rs:=List.take_of_length_le (by have:=HN.out;omega);rw[kg]at fF ⊢;obtain⟨F,r,nd,fr⟩:=fF.out.done;have HD:Hid (fe aJ (aU (Pl.filled kind l)) w (.returned (.slice ua (rs.flatMap (fun r=>Pl.bw r l)).length uc)) wr):=by rw[HFE.out];exact⟨_,F,rfl,r,nd,fr,dV.out⟩
   clear r nd fr kg;go_wp2;go_ret;exact HD.out
  have eP:k<rs.length:=by have:=HN.out;omega
  have hn100:n≤100:=iD.out;obtain⟨p,o,c,a1,c1,v3,hv,hp,hg,_,qK⟩:=eE (ez.out.ae dV.out) eP;rw[← HN.out]at hv;injection hv with g1 _ g3
  subst g1;subst g3;obtain⟨a3,c3,e5⟩:=qK.aP;subst e5;have AV:Hid ((rs.getD k Pl.aO).dflt.length≤4194304):=by
   have e:rs.getD k Pl.aO=rs[k]:=by simp[eP]
   show _≤_;rw[e];exact It.out _ (List.getElem_mem eP)
  have qS:Hid (rs.take (k+1)=rs.take k++[rs.getD k Pl.aO]):=by
   have e:rs.getD k Pl.aO=rs[k]:=by simp[eP]
   show _=_;rw[e,List.take_succ_eq_append_getElem eP]
  have hle:((rs.take k).flatMap (fun r=>Pl.bw r l)).length≤100*1048577:=by
   have h1:=mW l (rs.take k);have h2:=KX.out.1;have h3:=iD.out;rw[List.length_take]at h1;exact Nat.le_trans h1 (Nat.mul_le_mul (by have:=HN.out;omega) (by omega))
  obtain⟨ru,vN⟩:∃ ru,ru=rs.getD k Pl.aO:=⟨_,rfl⟩
  rw[← vN]at hg qK AV qS;obtain⟨ac,Mr⟩:∃ ac,ac=(rs.take k).flatMap (fun r=>Pl.bw r l):=⟨_,rfl⟩
  rw[← Mr]at fF hle ⊢;have HAC:=uh Mr;have dd:(0:Int)≤(k:Int):=by omega
  have de:(k:Int)<(n:Int):=by omega
  obtain⟨y,hy⟩:∃ y,y=wr.alloc (.cells #[.string ru.key,.slice a1 ru.args.length c1,.bool ru.many,.slice a3 ru.dflt.length c3] 40):=⟨_,rfl⟩
  obtain⟨z0,ee⟩:∃ z,z=wr.heap.size:=⟨_,rfl⟩
  have fQ:Bel wr y:=by rw[hy];exact ah zR _
  have fk:Hid (aD y z0 [.string ru.key,.slice a1 ru.args.length c1,.bool ru.many,.slice a3 ru.dflt.length c3]):=by show aD _ _ _;rw[hy];exact aD.new _ #[.string ru.key,.slice a1 ru.args.length c1,.bool ru.many,.slice a3 ru.dflt.length c3] _ _ ee
  have HC:=uh (zX ru a1 a3 c1 c3 l (.slice va l.length vc) y (HL.out.ae (ai dV.out fQ)) (by have:=KX.out.1;omega) KX.out.2 (qK.ae fQ) AV.out);have tk:=uh (pt ru l);clear vN Mr;go_upto_region 5 with(refine wpList_load_mid rfl 40 _ rfl p (o+k*4) rfl [.string ru.key,.slice a1 ru.args.length c1,.bool ru.many,.slice a3 ru.dflt.length c3] _ hg Try.underlying40 rfl (by kernel_rfl) ?_)
  rw[← hy,← ee];clear hy ee hg hp qK;replace fF:=uh (fF.out.ae fQ)
  replace dV:=uh (ai dV.out fQ)
  clear fQ;have qP:=fk.out.at_;have pT:=fk.out.lt;go_wp2_with (refine wpList_load_mid rfl 40 _ rfl z0 0 rfl [.string ru.key,.slice a1 ru.args.length c1,.bool ru.many,.slice a3 ru.dflt.length c3] _ qP Try.underlying40 rfl (by kernel_rfl) ?_)
  refine HC.out.mono ?_;rintro e w1 ⟨v1,F,rfl,r,nd,fr,hb⟩;obtain⟨mt,BO⟩:∃ mt,mt=Pl.bw ru l:=⟨_,rfl⟩
  rw[← BO]at r tk;have HMT:=uh BO;obtain⟨wx,wc,ot⟩:=r.raw.aP;subst ot;have DL:=fF.out.ae hb;have G6:=ai dV.out hb;obtain⟨u,W2,G',xs',cg,cN,hgw,_⟩:=Fp (P:=Try.prog) w.heap.size 30 30 53 2 40 _ Try.bW Try.ey rfl (by decide) (by decide) au rfl DL r nd (fun b fE=>⟨Nat.le_trans dV.out.size (fr b fE),fun hq=>by have:=fF.out.rep.lt b hq;have:=fr b fE;omega,fun hq=>by have:=(bK fF.out.row hq).2;have:=fr b fE;omega⟩) (by have:=tk.out;have:=KX.out.1;omega) G6.size;have mg:Hid (Bel w W2):=fg G6 hgw (fun b e=>(bK DL.row e).1);have B9:Hid (Gr W2 w.heap.size 53 au u ((rs.take (k+1)).flatMap (fun r=>Pl.bw r l)).length G' (((rs.take (k+1)).flatMap (fun r=>Pl.bw r l)).flatMap lnD) xs'):=by
   show Gr _ _ _ _ _ _ _ _ _;rw[qS.out,List.flatMap_append,List.flatMap_singleton,← HAC.out,← HMT.out,List.length_append,List.flatMap_append];exact cN
  clear BO r nd fr hb DL G6 cN hgw qP pT HC fk;go_wp2_with (at_builtin;refine Go.Lib.wpList_append_run _ rfl _ _ 30 30 rfl _ _ rfl rfl _ W2 cg ?_)
  clear cg fF dV;go_roundw
  case rel=>exact⟨k+1,G',xs',bN,by go_num,B9.out,mg.out⟩
  case measure=>simp[intOf];omega
theorem CG (x:Pl.Bl) (aw:Option Addr) (cw B1 B2 mb:Nat) (vt vb vs:Value) (X:World) (h1:X.cell? ⟨B1,0,none⟩=some (.func (.func 20) #[] #[])) (jg:B1<X.heap.size) (h2:X.cell? ⟨B2,0,none⟩=some (.map (some mb))) (my:B2<X.heap.size) (hk:Kn X mb vt vb vs) (h:Raw X aJ [aU x.lines] [.slice aw x.lines.length cw]) (jS:x.lines.length≤1048576∧∀ y∈x.lines,y.ws.length≤4194304):
  Calls Try.prog 45 #[.agg #[.string x.kind,.string x.name,.slice aw x.lines.length cw],.pointer (some ⟨B1,0,none⟩),.pointer (some ⟨B2,0,none⟩)] X (Ans ar (blD ⟨x.kind,x.name,Pl.filled x.kind x.lines⟩) X):=by
 obtain⟨b0,bD⟩:∃ b,b=X.heap.size:=⟨_,rfl⟩
 obtain⟨wa,aS⟩:∃ wa,wa=(X.alloc (.cells #[.string x.kind,.string x.name,.slice aw x.lines.length cw] 32)).alloc (.cells #[.string {data:=#[]},.string {data:=#[]},.slice none 0 0] 32):=⟨_,rfl⟩
 have HB:Hid (Bel X wa):=by show Below _ _ _;rw[aS];exact ah (ah zR _) _
 have HX:Hid (aK wa b0 32 [.string x.kind,.string x.name,.slice aw x.lines.length cw]):=by show aK _ _ _ _;rw[aS,bD];exact(aK.new X [.string x.kind,.string x.name,.slice aw x.lines.length cw] _ _ rfl).ae (ah zR _)
 have HO:Hid (aL wa (b0+1) 32 3):=by show aL _ _ _ _;rw[aS];exact aL.er _ _ _ _ _ rfl (by simp[bD])
 have ZA:Hid (wa.heap.size=b0+2):=by show _=_;rw[aS];simp[bD]
 have HZ:=uh bD;obtain⟨ra,rc,oE,kZ⟩:=(hk.ae HB.out).look x.kind;have HC:=uh (CC x.kind ra rc x.lines (.slice aw x.lines.length cw) wa kZ (h.ae HB.out) jS.1 jS.2);have y1:wa.cell? ⟨B1,0,none⟩=some (.func (.func 20) #[] #[]):=(HB.out.cell (p:=⟨B1,0,none⟩) jg).trans h1;have y2:wa.cell? ⟨B2,0,none⟩=some (.map (some mb)):=(HB.out.cell (p:=⟨B2,0,none⟩) my).trans h2;have yl1:B1<wa.heap.size:=zL jg HB.out.size;have yl2:B2<wa.heap.size:=zL my HB.out.size;obtain⟨rn,FY⟩:∃ rn,rn=(Pl.aj x.kind).length:=⟨_,rfl⟩
 rw[← FY]at oE HC;clear FY;obtain⟨o,ho⟩:∃ o,o=Pl.filled x.kind x.lines:=⟨_,rfl⟩
 rw[← ho]at HC;rw[← ho];clear ho;go_enter Try.func45,Try.ntmps45
 go_upto_region 1 with fail
 rw[← aS,← bD];clear aS bD h1 h2 hk h jS kZ jg my;have x0:=HX.out.get 0 _ rfl;have x2:=HX.out.get 2 _ rfl;have xl:=HX.out.own.lt;go_wp2_with fail
 refine HC.out.mono ?_;rintro e w1 ⟨v1,F,rfl,r,nd,fr,hb⟩;obtain⟨wx,wc,ot⟩:=r.raw.aP;subst ot;have HR:=uh (And.intro r (And.intro nd fr));have kk:=HX.out.ae hb;obtain⟨y,hy⟩:∃ y,y=w1.setCell ⟨b0,2,none⟩ (.slice wx o.length wc):=⟨_,rfl⟩
 have pS:Hid (aK y b0 32 [.string x.kind,.string x.name,.slice wx o.length wc]):=by show aK _ _ _ _;rw[hy];exact kk.set 2 _ (by simp)
 have HM:Hid (Marks (fun b=>b=b0) w1 y):=by show Marks _ _ _;rw[hy];exact Marks.sc (S:=fun b=>b=b0) _ rfl _ _
 have fC:=uh (HM.out.own _ _ _ (HO.out.ae hb));have gQ:Hid (Bel X y):=HM.out.below (fun b e=>by rw[e,HZ.out];exact zE) (ai HB.out hb);have HF:Hid (∀ b∈F,b0+2≤b):=fun b hb=>by have:=HR.out.2.2 b hb;have:=ZA.out;omega
 have z2:=kk.get 2 _ rfl;have zf:=kk.own.frozen 2;have zz:=kk.own.lt;clear r nd fr hb x0 x2 xl oE y1 y2 yl1 yl2;go_upto_region 2 with fail
 rw[← hy];clear hy z2 zf zz kk HC;have lf:=pS.out.own.lt;have jH:=pS.out.at_;have bG:y.there (b0+1) 0 (#[.string x.kind,.string x.name,.slice wx o.length wc]:Array Value).size:=aR fC.out _ _ (by simp);obtain⟨we,bj⟩:∃ we,we=y.setCells (b0+1) 0 [.string x.kind,.string x.name,.slice wx o.length wc]:=⟨_,rfl⟩
 have dv:we.rangeAt (b0+1) 0 [.string x.kind,.string x.name,.slice wx o.length wc]:=by rw[bj];exact World.rangeAt_setCells_same _ _ _ _ bG
 have oB:Hid (Marks (fun b=>b=b0+1) y we):=by show Marks _ _ _;rw[bj];exact aN (S:=fun b=>b=b0+1) rfl _ _ _
 have gR:Hid (Bel X we):=by show Below _ _ _;rw[bj];exact cG (by have:=HZ.out;omega) _ _ _ gQ.out
 go_wp2_with (first|(refine wpList_load_mid rfl 32 _ rfl b0 0 rfl [.string x.kind,.string x.name,.slice wx o.length wc] _ jH Try.underlying32 rfl (by kernel_rfl) ?_)|(refine wpList_store_mid rfl 32 _ _ rfl (b0+1) 0 #[.string x.kind,.string x.name,.slice wx o.length wc] rfl rfl bG (by kernel_rfl) (by simp[Value.oneCell']) ?_))
 first|rw[← bj]|(simp only[List.toList_toArray];rw[← bj])
 try simp only[Act.put]
 refine bodyPost_ret (v:=.agg #[.string x.kind,.string x.name,.slice wx o.length wc]) (by simp[results,Try.results45,asAddr,run_loadVar_mid (P:=Try.prog) _ _ _ 32 [.string x.kind,.string x.name,.slice wx o.length wc] _ dv Try.underlying32 rfl (by kernel_rfl)]) rfl ?_;have M1:=HR.out.1.aY HM.out (fun b hb e=>by have:=HF.out b hb;omega);have M2:=M1.aY oB.out (fun b hb e=>by have:=HF.out b hb;omega);refine⟨[.string x.kind,.string x.name,.slice wx o.length wc],F++[],rfl,bB _ _ M2,by rw[List.append_nil];exact HR.out.2.1,fun b hb=>by rw[List.append_nil]at hb;have:=HF.out b hb;have:=HZ.out;omega,gR.out⟩
theorem zY (s:List Pl.Bl) (v:Value) (w:World) (h:Raw w aV [aW s] [v]) (hz:kr s) (gj:∀ b∈s,b.lines.length≤1048576∧∀ x∈b.lines,x.ws.length≤4194304):
  Calls Try.prog 19 #[.agg #[v],.func (.func 20) #[] #[]] w (Ans bX [aW (if Pl.aM s then s.map (fun x=>⟨x.kind,x.name,Pl.filled x.kind x.lines⟩) else [])] w):=by
 have HL:=uh h;have jD:=uh gj;have jI:=uh (fun hv:Pl.aM s=true=>gY hv);obtain⟨va,vc,ev⟩:=h.aP;subst ev;have vL:=uh (fun X (hX:Bel w X)=>mf s (.slice va s.length vc) X (h.ae hX) hz);clear h hz gj;obtain⟨n,hn⟩:∃ n,n=s.length:=⟨_,rfl⟩
 have HN:=uh hn;have eD:s.length=n:=hn.symm;clear hn;rw[eD]at vL jI;rw[eD];clear eD;obtain⟨R,hR⟩:∃ R,R=(if Pl.aM s then s.map (fun x:Pl.Bl=>(⟨x.kind,x.name,Pl.filled x.kind x.lines⟩:Pl.Bl)) else []):=⟨_,rfl⟩
 rw[← hR];obtain⟨vb0,Bz⟩:∃ x,x=Pl.aM s:=⟨_,rfl⟩
 rw[← Bz]at vL jI hR;have vM:=uh hR;clear hR Bz;obtain⟨b0,bD⟩:∃ b,b=w.heap.size:=⟨_,rfl⟩
 have HZ:=uh bD;obtain⟨wa,aS⟩:∃ wa,wa=((w.alloc (.cells #[.slice va n vc] 25)).alloc (.cells #[.func (.func 20) #[] #[]] 49)).alloc (.cells #[.slice none 0 0] 25):=⟨_,rfl⟩
 have HB:Hid (Bel w wa):=by show Below _ _ _;rw[aS];exact ah (ah (ah zR _) _) _
 have cu:Hid (aD wa b0 [.slice va n vc]):=by show aD _ _ _;rw[aS,bD];exact((aD.new w #[.slice va n vc] _ _ rfl).fI _).fI _
 have fz:Hid (aD wa (b0+1) [.func (.func 20) #[] #[]]):=by show aD _ _ _;rw[aS];exact(aD.new _ #[.func (.func 20) #[] #[]] _ _ (by simp[bD])).fI _
 have HO:Hid (aL wa (b0+2) 25 1):=by show aL _ _ _ _;rw[aS];exact aL.er _ _ _ _ _ rfl (by simp[bD])
 have ZA:Hid (wa.heap.size=b0+3):=by show _=_;rw[aS];simp[bD]
 go_enter Try.func19,Try.ntmps19
 go_upto_region 1 with fail
 rw[← aS,← bD];clear aS bD;have x0:=cu.out.get 0 _ rfl;have xl:=cu.out.lt;go_wp2_with fail
 refine(vL.out _ HB.out).mono ?_;rintro e w1 ⟨rfl,bZ⟩;have Bo:Hid (b0+3≤w1.heap.size):=by have:=ZA.out;have:=bZ.size;show _≤_;omega
 replace HB:=uh (ai HB.out bZ)
 replace cu:=uh (cu.out.ae bZ)
 replace fz:=uh (fz.out.ae bZ)
 replace HO:=uh (HO.out.ae bZ)
 clear bZ x0 xl vL ZA;cases vb0
 ·have DV:Hid (R=[]):=vM.out;obtain⟨oc,hoc⟩:=HO.out.cell 0 (by decide);have of:=HO.out.frozen 0;have ol:=HO.out.lt;have bG:w1.there (b0+2) 0 (#[.slice none 0 0]:Array Value).size:=aR HO.out _ _ (by simp);obtain⟨we,bj⟩:∃ we,we=w1.setCells (b0+2) 0 [.slice none 0 0]:=⟨_,rfl⟩
  have dv:we.rangeAt (b0+2) 0 [.slice none 0 0]:=by rw[bj];exact World.rangeAt_setCells_same _ _ _ _ bG
  have gR:Hid (Bel w we):=by show Below _ _ _;rw[bj];exact cG (by have:=HZ.out;omega) _ _ _ HB.out
  go_wp2_with (refine wpList_store_mid rfl 25 _ _ rfl (b0+2) 0 #[.slice none 0 0] rfl rfl bG (by kernel_rfl) (by simp[Value.oneCell']) ?_)
  first|rw[← bj]|(simp only[List.toList_toArray];rw[← bj])
  try simp only[Act.put]
  refine bodyPost_ret (v:=.agg #[.slice none 0 0]) (by simp[results,Try.results19,asAddr,run_loadVar_mid (P:=Try.prog) _ _ _ 25 [.slice none 0 0] _ dv Try.underlying25 rfl (by kernel_rfl)]) rfl ?_;rw[DV.out];exact⟨[.slice none 0 0],[],rfl,.emp _ _ _ rfl .nil,List.nodup_nil,by simp,gR.out⟩
 replace jI:=uh (jI.out rfl)
 have DV:Hid (R=s.map (fun x:Pl.Bl=>(⟨x.kind,x.name,Pl.filled x.kind x.lines⟩:Pl.Bl))):=vM.out;have tB:=uh (Ab w1);go_wp2_with fail
 refine tB.out.mono ?_;rintro e w2 ⟨mb,vt,vb,vs,rfl,de,hb⟩;obtain⟨w3,fy⟩:∃ w3,w3=w2.alloc (.cells #[.map (some mb)] 61):=⟨_,rfl⟩
 obtain⟨b3,eV⟩:∃ b,b=w2.heap.size:=⟨_,rfl⟩
 have qT:Bel w2 w3:=by rw[fy];exact ah zR _
 have mg:Hid (aD w3 b3 [.map (some mb)]):=by show aD _ _ _;rw[fy,eV];exact aD.new w2 #[.map (some mb)] _ _ rfl
 have HK:=uh (de.ae qT);have gu:=ai hb qT;replace HB:=uh (ai HB.out gu)
 replace cu:=uh (cu.out.ae gu)
 replace fz:=uh (fz.out.ae gu)
 replace HO:=uh (HO.out.ae gu)
 replace Bo:=uh (Nat.le_trans Bo.out gu.size)
 clear de hb qT gu tB;go_upto_region 4 with fail
 rw[← fy,← eV];clear fy eV;have HC:=uh (rS s (.slice va n vc) (b0+1) b3 w3 (by rw[HN.out];exact HL.out.ae HB.out) (by have:=jI.out;have:=HN.out;omega) (fun x=>⟨x.kind,x.name,Pl.filled x.kind x.lines⟩) (fun x aw cw X hx hX hr=>CG x aw cw (b0+1) b3 mb vt vb vs X ((fz.out.ae hX).get 0 _ rfl) (fz.out.ae hX).lt ((mg.out.ae hX).get 0 _ rfl) (mg.out.ae hX).lt (HK.out.ae hX) hr (jD.out x hx)));have x0:=cu.out.get 0 _ rfl;have xl:=cu.out.lt;go_wp2_with fail
 refine HC.out.mono ?_;rintro e w4 ⟨v4,F,rfl,r,nd,fr,hb⟩;obtain⟨a4,c4,D1⟩:=r.raw.aP;subst D1;have HR:=uh (And.intro r (And.intro nd fr));replace HO:=uh (HO.out.ae hb)
 replace HB:=uh (ai HB.out hb)
 have HF:Hid (∀ b∈F,b0+3≤b):=fun b hb=>Nat.le_trans Bo.out (HR.out.2.2 b hb);clear r nd fr hb x0 xl HC;obtain⟨q,hq⟩:∃ q,q=(s.map (fun x:Pl.Bl=>(⟨x.kind,x.name,Pl.filled x.kind x.lines⟩:Pl.Bl))):=⟨_,rfl⟩
 rw[← hq]at HR DV;rw[← hq];clear hq;have bG:w4.there (b0+2) 0 (#[.slice a4 q.length c4]:Array Value).size:=aR HO.out _ _ (by simp);obtain⟨we,bj⟩:∃ we,we=w4.setCells (b0+2) 0 [.slice a4 q.length c4]:=⟨_,rfl⟩
 have dv:we.rangeAt (b0+2) 0 [.slice a4 q.length c4]:=by rw[bj];exact World.rangeAt_setCells_same _ _ _ _ bG
 have oB:Hid (Marks (fun b=>b=b0+2) w4 we):=by show Marks _ _ _;rw[bj];exact aN (S:=fun b=>b=b0+2) rfl _ _ _
 have gR:Hid (Bel w we):=by show Below _ _ _;rw[bj];exact cG (by have:=HZ.out;omega) _ _ _ HB.out
 go_wp2_with (refine wpList_store_mid rfl 25 _ _ rfl (b0+2) 0 #[.slice a4 q.length c4] rfl rfl bG (by kernel_rfl) (by simp[Value.oneCell']) ?_)
 first|rw[← bj]|(simp only[List.toList_toArray];rw[← bj])
 try simp only[Act.put]
 refine bodyPost_ret (v:=.agg #[.slice a4 q.length c4]) (by simp[results,Try.results19,asAddr,run_loadVar_mid (P:=Try.prog) _ _ _ 25 [.slice a4 q.length c4] _ dv Try.underlying25 rfl (by kernel_rfl)]) rfl ?_;have M2:=HR.out.1.aY oB.out (fun b hb e=>by have:=HF.out b hb;omega);rw[DV.out];exact⟨[.slice a4 q.length c4],F,rfl,M2,HR.out.2.1,fun b hb=>by have:=HF.out b hb;have:=HZ.out;omega,gR.out⟩
theorem zS (s:List Pl.Bl) (v:Value) (w:World) (h:Raw w aV [aW s] [v]) (hz:kr s) (gj:∀ b∈s,b.lines.length≤1048576∧∀ x∈b.lines,x.ws.length≤4194304):
  Calls Try.prog 5 #[.agg #[v]] w (Ans bX [aW (if Pl.aM s then s.map (fun x=>⟨x.kind,x.name,Pl.filled x.kind x.lines⟩) else [])] w):=by
 obtain⟨va,vc,ev⟩:=h.aP;subst ev;obtain⟨n,hn⟩:∃ n,n=s.length:=⟨_,rfl⟩
 obtain⟨b0,bD⟩:∃ b,b=w.heap.size:=⟨_,rfl⟩
 have HZ:=uh bD;rw[← hn]at h;rw[← hn];obtain⟨wa,aS⟩:∃ wa,wa=(w.alloc (.cells #[.slice va n vc] 25)).alloc (.cells #[.slice none 0 0] 25):=⟨_,rfl⟩
 have HB:Hid (Bel w wa):=by show Below _ _ _;rw[aS];exact ah (ah zR _) _
 have cu:Hid (aD wa b0 [.slice va n vc]):=by show aD _ _ _;rw[aS,bD];exact(aD.new w #[.slice va n vc] _ _ rfl).fI _
 have HO:Hid (aL wa (b0+1) 25 1):=by show aL _ _ _ _;rw[aS];exact aL.er _ _ _ _ _ rfl (by simp[bD])
 have ZA:Hid (wa.heap.size=b0+2):=by show _=_;rw[aS];simp[bD]
 have HC:=uh (zY s (.slice va n vc) wa (h.ae HB.out) hz gj);clear hn h hz gj;obtain⟨q,hq⟩:∃ q,q=(if Pl.aM s then s.map (fun x:Pl.Bl=>(⟨x.kind,x.name,Pl.filled x.kind x.lines⟩:Pl.Bl)) else []):=⟨_,rfl⟩
 rw[← hq]at HC;rw[← hq];clear hq;go_enter Try.func5,Try.ntmps5
 go_upto_region 1 with fail
 rw[← aS,← bD];clear aS bD;have xa:=cu.out.at_;have x0:=cu.out.get 0 _ rfl;have xl:=cu.out.lt;go_wp2_with fail
 refine HC.out.mono ?_;rintro e w4 ⟨cc,F,rfl,r0,nd,fr,hb⟩;obtain⟨F0,v4,yg,rfl,r⟩:=du r0;rw[List.append_nil]at yg;subst yg;obtain⟨a4,c4,D1⟩:=r.raw.aP;subst D1;have HR:=uh (And.intro r (And.intro nd fr));replace HO:=uh (HO.out.ae hb)
 replace HB:=uh (ai HB.out hb)
 have HF:Hid (∀ b∈F,b0+2≤b):=fun b hb=>by have:=ZA.out;have:=HR.out.2.2 b hb;omega
 clear r r0 nd fr hb x0 xl xa HC;have bG:w4.there (b0+1) 0 (#[.slice a4 q.length c4]:Array Value).size:=aR HO.out _ _ (by simp);obtain⟨we,bj⟩:∃ we,we=w4.setCells (b0+1) 0 [.slice a4 q.length c4]:=⟨_,rfl⟩
 have dv:we.rangeAt (b0+1) 0 [.slice a4 q.length c4]:=by rw[bj];exact World.rangeAt_setCells_same _ _ _ _ bG
 have oB:Hid (Marks (fun b=>b=b0+1) w4 we):=by show Marks _ _ _;rw[bj];exact aN (S:=fun b=>b=b0+1) rfl _ _ _
 have gR:Hid (Bel w we):=by show Below _ _ _;rw[bj];exact cG (by have:=HZ.out;omega) _ _ _ HB.out
 go_wp2_with (refine wpList_store_mid rfl 25 _ _ rfl (b0+1) 0 #[.slice a4 q.length c4] rfl rfl bG (by kernel_rfl) (by simp[Value.oneCell']) ?_)
 first|rw[← bj]|(simp only[List.toList_toArray];rw[← bj])
 try simp only[Act.put]
 refine bodyPost_ret (v:=.agg #[.slice a4 q.length c4]) (by simp[results,Try.results5,asAddr,run_loadVar_mid (P:=Try.prog) _ _ _ 25 [.slice a4 q.length c4] _ dv Try.underlying25 rfl (by kernel_rfl)]) rfl ?_;have M2:=HR.out.1.aY oB.out (fun b hb e=>by have:=HF.out b hb;omega);exact⟨[.slice a4 q.length c4],F,rfl,M2,HR.out.2.1,fun b hb=>by have:=HF.out b hb;have:=HZ.out;omega,gR.out⟩
theorem CE (s:List Pl.Bl) (v:Value) (w:World) (h:Raw w aV [aW s] [v]) (hz:kr s) (hw:Pl.wsh s≤1048576):
  Calls Try.prog 5 #[.agg #[v]] w (Ans bX [aW (if Pl.aM s then s.map (fun x=>⟨x.kind,x.name,Pl.filled x.kind x.lines⟩) else [])] w):=zS s v w h hz (fH s hw)
theorem Ek {s:List Pl.Bl} (hz:kr s) (hw:Pl.wsh s≤1048576):∀ b∈s,Sm 1048576 b:=fun b hb=>
 ⟨(hz b hb).1,(fH s hw b hb).1,fun x hx=>⟨(fH s hw b hb).2 x hx,(hz b hb).2 x hx⟩⟩
structure Gz (s:List Pl.Bl):Prop where
 ok:kr s
 wt:Pl.wsh s≤1048576
 ln:s.length≤4194304
theorem Gz.lw {s:List Pl.Bl} (h:Gz s):∀ b∈s,b.lines.length≤4194304∧∀ x∈b.lines,x.ws.length≤4194304:=iP s h.wt
structure LF (X:World) (bs bf bt:Nat) (s f t:List Pl.Bl) (sa fa ta:Option Addr) (sc fc tc:Nat):Prop where
 xs:aD X bs [.slice sa s.length sc]
 xf:aD X bf [.slice fa f.length fc]
 xt:aD X bt [.slice ta t.length tc]
 rs:Raw X aV [aW s] [.slice sa s.length sc]
 rf:Raw X aV [aW f] [.slice fa f.length fc]
 rt:Raw X aV [aW t] [.slice ta t.length tc]
theorem LF.ae {X X':World} {bs bf bt:Nat} {s f t:List Pl.Bl} {sa fa ta:Option Addr} {sc fc tc:Nat} (h:LF X bs bf bt s f t sa fa ta sc fc tc) (hb:Bel X X'):LF X' bs bf bt s f t sa fa ta sc fc tc:=⟨h.xs.ae hb,h.xf.ae hb,h.xt.ae hb,h.rs.ae hb,h.rf.ae hb,h.rt.ae hb⟩
theorem y6 {s:List Pl.Bl} {v:Value} {X:World} (h:Raw X aV [aW s] [v]) (g:Gz s):Calls Try.prog 5 #[.agg #[v]] X (Ans bX [aW (Pl.bH s)] X):=by
 rw[← fill_eq];exact CE s v X h g.ok g.wt
theorem En {s:List Pl.Bl} {v:Value} {X:World} (h:Raw X aV [aW s] [v]) (g:Gz s):Calls Try.prog 6 #[.agg #[v]] X (Ans bX [aW (Pl.bR s)] X):=by
 rw[← CT];exact Cu s v X h g.ok g.wt
def Fh (s:List Pl.Bl) (f:List Pl.Bl) (t:List Pl.Bl) (sa:Option Addr) (fa:Option Addr) (ta:Option Addr) (sc:Nat) (fc:Nat) (tc:Nat):Nat→Value→World→Prop
 |0,vv,_=>vv=.agg #[.slice fa f.length fc]
 |1,vv,_=>vv=.agg #[.slice sa s.length sc]
 |2,vv,W=>∃ a m,vv=.agg #[.slice a f.length m]∧Raw W aV [aW f] [.slice a f.length m]
 |3,vv,_=>vv=.bool true
 |4,vv,_=>vv=.bool false
 |5,vv,_=>vv=.bool false
 |6,vv,_=>vv=.agg #[.slice ta t.length tc]
 |7,vv,_=>vv=.agg #[.slice sa s.length sc]
 |8,vv,W=>∃ a m,vv=.agg #[.slice a t.length m]∧Raw W aV [aW t] [.slice a t.length m]
 |9,vv,_=>vv=.bool true
 |10,vv,_=>vv=.bool false
 |11,vv,_=>vv=.bool false
 |_,_,_=>True
theorem xG (s:List Pl.Bl) (f:List Pl.Bl) (t:List Pl.Bl) (sa:Option Addr) (fa:Option Addr) (ta:Option Addr) (sc:Nat) (fc:Nat) (tc:Nat):∀ jj vv W W',Bel W W'→Fh s f t sa fa ta sc fc tc jj vv W→Fh s f t sa fa ta sc fc tc jj vv W':=by
 intro jj vv W W' hb h;match jj with
 |0=>exact h
 |1=>exact h
 |2=>
  obtain⟨a,m,e,h1⟩:=h;exact⟨a,m,e,h1.ae hb⟩
 |3=>exact h
 |4=>exact h
 |5=>exact h
 |6=>exact h
 |7=>exact h
 |8=>
  obtain⟨a,m,e,h1⟩:=h;exact⟨a,m,e,h1.ae hb⟩
 |9=>exact h
 |10=>exact h
 |11=>exact h
 |n+12=>exact trivial
def z9 (f:List Pl.Bl) (t:List Pl.Bl) (fa:Option Addr) (ta:Option Addr) (fc:Nat) (tc:Nat):Nat→Value→World→Prop
 |0,vv,_=>vv=.agg #[.slice fa f.length fc]
 |1,vv,W=>∃ a m,vv=.agg #[.slice a f.length m]∧Raw W aV [aW f] [.slice a f.length m]
 |2,vv,_=>vv=.agg #[.slice fa f.length fc]
 |3,vv,_=>vv=.bool true
 |4,vv,_=>vv=.bool false
 |5,vv,_=>vv=.bool false
 |6,vv,_=>vv=.agg #[.slice ta t.length tc]
 |7,vv,W=>∃ a m,vv=.agg #[.slice a f.length m]∧Raw W aV [aW f] [.slice a f.length m]
 |8,vv,_=>vv=.agg #[.slice fa f.length fc]
 |9,vv,_=>vv=.bool true
 |10,vv,_=>vv=.bool false
 |11,vv,_=>vv=.bool false
 |12,vv,_=>vv=.bool false
 |13,vv,_=>vv=.agg #[.slice fa f.length fc]
 |14,vv,W=>∃ a m,vv=.agg #[.slice a t.length m]∧Raw W aV [aW t] [.slice a t.length m]
 |15,vv,_=>vv=.agg #[.slice ta t.length tc]
 |16,vv,_=>vv=.bool true
 |17,vv,_=>vv=.bool false
 |18,vv,_=>vv=.bool false
 |19,vv,_=>vv=.bool false
 |20,vv,_=>vv=.agg #[.slice fa f.length fc]
 |21,vv,_=>vv=.bool true
 |22,vv,_=>vv=.bool false
 |23,vv,_=>vv=.bool false
 |24,vv,_=>vv=.bool false
 |25,vv,_=>vv=.agg #[.slice ta t.length tc]
 |26,vv,_=>vv=.bool true
 |27,vv,_=>vv=.bool false
 |28,vv,_=>vv=.bool false
 |_,_,_=>True
theorem ue (f:List Pl.Bl) (t:List Pl.Bl) (fa:Option Addr) (ta:Option Addr) (fc:Nat) (tc:Nat):∀ jj vv W W',Bel W W'→z9 f t fa ta fc tc jj vv W→z9 f t fa ta fc tc jj vv W':=by
 intro jj vv W W' hb h;match jj with
 |0=>exact h
 |1=>
  obtain⟨a,m,e,h1⟩:=h;exact⟨a,m,e,h1.ae hb⟩
 |2=>exact h
 |3=>exact h
 |4=>exact h
 |5=>exact h
 |6=>exact h
 |7=>
  obtain⟨a,m,e,h1⟩:=h;exact⟨a,m,e,h1.ae hb⟩
 |8=>exact h
 |9=>exact h
 |10=>exact h
 |11=>exact h
 |12=>exact h
 |13=>exact h
 |14=>
  obtain⟨a,m,e,h1⟩:=h;exact⟨a,m,e,h1.ae hb⟩
 |15=>exact h
 |16=>exact h
 |17=>exact h
 |18=>exact h
 |19=>exact h
 |20=>exact h
 |21=>exact h
 |22=>exact h
 |23=>exact h
 |24=>exact h
 |25=>exact h
 |26=>exact h
 |27=>exact h
 |28=>exact h
 |n+29=>exact trivial
def FN (bb:Nat) (s:List Pl.Bl) (sa:Option Addr) (sc:Nat) (b:Pl.Bl) (rp:Nat) (ro:Nat) (rc:Nat) (k:Nat) (l:List Pl.Ru) (r:Pl.Ru) (ml:List Pl.Ln):Nat→Value→World→Prop
 |0,vv,_=>vv=.agg #[.slice sa s.length sc]
 |1,vv,_=>vv=.pointer (some ⟨bb,0,none⟩)
 |2,vv,_=>vv=.string b.kind
 |3,vv,_=>vv=.pointer (some ⟨bb,1,none⟩)
 |4,vv,_=>vv=.string b.name
 |5,vv,_=>vv=.slice (some ⟨rp,ro,none⟩) l.length rc
 |6,vv,_=>vv=.int .i64 (k:Int)
 |7,vv,_=>vv=.pointer (some ⟨rp,ro+k*4,none⟩)
 |8,vv,_=>vv=.pointer (some ⟨rp,ro+k*4,none⟩)
 |9,vv,_=>vv=.string r.key
 |10,vv,W=>∃ a m,vv=.tuple #[.slice a ml.length m,.bool true]∧Raw W aJ [aU ml] [.slice a ml.length m]
 |11,vv,W=>∃ a m,vv=.tuple #[.slice a ml.length m,.bool true]∧Raw W aJ [aU ml] [.slice a ml.length m]
 |12,vv,W=>∃ a m,vv=.slice a ml.length m∧Raw W aJ [aU ml] [.slice a ml.length m]
 |13,vv,_=>vv=.bool true
 |14,vv,W=>∃ a m,vv=.slice a ml.length m∧Raw W aJ [aU ml] [.slice a ml.length m]
 |15,vv,_=>vv=.bool true
 |_,_,_=>True
theorem vZ (bb:Nat) (s:List Pl.Bl) (sa:Option Addr) (sc:Nat) (b:Pl.Bl) (rp:Nat) (ro:Nat) (rc:Nat) (k:Nat) (l:List Pl.Ru) (r:Pl.Ru) (ml:List Pl.Ln):∀ jj vv W W',Bel W W'→FN bb s sa sc b rp ro rc k l r ml jj vv W→FN bb s sa sc b rp ro rc k l r ml jj vv W':=by
 intro jj vv W W' hb h;match jj with
 |0=>exact h
 |1=>exact h
 |2=>exact h
 |3=>exact h
 |4=>exact h
 |5=>exact h
 |6=>exact h
 |7=>exact h
 |8=>exact h
 |9=>exact h
 |10=>
  obtain⟨a,m,e,h1⟩:=h;exact⟨a,m,e,h1.ae hb⟩
 |11=>
  obtain⟨a,m,e,h1⟩:=h;exact⟨a,m,e,h1.ae hb⟩
 |12=>
  obtain⟨a,m,e,h1⟩:=h;exact⟨a,m,e,h1.ae hb⟩
 |13=>exact h
 |14=>
  obtain⟨a,m,e,h1⟩:=h;exact⟨a,m,e,h1.ae hb⟩
 |15=>exact h
 |n+16=>exact trivial
def Fm (bb:Nat) (f:List Pl.Bl) (fa:Option Addr) (fc:Nat) (b:Pl.Bl) (rp:Nat) (ro:Nat) (rc:Nat) (k:Nat) (l:List Pl.Ru) (r:Pl.Ru) (ml:List Pl.Ln):Nat→Value→World→Prop
 |0,vv,_=>vv=.agg #[.slice fa f.length fc]
 |1,vv,_=>vv=.pointer (some ⟨bb,0,none⟩)
 |2,vv,_=>vv=.string b.kind
 |3,vv,_=>vv=.pointer (some ⟨bb,1,none⟩)
 |4,vv,_=>vv=.string b.name
 |5,vv,_=>vv=.slice (some ⟨rp,ro,none⟩) l.length rc
 |6,vv,_=>vv=.int .i64 (k:Int)
 |7,vv,_=>vv=.pointer (some ⟨rp,ro+k*4,none⟩)
 |8,vv,_=>vv=.pointer (some ⟨rp,ro+k*4,none⟩)
 |9,vv,_=>vv=.string r.key
 |10,vv,W=>∃ a m,vv=.tuple #[.slice a ml.length m,.bool true]∧Raw W aJ [aU ml] [.slice a ml.length m]
 |11,vv,W=>∃ a m,vv=.tuple #[.slice a ml.length m,.bool true]∧Raw W aJ [aU ml] [.slice a ml.length m]
 |12,vv,W=>∃ a m,vv=.slice a ml.length m∧Raw W aJ [aU ml] [.slice a ml.length m]
 |13,vv,_=>vv=.bool true
 |14,vv,W=>∃ a m,vv=.slice a ml.length m∧Raw W aJ [aU ml] [.slice a ml.length m]
 |15,vv,_=>vv=.bool true
 |_,_,_=>True
theorem vY (bb:Nat) (f:List Pl.Bl) (fa:Option Addr) (fc:Nat) (b:Pl.Bl) (rp:Nat) (ro:Nat) (rc:Nat) (k:Nat) (l:List Pl.Ru) (r:Pl.Ru) (ml:List Pl.Ln):∀ jj vv W W',Bel W W'→Fm bb f fa fc b rp ro rc k l r ml jj vv W→Fm bb f fa fc b rp ro rc k l r ml jj vv W':=by
 intro jj vv W W' hb h;match jj with
 |0=>exact h
 |1=>exact h
 |2=>exact h
 |3=>exact h
 |4=>exact h
 |5=>exact h
 |6=>exact h
 |7=>exact h
 |8=>exact h
 |9=>exact h
 |10=>
  obtain⟨a,m,e,h1⟩:=h;exact⟨a,m,e,h1.ae hb⟩
 |11=>
  obtain⟨a,m,e,h1⟩:=h;exact⟨a,m,e,h1.ae hb⟩
 |12=>
  obtain⟨a,m,e,h1⟩:=h;exact⟨a,m,e,h1.ae hb⟩
 |13=>exact h
 |14=>
  obtain⟨a,m,e,h1⟩:=h;exact⟨a,m,e,h1.ae hb⟩
 |15=>exact h
 |n+16=>exact trivial
def Fz (bb:Nat) (t:List Pl.Bl) (ta:Option Addr) (tc:Nat) (b:Pl.Bl) (rp:Nat) (ro:Nat) (rc:Nat) (k:Nat) (l:List Pl.Ru) (r:Pl.Ru) (ml:List Pl.Ln):Nat→Value→World→Prop
 |0,vv,_=>vv=.agg #[.slice ta t.length tc]
 |1,vv,_=>vv=.pointer (some ⟨bb,0,none⟩)
 |2,vv,_=>vv=.string b.kind
 |3,vv,_=>vv=.pointer (some ⟨bb,1,none⟩)
 |4,vv,_=>vv=.string b.name
 |5,vv,_=>vv=.slice (some ⟨rp,ro,none⟩) l.length rc
 |6,vv,_=>vv=.int .i64 (k:Int)
 |7,vv,_=>vv=.pointer (some ⟨rp,ro+k*4,none⟩)
 |8,vv,_=>vv=.pointer (some ⟨rp,ro+k*4,none⟩)
 |9,vv,_=>vv=.string r.key
 |10,vv,W=>∃ a m,vv=.tuple #[.slice a ml.length m,.bool true]∧Raw W aJ [aU ml] [.slice a ml.length m]
 |11,vv,W=>∃ a m,vv=.tuple #[.slice a ml.length m,.bool true]∧Raw W aJ [aU ml] [.slice a ml.length m]
 |12,vv,W=>∃ a m,vv=.slice a ml.length m∧Raw W aJ [aU ml] [.slice a ml.length m]
 |13,vv,_=>vv=.bool true
 |14,vv,W=>∃ a m,vv=.slice a ml.length m∧Raw W aJ [aU ml] [.slice a ml.length m]
 |15,vv,_=>vv=.bool true
 |_,_,_=>True
theorem xi (bb:Nat) (t:List Pl.Bl) (ta:Option Addr) (tc:Nat) (b:Pl.Bl) (rp:Nat) (ro:Nat) (rc:Nat) (k:Nat) (l:List Pl.Ru) (r:Pl.Ru) (ml:List Pl.Ln):∀ jj vv W W',Bel W W'→Fz bb t ta tc b rp ro rc k l r ml jj vv W→Fz bb t ta tc b rp ro rc k l r ml jj vv W':=by
 intro jj vv W W' hb h;match jj with
 |0=>exact h
 |1=>exact h
 |2=>exact h
 |3=>exact h
 |4=>exact h
 |5=>exact h
 |6=>exact h
 |7=>exact h
 |8=>exact h
 |9=>exact h
 |10=>
  obtain⟨a,m,e,h1⟩:=h;exact⟨a,m,e,h1.ae hb⟩
 |11=>
  obtain⟨a,m,e,h1⟩:=h;exact⟨a,m,e,h1.ae hb⟩
 |12=>
  obtain⟨a,m,e,h1⟩:=h;exact⟨a,m,e,h1.ae hb⟩
 |13=>exact h
 |14=>
  obtain⟨a,m,e,h1⟩:=h;exact⟨a,m,e,h1.ae hb⟩
 |15=>exact h
 |n+16=>exact trivial
theorem vI (k:ByteArray):∀ r∈Pl.aj k,r.key.size≤1048576:=by
 unfold Pl.aj;split
 ·decide+kernel
 ·split
  ·decide+kernel
  ·split<;>decide+kernel
theorem rV (k:ByteArray):∀ r∈Pl.aj k,r.dflt.length≤4194304:=by
 unfold Pl.aj;split
 ·decide+kernel
 ·split
  ·decide+kernel
  ·split<;>decide+kernel
theorem rH {s:List Pl.Bl} (g:Gz s) {b:Pl.Bl} (hb:b∈s) {r:Pl.Ru} (hr:r∈Pl.aj b.kind):(Pl.bw r b.lines).length≤4194304∧∀ x∈Pl.bw r b.lines,x.ws.length≤4194304:=by
 have h:=g.lw b hb;constructor
 ·unfold Pl.bw;split
  ·simp
  ·exact Nat.le_trans (Pl.ef _ _) h.1
 ·intro x hx;rcases g8.1 hx with q|q
  ·exact h.2 x q.1
  ·rw[q.2.2];exact rV _ r hr
theorem xj {s:List Pl.Bl} (g:Gz s) (kind name key:ByteArray):(Pl.bV s kind name key).1.length≤4194304∧∀ x∈(Pl.bV s kind name key).1,x.ws.length≤4194304:=by
 unfold Pl.bV;cases Pl.aM s with
 |false=>exact⟨by simp,by simp⟩
 |true=>
  cases hf:Pl.dJ s kind name with
  |none=>exact⟨by simp,by simp⟩
  |some k=>
   cases hj:Pl.bJ (Pl.aj kind) key with
   |none=>exact⟨by simp,by simp⟩
   |some j=>
    have hk:=Pl.nG hf;have hm:s.getD k Pl.aG∈s:=by simp[hk]
    have h:=g.lw _ hm;have Bb:=Pl.fm hj;have hr:(Pl.aj kind).getD j Pl.aO∈Pl.aj kind:=by simp[Bb]
    show (if decide ((Pl.aI (s.getD k Pl.aG).lines key).length=0)&& !((Pl.aj kind).getD j Pl.aO).many then [(⟨key,((Pl.aj kind).getD j Pl.aO).dflt⟩:Pl.Ln)] else Pl.aI (s.getD k Pl.aG).lines key).length≤4194304∧∀ x∈(if decide ((Pl.aI (s.getD k Pl.aG).lines key).length=0)&& !((Pl.aj kind).getD j Pl.aO).many then [(⟨key,((Pl.aj kind).getD j Pl.aO).dflt⟩:Pl.Ln)] else Pl.aI (s.getD k Pl.aG).lines key),x.ws.length≤4194304;split
    ·refine⟨by simp,fun x hx=> ?_⟩;simp at hx;rw[hx];exact rV _ _ hr
    ·exact⟨Nat.le_trans (Pl.ef _ _) h.1,fun x hx=>h.2 x (List.mem_filter.1 hx).1⟩
theorem ku {s:List Pl.Bl} (g:Gz s) {b:Pl.Bl} (hb:b∈s):b.kind.size≤1048576∧b.name.size≤1048576:=by
 have h1:=Pl.eX (fun b=>Pl.wbl b+1) s b hb;have h2:Pl.wbl b=b.kind.size+b.name.size+(b.lines.map fun x=>Pl.wln x+1).sum:=rfl;have h3:=g.wt;unfold Pl.wsh at h3;omega
theorem CF (v:Value) (W:World) (h:ij W v)
  (hD:∀ X,Bel W X→Calls Try.prog 4 #[v] X fun e W'=>(∃ s sv,e=.returned (.agg #[sv])∧Raw W' aV [aW s] [sv]∧Gz s∧Gz (Pl.bH s)∧Gz (Pl.bR s))∧Bel X W')
  (hG:∀ X,Bel W X→Calls Try.prog 15 #[v] X fun e W'=>(∃ o sv kind name key,e=.returned (.tuple #[.agg #[sv],.string kind,.string name,.string key])∧Raw W' aV [aW o] [sv]∧Gz o∧kind.size≤1048576∧name.size≤1048576∧key.size≤1048576)∧Bel X W'):
  Calls Try.prog 3 #[v] W fun e w'=>e=.returned (.bool true)∧Bel W w':=by
 have GC:=uh hG;obtain⟨a,n0,c,hv⟩:∃ a n c,v=.slice a n c:=by rcases h with⟨a,c,e⟩|⟨b,off,n,cap,e,_⟩;exact⟨_,_,_,e⟩;exact⟨_,_,_,e⟩
 subst hv;have HD:=uh (hD W zR);clear h hD hG;go_enter Try.func3,Try.ntmps3
 by_cases hbig:(1048576:Int)<(n0:Int)
 ·go_wp2;go_ret;exact⟨rfl,zR⟩
 go_wp2_with fail
 refine HD.out.mono ?_;rintro e W1 ⟨⟨s,sv,rfl,hs,hz,L5,Lq⟩,bZ⟩;obtain⟨sa,sc,D5⟩:=hs.aP;subst D5;have yw:=uh hz;obtain⟨w2,kX⟩:∃ w2,w2=W1.alloc (.cells #[.slice sa s.length sc] 25):=⟨_,rfl⟩
 obtain⟨bs,ES⟩:∃ bs,bs=W1.heap.size:=⟨_,rfl⟩
 have dP:Bel W1 w2:=by rw[kX];exact ah zR _
 have mU:Hid (aD w2 bs [.slice sa s.length sc]):=by show aD _ _ _;rw[kX,ES];exact aD.new W1 #[.slice sa s.length sc] _ _ rfl
 have jf:=uh (hs.ae dP);have HB:=uh (ai bZ dP);have tA:=uh (y6 jf.out yw.out);obtain⟨f,hf⟩:∃ f,f=Pl.bH s:=⟨_,rfl⟩
 obtain⟨t,ht⟩:∃ t,t=Pl.bR s:=⟨_,rfl⟩
 rw[← hf]at tA L5;rw[← ht]at Lq;have HF:=uh hf;have HT:=uh ht;have yn:=uh L5;have Dq:=uh Lq;go_upto_region 4 with fail
 rw[← kX,← ES];clear kX ES bZ dP hs hz L5 Lq hf ht HD hbig;have zs:=mU.out.at_;have ys:=mU.out.lt;go_wp2_with (refine wpList_load_mid rfl 25 _ rfl bs 0 rfl [.slice sa s.length sc] _ zs Try.underlying25 rfl (by kernel_rfl) ?_)
 refine tA.out.mono ?_;rintro e W3 ⟨c3,F3,rfl,kf,_,_,eV⟩;obtain⟨v3,rfl,oh⟩:=fR kf.raw;obtain⟨fa,fc,lT⟩:=oh.aP;subst lT;obtain⟨w4,B4⟩:∃ w4,w4=W3.alloc (.cells #[.slice fa f.length fc] 25):=⟨_,rfl⟩
 obtain⟨bf,LA⟩:∃ bf,bf=W3.heap.size:=⟨_,rfl⟩
 have qD:Bel W3 w4:=by rw[B4];exact ah zR _
 have HXF:Hid (aD w4 bf [.slice fa f.length fc]):=by show aD _ _ _;rw[B4,LA];exact aD.new W3 #[.slice fa f.length fc] _ _ rfl
 have HRF:=uh (oh.ae qD);replace mU:=uh ((mU.out.ae eV).ae qD)
 replace jf:=uh ((jf.out.ae eV).ae qD)
 replace HB:=uh (ai (ai HB.out eV) qD)
 have xY:=uh (En jf.out yw.out);rw[← HT.out]at xY;go_upto_region 5 with fail
 rw[← B4,← LA];clear B4 LA eV qD kf oh zs ys tA;have zs:=mU.out.at_;have ys:=mU.out.lt;go_wp2_with (refine wpList_load_mid rfl 25 _ rfl bs 0 rfl [.slice sa s.length sc] _ zs Try.underlying25 rfl (by kernel_rfl) ?_)
 refine xY.out.mono ?_;rintro e W5 ⟨c5,F5,rfl,JO,_,_,mH⟩;obtain⟨v5,rfl,Jx⟩:=fR JO.raw;obtain⟨ta,tc,lT⟩:=Jx.aP;subst lT;obtain⟨w6,vX⟩:∃ w6,w6=W5.alloc (.cells #[.slice ta t.length tc] 25):=⟨_,rfl⟩
 obtain⟨bt,EH⟩:∃ bt,bt=W5.heap.size:=⟨_,rfl⟩
 have lX:Bel W5 w6:=by rw[vX];exact ah zR _
 have hxt:aD w6 bt [.slice ta t.length tc]:=by rw[vX,EH];exact aD.new W5 #[.slice ta t.length tc] _ _ rfl
 have HL:Hid (LF w6 bs bf bt s f t sa fa ta sc fc tc):=⟨(mU.out.ae mH).ae lX,(HXF.out.ae mH).ae lX,hxt,(jf.out.ae mH).ae lX,(HRF.out.ae mH).ae lX,Jx.ae lX⟩
 replace HB:=uh (ai (ai HB.out mH) lX)
 have HSF:Hid (∀ X,Bel w6 X→Calls Try.prog 8 #[.agg #[.slice sa s.length sc]] X (Ans bX [aW f] X)):=fun X hX=>by rw[HF.out];exact tY s _ X (HL.out.ae hX).rs (Ek yw.out.ok yw.out.wt)
 have jJ:Hid (∀ X,Bel w6 X→Calls Try.prog 9 #[.agg #[.slice sa s.length sc]] X (Ans bX [aW t] X)):=fun X hX=>by rw[HT.out];exact tW s _ X (HL.out.ae hX).rs (Ek yw.out.ok yw.out.wt)
 go_upto_region 6 with fail
 rw[← vX,← EH];clear vX EH mH lX JO Jx hxt zs ys xY mU HXF jf HRF;refine RY.aH w6 zR (Fh s f t sa fa ta sc fc tc) (xG _ _ _ _ _ _ _ _ _) (by kernel_rfl) (by kernel_rfl) (by kernel_rfl) (by kernel_rfl) ?_ ?_
 ·intro ii o' ho a X hX hk hd;have zbs:=HL.out.xs.ae hX;have zbsl:=zbs.lt;have zbf:=HL.out.xf.ae hX;have zbfl:=zbf.lt;have zbt:=HL.out.xt.ae hX;have zbtl:=zbt.lt;match ii,ho with
  |0,ho=>
   injection ho with ho;subst ho
   have v4:a.eval (.tmp 4)=.pointer (some ⟨bf,0,none⟩):=(hk 4 (by kernel_rfl)).trans rfl;exact Or.inl ⟨RY.al rfl,Or.inl ⟨_,X,aq 25 _ rfl bf 0 v4 [.slice fa f.length fc] _ zbf.at_ Try.underlying25 rfl (by kernel_rfl),zR,rfl⟩⟩
  |1,ho=>
   injection ho with ho;subst ho
   have v3:a.eval (.tmp 3)=.pointer (some ⟨bs,0,none⟩):=(hk 3 (by kernel_rfl)).trans rfl;exact Or.inl ⟨RY.al rfl,Or.inl ⟨_,X,aq 25 _ rfl bs 0 v3 [.slice sa s.length sc] _ zbs.at_ Try.underlying25 rfl (by kernel_rfl),zR,rfl⟩⟩
  |2,ho=>
   injection ho with ho;subst ho
   have e34:a.tmps[34]?.getD undef=.agg #[.slice sa s.length sc]:=(RY.af a 34).trans (hd 1 _ 34 rfl rfl ⟨⟨1,.data⟩,by simp,rfl,rfl⟩);refine Or.inl ⟨RY.al rfl,Or.inr ⟨8,#[.agg #[.slice sa s.length sc]],by simp[go_sem,e34],(HSF.out X hX).mono ?_⟩⟩;rintro e W' ⟨c,F,rfl,hr,_,_,hb⟩;obtain⟨v,rfl,hv⟩:=fR hr.raw;obtain⟨a,m,lT⟩:=hv.aP;subst lT;exact⟨_,rfl,hb,a,m,rfl,hv⟩
  |3,ho=>
   injection ho with ho;subst ho
   have e33:a.tmps[33]?.getD undef=.agg #[.slice fa f.length fc]:=(RY.af a 33).trans (hd 0 _ 33 rfl rfl ⟨⟨0,.data⟩,by simp,rfl,rfl⟩);obtain⟨a1,m1,q35,ji⟩:=hd 2 _ 35 rfl rfl ⟨⟨2,.data⟩,by simp,rfl,rfl⟩;have e35:a.tmps[35]?.getD undef=.agg #[.slice a1 f.length m1]:=(RY.af a 35).trans q35;refine Or.inl ⟨RY.al rfl,Or.inr ⟨7,#[.agg #[.slice fa f.length fc],.agg #[.slice a1 f.length m1]],by simp[go_sem,e33,e35],(i9 f _ _ X (HL.out.ae hX).rf ji yn.out.ln yn.out.lw).mono ?_⟩⟩;rintro e W' ⟨rfl,hb⟩;exact⟨_,rfl,hb,rfl⟩
  |4,ho=>
   injection ho with ho;subst ho
   have e36:a.tmps[36]?.getD undef=.bool true:=(RY.af a 36).trans (hd 3 _ 36 rfl rfl ⟨⟨3,.data⟩,by simp,rfl,rfl⟩);exact Or.inl ⟨RY.al rfl,Or.inl ⟨.bool false,X,by simp[execOp,go_sem,e36],zR,rfl⟩⟩
  |5,ho=>
   injection ho with ho;subst ho
   have e37:a.tmps[37]?.getD undef=.bool false:=(RY.af a 37).trans (hd 4 _ 37 rfl rfl ⟨⟨4,.data⟩,by simp,rfl,rfl⟩);exact Or.inl ⟨RY.al rfl,Or.inl ⟨.bool false,X,by simp[execOp,go_sem,e37],zR,rfl⟩⟩
  |6,ho=>
   injection ho with ho;subst ho
   have gd:=hd 5 _ 38 rfl rfl ⟨⟨5,.guard⟩,by simp,rfl,rfl⟩;have v5:a.eval (.tmp 5)=.pointer (some ⟨bt,0,none⟩):=(hk 5 (by kernel_rfl)).trans rfl;exact Or.inl ⟨(RY.ak rfl rfl rfl gd).trans rfl,Or.inl ⟨_,X,aq 25 _ rfl bt 0 v5 [.slice ta t.length tc] _ zbt.at_ Try.underlying25 rfl (by kernel_rfl),zR,rfl⟩⟩
  |7,ho=>
   injection ho with ho;subst ho
   have gd:=hd 5 _ 38 rfl rfl ⟨⟨5,.guard⟩,by simp,rfl,rfl⟩;have v3:a.eval (.tmp 3)=.pointer (some ⟨bs,0,none⟩):=(hk 3 (by kernel_rfl)).trans rfl;exact Or.inl ⟨(RY.ak rfl rfl rfl gd).trans rfl,Or.inl ⟨_,X,aq 25 _ rfl bs 0 v3 [.slice sa s.length sc] _ zbs.at_ Try.underlying25 rfl (by kernel_rfl),zR,rfl⟩⟩
  |8,ho=>
   injection ho with ho;subst ho
   have gd:=hd 5 _ 38 rfl rfl ⟨⟨5,.guard⟩,by simp,rfl,rfl⟩;have e40:a.tmps[40]?.getD undef=.agg #[.slice sa s.length sc]:=(RY.af a 40).trans (hd 7 _ 40 rfl rfl ⟨⟨7,.data⟩,by simp,rfl,rfl⟩);refine Or.inl ⟨(RY.ak rfl rfl rfl gd).trans rfl,Or.inr ⟨9,#[.agg #[.slice sa s.length sc]],by simp[go_sem,e40],(jJ.out X hX).mono ?_⟩⟩;rintro e W' ⟨c,F,rfl,hr,_,_,hb⟩;obtain⟨v,rfl,hv⟩:=fR hr.raw;obtain⟨a,m,lT⟩:=hv.aP;subst lT;exact⟨_,rfl,hb,a,m,rfl,hv⟩
  |9,ho=>
   injection ho with ho;subst ho
   have gd:=hd 5 _ 38 rfl rfl ⟨⟨5,.guard⟩,by simp,rfl,rfl⟩;have e39:a.tmps[39]?.getD undef=.agg #[.slice ta t.length tc]:=(RY.af a 39).trans (hd 6 _ 39 rfl rfl ⟨⟨6,.data⟩,by simp,rfl,rfl⟩);obtain⟨a2,m2,q41,kh⟩:=hd 8 _ 41 rfl rfl ⟨⟨8,.data⟩,by simp,rfl,rfl⟩;have e41:a.tmps[41]?.getD undef=.agg #[.slice a2 t.length m2]:=(RY.af a 41).trans q41;refine Or.inl ⟨(RY.ak rfl rfl rfl gd).trans rfl,Or.inr ⟨7,#[.agg #[.slice ta t.length tc],.agg #[.slice a2 t.length m2]],by simp[go_sem,e39,e41],(i9 t _ _ X (HL.out.ae hX).rt kh Dq.out.ln Dq.out.lw).mono ?_⟩⟩;rintro e W' ⟨rfl,hb⟩;exact⟨_,rfl,hb,rfl⟩
  |10,ho=>
   injection ho with ho;subst ho
   have gd:=hd 5 _ 38 rfl rfl ⟨⟨5,.guard⟩,by simp,rfl,rfl⟩;have e42:a.tmps[42]?.getD undef=.bool true:=(RY.af a 42).trans (hd 9 _ 42 rfl rfl ⟨⟨9,.data⟩,by simp,rfl,rfl⟩);exact Or.inl ⟨(RY.ak rfl rfl rfl gd).trans rfl,Or.inl ⟨.bool false,X,by simp[execOp,go_sem,e42],zR,rfl⟩⟩
  |11,ho=>
   injection ho with ho;subst ho
   have e38:a.tmps[38]?.getD undef=.bool false:=(RY.af a 38).trans (hd 5 _ 38 rfl rfl ⟨⟨5,.data⟩,by simp,rfl,rfl⟩);have e43:a.tmps[43]?.getD undef=.bool false:=(RY.af a 43).trans (hd 10 _ 43 rfl rfl ⟨⟨10,.data⟩,by simp,rfl,rfl⟩);exact Or.inl ⟨RY.al rfl,Or.inl ⟨.bool false,X,by simp[execOp,go_sem,e38,e43],zR,rfl⟩⟩
  |n+12,ho=>simp at ho
 intro X vs hX bd;have q44:vs 44=_:=bd 11 _ 44 rfl rfl;simp only[RY.aE,Act.put,List.setIfInBounds_toArray,List.set_cons_zero,List.set_cons_succ];rw[q44];generalize vs 33=og;generalize vs 34=oz;generalize vs 35=k6;generalize vs 36=k9;generalize vs 37=lj;generalize vs 38=lY;generalize vs 39=mu;generalize vs 40=s40;generalize vs 41=s41;generalize vs 42=s42;generalize vs 43=s43;clear bd q44;replace HL:=uh (HL.out.ae hX)
 replace HB:=uh (ai HB.out hX)
 clear hX HSF jJ;obtain⟨w7,AS⟩:∃ w7,w7=X:=⟨_,rfl⟩
 subst AS;have Jo:Hid (Calls Try.prog 10 #[.agg #[.slice sa s.length sc]] w7 fun e w'=>e=.returned (.bool (Pl.aM s))∧Bel w7 w'):=gx s _ w7 HL.out.rs yw.out.ok;obtain⟨vb,Bt⟩:∃ vb,vb=Pl.aM s:=⟨_,rfl⟩
 rw[← Bt]at Jo;have HV:=uh Bt;clear Bt;have zs:=HL.out.xs.at_;have ys:=HL.out.xs.lt;go_wp2_with (refine wpList_load_mid rfl 25 _ rfl bs 0 rfl [.slice sa s.length sc] _ zs Try.underlying25 rfl (by kernel_rfl) ?_)
 refine Jo.out.mono ?_;rintro e w8 ⟨rfl,lW⟩;replace HL:=uh (HL.out.ae lW)
 replace HB:=uh (ai HB.out lW)
 clear lW zs ys Jo;cases vb with
 |false=>
  have hn:=wB (s:=s) HV.out.symm;rw[← HF.out,← HT.out]at hn;obtain⟨Js,htn⟩:=hn;subst Js;subst htn;have zf:=HL.out.xf.get 0 _ rfl;have yf:=HL.out.xf.lt;have zt:=HL.out.xt.get 0 _ rfl;have yt:=HL.out.xt.lt;go_wp2;go_ret;exact⟨rfl,HB.out⟩
 |true=>
  have hv:=HV.out.symm;have KA:=uh hv;have J3:Hid (∀ X,Bel w8 X→Calls Try.prog 5 #[.agg #[.slice fa f.length fc]] X (Ans bX [aW f] X)):=fun X hX=>by
   have:=y6 (HL.out.ae hX).rf yn.out;have e:Pl.bH f=f:=by rw[HF.out];exact xA hv
   rw[e]at this;exact this
  have JB:Hid (∀ X,Bel w8 X→Calls Try.prog 5 #[.agg #[.slice ta t.length tc]] X (Ans bX [aW f] X)):=fun X hX=>by
   have:=y6 (HL.out.ae hX).rt Dq.out;have e:Pl.bH t=f:=by rw[HT.out,HF.out];exact wi hv
   rw[e]at this;exact this
  have HIT:Hid (∀ X,Bel w8 X→Calls Try.prog 6 #[.agg #[.slice fa f.length fc]] X (Ans bX [aW t] X)):=fun X hX=>by
   have:=En (HL.out.ae hX).rf yn.out;have e:Pl.bR f=t:=by rw[HT.out,HF.out];exact xC hv
   rw[e]at this;exact this
  have HVF:Hid (∀ X,Bel w8 X→Calls Try.prog 11 #[.agg #[.slice fa f.length fc]] X fun e w'=>e=.returned (.bool true)∧Bel X w'):=fun X hX=>by
   have:=gE f _ X (HL.out.ae hX).rf yn.out.ok (by rw[gU];exact yn.out.wt);rw[show Pl.aM f=true by rw[HF.out];exact iv hv]at this;exact this
  have HVT:Hid (∀ X,Bel w8 X→Calls Try.prog 11 #[.agg #[.slice ta t.length tc]] X fun e w'=>e=.returned (.bool true)∧Bel X w'):=fun X hX=>by
   have:=gE t _ X (HL.out.ae hX).rt Dq.out.ok (by rw[gU];exact Dq.out.wt);rw[show Pl.aM t=true by rw[HT.out];exact j4 hv]at this;exact this
  clear hv HV;go_upto_region 10 with fail
  refine RY.aH w8 zR (z9 f t fa ta fc tc) (ue _ _ _ _ _ _) (by kernel_rfl) (by kernel_rfl) (by kernel_rfl) (by kernel_rfl) ?_ ?_
  ·intro ii o' ho a X hX hk hd;have zbs:=HL.out.xs.ae hX;have zbsl:=zbs.lt;have zbf:=HL.out.xf.ae hX;have zbfl:=zbf.lt;have zbt:=HL.out.xt.ae hX;have zbtl:=zbt.lt;match ii,ho with
   |0,ho=>
    injection ho with ho;subst ho
    have v4:a.eval (.tmp 4)=.pointer (some ⟨bf,0,none⟩):=(hk 4 (by kernel_rfl)).trans rfl;exact Or.inl ⟨RY.al rfl,Or.inl ⟨_,X,aq 25 _ rfl bf 0 v4 [.slice fa f.length fc] _ zbf.at_ Try.underlying25 rfl (by kernel_rfl),zR,rfl⟩⟩
   |1,ho=>
    injection ho with ho;subst ho
    have e56:a.tmps[56]?.getD undef=.agg #[.slice fa f.length fc]:=(RY.af a 56).trans (hd 0 _ 56 rfl rfl ⟨⟨0,.data⟩,by simp,rfl,rfl⟩);refine Or.inl ⟨RY.al rfl,Or.inr ⟨5,#[.agg #[.slice fa f.length fc]],by simp[go_sem,e56],(J3.out X hX).mono ?_⟩⟩;rintro e W' ⟨c,F,rfl,hr,_,_,hb⟩;obtain⟨v,rfl,hv⟩:=fR hr.raw;obtain⟨a,m,lT⟩:=hv.aP;subst lT;exact⟨_,rfl,hb,a,m,rfl,hv⟩
   |2,ho=>
    injection ho with ho;subst ho
    have v4:a.eval (.tmp 4)=.pointer (some ⟨bf,0,none⟩):=(hk 4 (by kernel_rfl)).trans rfl;exact Or.inl ⟨RY.al rfl,Or.inl ⟨_,X,aq 25 _ rfl bf 0 v4 [.slice fa f.length fc] _ zbf.at_ Try.underlying25 rfl (by kernel_rfl),zR,rfl⟩⟩
   |3,ho=>
    injection ho with ho;subst ho
    obtain⟨a1,m1,q57,ji⟩:=hd 1 _ 57 rfl rfl ⟨⟨1,.data⟩,by simp,rfl,rfl⟩;have e57:a.tmps[57]?.getD undef=.agg #[.slice a1 f.length m1]:=(RY.af a 57).trans q57;have e58:a.tmps[58]?.getD undef=.agg #[.slice fa f.length fc]:=(RY.af a 58).trans (hd 2 _ 58 rfl rfl ⟨⟨2,.data⟩,by simp,rfl,rfl⟩);refine Or.inl ⟨RY.al rfl,Or.inr ⟨7,#[.agg #[.slice a1 f.length m1],.agg #[.slice fa f.length fc]],by simp[go_sem,e57,e58],(i9 f _ _ X ji (HL.out.ae hX).rf yn.out.ln yn.out.lw).mono ?_⟩⟩;rintro e W' ⟨rfl,hb⟩;exact⟨_,rfl,hb,rfl⟩
   |4,ho=>
    injection ho with ho;subst ho
    have e59:a.tmps[59]?.getD undef=.bool true:=(RY.af a 59).trans (hd 3 _ 59 rfl rfl ⟨⟨3,.data⟩,by simp,rfl,rfl⟩);exact Or.inl ⟨RY.al rfl,Or.inl ⟨.bool false,X,by simp[execOp,go_sem,e59],zR,rfl⟩⟩
   |5,ho=>
    injection ho with ho;subst ho
    have e60:a.tmps[60]?.getD undef=.bool false:=(RY.af a 60).trans (hd 4 _ 60 rfl rfl ⟨⟨4,.data⟩,by simp,rfl,rfl⟩);exact Or.inl ⟨RY.al rfl,Or.inl ⟨.bool false,X,by simp[execOp,go_sem,e60],zR,rfl⟩⟩
   |6,ho=>
    injection ho with ho;subst ho
    have gd:=hd 5 _ 61 rfl rfl ⟨⟨5,.guard⟩,by simp,rfl,rfl⟩;have v5:a.eval (.tmp 5)=.pointer (some ⟨bt,0,none⟩):=(hk 5 (by kernel_rfl)).trans rfl;exact Or.inl ⟨(RY.ak rfl rfl rfl gd).trans rfl,Or.inl ⟨_,X,aq 25 _ rfl bt 0 v5 [.slice ta t.length tc] _ zbt.at_ Try.underlying25 rfl (by kernel_rfl),zR,rfl⟩⟩
   |7,ho=>
    injection ho with ho;subst ho
    have gd:=hd 5 _ 61 rfl rfl ⟨⟨5,.guard⟩,by simp,rfl,rfl⟩;have e62:a.tmps[62]?.getD undef=.agg #[.slice ta t.length tc]:=(RY.af a 62).trans (hd 6 _ 62 rfl rfl ⟨⟨6,.data⟩,by simp,rfl,rfl⟩);refine Or.inl ⟨(RY.ak rfl rfl rfl gd).trans rfl,Or.inr ⟨5,#[.agg #[.slice ta t.length tc]],by simp[go_sem,e62],(JB.out X hX).mono ?_⟩⟩;rintro e W' ⟨c,F,rfl,hr,_,_,hb⟩;obtain⟨v,rfl,hv⟩:=fR hr.raw;obtain⟨a,m,lT⟩:=hv.aP;subst lT;exact⟨_,rfl,hb,a,m,rfl,hv⟩
   |8,ho=>
    injection ho with ho;subst ho
    have gd:=hd 5 _ 61 rfl rfl ⟨⟨5,.guard⟩,by simp,rfl,rfl⟩;have v4:a.eval (.tmp 4)=.pointer (some ⟨bf,0,none⟩):=(hk 4 (by kernel_rfl)).trans rfl;exact Or.inl ⟨(RY.ak rfl rfl rfl gd).trans rfl,Or.inl ⟨_,X,aq 25 _ rfl bf 0 v4 [.slice fa f.length fc] _ zbf.at_ Try.underlying25 rfl (by kernel_rfl),zR,rfl⟩⟩
   |9,ho=>
    injection ho with ho;subst ho
    have gd:=hd 5 _ 61 rfl rfl ⟨⟨5,.guard⟩,by simp,rfl,rfl⟩;obtain⟨a2,m2,q63,kh⟩:=hd 7 _ 63 rfl rfl ⟨⟨7,.data⟩,by simp,rfl,rfl⟩;have e63:a.tmps[63]?.getD undef=.agg #[.slice a2 f.length m2]:=(RY.af a 63).trans q63;have e64:a.tmps[64]?.getD undef=.agg #[.slice fa f.length fc]:=(RY.af a 64).trans (hd 8 _ 64 rfl rfl ⟨⟨8,.data⟩,by simp,rfl,rfl⟩);refine Or.inl ⟨(RY.ak rfl rfl rfl gd).trans rfl,Or.inr ⟨7,#[.agg #[.slice a2 f.length m2],.agg #[.slice fa f.length fc]],by simp[go_sem,e63,e64],(i9 f _ _ X kh (HL.out.ae hX).rf yn.out.ln yn.out.lw).mono ?_⟩⟩;rintro e W' ⟨rfl,hb⟩;exact⟨_,rfl,hb,rfl⟩
   |10,ho=>
    injection ho with ho;subst ho
    have gd:=hd 5 _ 61 rfl rfl ⟨⟨5,.guard⟩,by simp,rfl,rfl⟩;have e65:a.tmps[65]?.getD undef=.bool true:=(RY.af a 65).trans (hd 9 _ 65 rfl rfl ⟨⟨9,.data⟩,by simp,rfl,rfl⟩);exact Or.inl ⟨(RY.ak rfl rfl rfl gd).trans rfl,Or.inl ⟨.bool false,X,by simp[execOp,go_sem,e65],zR,rfl⟩⟩
   |11,ho=>
    injection ho with ho;subst ho
    have e61:a.tmps[61]?.getD undef=.bool false:=(RY.af a 61).trans (hd 5 _ 61 rfl rfl ⟨⟨5,.data⟩,by simp,rfl,rfl⟩);have e66:a.tmps[66]?.getD undef=.bool false:=(RY.af a 66).trans (hd 10 _ 66 rfl rfl ⟨⟨10,.data⟩,by simp,rfl,rfl⟩);exact Or.inl ⟨RY.al rfl,Or.inl ⟨.bool false,X,by simp[execOp,go_sem,e61,e66],zR,rfl⟩⟩
   |12,ho=>
    injection ho with ho;subst ho
    have e67:a.tmps[67]?.getD undef=.bool false:=(RY.af a 67).trans (hd 11 _ 67 rfl rfl ⟨⟨11,.data⟩,by simp,rfl,rfl⟩);exact Or.inl ⟨RY.al rfl,Or.inl ⟨.bool false,X,by simp[execOp,go_sem,e67],zR,rfl⟩⟩
   |13,ho=>
    injection ho with ho;subst ho
    have gd:=hd 12 _ 68 rfl rfl ⟨⟨12,.guard⟩,by simp,rfl,rfl⟩;have v4:a.eval (.tmp 4)=.pointer (some ⟨bf,0,none⟩):=(hk 4 (by kernel_rfl)).trans rfl;exact Or.inl ⟨(RY.ak rfl rfl rfl gd).trans rfl,Or.inl ⟨_,X,aq 25 _ rfl bf 0 v4 [.slice fa f.length fc] _ zbf.at_ Try.underlying25 rfl (by kernel_rfl),zR,rfl⟩⟩
   |14,ho=>
    injection ho with ho;subst ho
    have gd:=hd 12 _ 68 rfl rfl ⟨⟨12,.guard⟩,by simp,rfl,rfl⟩;have e69:a.tmps[69]?.getD undef=.agg #[.slice fa f.length fc]:=(RY.af a 69).trans (hd 13 _ 69 rfl rfl ⟨⟨13,.data⟩,by simp,rfl,rfl⟩);refine Or.inl ⟨(RY.ak rfl rfl rfl gd).trans rfl,Or.inr ⟨6,#[.agg #[.slice fa f.length fc]],by simp[go_sem,e69],(HIT.out X hX).mono ?_⟩⟩;rintro e W' ⟨c,F,rfl,hr,_,_,hb⟩;obtain⟨v,rfl,hv⟩:=fR hr.raw;obtain⟨a,m,lT⟩:=hv.aP;subst lT;exact⟨_,rfl,hb,a,m,rfl,hv⟩
   |15,ho=>
    injection ho with ho;subst ho
    have gd:=hd 12 _ 68 rfl rfl ⟨⟨12,.guard⟩,by simp,rfl,rfl⟩;have v5:a.eval (.tmp 5)=.pointer (some ⟨bt,0,none⟩):=(hk 5 (by kernel_rfl)).trans rfl;exact Or.inl ⟨(RY.ak rfl rfl rfl gd).trans rfl,Or.inl ⟨_,X,aq 25 _ rfl bt 0 v5 [.slice ta t.length tc] _ zbt.at_ Try.underlying25 rfl (by kernel_rfl),zR,rfl⟩⟩
   |16,ho=>
    injection ho with ho;subst ho
    have gd:=hd 12 _ 68 rfl rfl ⟨⟨12,.guard⟩,by simp,rfl,rfl⟩;obtain⟨a3,m3,q70,kf⟩:=hd 14 _ 70 rfl rfl ⟨⟨14,.data⟩,by simp,rfl,rfl⟩;have e70:a.tmps[70]?.getD undef=.agg #[.slice a3 t.length m3]:=(RY.af a 70).trans q70;have e71:a.tmps[71]?.getD undef=.agg #[.slice ta t.length tc]:=(RY.af a 71).trans (hd 15 _ 71 rfl rfl ⟨⟨15,.data⟩,by simp,rfl,rfl⟩);refine Or.inl ⟨(RY.ak rfl rfl rfl gd).trans rfl,Or.inr ⟨7,#[.agg #[.slice a3 t.length m3],.agg #[.slice ta t.length tc]],by simp[go_sem,e70,e71],(i9 t _ _ X kf (HL.out.ae hX).rt Dq.out.ln Dq.out.lw).mono ?_⟩⟩;rintro e W' ⟨rfl,hb⟩;exact⟨_,rfl,hb,rfl⟩
   |17,ho=>
    injection ho with ho;subst ho
    have gd:=hd 12 _ 68 rfl rfl ⟨⟨12,.guard⟩,by simp,rfl,rfl⟩;have e72:a.tmps[72]?.getD undef=.bool true:=(RY.af a 72).trans (hd 16 _ 72 rfl rfl ⟨⟨16,.data⟩,by simp,rfl,rfl⟩);exact Or.inl ⟨(RY.ak rfl rfl rfl gd).trans rfl,Or.inl ⟨.bool false,X,by simp[execOp,go_sem,e72],zR,rfl⟩⟩
   |18,ho=>
    injection ho with ho;subst ho
    have e68:a.tmps[68]?.getD undef=.bool false:=(RY.af a 68).trans (hd 12 _ 68 rfl rfl ⟨⟨12,.data⟩,by simp,rfl,rfl⟩);have e73:a.tmps[73]?.getD undef=.bool false:=(RY.af a 73).trans (hd 17 _ 73 rfl rfl ⟨⟨17,.data⟩,by simp,rfl,rfl⟩);exact Or.inl ⟨RY.al rfl,Or.inl ⟨.bool false,X,by simp[execOp,go_sem,e68,e73],zR,rfl⟩⟩
   |19,ho=>
    injection ho with ho;subst ho
    have e74:a.tmps[74]?.getD undef=.bool false:=(RY.af a 74).trans (hd 18 _ 74 rfl rfl ⟨⟨18,.data⟩,by simp,rfl,rfl⟩);exact Or.inl ⟨RY.al rfl,Or.inl ⟨.bool false,X,by simp[execOp,go_sem,e74],zR,rfl⟩⟩
   |20,ho=>
    injection ho with ho;subst ho
    have gd:=hd 19 _ 75 rfl rfl ⟨⟨19,.guard⟩,by simp,rfl,rfl⟩;have v4:a.eval (.tmp 4)=.pointer (some ⟨bf,0,none⟩):=(hk 4 (by kernel_rfl)).trans rfl;exact Or.inl ⟨(RY.ak rfl rfl rfl gd).trans rfl,Or.inl ⟨_,X,aq 25 _ rfl bf 0 v4 [.slice fa f.length fc] _ zbf.at_ Try.underlying25 rfl (by kernel_rfl),zR,rfl⟩⟩
   |21,ho=>
    injection ho with ho;subst ho
    have gd:=hd 19 _ 75 rfl rfl ⟨⟨19,.guard⟩,by simp,rfl,rfl⟩;have e76:a.tmps[76]?.getD undef=.agg #[.slice fa f.length fc]:=(RY.af a 76).trans (hd 20 _ 76 rfl rfl ⟨⟨20,.data⟩,by simp,rfl,rfl⟩);refine Or.inl ⟨(RY.ak rfl rfl rfl gd).trans rfl,Or.inr ⟨11,#[.agg #[.slice fa f.length fc]],by simp[go_sem,e76],(HVF.out X hX).mono ?_⟩⟩;rintro e W' ⟨rfl,hb⟩;exact⟨_,rfl,hb,rfl⟩
   |22,ho=>
    injection ho with ho;subst ho
    have gd:=hd 19 _ 75 rfl rfl ⟨⟨19,.guard⟩,by simp,rfl,rfl⟩;have e77:a.tmps[77]?.getD undef=.bool true:=(RY.af a 77).trans (hd 21 _ 77 rfl rfl ⟨⟨21,.data⟩,by simp,rfl,rfl⟩);exact Or.inl ⟨(RY.ak rfl rfl rfl gd).trans rfl,Or.inl ⟨.bool false,X,by simp[execOp,go_sem,e77],zR,rfl⟩⟩
   |23,ho=>
    injection ho with ho;subst ho
    have e75:a.tmps[75]?.getD undef=.bool false:=(RY.af a 75).trans (hd 19 _ 75 rfl rfl ⟨⟨19,.data⟩,by simp,rfl,rfl⟩);have e78:a.tmps[78]?.getD undef=.bool false:=(RY.af a 78).trans (hd 22 _ 78 rfl rfl ⟨⟨22,.data⟩,by simp,rfl,rfl⟩);exact Or.inl ⟨RY.al rfl,Or.inl ⟨.bool false,X,by simp[execOp,go_sem,e75,e78],zR,rfl⟩⟩
   |24,ho=>
    injection ho with ho;subst ho
    have e79:a.tmps[79]?.getD undef=.bool false:=(RY.af a 79).trans (hd 23 _ 79 rfl rfl ⟨⟨23,.data⟩,by simp,rfl,rfl⟩);exact Or.inl ⟨RY.al rfl,Or.inl ⟨.bool false,X,by simp[execOp,go_sem,e79],zR,rfl⟩⟩
   |25,ho=>
    injection ho with ho;subst ho
    have gd:=hd 24 _ 80 rfl rfl ⟨⟨24,.guard⟩,by simp,rfl,rfl⟩;have v5:a.eval (.tmp 5)=.pointer (some ⟨bt,0,none⟩):=(hk 5 (by kernel_rfl)).trans rfl;exact Or.inl ⟨(RY.ak rfl rfl rfl gd).trans rfl,Or.inl ⟨_,X,aq 25 _ rfl bt 0 v5 [.slice ta t.length tc] _ zbt.at_ Try.underlying25 rfl (by kernel_rfl),zR,rfl⟩⟩
   |26,ho=>
    injection ho with ho;subst ho
    have gd:=hd 24 _ 80 rfl rfl ⟨⟨24,.guard⟩,by simp,rfl,rfl⟩;have e81:a.tmps[81]?.getD undef=.agg #[.slice ta t.length tc]:=(RY.af a 81).trans (hd 25 _ 81 rfl rfl ⟨⟨25,.data⟩,by simp,rfl,rfl⟩);refine Or.inl ⟨(RY.ak rfl rfl rfl gd).trans rfl,Or.inr ⟨11,#[.agg #[.slice ta t.length tc]],by simp[go_sem,e81],(HVT.out X hX).mono ?_⟩⟩;rintro e W' ⟨rfl,hb⟩;exact⟨_,rfl,hb,rfl⟩
   |27,ho=>
    injection ho with ho;subst ho
    have gd:=hd 24 _ 80 rfl rfl ⟨⟨24,.guard⟩,by simp,rfl,rfl⟩;have e82:a.tmps[82]?.getD undef=.bool true:=(RY.af a 82).trans (hd 26 _ 82 rfl rfl ⟨⟨26,.data⟩,by simp,rfl,rfl⟩);exact Or.inl ⟨(RY.ak rfl rfl rfl gd).trans rfl,Or.inl ⟨.bool false,X,by simp[execOp,go_sem,e82],zR,rfl⟩⟩
   |28,ho=>
    injection ho with ho;subst ho
    have e80:a.tmps[80]?.getD undef=.bool false:=(RY.af a 80).trans (hd 24 _ 80 rfl rfl ⟨⟨24,.data⟩,by simp,rfl,rfl⟩);have e83:a.tmps[83]?.getD undef=.bool false:=(RY.af a 83).trans (hd 27 _ 83 rfl rfl ⟨⟨27,.data⟩,by simp,rfl,rfl⟩);exact Or.inl ⟨RY.al rfl,Or.inl ⟨.bool false,X,by simp[execOp,go_sem,e80,e83],zR,rfl⟩⟩
   |n+29,ho=>simp at ho
  intro X vs hX bd;have q84:vs 84=_:=bd 28 _ 84 rfl rfl;simp only[RY.aE,Act.put,List.setIfInBounds_toArray,List.set_cons_zero,List.set_cons_succ];rw[q84];generalize vs 56=s56;generalize vs 57=s57;generalize vs 58=s58;generalize vs 59=s59;generalize vs 60=s60;generalize vs 61=s61;generalize vs 62=s62;generalize vs 63=s63;generalize vs 64=s64;generalize vs 65=s65;generalize vs 66=s66;generalize vs 67=s67;generalize vs 68=s68;generalize vs 69=s69;generalize vs 70=s70;generalize vs 71=s71;generalize vs 72=s72;generalize vs 73=s73;generalize vs 74=s74;generalize vs 75=s75;generalize vs 76=s76;generalize vs 77=s77;generalize vs 78=s78;generalize vs 79=s79;generalize vs 80=s80;generalize vs 81=s81;generalize vs 82=s82;generalize vs 83=s83;clear bd q84;replace HL:=uh (HL.out.ae hX)
  replace HB:=uh (ai HB.out hX)
  clear hX J3 JB HIT HVF HVT;obtain⟨w9,yv⟩:∃ w9,w9=X:=⟨_,rfl⟩
  subst yv;go_wp2;go_loopw [6] (fun vi wr=>∃ i:Nat,i≤s.length∧vi=.int .i64 i∧LF wr bs bf bt s f t sa fa ta sc fc tc∧Bel W wr) (fun vi _=>s.length - (intOf vi).toNat)
  case atStart=>exact⟨0,zN,rfl,HL.out,HB.out⟩
  case round=>
   obtain⟨i,hi,rfl,hL,hB⟩:=hrel;replace HL:=uh hL
   replace HB:=uh hB
   clear hL hB;have AR:=yw.out.ln;have z0:=HL.out.xs.get 0 _ rfl;have zl:=HL.out.xs.lt;by_cases bN:i<s.length
   rotate_left
   ·have hz:¬ ((i:Int)<(s.length:Int)):=by omega
    go_wp2_with fail
    refine(GC.out _ HB.out).mono ?_;rintro e W20 ⟨⟨o,ov,kind,name,key,rfl,ho,hzo,yz,EE,hk3⟩,Jc⟩;obtain⟨oa,oc,hov⟩:=ho.aP;subst hov;have J1:=uh hzo;obtain⟨pZ,qw⟩:∃ pZ,pZ=W20.alloc (.cells #[.slice oa o.length oc] 25):=⟨_,rfl⟩
    obtain⟨bo,MN⟩:∃ bo,bo=W20.heap.size:=⟨_,rfl⟩
    have Ha:Bel W20 pZ:=by rw[qw];exact ah zR _
    have GM:Hid (aD pZ bo [.slice oa o.length oc]):=by show aD _ _ _;rw[qw,MN];exact aD.new W20 #[.slice oa o.length oc] _ _ rfl
    have HRO:=uh (ho.ae Ha);replace HB:=uh (ai (ai HB.out Jc) Ha)
    have HI:=uh (jm o (.slice oa o.length oc) kind name key pZ HRO.out J1.out.ok J1.out.wt yz EE hk3);have LX:=uh (xj J1.out kind name key);obtain⟨gl,pT⟩:∃ gl,gl=(Pl.bV o kind name key).1:=⟨_,rfl⟩
    obtain⟨gb,Mn⟩:∃ gb,gb=(Pl.bV o kind name key).2:=⟨_,rfl⟩
    have HS:Hid (∀ X,Bel pZ X→Calls Try.prog 16 #[.agg #[.slice oa o.length oc],.string kind,.string name,.string key] X (gF aJ (aU gl) gb X)):=fun X hX=>by rw[pT,Mn];exact wZ o _ kind name key X (HRO.out.ae hX) J1.out.ok J1.out.lw
    rw[← pT,← Mn]at HI;rw[← pT]at LX;go_upto_region 26 with fail
    rw[← qw,← MN];clear qw MN Jc Ha ho hzo yz EE hk3 pT Mn hz z0 zl GC;have zo:=GM.out.at_;have yo:=GM.out.lt;go_wp2_with (refine wpList_load_mid rfl 25 _ rfl bo 0 rfl [.slice oa o.length oc] _ zo Try.underlying25 rfl (by kernel_rfl) ?_)
    refine HI.out.mono ?_;rintro e E0 ⟨v1,F1,rfl,ji,_,_,Dr⟩;obtain⟨a1,m1,jK⟩:=ji.raw.aP;subst jK;have gP:=uh ji.raw;replace GM:=uh (GM.out.ae Dr)
    replace HB:=uh (ai HB.out Dr)
    have qC:=uh (HS.out E0 Dr);clear ji Dr zo yo HI HS;have zo:=GM.out.at_;have yo:=GM.out.lt;go_upto_region 27 with fail
    go_wp2_with (refine wpList_load_mid rfl 25 _ rfl bo 0 rfl [.slice oa o.length oc] _ zo Try.underlying25 rfl (by kernel_rfl) ?_)
    refine qC.out.mono ?_;rintro e Ht ⟨v2,F2,rfl,kh,_,_,xV⟩;obtain⟨a2,m2,fK⟩:=kh.raw.aP;subst fK;have HW:=uh (kF gl _ _ Ht (gP.out.ae xV) kh.raw LX.out.1 LX.out.2);replace HB:=uh (ai HB.out xV)
    clear kh xV zo yo qC gP GM;cases gb<;>go_wp2_with fail
    all_goals refine HW.out.mono ?_
    all_goals rintro e Cf ⟨rfl,sX⟩
    all_goals have HE:=uh (ai HB.out sX)
    all_goals clear sX
    all_goals go_wp2
    all_goals go_ret
    all_goals exact⟨rfl,HE.out⟩
   rcases cL HL.out.rs with⟨e0,_⟩|⟨p,o,c',hv,hp,_,aZ⟩
   ·omega
   injection hv with g1 _ g3
   have z1:wr.cell? ⟨bs,0,none⟩=some (.slice (some ⟨p,o,none⟩) s.length c'):=by rw[← g1,← g3];exact z0
   clear z0 g1 g3;obtain⟨la,lc,hg,hlr⟩:=aZ i bN;have Me:s.getD i Pl.aG∈s:=by simp[bN]
   obtain⟨b,hb⟩:∃ b,b=s.getD i Pl.aG:=⟨_,rfl⟩
   rw[← hb]at hg hlr Me;have Cc:=uh Me;obtain⟨lh,om⟩:∃ lh,lh=wr.alloc (.cells #[.string b.kind,.string b.name,.slice la b.lines.length lc] 32):=⟨_,rfl⟩
   obtain⟨bb,fL⟩:∃ bb,bb=wr.heap.size:=⟨_,rfl⟩
   have G4:Bel wr lh:=by rw[om];exact ah zR _
   have HX:Hid (aD lh bb [.string b.kind,.string b.name,.slice la b.lines.length lc]):=by show aD _ _ _;rw[om,fL];exact aD.new wr #[.string b.kind,.string b.name,.slice la b.lines.length lc] _ _ rfl
   have eT:(0:Int)≤(i:Int):=by omega
   have gN:(i:Int)<(s.length:Int):=by omega
   have lb:=uh (HL.out.ae G4);have HBN:=uh (ai HB.out G4);clear hb hlr aZ Me;go_upto_region 16 with(refine wpList_load_mid rfl 32 _ rfl p (o+i*3) rfl [.string b.kind,.string b.name,.slice la b.lines.length lc] _ hg Try.underlying32 rfl (by kernel_rfl) ?_)
   rw[← om,← fL];clear om fL G4 hg hp z1 zl eT gN HL HB;have HL:=lb;have HB:=HBN;clear lb HBN;have yi:=uh (sf b.kind lh);obtain⟨l,hl⟩:∃ l,l=Pl.aj b.kind:=⟨_,rfl⟩
   rw[← hl]at yi;have GU:=uh hl;clear hl;have x0:=HX.out.get 0 _ rfl;have xl:=HX.out.lt;go_wp2_with fail
   refine yi.out.mono ?_;rintro e tG ⟨rv,Frv,rfl,kZ,_,_,DC⟩;obtain⟨ra,rc,Jl⟩:=kZ.raw.aP;subst Jl;have Ka:=uh kZ.raw;replace HX:=uh (HX.out.ae DC)
   replace HL:=uh (HL.out.ae DC)
   replace HB:=uh (ai HB.out DC)
   have kk:=HX;clear kZ DC x0 xl yi HX;go_wp2;go_loopw [9] (fun vi wr=>∃ k:Nat,k≤l.length∧vi=.int .i64 k∧LF wr bs bf bt s f t sa fa ta sc fc tc∧aD wr bb [.string b.kind,.string b.name,.slice la b.lines.length lc]∧Raw wr [.row 40 aC] [bQ l] [.slice ra l.length rc]∧Bel W wr) (fun vi _=>l.length - (intOf vi).toNat)
   case atStart=>exact⟨0,zN,rfl,HL.out,kk.out,Ka.out,HB.out⟩
   case round=>
    clear kk Ka;obtain⟨k,hk,rfl,hL,JN,KJ,hB⟩:=hrel;replace HL:=uh hL
    have HX:=uh JN;have ez:=uh KJ;replace HB:=uh hB
    clear hL JN KJ hB;have iN:l.length≤12:=by rw[GU.out];exact cP _
    by_cases hlt2:k<l.length
    rotate_left
    ·have jT:¬ ((k:Int)<(l.length:Int)):=by omega
     go_wp2;go_roundw
     case rel=>exact⟨i+1,by omega,by go_num,HL.out,HB.out⟩
     case measure=>simp[intOf];omega
    obtain⟨rp,ro,rc',a1,c1,v3,hv,hp,cN,_⟩:=eE ez.out hlt2;injection hv with g1 _ g3
    subst g1;subst g3;have DJ:l.getD k Pl.aO∈l:=by simp[hlt2]
    obtain⟨r,hr⟩:∃ r,r=l.getD k Pl.aO:=⟨_,rfl⟩
    rw[← hr]at cN DJ;rw[GU.out]at DJ;obtain⟨ml,ec⟩:∃ ml,ml=Pl.bw r b.lines:=⟨_,rfl⟩
    obtain⟨wq,tv⟩:∃ wq,wq=wr:=⟨_,rfl⟩
    rw[← tv]at HL HX ez HB hp cN ⊢;clear tv;have jS:=ku yw.out Cc.out;have kg:=vI b.kind r DJ;have xI:Hid (∀ X,Bel wq X→Calls Try.prog 13 #[.agg #[.slice sa s.length sc],.string b.kind,.string b.name,.string r.key] X (gF aJ (aU ml) true X)):=fun X hX=>by
     have:=jm s _ b.kind b.name r.key X (HL.out.ae hX).rs yw.out.ok yw.out.wt jS.1 jS.2 kg;rw[get_at KA.out Cc.out DJ,← ec]at this;exact this
    have mh:Hid (∀ X,Bel wq X→Calls Try.prog 13 #[.agg #[.slice fa f.length fc],.string b.kind,.string b.name,.string r.key] X (gF aJ (aU ml) true X)):=fun X hX=>by
     have:=jm f _ b.kind b.name r.key X (HL.out.ae hX).rf yn.out.ok yn.out.wt jS.1 jS.2 kg;have e:=Ao KA.out Cc.out DJ;rw[← HF.out]at e;rw[e,← ec]at this;exact this
    have B9:Hid (∀ X,Bel wq X→Calls Try.prog 13 #[.agg #[.slice ta t.length tc],.string b.kind,.string b.name,.string r.key] X (gF aJ (aU ml) true X)):=fun X hX=>by
     have:=jm t _ b.kind b.name r.key X (HL.out.ae hX).rt Dq.out.ok Dq.out.wt jS.1 jS.2 kg;have e:=Ap KA.out Cc.out DJ;rw[← HT.out]at e;rw[e,← ec]at this;exact this
    have KU:Hid (ml.length≤4194304∧∀ x∈ml,x.ws.length≤4194304):=by
     show _∧_;rw[ec];exact rH yw.out Cc.out DJ
    have Et:Hid (r.many=false→ml.length=1):=fun hm=>by rw[ec];exact pO (cI KA.out b Cc.out) DJ hm
    have lk:=uh cN;have ic:=uh hp;have dd:(0:Int)≤(k:Int):=by omega
    have de:(k:Int)<(l.length:Int):=by omega
    clear ec hr DJ cN hp jS kg;go_upto_region 20 with fail
    refine RY.cY wq zR (FN bb s sa sc b rp ro rc k l r ml) (vZ _ _ _ _ _ _ _ _ _ _ _ _) (by kernel_rfl) (by kernel_rfl) (by kernel_rfl) (by kernel_rfl) ?_ ?_
    ·intro ii o' ho a X hX hk hd;have zbs:=HL.out.xs.ae hX;have zbsl:=zbs.lt;have zbb:=HX.out.ae hX;have zbbl:=zbb.lt;match ii,ho with
     |0,ho=>
      injection ho with ho;subst ho
      have v3:a.eval (.tmp 3)=.pointer (some ⟨bs,0,none⟩):=(hk 3 (by kernel_rfl)).trans rfl;exact Or.inl ⟨_,X,aq 25 _ rfl bs 0 v3 [.slice sa s.length sc] _ zbs.at_ Try.underlying25 rfl (by kernel_rfl),zR,rfl⟩
     |1,ho=>
      injection ho with ho;subst ho
      have e7:a.tmps[7]?.getD undef=.pointer (some ⟨bb,0,none⟩):=(RY.af a 7).trans ((hk 7 (by kernel_rfl)).trans rfl);exact Or.inl ⟨.pointer (some ⟨bb,0,none⟩),X,by simp[execOp,go_sem,e7],zR,rfl⟩
     |2,ho=>
      injection ho with ho;subst ho
      have e108:a.tmps[108]?.getD undef=.pointer (some ⟨bb,0,none⟩):=(RY.af a 108).trans (hd 1 _ 108 rfl rfl ⟨⟨1,.data⟩,by simp,rfl,rfl⟩);have ycl_:=zbb.get 0 _ rfl;exact Or.inl ⟨.string b.kind,X,by simp[execOp,go_sem,e108,ycl_],zR,rfl⟩
     |3,ho=>
      injection ho with ho;subst ho
      have e7:a.tmps[7]?.getD undef=.pointer (some ⟨bb,0,none⟩):=(RY.af a 7).trans ((hk 7 (by kernel_rfl)).trans rfl);exact Or.inl ⟨.pointer (some ⟨bb,1,none⟩),X,by simp[execOp,go_sem,e7],zR,rfl⟩
     |4,ho=>
      injection ho with ho;subst ho
      have e110:a.tmps[110]?.getD undef=.pointer (some ⟨bb,1,none⟩):=(RY.af a 110).trans (hd 3 _ 110 rfl rfl ⟨⟨3,.data⟩,by simp,rfl,rfl⟩);have ycl_:=zbb.get 1 _ rfl;exact Or.inl ⟨.string b.name,X,by simp[execOp,go_sem,e110,ycl_],zR,rfl⟩
     |5,ho=>
      injection ho with ho;subst ho
      have e8:a.tmps[8]?.getD undef=.slice (some ⟨rp,ro,none⟩) l.length rc:=(RY.af a 8).trans ((hk 8 (by kernel_rfl)).trans rfl);exact Or.inl ⟨.slice (some ⟨rp,ro,none⟩) l.length rc,X,by simp[execOp,go_sem,e8],zR,rfl⟩
     |6,ho=>
      injection ho with ho;subst ho
      have e9:a.tmps[9]?.getD undef=.int .i64 (k:Int):=(RY.af a 9).trans ((hk 9 (by kernel_rfl)).trans rfl);exact Or.inl ⟨.int .i64 (k:Int),X,by simp[execOp,go_sem,e9],zR,rfl⟩
     |7,ho=>
      injection ho with ho;subst ho
      have e112:a.tmps[112]?.getD undef=.slice (some ⟨rp,ro,none⟩) l.length rc:=(RY.af a 112).trans (hd 5 _ 112 rfl rfl ⟨⟨5,.data⟩,by simp,rfl,rfl⟩);have e113:a.tmps[113]?.getD undef=.int .i64 (k:Int):=(RY.af a 113).trans (hd 6 _ 113 rfl rfl ⟨⟨6,.data⟩,by simp,rfl,rfl⟩);exact Or.inl ⟨.pointer (some ⟨rp,ro+k*4,none⟩),X,by simp[execOp,go_sem,e112,e113,dd,de],zR,rfl⟩
     |8,ho=>
      injection ho with ho;subst ho
      have e114:a.tmps[114]?.getD undef=.pointer (some ⟨rp,ro+k*4,none⟩):=(RY.af a 114).trans (hd 7 _ 114 rfl rfl ⟨⟨7,.data⟩,by simp,rfl,rfl⟩);exact Or.inl ⟨.pointer (some ⟨rp,ro+k*4,none⟩),X,by simp[execOp,go_sem,e114],zR,rfl⟩
     |9,ho=>
      injection ho with ho;subst ho
      have e115:a.tmps[115]?.getD undef=.pointer (some ⟨rp,ro+k*4,none⟩):=(RY.af a 115).trans (hd 8 _ 115 rfl rfl ⟨⟨8,.data⟩,by simp,rfl,rfl⟩);have ypl_:=zL ic.out hX.size;have ycl_:X.cell? ⟨rp,ro+k*4,none⟩=some (.string r.key):=by have q:=aF (aA lk.out ic.out hX) 0 _ rfl;simpa using q
      exact Or.inl ⟨.string r.key,X,by simp[execOp,go_sem,e115,ycl_],zR,rfl⟩
     |10,ho=>
      injection ho with ho;subst ho
      have e107:a.tmps[107]?.getD undef=.agg #[.slice sa s.length sc]:=(RY.af a 107).trans (hd 0 _ 107 rfl rfl ⟨⟨0,.data⟩,by simp,rfl,rfl⟩);have e109:a.tmps[109]?.getD undef=.string b.kind:=(RY.af a 109).trans (hd 2 _ 109 rfl rfl ⟨⟨2,.data⟩,by simp,rfl,rfl⟩);have e111:a.tmps[111]?.getD undef=.string b.name:=(RY.af a 111).trans (hd 4 _ 111 rfl rfl ⟨⟨4,.data⟩,by simp,rfl,rfl⟩);have e116:a.tmps[116]?.getD undef=.string r.key:=(RY.af a 116).trans (hd 9 _ 116 rfl rfl ⟨⟨9,.data⟩,by simp,rfl,rfl⟩);refine Or.inr ⟨13,#[.agg #[.slice sa s.length sc],.string b.kind,.string b.name,.string r.key],by simp[go_sem,e107,e109,e111,e116],(xI.out X hX).mono ?_⟩;rintro e W' ⟨v,F,rfl,hr,_,_,hb⟩;obtain⟨a,m,lT⟩:=hr.raw.aP;subst lT;exact⟨_,rfl,hb,a,m,rfl,hr.raw⟩
     |11,ho=>
      injection ho with ho;subst ho
      obtain⟨ga,gm,q117,cN⟩:=hd 10 _ 117 rfl rfl ⟨⟨10,.data⟩,by simp,rfl,rfl⟩;have e117:a.tmps[117]?.getD undef=.tuple #[.slice ga ml.length gm,.bool true]:=(RY.af a 117).trans q117;exact Or.inl ⟨.tuple #[.slice ga ml.length gm,.bool true],X,by simp[execOp,go_sem,e117],zR,ga,gm,rfl,cN⟩
     |12,ho=>
      injection ho with ho;subst ho
      obtain⟨ga,gm,q106,cN⟩:=hd 11 _ 106 rfl rfl ⟨⟨11,.data⟩,by simp,rfl,rfl⟩;have e106:a.tmps[106]?.getD undef=.tuple #[.slice ga ml.length gm,.bool true]:=(RY.af a 106).trans q106;exact Or.inl ⟨.slice ga ml.length gm,X,by simp[execOp,go_sem,e106],zR,ga,gm,rfl,cN⟩
     |13,ho=>
      injection ho with ho;subst ho
      obtain⟨ga,gm,q106,cN⟩:=hd 11 _ 106 rfl rfl ⟨⟨11,.data⟩,by simp,rfl,rfl⟩;have e106:a.tmps[106]?.getD undef=.tuple #[.slice ga ml.length gm,.bool true]:=(RY.af a 106).trans q106;exact Or.inl ⟨.bool true,X,by simp[execOp,go_sem,e106],zR,rfl⟩
     |14,ho=>
      injection ho with ho;subst ho
      obtain⟨ga,gm,q118,cN⟩:=hd 12 _ 118 rfl rfl ⟨⟨12,.data⟩,by simp,rfl,rfl⟩;have e118:a.tmps[118]?.getD undef=.slice ga ml.length gm:=(RY.af a 118).trans q118;exact Or.inl ⟨.slice ga ml.length gm,X,by simp[execOp,go_sem,e118],zR,ga,gm,rfl,cN⟩
     |15,ho=>
      injection ho with ho;subst ho
      have e119:a.tmps[119]?.getD undef=.bool true:=(RY.af a 119).trans (hd 13 _ 119 rfl rfl ⟨⟨13,.data⟩,by simp,rfl,rfl⟩);exact Or.inl ⟨.bool true,X,by simp[execOp,go_sem,e119],zR,rfl⟩
     |n+16,ho=>simp at ho
    intro X vs hX bd;obtain⟨xa,xm,q10,dF⟩:=bd 14 _ 10 rfl rfl;have q11:vs 11=_:=bd 15 _ 11 rfl rfl;simp only[RY.aE,Act.put,List.setIfInBounds_toArray,List.set_cons_zero,List.set_cons_succ];rw[q10,q11];generalize vs 107=s107;generalize vs 108=s108;generalize vs 109=s109;generalize vs 110=s110;generalize vs 111=s111;generalize vs 112=s112;generalize vs 113=s113;generalize vs 114=s114;generalize vs 115=s115;generalize vs 116=s116;generalize vs 117=s117;generalize vs 106=s106;generalize vs 118=s118;generalize vs 119=s119;clear bd q10 q11;have jQ:=uh dF;have Hx:=uh (fun (X':World) (hX':Bel X X')=>mh.out X' (ai hX hX'));have uU:=uh (fun (X':World) (hX':Bel X X')=>B9.out X' (ai hX hX'));replace HL:=uh (HL.out.ae hX)
    replace HX:=uh (HX.out.ae hX)
    replace HB:=uh (ai HB.out hX)
    replace ez:=uh (ez.out.ae hX)
    replace lk:=uh (aA lk.out ic.out hX)
    replace ic:=uh (zL ic.out hX.size)
    clear dF hX xI mh B9;obtain⟨wq,tv⟩:∃ wq,wq=X:=⟨_,rfl⟩
    rw[← tv]at HL HX ez HB lk ic jQ Hx uU ⊢;clear tv;have mh:=Hx;have B9:=uU;clear Hx uU;go_upto_region 21 with fail
    refine RY.cY wq zR (Fm bb f fa fc b rp ro rc k l r ml) (vY _ _ _ _ _ _ _ _ _ _ _ _) (by kernel_rfl) (by kernel_rfl) (by kernel_rfl) (by kernel_rfl) ?_ ?_
    ·intro ii o' ho a X hX hk hd;have zbf:=HL.out.xf.ae hX;have zbfl:=zbf.lt;have zbb:=HX.out.ae hX;have zbbl:=zbb.lt;match ii,ho with
     |0,ho=>
      injection ho with ho;subst ho
      have v4:a.eval (.tmp 4)=.pointer (some ⟨bf,0,none⟩):=(hk 4 (by kernel_rfl)).trans rfl;exact Or.inl ⟨_,X,aq 25 _ rfl bf 0 v4 [.slice fa f.length fc] _ zbf.at_ Try.underlying25 rfl (by kernel_rfl),zR,rfl⟩
     |1,ho=>
      injection ho with ho;subst ho
      have e7:a.tmps[7]?.getD undef=.pointer (some ⟨bb,0,none⟩):=(RY.af a 7).trans ((hk 7 (by kernel_rfl)).trans rfl);exact Or.inl ⟨.pointer (some ⟨bb,0,none⟩),X,by simp[execOp,go_sem,e7],zR,rfl⟩
     |2,ho=>
      injection ho with ho;subst ho
      have e122:a.tmps[122]?.getD undef=.pointer (some ⟨bb,0,none⟩):=(RY.af a 122).trans (hd 1 _ 122 rfl rfl ⟨⟨1,.data⟩,by simp,rfl,rfl⟩);have ycl_:=zbb.get 0 _ rfl;exact Or.inl ⟨.string b.kind,X,by simp[execOp,go_sem,e122,ycl_],zR,rfl⟩
     |3,ho=>
      injection ho with ho;subst ho
      have e7:a.tmps[7]?.getD undef=.pointer (some ⟨bb,0,none⟩):=(RY.af a 7).trans ((hk 7 (by kernel_rfl)).trans rfl);exact Or.inl ⟨.pointer (some ⟨bb,1,none⟩),X,by simp[execOp,go_sem,e7],zR,rfl⟩
     |4,ho=>
      injection ho with ho;subst ho
      have e124:a.tmps[124]?.getD undef=.pointer (some ⟨bb,1,none⟩):=(RY.af a 124).trans (hd 3 _ 124 rfl rfl ⟨⟨3,.data⟩,by simp,rfl,rfl⟩);have ycl_:=zbb.get 1 _ rfl;exact Or.inl ⟨.string b.name,X,by simp[execOp,go_sem,e124,ycl_],zR,rfl⟩
     |5,ho=>
      injection ho with ho;subst ho
      have e8:a.tmps[8]?.getD undef=.slice (some ⟨rp,ro,none⟩) l.length rc:=(RY.af a 8).trans ((hk 8 (by kernel_rfl)).trans rfl);exact Or.inl ⟨.slice (some ⟨rp,ro,none⟩) l.length rc,X,by simp[execOp,go_sem,e8],zR,rfl⟩
     |6,ho=>
      injection ho with ho;subst ho
      have e9:a.tmps[9]?.getD undef=.int .i64 (k:Int):=(RY.af a 9).trans ((hk 9 (by kernel_rfl)).trans rfl);exact Or.inl ⟨.int .i64 (k:Int),X,by simp[execOp,go_sem,e9],zR,rfl⟩
     |7,ho=>
      injection ho with ho;subst ho
      have e126:a.tmps[126]?.getD undef=.slice (some ⟨rp,ro,none⟩) l.length rc:=(RY.af a 126).trans (hd 5 _ 126 rfl rfl ⟨⟨5,.data⟩,by simp,rfl,rfl⟩);have e127:a.tmps[127]?.getD undef=.int .i64 (k:Int):=(RY.af a 127).trans (hd 6 _ 127 rfl rfl ⟨⟨6,.data⟩,by simp,rfl,rfl⟩);exact Or.inl ⟨.pointer (some ⟨rp,ro+k*4,none⟩),X,by simp[execOp,go_sem,e126,e127,dd,de],zR,rfl⟩
     |8,ho=>
      injection ho with ho;subst ho
      have e128:a.tmps[128]?.getD undef=.pointer (some ⟨rp,ro+k*4,none⟩):=(RY.af a 128).trans (hd 7 _ 128 rfl rfl ⟨⟨7,.data⟩,by simp,rfl,rfl⟩);exact Or.inl ⟨.pointer (some ⟨rp,ro+k*4,none⟩),X,by simp[execOp,go_sem,e128],zR,rfl⟩
     |9,ho=>
      injection ho with ho;subst ho
      have e129:a.tmps[129]?.getD undef=.pointer (some ⟨rp,ro+k*4,none⟩):=(RY.af a 129).trans (hd 8 _ 129 rfl rfl ⟨⟨8,.data⟩,by simp,rfl,rfl⟩);have ypl_:=zL ic.out hX.size;have ycl_:X.cell? ⟨rp,ro+k*4,none⟩=some (.string r.key):=by have q:=aF (aA lk.out ic.out hX) 0 _ rfl;simpa using q
      exact Or.inl ⟨.string r.key,X,by simp[execOp,go_sem,e129,ycl_],zR,rfl⟩
     |10,ho=>
      injection ho with ho;subst ho
      have e121:a.tmps[121]?.getD undef=.agg #[.slice fa f.length fc]:=(RY.af a 121).trans (hd 0 _ 121 rfl rfl ⟨⟨0,.data⟩,by simp,rfl,rfl⟩);have e123:a.tmps[123]?.getD undef=.string b.kind:=(RY.af a 123).trans (hd 2 _ 123 rfl rfl ⟨⟨2,.data⟩,by simp,rfl,rfl⟩);have e125:a.tmps[125]?.getD undef=.string b.name:=(RY.af a 125).trans (hd 4 _ 125 rfl rfl ⟨⟨4,.data⟩,by simp,rfl,rfl⟩);have e130:a.tmps[130]?.getD undef=.string r.key:=(RY.af a 130).trans (hd 9 _ 130 rfl rfl ⟨⟨9,.data⟩,by simp,rfl,rfl⟩);refine Or.inr ⟨13,#[.agg #[.slice fa f.length fc],.string b.kind,.string b.name,.string r.key],by simp[go_sem,e121,e123,e125,e130],(mh.out X hX).mono ?_⟩;rintro e W' ⟨v,F,rfl,hr,_,_,hb⟩;obtain⟨a,m,lT⟩:=hr.raw.aP;subst lT;exact⟨_,rfl,hb,a,m,rfl,hr.raw⟩
     |11,ho=>
      injection ho with ho;subst ho
      obtain⟨ga,gm,q131,cN⟩:=hd 10 _ 131 rfl rfl ⟨⟨10,.data⟩,by simp,rfl,rfl⟩;have e131:a.tmps[131]?.getD undef=.tuple #[.slice ga ml.length gm,.bool true]:=(RY.af a 131).trans q131;exact Or.inl ⟨.tuple #[.slice ga ml.length gm,.bool true],X,by simp[execOp,go_sem,e131],zR,ga,gm,rfl,cN⟩
     |12,ho=>
      injection ho with ho;subst ho
      obtain⟨ga,gm,q120,cN⟩:=hd 11 _ 120 rfl rfl ⟨⟨11,.data⟩,by simp,rfl,rfl⟩;have e120:a.tmps[120]?.getD undef=.tuple #[.slice ga ml.length gm,.bool true]:=(RY.af a 120).trans q120;exact Or.inl ⟨.slice ga ml.length gm,X,by simp[execOp,go_sem,e120],zR,ga,gm,rfl,cN⟩
     |13,ho=>
      injection ho with ho;subst ho
      obtain⟨ga,gm,q120,cN⟩:=hd 11 _ 120 rfl rfl ⟨⟨11,.data⟩,by simp,rfl,rfl⟩;have e120:a.tmps[120]?.getD undef=.tuple #[.slice ga ml.length gm,.bool true]:=(RY.af a 120).trans q120;exact Or.inl ⟨.bool true,X,by simp[execOp,go_sem,e120],zR,rfl⟩
     |14,ho=>
      injection ho with ho;subst ho
      obtain⟨ga,gm,q132,cN⟩:=hd 12 _ 132 rfl rfl ⟨⟨12,.data⟩,by simp,rfl,rfl⟩;have e132:a.tmps[132]?.getD undef=.slice ga ml.length gm:=(RY.af a 132).trans q132;exact Or.inl ⟨.slice ga ml.length gm,X,by simp[execOp,go_sem,e132],zR,ga,gm,rfl,cN⟩
     |15,ho=>
      injection ho with ho;subst ho
      have e133:a.tmps[133]?.getD undef=.bool true:=(RY.af a 133).trans (hd 13 _ 133 rfl rfl ⟨⟨13,.data⟩,by simp,rfl,rfl⟩);exact Or.inl ⟨.bool true,X,by simp[execOp,go_sem,e133],zR,rfl⟩
     |n+16,ho=>simp at ho
    intro X vs hX bd;obtain⟨ya,ym,q12,oX⟩:=bd 14 _ 12 rfl rfl;have q13:vs 13=_:=bd 15 _ 13 rfl rfl;simp only[RY.aE,Act.put,List.setIfInBounds_toArray,List.set_cons_zero,List.set_cons_succ];rw[q12,q13];generalize vs 121=s121;generalize vs 122=s122;generalize vs 123=s123;generalize vs 124=s124;generalize vs 125=s125;generalize vs 126=s126;generalize vs 127=s127;generalize vs 128=s128;generalize vs 129=s129;generalize vs 130=s130;generalize vs 131=s131;generalize vs 120=s120;generalize vs 132=s132;generalize vs 133=s133;clear bd q12 q13;have xQ:=uh oX;replace jQ:=uh (jQ.out.ae hX)
    have uU:=uh (fun (X':World) (hX':Bel X X')=>B9.out X' (ai hX hX'));replace HL:=uh (HL.out.ae hX)
    replace HX:=uh (HX.out.ae hX)
    replace HB:=uh (ai HB.out hX)
    replace ez:=uh (ez.out.ae hX)
    replace lk:=uh (aA lk.out ic.out hX)
    replace ic:=uh (zL ic.out hX.size)
    clear oX hX mh B9;obtain⟨wq,tv⟩:∃ wq,wq=X:=⟨_,rfl⟩
    rw[← tv]at HL HX ez HB lk ic jQ xQ uU ⊢;clear tv;have B9:=uU;clear uU;go_upto_region 22 with fail
    refine RY.cY wq zR (Fz bb t ta tc b rp ro rc k l r ml) (xi _ _ _ _ _ _ _ _ _ _ _ _) (by kernel_rfl) (by kernel_rfl) (by kernel_rfl) (by kernel_rfl) ?_ ?_
    ·intro ii o' ho a X hX hk hd;have zbt:=HL.out.xt.ae hX;have zbtl:=zbt.lt;have zbb:=HX.out.ae hX;have zbbl:=zbb.lt;match ii,ho with
     |0,ho=>
      injection ho with ho;subst ho
      have v5:a.eval (.tmp 5)=.pointer (some ⟨bt,0,none⟩):=(hk 5 (by kernel_rfl)).trans rfl;exact Or.inl ⟨_,X,aq 25 _ rfl bt 0 v5 [.slice ta t.length tc] _ zbt.at_ Try.underlying25 rfl (by kernel_rfl),zR,rfl⟩
     |1,ho=>
      injection ho with ho;subst ho
      have e7:a.tmps[7]?.getD undef=.pointer (some ⟨bb,0,none⟩):=(RY.af a 7).trans ((hk 7 (by kernel_rfl)).trans rfl);exact Or.inl ⟨.pointer (some ⟨bb,0,none⟩),X,by simp[execOp,go_sem,e7],zR,rfl⟩
     |2,ho=>
      injection ho with ho;subst ho
      have e136:a.tmps[136]?.getD undef=.pointer (some ⟨bb,0,none⟩):=(RY.af a 136).trans (hd 1 _ 136 rfl rfl ⟨⟨1,.data⟩,by simp,rfl,rfl⟩);have ycl_:=zbb.get 0 _ rfl;exact Or.inl ⟨.string b.kind,X,by simp[execOp,go_sem,e136,ycl_],zR,rfl⟩
     |3,ho=>
      injection ho with ho;subst ho
      have e7:a.tmps[7]?.getD undef=.pointer (some ⟨bb,0,none⟩):=(RY.af a 7).trans ((hk 7 (by kernel_rfl)).trans rfl);exact Or.inl ⟨.pointer (some ⟨bb,1,none⟩),X,by simp[execOp,go_sem,e7],zR,rfl⟩
     |4,ho=>
      injection ho with ho;subst ho
      have e138:a.tmps[138]?.getD undef=.pointer (some ⟨bb,1,none⟩):=(RY.af a 138).trans (hd 3 _ 138 rfl rfl ⟨⟨3,.data⟩,by simp,rfl,rfl⟩);have ycl_:=zbb.get 1 _ rfl;exact Or.inl ⟨.string b.name,X,by simp[execOp,go_sem,e138,ycl_],zR,rfl⟩
     |5,ho=>
      injection ho with ho;subst ho
      have e8:a.tmps[8]?.getD undef=.slice (some ⟨rp,ro,none⟩) l.length rc:=(RY.af a 8).trans ((hk 8 (by kernel_rfl)).trans rfl);exact Or.inl ⟨.slice (some ⟨rp,ro,none⟩) l.length rc,X,by simp[execOp,go_sem,e8],zR,rfl⟩
     |6,ho=>
      injection ho with ho;subst ho
      have e9:a.tmps[9]?.getD undef=.int .i64 (k:Int):=(RY.af a 9).trans ((hk 9 (by kernel_rfl)).trans rfl);exact Or.inl ⟨.int .i64 (k:Int),X,by simp[execOp,go_sem,e9],zR,rfl⟩
     |7,ho=>
      injection ho with ho;subst ho
      have e140:a.tmps[140]?.getD undef=.slice (some ⟨rp,ro,none⟩) l.length rc:=(RY.af a 140).trans (hd 5 _ 140 rfl rfl ⟨⟨5,.data⟩,by simp,rfl,rfl⟩);have e141:a.tmps[141]?.getD undef=.int .i64 (k:Int):=(RY.af a 141).trans (hd 6 _ 141 rfl rfl ⟨⟨6,.data⟩,by simp,rfl,rfl⟩);exact Or.inl ⟨.pointer (some ⟨rp,ro+k*4,none⟩),X,by simp[execOp,go_sem,e140,e141,dd,de],zR,rfl⟩
     |8,ho=>
      injection ho with ho;subst ho
      have e142:a.tmps[142]?.getD undef=.pointer (some ⟨rp,ro+k*4,none⟩):=(RY.af a 142).trans (hd 7 _ 142 rfl rfl ⟨⟨7,.data⟩,by simp,rfl,rfl⟩);exact Or.inl ⟨.pointer (some ⟨rp,ro+k*4,none⟩),X,by simp[execOp,go_sem,e142],zR,rfl⟩
     |9,ho=>
      injection ho with ho;subst ho
      have e143:a.tmps[143]?.getD undef=.pointer (some ⟨rp,ro+k*4,none⟩):=(RY.af a 143).trans (hd 8 _ 143 rfl rfl ⟨⟨8,.data⟩,by simp,rfl,rfl⟩);have ypl_:=zL ic.out hX.size;have ycl_:X.cell? ⟨rp,ro+k*4,none⟩=some (.string r.key):=by have q:=aF (aA lk.out ic.out hX) 0 _ rfl;simpa using q
      exact Or.inl ⟨.string r.key,X,by simp[execOp,go_sem,e143,ycl_],zR,rfl⟩
     |10,ho=>
      injection ho with ho;subst ho
      have e135:a.tmps[135]?.getD undef=.agg #[.slice ta t.length tc]:=(RY.af a 135).trans (hd 0 _ 135 rfl rfl ⟨⟨0,.data⟩,by simp,rfl,rfl⟩);have e137:a.tmps[137]?.getD undef=.string b.kind:=(RY.af a 137).trans (hd 2 _ 137 rfl rfl ⟨⟨2,.data⟩,by simp,rfl,rfl⟩);have e139:a.tmps[139]?.getD undef=.string b.name:=(RY.af a 139).trans (hd 4 _ 139 rfl rfl ⟨⟨4,.data⟩,by simp,rfl,rfl⟩);have e144:a.tmps[144]?.getD undef=.string r.key:=(RY.af a 144).trans (hd 9 _ 144 rfl rfl ⟨⟨9,.data⟩,by simp,rfl,rfl⟩);refine Or.inr ⟨13,#[.agg #[.slice ta t.length tc],.string b.kind,.string b.name,.string r.key],by simp[go_sem,e135,e137,e139,e144],(B9.out X hX).mono ?_⟩;rintro e W' ⟨v,F,rfl,hr,_,_,hb⟩;obtain⟨a,m,lT⟩:=hr.raw.aP;subst lT;exact⟨_,rfl,hb,a,m,rfl,hr.raw⟩
     |11,ho=>
      injection ho with ho;subst ho
      obtain⟨ga,gm,q145,cN⟩:=hd 10 _ 145 rfl rfl ⟨⟨10,.data⟩,by simp,rfl,rfl⟩;have e145:a.tmps[145]?.getD undef=.tuple #[.slice ga ml.length gm,.bool true]:=(RY.af a 145).trans q145;exact Or.inl ⟨.tuple #[.slice ga ml.length gm,.bool true],X,by simp[execOp,go_sem,e145],zR,ga,gm,rfl,cN⟩
     |12,ho=>
      injection ho with ho;subst ho
      obtain⟨ga,gm,q134,cN⟩:=hd 11 _ 134 rfl rfl ⟨⟨11,.data⟩,by simp,rfl,rfl⟩;have e134:a.tmps[134]?.getD undef=.tuple #[.slice ga ml.length gm,.bool true]:=(RY.af a 134).trans q134;exact Or.inl ⟨.slice ga ml.length gm,X,by simp[execOp,go_sem,e134],zR,ga,gm,rfl,cN⟩
     |13,ho=>
      injection ho with ho;subst ho
      obtain⟨ga,gm,q134,cN⟩:=hd 11 _ 134 rfl rfl ⟨⟨11,.data⟩,by simp,rfl,rfl⟩;have e134:a.tmps[134]?.getD undef=.tuple #[.slice ga ml.length gm,.bool true]:=(RY.af a 134).trans q134;exact Or.inl ⟨.bool true,X,by simp[execOp,go_sem,e134],zR,rfl⟩
     |14,ho=>
      injection ho with ho;subst ho
      obtain⟨ga,gm,q146,cN⟩:=hd 12 _ 146 rfl rfl ⟨⟨12,.data⟩,by simp,rfl,rfl⟩;have e146:a.tmps[146]?.getD undef=.slice ga ml.length gm:=(RY.af a 146).trans q146;exact Or.inl ⟨.slice ga ml.length gm,X,by simp[execOp,go_sem,e146],zR,ga,gm,rfl,cN⟩
     |15,ho=>
      injection ho with ho;subst ho
      have e147:a.tmps[147]?.getD undef=.bool true:=(RY.af a 147).trans (hd 13 _ 147 rfl rfl ⟨⟨13,.data⟩,by simp,rfl,rfl⟩);exact Or.inl ⟨.bool true,X,by simp[execOp,go_sem,e147],zR,rfl⟩
     |n+16,ho=>simp at ho
    intro X vs hX bd;obtain⟨za,zm,q14,ye⟩:=bd 14 _ 14 rfl rfl;have q15:vs 15=_:=bd 15 _ 15 rfl rfl;simp only[RY.aE,Act.put,List.setIfInBounds_toArray,List.set_cons_zero,List.set_cons_succ];rw[q14,q15];generalize vs 135=s135;generalize vs 136=s136;generalize vs 137=s137;generalize vs 138=uO;generalize vs 139=s139;generalize vs 140=s140;generalize vs 141=s141;generalize vs 142=s142;generalize vs 143=s143;generalize vs 144=s144;generalize vs 145=s145;generalize vs 134=s134;generalize vs 146=s146;generalize vs 147=s147;clear bd q14 q15;have Jb:=uh ye;replace jQ:=uh (jQ.out.ae hX)
    replace xQ:=uh (xQ.out.ae hX)
    replace HL:=uh (HL.out.ae hX)
    replace HX:=uh (HX.out.ae hX)
    replace HB:=uh (ai HB.out hX)
    replace ez:=uh (ez.out.ae hX)
    replace lk:=uh (aA lk.out ic.out hX)
    replace ic:=uh (zL ic.out hX.size)
    clear ye hX B9;obtain⟨wq,tv⟩:∃ wq,wq=X:=⟨_,rfl⟩
    rw[← tv]at HL HX ez HB lk ic jQ xQ Jb ⊢;clear tv;have tg:=uh (kF ml _ _ wq jQ.out xQ.out KU.out.1 KU.out.2);go_wp2_with fail
    refine tg.out.mono ?_;rintro e wu ⟨rfl,hX⟩;replace HL:=uh (HL.out.ae hX)
    replace HX:=uh (HX.out.ae hX)
    replace HB:=uh (ai HB.out hX)
    replace ez:=uh (ez.out.ae hX)
    replace lk:=uh (aA lk.out ic.out hX)
    replace ic:=uh (zL ic.out hX.size)
    replace jQ:=uh (jQ.out.ae hX)
    replace Jb:=uh (Jb.out.ae hX)
    clear hX tg;have Kz:=uh (kF ml _ _ wu jQ.out Jb.out KU.out.1 KU.out.2);go_wp2_with fail
    refine Kz.out.mono ?_;rintro e wv ⟨rfl,hX⟩;replace HL:=uh (HL.out.ae hX)
    replace HX:=uh (HX.out.ae hX)
    replace HB:=uh (ai HB.out hX)
    replace ez:=uh (ez.out.ae hX)
    replace lk:=uh (aA lk.out ic.out hX)
    replace ic:=uh (zL ic.out hX.size)
    clear hX Kz jQ xQ Jb;have zm:wv.cell? ⟨rp,ro+k*4+2,none⟩=some (.bool r.many):=aF lk.out 2 _ rfl;have zp:=ic.out;cases hm:r.many with
    |true=>
     rw[hm]at zm;go_wp2;go_roundw
     case rel=>exact⟨k+1,by omega,by go_num,HL.out,HX.out,ez.out,HB.out⟩
     case measure=>simp[intOf];omega
    |false=>
     rw[hm]at zm;have xN:=Et.out hm;have mS:((ml.length:Int) !=1)=false:=by simp;omega
     go_wp2;go_roundw
     case rel=>exact⟨k+1,by omega,by go_num,HL.out,HX.out,ez.out,HB.out⟩
     case measure=>simp[intOf];omega
end Go.Proofs.Ytmgibmmpopoboaa
