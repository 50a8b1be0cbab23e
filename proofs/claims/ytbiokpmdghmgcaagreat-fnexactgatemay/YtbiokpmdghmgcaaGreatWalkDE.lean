import Derived.WalkKit
import Derived.Deep.OwnRows
import Derived.Deep.RegionWith
import Derived.Orders
import Derived.Deep.QuietTactic
import Derived.Test.YtbiokpmdghmgcaaGreatWalkDB
import Derived.Test.YtbiokpmdghmgcaaGreatWalkAK
namespace Go.Proofs.YtbiokpmdghmgcaaGreat
open Go.RowKit Go.Deep
def left (listed:Array Bool):Nat:=listed.toList.countP (fun b=> !b)
theorem sd {listed:Array Bool} {i:Nat} (h:listed.getD i true=false):left (listed.setIfInBounds i true)+1=left listed:=by
 have av:i<listed.size:=by
  rcases Nat.lt_or_ge i listed.size with h'|h'
  ·exact h'
  ·simp[Array.getElem?_eq_none h']at h
 have hv:listed[i]=false:=by simpa [av]using h
 unfold left;rw[Array.toList_setIfInBounds];have hl:i<listed.toList.length:=by simpa using av
 have Cc:listed.toList[i]=false:=by simpa using hv
 generalize listed.toList=l at hl Cc;clear h hv av;induction l generalizing i with
 |nil=>simp at hl
 |cons b l ih=>
  cases i with
  |zero=>
   simp only[List.getElem_cons_zero]at Cc;subst Cc;simp
  |succ i=>
   simp only[List.set_cons_succ,List.countP_cons];have:=ih (i:=i) (by simpa using hl) (by simpa using Cc);omega
theorem xo {listed:Array Bool} (h:left listed=0) (i:Nat):listed.getD i true=true:=by
 unfold left at h;rw[List.countP_eq_zero]at h;by_cases hi:i<listed.size
 ·have:=h (listed[i]) (by simp);simpa [hi]using this
 ·simp[Array.getElem?_eq_none (by omega:listed.size≤i)]
section
variable {P:Program} {ops:Array Oper} {md:Region.Mode} {Q:Exit→Act→World→Prop}
theorem jK {listed:Array Bool} (h:left listed=0):Region.ready md ops listed=[]:=by
 rw[List.eq_nil_iff_forall_not_mem];intro j hj;have:=(mem_ready.1 hj).1;rw[xo h j]at this;cases this
theorem et {l:Array Bool} {i j:Nat} (h:l.getD j false=true):(l.setIfInBounds i true).getD j false=true:=by
 by_cases e:i=j
 ·subst e;have av:i<l.size:=by
   rcases Nat.lt_or_ge i l.size with h'|h'
   ·exact h'
   ·simp[Array.getElem?_eq_none h']at h
  simp[av]
 ·rw[getD_set_ne false e];exact h
theorem ag {l:Array Bool} {i j:Nat} (h:(l.setIfInBounds i true).getD j false=true):j=i∨l.getD j false=true:=by
 by_cases e:i=j
 ·exact Or.inl e.symm
 ·rw[getD_set_ne false e]at h;exact Or.inr h
def fj (md:Region.Mode) (ops:Array Oper) (l:Array Bool):Prop:=∀ i o e,ops[i]? =some o→e∈o.after→Region.binds md e=true→l.getD i false=true→l.getD e.on false=true
theorem fj.set {l:Array Bool} {i:Nat} (h:fj md ops l) (hi:i∈Region.ready md ops l):fj md ops (l.setIfInBounds i true):=by
 intro j o e ho he hb hj;rcases ag hj with rfl|hj
 ·obtain⟨_,o',Jm,aw⟩:=mem_ready.1 hi;have:o'=o:=Option.some.inj (Jm.symm.trans ho);subst this;exact et (aw e he hb)
 ·exact et (h j o e ho he hb hj)
theorem fj.none (l:Array Bool) (h:∀ i,l.getD i false=false):fj md ops l:=by
 intro i o e _ _ _ hi;rw[h i]at hi;cases hi
theorem jt (n k:Nat):(Array.replicate n false).getD k false=false:=by
 rw[Array.getD_eq_getD_getElem?,Array.getElem?_replicate];split<;>rfl
theorem mr (I:Array Bool→Act→World→Prop)
  (hstep:∀ listed a w i,I listed a w→fj md ops listed→i∈Region.ready md ops listed→wpOp P ops Q i (fun a' w'=>I (listed.setIfInBounds i true) a' w') a w)
  (hend:∀ listed a w,I listed a w→Region.ready md ops listed=[]→Q .normal a w):
  ∀ (fuel:Nat) (listed:Array Bool) (a:Act) (w:World),I listed a w→fj md ops listed→left listed≤fuel→wpAny P md ops Q fuel listed a w
 |0,listed,a,w,h,_,hf=>⟨jK (Nat.le_zero.1 hf),hend _ _ _ h (jK (Nat.le_zero.1 hf))⟩
 |fuel+1,listed,a,w,h,hc,hf=>⟨fun h0=>hend _ _ _ h h0,fun i hi=>wpOp_mono (fun a' w' h'=>mr I hstep hend fuel _ a' w' h' (hc.set hi) (by have:=sd (mem_ready.1 hi).1;omega)) (hstep _ _ _ _ h hc hi)⟩
end
def asc (md:Region.Mode) (ops:Array Oper):Bool:=(List.range ops.size).all fun n=>match ops[n]? with
 |some o=>o.after.all fun e=> !(Region.binds md e)||decide (e.on<n)
 |none=>true
theorem tW {md:Region.Mode} {ops:Array Oper} {l:Array Bool} (hr:Region.ready md ops l=[]) (ha:asc md ops=true) (hl:l.size=ops.size):∀ n,n<ops.size→l.getD n false=true:=by
 intro n;induction n using Nat.strongRecOn with
 |_ n ih=>
  intro hn;cases h:l.getD n false with
  |true=>rfl
  |false=>
   exfalso;have h2:l.getD n true=false:=by
    have:n<l.size:=by omega
    simpa [this]using h
   have ho:ops[n]? =some ops[n]:=by simp[hn]
   have hA:∀ e∈ops[n].after,Region.binds md e=true→e.on<n:=by
    unfold asc at ha;rw[List.all_eq_true]at ha;have:=ha n (List.mem_range.2 hn);rw[ho]at this;intro e he hb;have h3:=(Array.all_eq_true_iff_forall_mem.1 this) e he;rw[hb]at h3;simpa using h3
   have:=mem_ready.2 ⟨h2,ops[n],ho,fun e he hb=>ih e.on (hA e he hb) (by have:=hA e he hb;omega)⟩;rw[hr]at this;cases this
theorem xC {R:Act→Prop} (a:Act) (h:∀ a0,a0=a→R a0):R a:=h a rfl
theorem bJ {P:Program} {ops:Array Oper} {Q:Exit→Act→World→Prop} {i:Nat} {K:Act→World→Prop} {a:Act} {w w':World} {o:Oper} {v:Value} (ho:ops[i]? =some o) (hg:o.guard=none)
  (hr:(execOp a.eval o).run P w=.ok (.value v) w') (hk:K (a.put o.dst v) w'):wpOp P ops Q i K a w:=by
 have hw:Region.wanted o (yielded ops a.tmps)=true:=by simp[Region.wanted,hg]
 simp only[wpOp,ho,hw,if_true];left;simp only[Oper.wp,hr,Oper.upon];exact hk
theorem pZ {P:Program} {ops:Array Oper} {Q:Exit→Act→World→Prop} {i:Nat} {K:Act→World→Prop} {a:Act} {w w':World} {o:Oper} (ho:ops[i]? =some o) (hg:o.guard=none)
  (hr:(execOp a.eval o).run P w=.ok .skip w') (hk:K (a.put o.dst undef) w'):wpOp P ops Q i K a w:=by
 have hw:Region.wanted o (yielded ops a.tmps)=true:=by simp[Region.wanted,hg]
 simp only[wpOp,ho,hw,if_true];left;simp only[Oper.wp,hr,Oper.upon];exact hk
theorem Bb (a:Act) (u:Value):a.put none u=a:=rfl
theorem ju {l:Array Bool} {i:Nat} (h:l.getD i true=false):(l.setIfInBounds i true).getD i false=true:=by
 have av:i<l.size:=by
  rcases Nat.lt_or_ge i l.size with h'|h'
  ·exact h'
  ·simp[Array.getElem?_eq_none h']at h
 simp[av]
theorem kP {l:Array Bool} {i:Nat} (h:l.getD i true=false):l.getD i false=false:=by
 have av:i<l.size:=by
  rcases Nat.lt_or_ge i l.size with h'|h'
  ·exact h'
  ·simp[Array.getElem?_eq_none h']at h
 simpa [av]using h
theorem jI {P:Program} {ops:Array Oper} {Q:Exit→Act→World→Prop} {i:Nat} {K:Act→World→Prop} {a:Act} {w:World} {o:Oper} {f:FuncId} {args:Array Value} (ho:ops[i]? =some o) (hg:o.guard=none)
  (hr:(execOp a.eval o).run P w=.ok (.enter f args) w) (hk:Calls P f args w fun e w'=>∃ u,e=.returned u∧K (a.put o.dst u) w'):wpOp P ops Q i K a w:=by
 have hw:Region.wanted o (yielded ops a.tmps)=true:=by simp[Region.wanted,hg]
 simp only[wpOp,ho,hw,if_true];left;simp only[Oper.wp,hr,Oper.upon];refine hk.mono ?_;rintro e w' ⟨u,rfl,h⟩;exact h
theorem ei (a:Act) (k:Nat) (u v:Value):(a.put (some k) u).put (some k) v=a.put (some k) v:=by
 simp[Act.put]
theorem ak (a:Act) (j k:Nat) (u v:Value) (h:j≠k):(a.put (some j) u).put (some k) v=(a.put (some k) v).put (some j) u:=by
 simp[Act.put,Array.setIfInBounds_comm _ _ h]
theorem bY (a:Act) (k:Nat) (u:Value) (h:k<a.tmps.size):(a.put (some k) u).eval (.tmp k)=u:=by
 simp[Act.put,Act.eval,h]
theorem ah (a:Act) (j k:Nat) (u:Value) (h:j≠k):(a.put (some j) u).eval (.tmp k)=a.eval (.tmp k):=by
 simp[Act.put,Act.eval,Array.getElem?_setIfInBounds_ne h]
theorem bR (a:Act) (k:Nat) (u:Value):(a.put (some k) u).tmps.size=a.tmps.size:=by simp[Act.put]
theorem dp (a:Act) (k:Nat):a.put (some k) (a.eval (.tmp k))=a:=by
 obtain⟨t,d⟩:=a;simp only[Act.put,Act.eval];congr 1;apply Array.ext
 ·simp
 ·intro i h1 h2;rw[Array.getElem_setIfInBounds h2];split
  ·rename_i e;subst e;simp[h2]
  ·rfl
def ck (a0:Act) (bX dh dd dg da cR cI cS cW cU cT cJ cE cY cX cZ dc:Value):Act:=(((((((((((((((((a0.put (some 38) bX).put (some 39) dh).put (some 40) dd).put (some 41) dg).put (some 42) da).put (some 43) cR).put (some 44) cI).put (some 45) cS).put (some 46) cW).put (some 47) cU).put (some 48) cT).put (some 49) cJ).put (some 50) cE).put (some 51) cY).put (some 52) cX).put (some 53) cZ).put (some 54) dc)
theorem C7 (a0:Act):a0=ck a0 (a0.eval (.tmp 38)) (a0.eval (.tmp 39)) (a0.eval (.tmp 40)) (a0.eval (.tmp 41)) (a0.eval (.tmp 42)) (a0.eval (.tmp 43)) (a0.eval (.tmp 44)) (a0.eval (.tmp 45)) (a0.eval (.tmp 46)) (a0.eval (.tmp 47)) (a0.eval (.tmp 48)) (a0.eval (.tmp 49)) (a0.eval (.tmp 50)) (a0.eval (.tmp 51)) (a0.eval (.tmp 52)) (a0.eval (.tmp 53)) (a0.eval (.tmp 54)):=by
 unfold ck;rw[dp _ 38,dp _ 39,dp _ 40,dp _ 41,dp _ 42,dp _ 43,dp _ 44,dp _ 45,dp _ 46,dp _ 47,dp _ 48,dp _ 49,dp _ 50,dp _ 51,dp _ 52,dp _ 53,dp _ 54]
section
variable (a0:Act) (bX dh dd dg da cR cI cS cW cU cT cJ cE cY cX cZ dc v:Value)
theorem AM:(ck a0 bX dh dd dg da cR cI cS cW cU cT cJ cE cY cX cZ dc).put (some 38) v=ck a0 v dh dd dg da cR cI cS cW cU cT cJ cE cY cX cZ dc:=by unfold ck;rw[ak _ 54 38 _ _ (by decide),ak _ 53 38 _ _ (by decide),ak _ 52 38 _ _ (by decide),ak _ 51 38 _ _ (by decide),ak _ 50 38 _ _ (by decide),ak _ 49 38 _ _ (by decide),ak _ 48 38 _ _ (by decide),ak _ 47 38 _ _ (by decide),ak _ 46 38 _ _ (by decide),ak _ 45 38 _ _ (by decide),ak _ 44 38 _ _ (by decide),ak _ 43 38 _ _ (by decide),ak _ 42 38 _ _ (by decide),ak _ 41 38 _ _ (by decide),ak _ 40 38 _ _ (by decide),ak _ 39 38 _ _ (by decide),ei _ 38]
theorem CB (h:54<a0.tmps.size):(ck a0 bX dh dd dg da cR cI cS cW cU cT cJ cE cY cX cZ dc).eval (.tmp 38)=bX:=by unfold ck;rw[ah _ 54 38 _ (by decide),ah _ 53 38 _ (by decide),ah _ 52 38 _ (by decide),ah _ 51 38 _ (by decide),ah _ 50 38 _ (by decide),ah _ 49 38 _ (by decide),ah _ 48 38 _ (by decide),ah _ 47 38 _ (by decide),ah _ 46 38 _ (by decide),ah _ 45 38 _ (by decide),ah _ 44 38 _ (by decide),ah _ 43 38 _ (by decide),ah _ 42 38 _ (by decide),ah _ 41 38 _ (by decide),ah _ 40 38 _ (by decide),ah _ 39 38 _ (by decide),bY _ 38 _ (by first|omega|(simp only[bR];omega))]
theorem zu:(ck a0 bX dh dd dg da cR cI cS cW cU cT cJ cE cY cX cZ dc).put (some 39) v=ck a0 bX v dd dg da cR cI cS cW cU cT cJ cE cY cX cZ dc:=by unfold ck;rw[ak _ 54 39 _ _ (by decide),ak _ 53 39 _ _ (by decide),ak _ 52 39 _ _ (by decide),ak _ 51 39 _ _ (by decide),ak _ 50 39 _ _ (by decide),ak _ 49 39 _ _ (by decide),ak _ 48 39 _ _ (by decide),ak _ 47 39 _ _ (by decide),ak _ 46 39 _ _ (by decide),ak _ 45 39 _ _ (by decide),ak _ 44 39 _ _ (by decide),ak _ 43 39 _ _ (by decide),ak _ 42 39 _ _ (by decide),ak _ 41 39 _ _ (by decide),ak _ 40 39 _ _ (by decide),ei _ 39]
theorem CI (h:54<a0.tmps.size):(ck a0 bX dh dd dg da cR cI cS cW cU cT cJ cE cY cX cZ dc).eval (.tmp 39)=dh:=by unfold ck;rw[ah _ 54 39 _ (by decide),ah _ 53 39 _ (by decide),ah _ 52 39 _ (by decide),ah _ 51 39 _ (by decide),ah _ 50 39 _ (by decide),ah _ 49 39 _ (by decide),ah _ 48 39 _ (by decide),ah _ 47 39 _ (by decide),ah _ 46 39 _ (by decide),ah _ 45 39 _ (by decide),ah _ 44 39 _ (by decide),ah _ 43 39 _ (by decide),ah _ 42 39 _ (by decide),ah _ 41 39 _ (by decide),ah _ 40 39 _ (by decide),bY _ 39 _ (by first|omega|(simp only[bR];omega))]
theorem Ak:(ck a0 bX dh dd dg da cR cI cS cW cU cT cJ cE cY cX cZ dc).put (some 40) v=ck a0 bX dh v dg da cR cI cS cW cU cT cJ cE cY cX cZ dc:=by unfold ck;rw[ak _ 54 40 _ _ (by decide),ak _ 53 40 _ _ (by decide),ak _ 52 40 _ _ (by decide),ak _ 51 40 _ _ (by decide),ak _ 50 40 _ _ (by decide),ak _ 49 40 _ _ (by decide),ak _ 48 40 _ _ (by decide),ak _ 47 40 _ _ (by decide),ak _ 46 40 _ _ (by decide),ak _ 45 40 _ _ (by decide),ak _ 44 40 _ _ (by decide),ak _ 43 40 _ _ (by decide),ak _ 42 40 _ _ (by decide),ak _ 41 40 _ _ (by decide),ei _ 40]
theorem Dp (h:54<a0.tmps.size):(ck a0 bX dh dd dg da cR cI cS cW cU cT cJ cE cY cX cZ dc).eval (.tmp 40)=dd:=by unfold ck;rw[ah _ 54 40 _ (by decide),ah _ 53 40 _ (by decide),ah _ 52 40 _ (by decide),ah _ 51 40 _ (by decide),ah _ 50 40 _ (by decide),ah _ 49 40 _ (by decide),ah _ 48 40 _ (by decide),ah _ 47 40 _ (by decide),ah _ 46 40 _ (by decide),ah _ 45 40 _ (by decide),ah _ 44 40 _ (by decide),ah _ 43 40 _ (by decide),ah _ 42 40 _ (by decide),ah _ 41 40 _ (by decide),bY _ 40 _ (by first|omega|(simp only[bR];omega))]
theorem zW:(ck a0 bX dh dd dg da cR cI cS cW cU cT cJ cE cY cX cZ dc).put (some 41) v=ck a0 bX dh dd v da cR cI cS cW cU cT cJ cE cY cX cZ dc:=by unfold ck;rw[ak _ 54 41 _ _ (by decide),ak _ 53 41 _ _ (by decide),ak _ 52 41 _ _ (by decide),ak _ 51 41 _ _ (by decide),ak _ 50 41 _ _ (by decide),ak _ 49 41 _ _ (by decide),ak _ 48 41 _ _ (by decide),ak _ 47 41 _ _ (by decide),ak _ 46 41 _ _ (by decide),ak _ 45 41 _ _ (by decide),ak _ 44 41 _ _ (by decide),ak _ 43 41 _ _ (by decide),ak _ 42 41 _ _ (by decide),ei _ 41]
theorem Da (h:54<a0.tmps.size):(ck a0 bX dh dd dg da cR cI cS cW cU cT cJ cE cY cX cZ dc).eval (.tmp 41)=dg:=by unfold ck;rw[ah _ 54 41 _ (by decide),ah _ 53 41 _ (by decide),ah _ 52 41 _ (by decide),ah _ 51 41 _ (by decide),ah _ 50 41 _ (by decide),ah _ 49 41 _ (by decide),ah _ 48 41 _ (by decide),ah _ 47 41 _ (by decide),ah _ 46 41 _ (by decide),ah _ 45 41 _ (by decide),ah _ 44 41 _ (by decide),ah _ 43 41 _ (by decide),ah _ 42 41 _ (by decide),bY _ 41 _ (by first|omega|(simp only[bR];omega))]
theorem AK:(ck a0 bX dh dd dg da cR cI cS cW cU cT cJ cE cY cX cZ dc).put (some 42) v=ck a0 bX dh dd dg v cR cI cS cW cU cT cJ cE cY cX cZ dc:=by unfold ck;rw[ak _ 54 42 _ _ (by decide),ak _ 53 42 _ _ (by decide),ak _ 52 42 _ _ (by decide),ak _ 51 42 _ _ (by decide),ak _ 50 42 _ _ (by decide),ak _ 49 42 _ _ (by decide),ak _ 48 42 _ _ (by decide),ak _ 47 42 _ _ (by decide),ak _ 46 42 _ _ (by decide),ak _ 45 42 _ _ (by decide),ak _ 44 42 _ _ (by decide),ak _ 43 42 _ _ (by decide),ei _ 42]
theorem CZ (h:54<a0.tmps.size):(ck a0 bX dh dd dg da cR cI cS cW cU cT cJ cE cY cX cZ dc).eval (.tmp 42)=da:=by unfold ck;rw[ah _ 54 42 _ (by decide),ah _ 53 42 _ (by decide),ah _ 52 42 _ (by decide),ah _ 51 42 _ (by decide),ah _ 50 42 _ (by decide),ah _ 49 42 _ (by decide),ah _ 48 42 _ (by decide),ah _ 47 42 _ (by decide),ah _ 46 42 _ (by decide),ah _ 45 42 _ (by decide),ah _ 44 42 _ (by decide),ah _ 43 42 _ (by decide),bY _ 42 _ (by first|omega|(simp only[bR];omega))]
theorem zt:(ck a0 bX dh dd dg da cR cI cS cW cU cT cJ cE cY cX cZ dc).put (some 43) v=ck a0 bX dh dd dg da v cI cS cW cU cT cJ cE cY cX cZ dc:=by unfold ck;rw[ak _ 54 43 _ _ (by decide),ak _ 53 43 _ _ (by decide),ak _ 52 43 _ _ (by decide),ak _ 51 43 _ _ (by decide),ak _ 50 43 _ _ (by decide),ak _ 49 43 _ _ (by decide),ak _ 48 43 _ _ (by decide),ak _ 47 43 _ _ (by decide),ak _ 46 43 _ _ (by decide),ak _ 45 43 _ _ (by decide),ak _ 44 43 _ _ (by decide),ei _ 43]
theorem Di (h:54<a0.tmps.size):(ck a0 bX dh dd dg da cR cI cS cW cU cT cJ cE cY cX cZ dc).eval (.tmp 43)=cR:=by unfold ck;rw[ah _ 54 43 _ (by decide),ah _ 53 43 _ (by decide),ah _ 52 43 _ (by decide),ah _ 51 43 _ (by decide),ah _ 50 43 _ (by decide),ah _ 49 43 _ (by decide),ah _ 48 43 _ (by decide),ah _ 47 43 _ (by decide),ah _ 46 43 _ (by decide),ah _ 45 43 _ (by decide),ah _ 44 43 _ (by decide),bY _ 43 _ (by first|omega|(simp only[bR];omega))]
theorem A3:(ck a0 bX dh dd dg da cR cI cS cW cU cT cJ cE cY cX cZ dc).put (some 44) v=ck a0 bX dh dd dg da cR v cS cW cU cT cJ cE cY cX cZ dc:=by unfold ck;rw[ak _ 54 44 _ _ (by decide),ak _ 53 44 _ _ (by decide),ak _ 52 44 _ _ (by decide),ak _ 51 44 _ _ (by decide),ak _ 50 44 _ _ (by decide),ak _ 49 44 _ _ (by decide),ak _ 48 44 _ _ (by decide),ak _ 47 44 _ _ (by decide),ak _ 46 44 _ _ (by decide),ak _ 45 44 _ _ (by decide),ei _ 44]
theorem CM (h:54<a0.tmps.size):(ck a0 bX dh dd dg da cR cI cS cW cU cT cJ cE cY cX cZ dc).eval (.tmp 44)=cI:=by unfold ck;rw[ah _ 54 44 _ (by decide),ah _ 53 44 _ (by decide),ah _ 52 44 _ (by decide),ah _ 51 44 _ (by decide),ah _ 50 44 _ (by decide),ah _ 49 44 _ (by decide),ah _ 48 44 _ (by decide),ah _ 47 44 _ (by decide),ah _ 46 44 _ (by decide),ah _ 45 44 _ (by decide),bY _ 44 _ (by first|omega|(simp only[bR];omega))]
theorem Ab:(ck a0 bX dh dd dg da cR cI cS cW cU cT cJ cE cY cX cZ dc).put (some 45) v=ck a0 bX dh dd dg da cR cI v cW cU cT cJ cE cY cX cZ dc:=by unfold ck;rw[ak _ 54 45 _ _ (by decide),ak _ 53 45 _ _ (by decide),ak _ 52 45 _ _ (by decide),ak _ 51 45 _ _ (by decide),ak _ 50 45 _ _ (by decide),ak _ 49 45 _ _ (by decide),ak _ 48 45 _ _ (by decide),ak _ 47 45 _ _ (by decide),ak _ 46 45 _ _ (by decide),ei _ 45]
theorem DF (h:54<a0.tmps.size):(ck a0 bX dh dd dg da cR cI cS cW cU cT cJ cE cY cX cZ dc).eval (.tmp 45)=cS:=by unfold ck;rw[ah _ 54 45 _ (by decide),ah _ 53 45 _ (by decide),ah _ 52 45 _ (by decide),ah _ 51 45 _ (by decide),ah _ 50 45 _ (by decide),ah _ 49 45 _ (by decide),ah _ 48 45 _ (by decide),ah _ 47 45 _ (by decide),ah _ 46 45 _ (by decide),bY _ 45 _ (by first|omega|(simp only[bR];omega))]
theorem AE:(ck a0 bX dh dd dg da cR cI cS cW cU cT cJ cE cY cX cZ dc).put (some 46) v=ck a0 bX dh dd dg da cR cI cS v cU cT cJ cE cY cX cZ dc:=by unfold ck;rw[ak _ 54 46 _ _ (by decide),ak _ 53 46 _ _ (by decide),ak _ 52 46 _ _ (by decide),ak _ 51 46 _ _ (by decide),ak _ 50 46 _ _ (by decide),ak _ 49 46 _ _ (by decide),ak _ 48 46 _ _ (by decide),ak _ 47 46 _ _ (by decide),ei _ 46]
theorem DE (h:54<a0.tmps.size):(ck a0 bX dh dd dg da cR cI cS cW cU cT cJ cE cY cX cZ dc).eval (.tmp 46)=cW:=by unfold ck;rw[ah _ 54 46 _ (by decide),ah _ 53 46 _ (by decide),ah _ 52 46 _ (by decide),ah _ 51 46 _ (by decide),ah _ 50 46 _ (by decide),ah _ 49 46 _ (by decide),ah _ 48 46 _ (by decide),ah _ 47 46 _ (by decide),bY _ 46 _ (by first|omega|(simp only[bR];omega))]
theorem zD:(ck a0 bX dh dd dg da cR cI cS cW cU cT cJ cE cY cX cZ dc).put (some 47) v=ck a0 bX dh dd dg da cR cI cS cW v cT cJ cE cY cX cZ dc:=by unfold ck;rw[ak _ 54 47 _ _ (by decide),ak _ 53 47 _ _ (by decide),ak _ 52 47 _ _ (by decide),ak _ 51 47 _ _ (by decide),ak _ 50 47 _ _ (by decide),ak _ 49 47 _ _ (by decide),ak _ 48 47 _ _ (by decide),ei _ 47]
theorem Cw (h:54<a0.tmps.size):(ck a0 bX dh dd dg da cR cI cS cW cU cT cJ cE cY cX cZ dc).eval (.tmp 47)=cU:=by unfold ck;rw[ah _ 54 47 _ (by decide),ah _ 53 47 _ (by decide),ah _ 52 47 _ (by decide),ah _ 51 47 _ (by decide),ah _ 50 47 _ (by decide),ah _ 49 47 _ (by decide),ah _ 48 47 _ (by decide),bY _ 47 _ (by first|omega|(simp only[bR];omega))]
theorem A1:(ck a0 bX dh dd dg da cR cI cS cW cU cT cJ cE cY cX cZ dc).put (some 48) v=ck a0 bX dh dd dg da cR cI cS cW cU v cJ cE cY cX cZ dc:=by unfold ck;rw[ak _ 54 48 _ _ (by decide),ak _ 53 48 _ _ (by decide),ak _ 52 48 _ _ (by decide),ak _ 51 48 _ _ (by decide),ak _ 50 48 _ _ (by decide),ak _ 49 48 _ _ (by decide),ei _ 48]
theorem DH (h:54<a0.tmps.size):(ck a0 bX dh dd dg da cR cI cS cW cU cT cJ cE cY cX cZ dc).eval (.tmp 48)=cT:=by unfold ck;rw[ah _ 54 48 _ (by decide),ah _ 53 48 _ (by decide),ah _ 52 48 _ (by decide),ah _ 51 48 _ (by decide),ah _ 50 48 _ (by decide),ah _ 49 48 _ (by decide),bY _ 48 _ (by first|omega|(simp only[bR];omega))]
theorem AG:(ck a0 bX dh dd dg da cR cI cS cW cU cT cJ cE cY cX cZ dc).put (some 49) v=ck a0 bX dh dd dg da cR cI cS cW cU cT v cE cY cX cZ dc:=by unfold ck;rw[ak _ 54 49 _ _ (by decide),ak _ 53 49 _ _ (by decide),ak _ 52 49 _ _ (by decide),ak _ 51 49 _ _ (by decide),ak _ 50 49 _ _ (by decide),ei _ 49]
theorem Dq (h:54<a0.tmps.size):(ck a0 bX dh dd dg da cR cI cS cW cU cT cJ cE cY cX cZ dc).eval (.tmp 49)=cJ:=by unfold ck;rw[ah _ 54 49 _ (by decide),ah _ 53 49 _ (by decide),ah _ 52 49 _ (by decide),ah _ 51 49 _ (by decide),ah _ 50 49 _ (by decide),bY _ 49 _ (by first|omega|(simp only[bR];omega))]
theorem zT:(ck a0 bX dh dd dg da cR cI cS cW cU cT cJ cE cY cX cZ dc).put (some 50) v=ck a0 bX dh dd dg da cR cI cS cW cU cT cJ v cY cX cZ dc:=by unfold ck;rw[ak _ 54 50 _ _ (by decide),ak _ 53 50 _ _ (by decide),ak _ 52 50 _ _ (by decide),ak _ 51 50 _ _ (by decide),ei _ 50]
theorem Dj (h:54<a0.tmps.size):(ck a0 bX dh dd dg da cR cI cS cW cU cT cJ cE cY cX cZ dc).eval (.tmp 50)=cE:=by unfold ck;rw[ah _ 54 50 _ (by decide),ah _ 53 50 _ (by decide),ah _ 52 50 _ (by decide),ah _ 51 50 _ (by decide),bY _ 50 _ (by first|omega|(simp only[bR];omega))]
theorem zC:(ck a0 bX dh dd dg da cR cI cS cW cU cT cJ cE cY cX cZ dc).put (some 51) v=ck a0 bX dh dd dg da cR cI cS cW cU cT cJ cE v cX cZ dc:=by unfold ck;rw[ak _ 54 51 _ _ (by decide),ak _ 53 51 _ _ (by decide),ak _ 52 51 _ _ (by decide),ei _ 51]
theorem Dh (h:54<a0.tmps.size):(ck a0 bX dh dd dg da cR cI cS cW cU cT cJ cE cY cX cZ dc).eval (.tmp 51)=cY:=by unfold ck;rw[ah _ 54 51 _ (by decide),ah _ 53 51 _ (by decide),ah _ 52 51 _ (by decide),bY _ 51 _ (by first|omega|(simp only[bR];omega))]
theorem AS:(ck a0 bX dh dd dg da cR cI cS cW cU cT cJ cE cY cX cZ dc).put (some 52) v=ck a0 bX dh dd dg da cR cI cS cW cU cT cJ cE cY v cZ dc:=by unfold ck;rw[ak _ 54 52 _ _ (by decide),ak _ 53 52 _ _ (by decide),ei _ 52]
theorem CV (h:54<a0.tmps.size):(ck a0 bX dh dd dg da cR cI cS cW cU cT cJ cE cY cX cZ dc).eval (.tmp 52)=cX:=by unfold ck;rw[ah _ 54 52 _ (by decide),ah _ 53 52 _ (by decide),bY _ 52 _ (by first|omega|(simp only[bR];omega))]
theorem A9:(ck a0 bX dh dd dg da cR cI cS cW cU cT cJ cE cY cX cZ dc).put (some 53) v=ck a0 bX dh dd dg da cR cI cS cW cU cT cJ cE cY cX v dc:=by unfold ck;rw[ak _ 54 53 _ _ (by decide),ei _ 53]
theorem C8 (h:54<a0.tmps.size):(ck a0 bX dh dd dg da cR cI cS cW cU cT cJ cE cY cX cZ dc).eval (.tmp 53)=cZ:=by unfold ck;rw[ah _ 54 53 _ (by decide),bY _ 53 _ (by first|omega|(simp only[bR];omega))]
theorem Ao:(ck a0 bX dh dd dg da cR cI cS cW cU cT cJ cE cY cX cZ dc).put (some 54) v=ck a0 bX dh dd dg da cR cI cS cW cU cT cJ cE cY cX cZ v:=by unfold ck;rw[ei _ 54]
theorem Dn (h:54<a0.tmps.size):(ck a0 bX dh dd dg da cR cI cS cW cU cT cJ cE cY cX cZ dc).eval (.tmp 54)=dc:=by unfold ck;rw[bY _ 54 _ (by first|omega|(simp only[bR];omega))]
theorem AO (h:54<a0.tmps.size):(ck a0 bX dh dd dg da cR cI cS cW cU cT cJ cE cY cX cZ dc).tmps[38]?.getD undef=bX:=by have:=CB a0 bX dh dd dg da cR cI cS cW cU cT cJ cE cY cX cZ dc h;simpa [Act.eval]using this
theorem Aq (h:54<a0.tmps.size):(ck a0 bX dh dd dg da cR cI cS cW cU cT cJ cE cY cX cZ dc).tmps[39]?.getD undef=dh:=by have:=CI a0 bX dh dd dg da cR cI cS cW cU cT cJ cE cY cX cZ dc h;simpa [Act.eval]using this
theorem zV (h:54<a0.tmps.size):(ck a0 bX dh dd dg da cR cI cS cW cU cT cJ cE cY cX cZ dc).tmps[40]?.getD undef=dd:=by have:=Dp a0 bX dh dd dg da cR cI cS cW cU cT cJ cE cY cX cZ dc h;simpa [Act.eval]using this
theorem z7 (h:54<a0.tmps.size):(ck a0 bX dh dd dg da cR cI cS cW cU cT cJ cE cY cX cZ dc).tmps[41]?.getD undef=dg:=by have:=Da a0 bX dh dd dg da cR cI cS cW cU cT cJ cE cY cX cZ dc h;simpa [Act.eval]using this
theorem Bt (h:54<a0.tmps.size):(ck a0 bX dh dd dg da cR cI cS cW cU cT cJ cE cY cX cZ dc).tmps[42]?.getD undef=da:=by have:=CZ a0 bX dh dd dg da cR cI cS cW cU cT cJ cE cY cX cZ dc h;simpa [Act.eval]using this
theorem zU (h:54<a0.tmps.size):(ck a0 bX dh dd dg da cR cI cS cW cU cT cJ cE cY cX cZ dc).tmps[43]?.getD undef=cR:=by have:=Di a0 bX dh dd dg da cR cI cS cW cU cT cJ cE cY cX cZ dc h;simpa [Act.eval]using this
theorem Bj (h:54<a0.tmps.size):(ck a0 bX dh dd dg da cR cI cS cW cU cT cJ cE cY cX cZ dc).tmps[44]?.getD undef=cI:=by have:=CM a0 bX dh dd dg da cR cI cS cW cU cT cJ cE cY cX cZ dc h;simpa [Act.eval]using this
theorem Ar (h:54<a0.tmps.size):(ck a0 bX dh dd dg da cR cI cS cW cU cT cJ cE cY cX cZ dc).tmps[45]?.getD undef=cS:=by have:=DF a0 bX dh dd dg da cR cI cS cW cU cT cJ cE cY cX cZ dc h;simpa [Act.eval]using this
theorem Br (h:54<a0.tmps.size):(ck a0 bX dh dd dg da cR cI cS cW cU cT cJ cE cY cX cZ dc).tmps[46]?.getD undef=cW:=by have:=DE a0 bX dh dd dg da cR cI cS cW cU cT cJ cE cY cX cZ dc h;simpa [Act.eval]using this
theorem zF (h:54<a0.tmps.size):(ck a0 bX dh dd dg da cR cI cS cW cU cT cJ cE cY cX cZ dc).tmps[47]?.getD undef=cU:=by have:=Cw a0 bX dh dd dg da cR cI cS cW cU cT cJ cE cY cX cZ dc h;simpa [Act.eval]using this
theorem Bw (h:54<a0.tmps.size):(ck a0 bX dh dd dg da cR cI cS cW cU cT cJ cE cY cX cZ dc).tmps[48]?.getD undef=cT:=by have:=DH a0 bX dh dd dg da cR cI cS cW cU cT cJ cE cY cX cZ dc h;simpa [Act.eval]using this
theorem zQ (h:54<a0.tmps.size):(ck a0 bX dh dd dg da cR cI cS cW cU cT cJ cE cY cX cZ dc).tmps[49]?.getD undef=cJ:=by have:=Dq a0 bX dh dd dg da cR cI cS cW cU cT cJ cE cY cX cZ dc h;simpa [Act.eval]using this
theorem Be (h:54<a0.tmps.size):(ck a0 bX dh dd dg da cR cI cS cW cU cT cJ cE cY cX cZ dc).tmps[50]?.getD undef=cE:=by have:=Dj a0 bX dh dd dg da cR cI cS cW cU cT cJ cE cY cX cZ dc h;simpa [Act.eval]using this
theorem zO (h:54<a0.tmps.size):(ck a0 bX dh dd dg da cR cI cS cW cU cT cJ cE cY cX cZ dc).tmps[51]?.getD undef=cY:=by have:=Dh a0 bX dh dd dg da cR cI cS cW cU cT cJ cE cY cX cZ dc h;simpa [Act.eval]using this
theorem Am (h:54<a0.tmps.size):(ck a0 bX dh dd dg da cR cI cS cW cU cT cJ cE cY cX cZ dc).tmps[52]?.getD undef=cX:=by have:=CV a0 bX dh dd dg da cR cI cS cW cU cT cJ cE cY cX cZ dc h;simpa [Act.eval]using this
theorem AI (h:54<a0.tmps.size):(ck a0 bX dh dd dg da cR cI cS cW cU cT cJ cE cY cX cZ dc).tmps[53]?.getD undef=cZ:=by have:=C8 a0 bX dh dd dg da cR cI cS cW cU cT cJ cE cY cX cZ dc h;simpa [Act.eval]using this
theorem AR (h:54<a0.tmps.size):(ck a0 bX dh dd dg da cR cI cS cW cU cT cJ cE cY cX cZ dc).tmps[54]?.getD undef=dc:=by have:=Dn a0 bX dh dd dg da cR cI cS cW cU cT cJ cE cY cX cZ dc h;simpa [Act.eval]using this
theorem FD:(ck a0 bX dh dd dg da cR cI cS cW cU cT cJ cE cY cX cZ dc).eval (.tmp 1)=a0.eval (.tmp 1):=by unfold ck;rw[ah _ 54 1 _ (by decide),ah _ 53 1 _ (by decide),ah _ 52 1 _ (by decide),ah _ 51 1 _ (by decide),ah _ 50 1 _ (by decide),ah _ 49 1 _ (by decide),ah _ 48 1 _ (by decide),ah _ 47 1 _ (by decide),ah _ 46 1 _ (by decide),ah _ 45 1 _ (by decide),ah _ 44 1 _ (by decide),ah _ 43 1 _ (by decide),ah _ 42 1 _ (by decide),ah _ 41 1 _ (by decide),ah _ 40 1 _ (by decide),ah _ 39 1 _ (by decide),ah _ 38 1 _ (by decide)]
theorem Dl (u:Value) (h:a0.eval (.tmp 1)=u):(ck a0 bX dh dd dg da cR cI cS cW cU cT cJ cE cY cX cZ dc).tmps[1]?.getD undef=u:=by have:=(FD a0 bX dh dd dg da cR cI cS cW cU cT cJ cE cY cX cZ dc).trans h;simpa [Act.eval]using this
theorem Fx:(ck a0 bX dh dd dg da cR cI cS cW cU cT cJ cE cY cX cZ dc).eval (.tmp 7)=a0.eval (.tmp 7):=by unfold ck;rw[ah _ 54 7 _ (by decide),ah _ 53 7 _ (by decide),ah _ 52 7 _ (by decide),ah _ 51 7 _ (by decide),ah _ 50 7 _ (by decide),ah _ 49 7 _ (by decide),ah _ 48 7 _ (by decide),ah _ 47 7 _ (by decide),ah _ 46 7 _ (by decide),ah _ 45 7 _ (by decide),ah _ 44 7 _ (by decide),ah _ 43 7 _ (by decide),ah _ 42 7 _ (by decide),ah _ 41 7 _ (by decide),ah _ 40 7 _ (by decide),ah _ 39 7 _ (by decide),ah _ 38 7 _ (by decide)]
theorem wu (u:Value) (h:a0.eval (.tmp 7)=u):(ck a0 bX dh dd dg da cR cI cS cW cU cT cJ cE cY cX cZ dc).tmps[7]?.getD undef=u:=by have:=(Fx a0 bX dh dd dg da cR cI cS cW cU cT cJ cE cY cX cZ dc).trans h;simpa [Act.eval]using this
theorem FQ:(ck a0 bX dh dd dg da cR cI cS cW cU cT cJ cE cY cX cZ dc).eval (.tmp 8)=a0.eval (.tmp 8):=by unfold ck;rw[ah _ 54 8 _ (by decide),ah _ 53 8 _ (by decide),ah _ 52 8 _ (by decide),ah _ 51 8 _ (by decide),ah _ 50 8 _ (by decide),ah _ 49 8 _ (by decide),ah _ 48 8 _ (by decide),ah _ 47 8 _ (by decide),ah _ 46 8 _ (by decide),ah _ 45 8 _ (by decide),ah _ 44 8 _ (by decide),ah _ 43 8 _ (by decide),ah _ 42 8 _ (by decide),ah _ 41 8 _ (by decide),ah _ 40 8 _ (by decide),ah _ 39 8 _ (by decide),ah _ 38 8 _ (by decide)]
theorem vV (u:Value) (h:a0.eval (.tmp 8)=u):(ck a0 bX dh dd dg da cR cI cS cW cU cT cJ cE cY cX cZ dc).tmps[8]?.getD undef=u:=by have:=(FQ a0 bX dh dd dg da cR cI cS cW cU cT cJ cE cY cX cZ dc).trans h;simpa [Act.eval]using this
theorem DB:(ck a0 bX dh dd dg da cR cI cS cW cU cT cJ cE cY cX cZ dc).eval (.tmp 10)=a0.eval (.tmp 10):=by unfold ck;rw[ah _ 54 10 _ (by decide),ah _ 53 10 _ (by decide),ah _ 52 10 _ (by decide),ah _ 51 10 _ (by decide),ah _ 50 10 _ (by decide),ah _ 49 10 _ (by decide),ah _ 48 10 _ (by decide),ah _ 47 10 _ (by decide),ah _ 46 10 _ (by decide),ah _ 45 10 _ (by decide),ah _ 44 10 _ (by decide),ah _ 43 10 _ (by decide),ah _ 42 10 _ (by decide),ah _ 41 10 _ (by decide),ah _ 40 10 _ (by decide),ah _ 39 10 _ (by decide),ah _ 38 10 _ (by decide)]
theorem rP (u:Value) (h:a0.eval (.tmp 10)=u):(ck a0 bX dh dd dg da cR cI cS cW cU cT cJ cE cY cX cZ dc).tmps[10]?.getD undef=u:=by have:=(DB a0 bX dh dd dg da cR cI cS cW cU cT cJ cE cY cX cZ dc).trans h;simpa [Act.eval]using this
theorem CY:(ck a0 bX dh dd dg da cR cI cS cW cU cT cJ cE cY cX cZ dc).eval (.tmp 11)=a0.eval (.tmp 11):=by unfold ck;rw[ah _ 54 11 _ (by decide),ah _ 53 11 _ (by decide),ah _ 52 11 _ (by decide),ah _ 51 11 _ (by decide),ah _ 50 11 _ (by decide),ah _ 49 11 _ (by decide),ah _ 48 11 _ (by decide),ah _ 47 11 _ (by decide),ah _ 46 11 _ (by decide),ah _ 45 11 _ (by decide),ah _ 44 11 _ (by decide),ah _ 43 11 _ (by decide),ah _ 42 11 _ (by decide),ah _ 41 11 _ (by decide),ah _ 40 11 _ (by decide),ah _ 39 11 _ (by decide),ah _ 38 11 _ (by decide)]
theorem sO (u:Value) (h:a0.eval (.tmp 11)=u):(ck a0 bX dh dd dg da cR cI cS cW cU cT cJ cE cY cX cZ dc).tmps[11]?.getD undef=u:=by have:=(CY a0 bX dh dd dg da cR cI cS cW cU cT cJ cE cY cX cZ dc).trans h;simpa [Act.eval]using this
end
end Go.Proofs.YtbiokpmdghmgcaaGreat
namespace Go.Proofs.YtbiokpmdghmgcaaGreat
set_option maxRecDepth 8000
set_option maxHeartbeats 40000000
open Go.RowKit Go.Deep
def lC (fs:List Fld) (K:ByteArray) (p:Nat) (vs:List ByteArray) (m:Mnd):Bool:=bm K m&&fL p vs (ec fs m)
def bT (fs:List Fld) (K:ByteArray) (p:Nat) (vs:List ByteArray):List Mnd→Option ByteArray
 |[]=>none
 |m::ms=>if lC fs K p vs m then some (jo (ec fs m) vs) else bT fs K p vs ms
theorem oS (fs:List Fld) (K:ByteArray) (p:Nat) (vs:List ByteArray):∀ ms:List Mnd,bT fs K p vs ms=if du (bz fs ms K) p vs<(bz fs ms K).length then some (jo ((bz fs ms K).getD (du (bz fs ms K) p vs) Mng.none) vs) else none
 |[]=>by simp[bT,bz,du]
 |m::ms=>by
  have ih:=oS fs K p vs ms;unfold bT lC;cases hk:bm K m
  ·have e:bz fs (m::ms) K=bz fs ms K:=by simp[bz,hk]
   rw[e];simpa using ih
  ·have e:bz fs (m::ms) K=ec fs m::bz fs ms K:=by simp[bz,hk]
   rw[e];cases hd:fL p vs (ec fs m)
   ·have e2:du (ec fs m::bz fs ms K) p vs=du (bz fs ms K) p vs+1:=by unfold du;rw[List.findIdx_cons,hd];rfl
    rw[e2];simp only[Bool.true_and,Bool.false_eq_true,if_false,List.length_cons,Nat.add_lt_add_iff_right,List.getD_cons_succ];exact ih
   ·have e2:du (ec fs m::bz fs ms K) p vs=0:=by unfold du;rw[List.findIdx_cons,hd];rfl
    rw[e2];simp
theorem mg {fs:List Fld} {K:ByteArray} {p:Nat} {vs:List ByteArray} {ms:List Mnd} {i:Nat} (hi:i<ms.length):bT fs K p vs (ms.drop i)=if lC fs K p vs (ms.getD i Mnd.none) then some (jo (ec fs (ms.getD i Mnd.none)) vs) else bT fs K p vs (ms.drop (i+1)):=by
 have e:ms.getD i Mnd.none=ms[i]:=by simp[hi]
 rw[List.drop_eq_getElem_cons hi,e];rfl
theorem rS (fs:List Fld) (K:ByteArray) (ms:List Mnd) (vs:List ByteArray) (p:Nat) (hp:p<vs.length):dV (bz fs ms K) vs p=vs.set p ((bT fs K p vs ms).getD (vs.getD p ByteArray.empty)):=by
 rw[oS];unfold dV;split
 ·rfl
 ·simp only[Option.getD_none];apply List.ext_getElem
  ·simp
  ·intro i h1 h2;by_cases hip:p=i
   ·subst hip;simp[hp]
   ·simp[hip]
theorem AX {ss:List Shp} {fs:List Fld} (h:aH ss fs=true) {p:Nat} (hp:p<fs.length) {k:ByteArray} (hk:nameAt fs k<fs.length):decide (nameAt fs k=p)=(k.toList==(cP fs p).toList):=by
 cases hb:(k.toList==(cP fs p).toList)
 ·rw[decide_eq_false];intro e;have:=List.findIdx_getElem (xs:=fs) (p:=fun f:Fld=>f.nm.toList==k.toList) (w:=hk);have e2:fs.getD p Fld.none=fs[p]:=by simp[hp]
  have e3:cP fs p=(fs[nameAt fs k]).nm:=by unfold cP;rw[e2];simp only[e]
  rw[e3]at hb;have h4:((fs[nameAt fs k]).nm.toList==k.toList)=true:=this;rw[beq_iff_eq]at h4;rw[h4]at hb;simp at hb
 ·rw[decide_eq_true];rw[beq_iff_eq]at hb;rw[mu hb];exact fV h hp
theorem CJ {ss:List Shp} {fs:List Fld} (h:aH ss fs=true) {p:Nat} (hp:p<fs.length) {K:ByteArray} {vs:List ByteArray} {m:Mnd} (hf:bm K m=true→found fs m):
  lC fs K p vs m=((m.kind.toList==K.toList)&&(m.field.toList==(cP fs p).toList)&&(Pl.aE m.whn||((vs.getD (nameAt fs m.whn) ByteArray.empty).toList==m.is_.toList))&&(Pl.aE m.frm|| !(vs.getD (nameAt fs m.frm) ByteArray.empty).toList.isEmpty)):=by
 unfold lC fL;cases hk:bm K m
 ·unfold bm at hk;rw[hk];rfl
 ·have hf:=hf hk;unfold bm at hk;rw[hk];show (true&&(decide (nameAt fs m.field=p)&&(dX fs m).all (kT vs)))=_;rw[AX h hp hf.1];unfold dX;cases hw:Pl.aE m.whn<;>cases hr:Pl.aE m.frm<;>simp[kT,Bool.and_assoc]
theorem iy (B:Nat) (fs:List Fld) (k:ByteArray) (w:World) (h:bW w B fs) (hk:nameAt fs k<fs.length):
  Calls Tryz.prog 163 #[.slice (some ⟨B,0,none⟩) fs.length fs.length,.string k] w fun e w'=>e=.returned (.int .i64 (nameAt fs k:Nat))∧w'=w:=by
 refine(qN B fs k w h).mono ?_;rintro e w' ⟨rfl,rfl⟩;rw[if_pos hk];exact⟨rfl,rfl⟩
theorem Ax (ss:List Shp) (fb mb g cap p:Nat) (fs:List Fld) (ms:List Mnd) (vs:List ByteArray) (kd nm tm:ByteArray) (en:Bool) (v2:Value) (ver:Int) (w:World) (dP:bW w fb fs) (hm:dv w mb ms) (hv:VAt w g vs) (qD:aH ss fs=true) (vK:vs.length=fs.length) (hp:p<fs.length)
  (hf:∀ m∈ms,bm kd m=true→found fs m) (ho:∀ m∈ms,bm kd m=true→aR fs m=true):
  Calls Tryz.prog 168 #[.slice (some ⟨fb,0,none⟩) fs.length fs.length,.slice (some ⟨mb,0,none⟩) ms.length ms.length,.agg #[.string kd,.string nm,.string tm,.slice (some ⟨g,0,none⟩) vs.length cap,.bool en,v2,.int .i64 ver],.string (cP fs p)] w fun e w'=>e=.returned (.string ((bT fs kd p vs ms).getD (vs.getD p ByteArray.empty)))∧Bel w w':=by
 have HA:Hid (bW w fb fs∧dv w mb ms∧VAt w g vs):=⟨dP,hm,hv⟩
 have HP:Hid (aH ss fs=true∧vs.length=fs.length∧(∀ m∈ms,bm kd m=true→found fs m)∧(∀ m∈ms,bm kd m=true→aR fs m=true)):=⟨qD,vK,hf,ho⟩
 have Hr:=hm.len;have hlf:=dP.len;have hpv:p<vs.length:=by omega
 have hlv:=hv.len;have ME:Hid (nameAt fs (cP fs p)=p):=fV qD hp;clear dP hm hv qD vK hf ho;obtain⟨fd,LQ⟩:∃ fd,fd=cP fs p:=⟨_,rfl⟩
 have BX:=hid LQ;rw[← LQ]at ME ⊢;clear LQ;obtain⟨w1,eb⟩:∃ w1,w1=w.alloc (.cells #[.string kd,.string nm,.string tm,.slice (some ⟨g,0,none⟩) vs.length cap,.bool en,v2,.int .i64 ver] 111):=⟨_,rfl⟩
 have cQ:Hid (Bel w w1):=by show Below _ _ _;rw[eb];exact ab br _
 have dE:Hid (w.heap.size<w1.heap.size∧w1.cell? ⟨w.heap.size,0,none⟩=some (.string kd)∧w1.cell? ⟨w.heap.size,3,none⟩=some (.slice (some ⟨g,0,none⟩) vs.length cap)):=by
  refine⟨?_, ?_, ?_⟩<;>rw[eb]<;>simp
 go_enter Tryz.func168,Tryz.ntmps168
 go_upto_region 1 with fail
 rw[← eb];clear eb;go_wp2;go_loopw [9,10,11] (fun s9 yL s11 wr=>∃ q:Nat,q≤ms.length∧s9=.int .i64 q∧bT fs kd p vs ms=bT fs kd p vs (ms.drop q)∧Bel w1 wr) (fun s9 _ _ _=>ms.length - (intOf s9).toNat)
 case atStart=>exact⟨0,nz,rfl,rfl,br⟩
 case round=>
  obtain⟨q,hq,rfl,hdv,hW⟩:=hrel;have Ni:=hid hdv;have HW:=hid hW;have fw:=hid (aa cQ.out hW);have xz:=lo dE.out.1 hW.size;have x0:=(hW.cell (p:=⟨w.heap.size,0,none⟩) dE.out.1).trans dE.out.2.1;have x3:=(hW.cell (p:=⟨w.heap.size,3,none⟩) dE.out.1).trans dE.out.2.2;clear hdv hW;by_cases av:q<ms.length
  ·have hmq:=(HA.out.2.1.later fw.out).at_ q av;have hmz:=(HA.out.2.1.later fw.out).lt;obtain⟨m,g9⟩:∃ m,m=ms.getD q Mnd.none:=⟨_,rfl⟩
   rw[← g9]at hmq;obtain⟨c0,c1,c2,c3,c4,c5,_⟩:=hmq;have yO:m∈ms:=by rw[g9];simp[av]
   have BC:Hid (lC fs kd p vs m=((m.kind.toList==kd.toList)&&(m.field.toList==fd.toList)&&(Pl.aE m.whn||((vs.getD (nameAt fs m.whn) ByteArray.empty).toList==m.is_.toList))&&(Pl.aE m.frm|| !(vs.getD (nameAt fs m.frm) ByteArray.empty).toList.isEmpty))):=by rw[BX.out];exact CJ HP.out.1 hp (HP.out.2.2.1 m yO)
   have JO:Hid (lC fs kd p vs m=false→bT fs kd p vs ms=bT fs kd p vs (ms.drop (q+1))):=by
    intro hf;rw[Ni.out,mg av,← g9,hf];rfl
   have Lc:Hid (lC fs kd p vs m=true→bT fs kd p vs ms=some (jo (ec fs m) vs)):=by
    intro hf;rw[Ni.out,mg av,← g9,hf];rfl
   have HFM:Hid (bm kd m=true→found fs m∧aR fs m=true):=fun hk=>⟨HP.out.2.2.1 m yO hk,HP.out.2.2.2 m yO hk⟩
   clear g9 yO;obtain⟨w2,gQ⟩:∃ w2,w2=wr.alloc (.cells #[.string m.kind,.string m.field,.string m.whn,.string m.is_,.string m.put,.string m.frm] 136):=⟨_,rfl⟩
   have iI:Hid (Bel wr w2):=by show Below _ _ _;rw[gQ];exact ab br _
   have mP:Hid (wr.heap.size<w2.heap.size∧∀ j,w2.cell? ⟨wr.heap.size,j,none⟩=(#[.string m.kind,.string m.field,.string m.whn,.string m.is_,.string m.put,.string m.frm]:Array Value)[j]?):=by
    refine⟨by rw[gQ];simp,fun j=>by rw[gQ];exact World.cell?_alloc_at _ _ _ _ rfl⟩
   go_upto_region 5 with fail
   rw[← gQ];clear gQ c0 c1 c2 c3 c4 c5 hmz;have mz:=mP.out.1;have d0:=mP.out.2 0;have d1:=mP.out.2 1;have d2:=mP.out.2 2;have d3:=mP.out.2 3;have d4:=mP.out.2 4;have d5:=mP.out.2 5;have y0:=(iI.out.cell (p:=⟨w.heap.size,0,none⟩) xz).trans x0;have y3:=(iI.out.cell (p:=⟨w.heap.size,3,none⟩) xz).trans x3;have yz:=lo xz iI.out.size;have iH:=hid (aa fw.out iI.out);have Hi:=hid (And.intro (HA.out.2.2.later iH.out) (HA.out.1.later iH.out));have gz:=Hi.out.1.lt;clear x0 x3 xz;cases h1:(m.kind.toList==kd.toList)
   ·have HN:=hid (JO.out (by rw[BC.out,h1];rfl));have Il:(m.kind.toList !=kd.toList)=true:=by simp[bne,h1]
    go_quiet (fail)
    go_wp2;go_roundw
    case rel=>exact⟨q+1,by omega,by go_num,HN.out,aa HW.out (by repeat(first|exact iI.out|refine al ?_ _))⟩
    case measure=>simp[intOf];omega
   obtain⟨Jf,Ki⟩:=HFM.out h1;have BF:=hid (And.intro Jf Ki);clear Jf Ki;cases h2:(m.field.toList==fd.toList)
   ·have HN:=hid (JO.out (by rw[BC.out,h1,h2];rfl));go_quiet (fail)
    go_wp2;go_roundw
    case rel=>exact⟨q+1,by omega,by go_num,HN.out,aa HW.out (by repeat(first|exact iI.out|refine al ?_ _))⟩
    case measure=>simp[intOf];omega
   cases h3:m.whn.toList.isEmpty
   case true=>
    have EF:Pl.aE m.whn=true:=h3;go_cut [50] (fun cE wx=>cE=.bool false∧Bel w2 wx)
    case first=>
     go_quiet (fail)
     go_wp2_with fail
     go_meet
     exact⟨rfl,by repeat(first|exact br|refine al ?_ _)⟩
    case rest=>
    obtain⟨rfl,aO⟩:=hcut;rename World=>w3;have e1z:=lo mz aO.size;have e4:=(aO.cell (p:=⟨wr.heap.size,4,none⟩) mz).trans d4;have e5:=(aO.cell (p:=⟨wr.heap.size,5,none⟩) mz).trans d5;have f3:=(aO.cell (p:=⟨w.heap.size,3,none⟩) yz).trans y3;have fz:=lo yz aO.size;have G9:=hid (And.intro (Hi.out.1.later aO) (Hi.out.2.later aO));have yZ:=hid (aa iI.out aO);have fO:=hid (aa iH.out aO);clear aO d0 d1 d2 d3 d4 d5 y0 y3 mz yz gz;cases h5:m.frm.toList.isEmpty
    case true=>
     have vI:Pl.aE m.frm=true:=h5;have HT:Hid (bT fs kd p vs ms=some m.put):=by
      show bT _ _ _ _ _=_;rw[Lc.out (by rw[BC.out,h1,h2,vI,EF];simp)];have hb:=BF.out.2;unfold aR at hb;simp only[Bool.and_eq_true]at hb;have rF:=hb.1.1.1.2;unfold mq at rF;rw[vI]at rF;have yS:Pl.aE m.put=false:=by cases hh:Pl.aE m.put;rfl;rw[hh]at rF;simp at rF
      have vE:m.put.toList.isEmpty=false:=yS;unfold jo ec;simp only[vE,Bool.false_eq_true,if_false]
     go_wp2;go_ret;exact⟨by rw[HT.out];rfl,fO.out⟩
    have vI:Pl.aE m.frm=false:=h5;have yM:=BF.out.1.2.2 vI;have EE:Hid (∀ k,Calls Tryz.prog 163 #[.slice (some ⟨fb,0,none⟩) fs.length fs.length,.string m.frm] (w3.drewN k) fun e w'=>e=.returned (.int .i64 (nameAt fs m.frm:Nat))∧w'=w3.drewN k):=fun k=>iy fb fs m.frm _ (G9.out.2.later (al br k)) yM;have Gp:Hid (w3.cell? ⟨g,nameAt fs m.frm,none⟩=some (.string (vs.getD (nameAt fs m.frm) ByteArray.empty))):=G9.out.1.at_ _ (by rw[HP.out.2.1];exact yM);have rz:Hid (lC fs kd p vs m= !(vs.getD (nameAt fs m.frm) ByteArray.empty).toList.isEmpty):=by show _=_;rw[BC.out,h1,h2,vI,EF];simp
    have B9:Hid (lC fs kd p vs m=true→bT fs kd p vs ms=some (vs.getD (nameAt fs m.frm) ByteArray.empty)):=by
     intro hd;rw[Lc.out hd];have hb:=BF.out.2;unfold aR at hb;simp only[Bool.and_eq_true]at hb;have rF:=hb.1.1.1.2;unfold mq at rF;rw[vI]at rF;have yS:Pl.aE m.put=true:=by cases hh:Pl.aE m.put;rw[hh]at rF;simp at rF;rfl
     have vE:m.put.toList.isEmpty=true:=yS;unfold jo ec;simp only[vE,if_true,vI,Bool.false_eq_true,if_false]
    have MS:nameAt fs m.frm<vs.length:=by rw[HP.out.2.1];exact yM
    have gz3:=G9.out.1.lt;obtain⟨nf,BP⟩:∃ nf,nf=nameAt fs m.frm:=⟨_,rfl⟩
    rw[← BP]at EE Gp rz B9 MS;obtain⟨u,hu⟩:∃ u,u=vs.getD nf ByteArray.empty:=⟨_,rfl⟩
    rw[← hu]at Gp rz B9;have zh:=Gp.out;clear BP hu yM;go_upto_region 8 with fail
    go_cut [11] (fun s11 wx=>s11=.string u∧Bel w3 wx)
    case first=>
     go_quiet ((go_at_call 163;exact Calls.quiet_of_same (EE.out _)))
     go_wp2_with fail
     go_meet
     exact⟨rfl,by repeat(first|exact br|refine al ?_ _)⟩
    case rest=>
    obtain⟨rfl,cA⟩:=hcut;rename World=>w4;have aZ:=hid (aa fO.out cA);have BM:=hid (aa yZ.out cA);clear cA e1z e4 e5 f3 fz zh gz3;cases h6:u.toList.isEmpty
    ·have HT:=hid (B9.out (by rw[rz.out,h6];rfl));go_wp2;go_ret;exact⟨by rw[HT.out];rfl,aZ.out⟩
    ·have HN:=hid (JO.out (by rw[rz.out,h6];rfl));go_wp2;go_roundw
     case rel=>exact⟨q+1,by omega,by go_num,HN.out,aa HW.out BM.out⟩
     case measure=>simp[intOf];omega
   have EF:Pl.aE m.whn=false:=h3;have K2:=BF.out.1.2.1 EF;have Mz:Hid (∀ k,Calls Tryz.prog 163 #[.slice (some ⟨fb,0,none⟩) fs.length fs.length,.string m.whn] (w2.drewN k) fun e w'=>e=.returned (.int .i64 (nameAt fs m.whn:Nat))∧w'=w2.drewN k):=fun k=>iy fb fs m.whn _ (Hi.out.2.later (al br k)) K2;have MD:Hid (w2.cell? ⟨g,nameAt fs m.whn,none⟩=some (.string (vs.getD (nameAt fs m.whn) ByteArray.empty))):=Hi.out.1.at_ _ (by rw[HP.out.2.1];exact K2);have Nv:nameAt fs m.whn<vs.length:=by rw[HP.out.2.1];exact K2
   obtain⟨nw,Km⟩:∃ nw,nw=nameAt fs m.whn:=⟨_,rfl⟩
   rw[← Km]at Mz MD Nv BC;obtain⟨uw,huw⟩:∃ uw,uw=vs.getD nw ByteArray.empty:=⟨_,rfl⟩
   rw[← huw]at MD BC;have hcw:=MD.out;clear Km huw K2;cases h4:(uw.toList==m.is_.toList)
   ·have HN:=hid (JO.out (by rw[BC.out,h1,h2,EF,h4];rfl));go_cut [50] (fun cE wx=>cE=.bool true∧Bel w2 wx)
    case first=>
     go_quiet ((go_at_call 163;exact Calls.quiet_of_same (Mz.out _)))
     go_wp2_with fail
     go_meet
     exact⟨rfl,by repeat(first|exact br|refine al ?_ _)⟩
    case rest=>
    obtain⟨rfl,aO⟩:=hcut;rename World=>w3;have yZ:=hid (aa iI.out aO);clear aO d0 d1 d2 d3 d4 d5 y0 y3 mz yz gz hcw;go_wp2;go_roundw
    case rel=>exact⟨q+1,by omega,by go_num,HN.out,aa HW.out yZ.out⟩
    case measure=>simp[intOf];omega
   go_cut [50] (fun cE wx=>cE=.bool false∧Bel w2 wx)
   case first=>
    go_quiet ((go_at_call 163;exact Calls.quiet_of_same (Mz.out _)))
    go_wp2_with fail
    go_meet
    exact⟨rfl,by repeat(first|exact br|refine al ?_ _)⟩
   case rest=>
   obtain⟨rfl,aO⟩:=hcut;rename World=>w3;have e1z:=lo mz aO.size;have e4:=(aO.cell (p:=⟨wr.heap.size,4,none⟩) mz).trans d4;have e5:=(aO.cell (p:=⟨wr.heap.size,5,none⟩) mz).trans d5;have f3:=(aO.cell (p:=⟨w.heap.size,3,none⟩) yz).trans y3;have fz:=lo yz aO.size;have G9:=hid (And.intro (Hi.out.1.later aO) (Hi.out.2.later aO));have yZ:=hid (aa iI.out aO);have fO:=hid (aa iH.out aO);clear aO d0 d1 d2 d3 d4 d5 y0 y3 mz yz gz;cases h5:m.frm.toList.isEmpty
   case true=>
    have vI:Pl.aE m.frm=true:=h5;have HT:Hid (bT fs kd p vs ms=some m.put):=by
     show bT _ _ _ _ _=_;rw[Lc.out (by rw[BC.out,h1,h2,vI,EF,h4];simp)];have hb:=BF.out.2;unfold aR at hb;simp only[Bool.and_eq_true]at hb;have rF:=hb.1.1.1.2;unfold mq at rF;rw[vI]at rF;have yS:Pl.aE m.put=false:=by cases hh:Pl.aE m.put;rfl;rw[hh]at rF;simp at rF
     have vE:m.put.toList.isEmpty=false:=yS;unfold jo ec;simp only[vE,Bool.false_eq_true,if_false]
    go_wp2;go_ret;exact⟨by rw[HT.out];rfl,fO.out⟩
   have vI:Pl.aE m.frm=false:=h5;have yM:=BF.out.1.2.2 vI;have EE:Hid (∀ k,Calls Tryz.prog 163 #[.slice (some ⟨fb,0,none⟩) fs.length fs.length,.string m.frm] (w3.drewN k) fun e w'=>e=.returned (.int .i64 (nameAt fs m.frm:Nat))∧w'=w3.drewN k):=fun k=>iy fb fs m.frm _ (G9.out.2.later (al br k)) yM;have Gp:Hid (w3.cell? ⟨g,nameAt fs m.frm,none⟩=some (.string (vs.getD (nameAt fs m.frm) ByteArray.empty))):=G9.out.1.at_ _ (by rw[HP.out.2.1];exact yM);have rz:Hid (lC fs kd p vs m= !(vs.getD (nameAt fs m.frm) ByteArray.empty).toList.isEmpty):=by show _=_;rw[BC.out,h1,h2,vI,EF,h4];simp
   have B9:Hid (lC fs kd p vs m=true→bT fs kd p vs ms=some (vs.getD (nameAt fs m.frm) ByteArray.empty)):=by
    intro hd;rw[Lc.out hd];have hb:=BF.out.2;unfold aR at hb;simp only[Bool.and_eq_true]at hb;have rF:=hb.1.1.1.2;unfold mq at rF;rw[vI]at rF;have yS:Pl.aE m.put=true:=by cases hh:Pl.aE m.put;rw[hh]at rF;simp at rF;rfl
    have vE:m.put.toList.isEmpty=true:=yS;unfold jo ec;simp only[vE,if_true,vI,Bool.false_eq_true,if_false]
   have MS:nameAt fs m.frm<vs.length:=by rw[HP.out.2.1];exact yM
   have gz3:=G9.out.1.lt;obtain⟨nf,BP⟩:∃ nf,nf=nameAt fs m.frm:=⟨_,rfl⟩
   rw[← BP]at EE Gp rz B9 MS;obtain⟨u,hu⟩:∃ u,u=vs.getD nf ByteArray.empty:=⟨_,rfl⟩
   rw[← hu]at Gp rz B9;have zh:=Gp.out;clear BP hu yM;go_upto_region 8 with fail
   go_cut [11] (fun s11 wx=>s11=.string u∧Bel w3 wx)
   case first=>
    go_quiet ((go_at_call 163;exact Calls.quiet_of_same (EE.out _)))
    go_wp2_with fail
    go_meet
    exact⟨rfl,by repeat(first|exact br|refine al ?_ _)⟩
   case rest=>
   obtain⟨rfl,cA⟩:=hcut;rename World=>w4;have aZ:=hid (aa fO.out cA);have BM:=hid (aa yZ.out cA);clear cA e1z e4 e5 f3 fz zh gz3;cases h6:u.toList.isEmpty
   ·have HT:=hid (B9.out (by rw[rz.out,h6];rfl));go_wp2;go_ret;exact⟨by rw[HT.out];rfl,aZ.out⟩
   ·have HN:=hid (JO.out (by rw[rz.out,h6];rfl));go_wp2;go_roundw
    case rel=>exact⟨q+1,by omega,by go_num,HN.out,aa HW.out BM.out⟩
    case measure=>simp[intOf];omega
  ·have HT:Hid (bT fs kd p vs ms=none):=by show _=_;rw[Ni.out,List.drop_eq_nil_of_le (by omega)];rfl
   have Mn:=hid (And.intro (HA.out.2.2.later fw.out) (HA.out.1.later fw.out));have HLP:Hid (∀ k,Calls Tryz.prog 163 #[.slice (some ⟨fb,0,none⟩) fs.length fs.length,.string fd] (wr.drewN k) fun e w'=>e=.returned (.int .i64 (p:Nat))∧w'=wr.drewN k):=by
    intro k;have:=iy fb fs fd _ (Mn.out.2.later (al br k)) (by rw[ME.out];exact hp);rw[ME.out]at this;exact this
   have mQ:=Mn.out.1.at_ p hpv;have gzr:=Mn.out.1.lt;obtain⟨u,hu⟩:∃ u,u=vs.getD p ByteArray.empty:=⟨_,rfl⟩
   rw[← hu]at mQ;have HU:=hid hu;clear hu;go_wp2_with fail
   go_quiet ((go_at_call 163;exact Calls.quiet_of_same (HLP.out _)))
   go_wp2;go_ret;exact⟨by rw[HT.out,HU.out];rfl,by repeat(first|exact fw.out|refine al ?_ _)⟩
set_option maxRecDepth 8000
set_option maxHeartbeats 40000000
open Go.RowKit Go.Deep
theorem Ff (ss:List Shp) (s:Shp) (fb mb:Nat) (ms:List Mnd) (w:World) (h:bW w fb s.fields) (hm:dv w mb ms) (qD:aH ss s.fields=true) (hf:∀ m∈ms,bm s.kind m=true→found s.fields m):
  Calls Tryz.prog 117 #[.agg #[.string s.kind,.slice (some ⟨fb,0,none⟩) s.fields.length s.fields.length],.slice (some ⟨mb,0,none⟩) ms.length ms.length] w fun e w'=>
   (∃ g c,e=.returned (.slice (some ⟨g,0,none⟩) (cx (rdM s.fields ms s.kind) s.fields.length s.fields.length).length c)∧w.heap.size≤g∧ff w' (.slice (some ⟨g,0,none⟩) (cx (rdM s.fields ms s.kind) s.fields.length s.fields.length).length c) ((cx (rdM s.fields ms s.kind) s.fields.length s.fields.length).map (cP s.fields)))∧Bel w w':=by
 have hl:=hm.len;have GQ:=jO qD;have HA:=hid (And.intro h (And.intro hm (And.intro qD hf)));obtain⟨i0,hi,mR,jr,gX⟩:=info_parts Tryz.si;clear h hm qD hf;obtain⟨rd,Co⟩:∃ rd,rd=rdM s.fields ms s.kind:=⟨_,rfl⟩
 obtain⟨fs,ea⟩:∃ fs,fs=s.fields:=⟨_,rfl⟩
 have Ce:=hid Co;rw[← Co,← ea];rw[← ea]at GQ HA Ce;clear Co ea;obtain⟨n,hn⟩:∃ n,n=fs.length:=⟨_,rfl⟩
 rw[← hn];rw[← hn]at GQ;have Gq:=hid hn;clear hn;obtain⟨wb,nJ⟩:∃ wb,wb=w.alloc (.cells #[.string s.kind,.slice (some ⟨fb,0,none⟩) n n] 134):=⟨_,rfl⟩
 have gd:Hid (Bel w wb):=by show Below _ _ _;rw[nJ];exact ab br _
 have HK:Hid (wb.heap.size=w.heap.size+1∧wb.cell? ⟨w.heap.size,0,none⟩=some (.string s.kind)∧wb.cell? ⟨w.heap.size,1,none⟩=some (.slice (some ⟨fb,0,none⟩) n n)):=by show _∧_∧_;rw[nJ];exact⟨by simp,by simp,by simp⟩
 go_enter Tryz.func117,Tryz.ntmps117
 go_upto_region 1 with fail
 rw[← nJ];clear nJ;go_wp2;go_loopw [5,6] (fun v i wr=>∃ (j:Nat) (a:Option Addr) (c:Nat),j≤n∧i=.int .i64 j∧v=.slice a (cx rd n j).length c∧dq wr wb.heap.size v ((cx rd n j).map (cP fs))∧Bel wb wr) (fun _ i _=>n - (intOf i).toNat)
 case atStart=>exact⟨0,some ⟨wb.heap.size,0,none⟩,0,nz,rfl,rfl,dq.start wb _ nr,ab br _⟩
 case round=>
  obtain⟨j,a,c,hj,rfl,rfl,hO,hW⟩:=hrel;obtain⟨row,j7⟩:∃ row,row=cx rd n j:=⟨_,rfl⟩
  rw[← j7]at hO ⊢;have HO:=hid hO;have HW:=hid hW;have po:=hid j7;have zj:Hid (row.length≤j):=by show row.length≤j;rw[j7];exact jM rd n j
  have th:w.heap.size<wr.heap.size:=by have:=hW.size;have:=HK.out.1;omega
  have k0:wr.cell? ⟨w.heap.size,0,none⟩=some (.string s.kind):=(hW.cell (p:=⟨w.heap.size,0,none⟩) (by have:=HK.out.1;show w.heap.size<_;omega)).trans HK.out.2.1;have k1:wr.cell? ⟨w.heap.size,1,none⟩=some (.slice (some ⟨fb,0,none⟩) n n):=(hW.cell (p:=⟨w.heap.size,1,none⟩) (by have:=HK.out.1;show w.heap.size<_;omega)).trans HK.out.2.2;clear hO hW j7;by_cases av:j<n
  ·go_wp2;clear k0 k1 th;go_loopw [5,7] (fun v i wq=>v=.slice a row.length c∧∃ q:Nat,q≤n∧i=.int .i64 q∧q≤iB rd n row∧Bel wr wq) (fun _ i _=>n - (intOf i).toNat)
   case atStart=>exact⟨rfl,0,nz,rfl,nz,br⟩
   case round=>
    obtain⟨rfl,q,hq,rfl,iM,Hj⟩:=hrel;rename World=>wq;have HN:=hid iM;have kB:=hid Hj;have tr:=hid (aa HW.out Hj);have th:w.heap.size<wq.heap.size:=by have:=tr.out.size;have:=HK.out.1;omega
    have k0:wq.cell? ⟨w.heap.size,0,none⟩=some (.string s.kind):=(tr.out.cell (p:=⟨w.heap.size,0,none⟩) (by have:=HK.out.1;show w.heap.size<_;omega)).trans HK.out.2.1;have k1:wq.cell? ⟨w.heap.size,1,none⟩=some (.slice (some ⟨fb,0,none⟩) n n):=(tr.out.cell (p:=⟨w.heap.size,1,none⟩) (by have:=HK.out.1;show w.heap.size<_;omega)).trans HK.out.2.2;clear iM Hj;by_cases hqn:q<n
    ·obtain⟨f,fH⟩:∃ f,f=fs.getD q Fld.none:=⟨_,rfl⟩
     obtain⟨b,_,dP⟩:=(HA.out.1.later (aa gd.out tr.out)).arg (by rw[← Gq.out];exact hqn) fH;have c0:=dP.c0;have Jg:=(HA.out.1.later (aa gd.out tr.out)).lt;have pq:Hid ((!Pl.has (row.map (cP fs)) f.nm&&iz ms s.kind f.nm (row.map (cP fs)))=jh rd row q):=by
      have:=sb HA.out.2.2.1 ms s.kind HA.out.2.2.2 (row:=row) (fun p hp=>by rw[po.out]at hp;rw[← Gq.out];exact kH rd n j p hp) (i:=q) (by rw[← Gq.out];exact hqn);unfold cP at this;rw[← fH]at this;have e:=Ce.out;rw[e];exact this
     have JP:Hid (jh rd row q=false→q+1≤iB rd n row):=fun e=>ig _ _ q (by simpa using hqn) HN.out (by simpa [hqn]using e);have MM:Hid (jh rd row q=true→iB rd n row=q):=fun e=>iV _ _ q (by simpa using hqn) HN.out (by simpa [hqn]using e);have Ci:Hid (∀ W,Bel wq W→Calls Tryz.prog 164 #[.slice a row.length c,.string f.nm] W fun e w'=>e=.returned (.bool (Pl.has (row.map (cP fs)) f.nm))∧W=w'):=fun W ml=>Fc _ _ f.nm W ((HO.out.later (aa kB.out ml)).at_ (by rw[List.length_map];have:=zj.out;omega));have vk:Hid (Calls Tryz.prog 165 #[.slice (some ⟨mb,0,none⟩) ms.length ms.length,.string s.kind,.string f.nm,.slice a row.length c] wq fun e w'=>e=.returned (.bool (iz ms s.kind f.nm (row.map (cP fs))))∧Bel wq w'):=wG mb ms s.kind f.nm a _ c _ wq (HA.out.2.1.later (aa gd.out tr.out)) ((HO.out.later kB.out).at_ (by rw[List.length_map];have:=zj.out;omega));have MC:Hid (f.nm=cP fs q):=by show _=_;rw[fH];rfl
     obtain⟨ha,Ju⟩:∃ ha,ha=Pl.has (row.map (cP fs)) f.nm:=⟨_,rfl⟩
     obtain⟨rn,JR⟩:∃ rn,rn=iz ms s.kind f.nm (row.map (cP fs)):=⟨_,rfl⟩
     rw[← Ju]at pq Ci;rw[← JR]at pq vk;clear dP fH Ju JR;go_wp2_with fail
     refine(Ci.out _ br).mono ?_;rintro e w' ⟨rfl,rfl⟩;cases ha
     ·go_wp2_with fail
      refine vk.out.mono ?_;rintro e w3 ⟨rfl,aO⟩;have fO:=hid (aa kB.out aO);clear aO k0 k1 c0 Jg th;cases rn
      ·have HM:=JP.out (by rw[← pq.out];rfl);have BD:=hid HM;clear HM;go_wp2;go_roundw
       case rel=>exact⟨rfl,q+1,by omega,by go_num,BD.out,fO.out⟩
       case measure=>simp[intOf];omega
      ·have pI:Hid (cx rd n (j+1)=row++[q]):=by
        have e:=MM.out (by rw[← pq.out];rfl);have:=mD rd n j (by rw[← po.out,e];exact hqn);rw[← po.out,e]at this;exact this
       have F6:=zj.out;have eU:=(aa HW.out fO.out).size;go_wp2_with (at_builtin;refine wpList_append_own _ rfl _ _ 94 rfl wb.heap.size 9 i0 (.string ByteArray.empty) 1 16 Tryz.underlying94 hi mR jr gX rfl (by decide) (.slice a row.length c) row.length ((row.map (cP fs)).map Value.string) rfl ?c0 ⟨w3.heap.size,0,none⟩ 1 1 [.string f.nm] rfl ?c1 ?c2 ?c3 ?c4 ?c5 ?c6 ?_)
       case c0=>
        have:=HO.out.2;rw[List.length_map]at this;exact bV this (aa fO.out (ab br _))
       case c1=>rfl
       case c2=>intro k u hk;cases k with|zero=>(simp at hk;subst hk;simp[Addr.add])|succ k=>simp at hk
       case c3=>intro u hu;simp at hu;subst hu;rfl
       case c4=>unfold maxLen;omega
       case c5=>omega
       case c6=>simp;omega
       intro v' w4 cq ct _;obtain⟨a4,d4,M7⟩:=dS cq;subst M7;have Kt:Hid (dq w4 wb.heap.size (.slice a4 (row.length+1) d4) ((row++[q]).map (cP fs))):=by
        refine dq.of ?_ (by simp);rw[List.length_map,List.length_append,List.map_append,List.map_append,List.map_map];rw[MC.out]at cq;exact cq
       have aZ:Hid (Bel wb w4):=by
        have hb:=ab (aa HW.out fO.out) (.cells #[.string f.nm] 9);exact Below.grown hb ct hb.size (fun k hk=>(World.ownsRow.lt (HO.out.later fO.out).2 k hk).1)
       clear cq ct;go_wp2;go_roundw
       case rel=>first|exact⟨j+1,a4,d4,by omega,by go_num,by rw[pI.out,List.length_append];rfl,by rw[pI.out];exact Kt.out,aZ.out⟩|((repeat apply Exists.intro);exact⟨⟨j+1,a4,d4,by omega,by go_num,by rw[pI.out,List.length_append];rfl,by rw[pI.out];exact Kt.out,aZ.out⟩,rfl⟩)
       case measure=>simp[intOf];omega
     ·have BD:=hid (JP.out (by rw[← pq.out];rfl));go_wp2;go_roundw
      case rel=>exact⟨rfl,q+1,by omega,by go_num,BD.out,kB.out⟩
      case measure=>simp[intOf];omega
    ·have pI:Hid (cx rd n (j+1)=row):=by
      show cx rd n (j+1)=row;rw[cx,← po.out,if_neg (by have:=HN.out;omega)]
     go_wp2;go_roundw
     case rel=>first|exact⟨j+1,a,c,by omega,by go_num,by rw[pI.out],by rw[pI.out];exact HO.out.later kB.out,tr.out⟩|((repeat apply Exists.intro);exact⟨⟨j+1,a,c,by omega,by go_num,by rw[pI.out],by rw[pI.out];exact HO.out.later kB.out,tr.out⟩,rfl⟩)
     case measure=>simp[intOf];omega
  ·obtain rfl:j=n:=by omega
   go_wp2;go_ret;rw[← po.out];obtain⟨⟨g,c',e⟩,ho⟩:=HO.out;injection e with e1 e2 e3
   subst e1 e3;exact⟨⟨g,c,rfl,Nat.le_trans gd.out.size (World.ownsRow.lt ho g rfl).1,HO.out.at_ (by rw[List.length_map];have:=zj.out;omega)⟩,aa gd.out HW.out⟩
set_option maxRecDepth 8000
set_option maxHeartbeats 40000000
open Go.RowKit Go.Deep
theorem ff.sc {w:World} {v:Value} {l:List ByteArray} (h:ff w v l) {gz:Nat} {lo:Nat} (qJ:∀ g c,v=.slice (some ⟨g,0,none⟩) l.length c→lo≤g) (hg:gz<lo) (p:Nat) (x:Value):ff (w.setCell ⟨gz,p,none⟩ x) v l:=by
 obtain⟨g,c,rfl,h1,h2,h3⟩:=h;have:=qJ g c rfl;exact⟨g,c,rfl,by rw[bg];exact h1,h2,fun i hi=>(aF _ _ _ _ _ _ (Or.inl (by omega))).trans (h3 i hi)⟩
theorem mh (fs:List Fld) {K K':ByteArray} (h:K.toList=K'.toList) {p:Nat} {vs:List ByteArray}:∀ ms:List Mnd,bT fs K p vs ms=bT fs K' p vs ms
 |[]=>rfl
 |m::ms=>by
  have ih:=mh fs h (p:=p) (vs:=vs) ms;have hm:lC fs K p vs m=lC fs K' p vs m:=by unfold lC bm;rw[h]
  unfold bT;rw[hm,ih]
theorem yD (B mb:Nat) (ss:List Shp) (ms:List Mnd) (o:Ob) (b1:Option Addr) (c1:Nat) (b2:Option Addr) (c2:Nat) (w:World) (h:bh w B ss) (hm:dv w mb ms) (fN:aU ss ms=true) (ho:ObG w b1 c1 b2 c2 o):
  Calls Tryz.prog 122 #[.slice (some ⟨B,0,none⟩) ss.length ss.length,.slice (some ⟨mb,0,none⟩) ms.length ms.length,.agg #[.string o.kind,.string o.name,.string o.team,.slice b1 o.values.length c1,.bool o.ending,.slice b2 o.holds.length c2,.int .i64 o.version]] w fun e w'=>(∃ a1 n1 d1 a2 n2 d2 mid,e=.returned (.agg #[.string o.kind,.string o.name,.string o.team,.slice a1 n1 d1,.bool o.ending,.slice a2 n2 d2,.int .i64 o.version])∧CT w' w.heap.size mid (.slice a1 n1 d1) (bI ss ms o.kind o.values)∧CT w' mid w'.heap.size (.slice a2 n2 d2) o.holds∧w.heap.size≤mid∧mid≤w'.heap.size)∧Bel w w':=by
 have HA:=hid (And.intro h (And.intro hm ho));have vO:=hid fN;have hl:=h.len;have Hr:=hm.len;have tw:=ho.len1;clear h hm ho fN;obtain⟨w0,gx⟩:∃ w0,w0=(w.alloc (.cells #[.string o.kind,.string o.name,.string o.team,.slice b1 o.values.length c1,.bool o.ending,.slice b2 o.holds.length c2,.int .i64 o.version] 111)).alloc (.cells #[.string ⟨#[]⟩,.string ⟨#[]⟩,.string ⟨#[]⟩,.slice none 0 0,.bool false,.slice none 0 0,.int .i64 0] 111):=⟨_,rfl⟩
 have gd:Hid (Bel w w0):=by show Below _ _ _;rw[gx];exact ab (ab br _) _
 have rI:Hid (ai w0 (w.heap.size+1) 111 7):=by show ai _ _ _ _;rw[gx];exact ai.gU _ _ _ _ _ rfl (by simp)
 have qF:Hid (w0.heap.size=w.heap.size+2):=by show _=_;rw[gx];simp
 have vy:Hid (∀ W,Bel w0 W→w.heap.size<W.heap.size∧∀ j,W.cell? ⟨w.heap.size,j,none⟩=(#[.string o.kind,.string o.name,.string o.team,.slice b1 o.values.length c1,.bool o.ending,.slice b2 o.holds.length c2,.int .i64 o.version]:Array Value)[j]?):=by
  intro W hW;have q:w.heap.size<w0.heap.size:=by have:=qF.out;omega
  refine⟨lo q hW.size,fun j=>(hW.cell (p:=⟨w.heap.size,j,none⟩) q).trans ?_⟩;rw[gx];exact(World.cell?_alloc_past _ _ _ (by simp)).trans (World.cell?_alloc_at _ _ _ _ rfl)
 obtain⟨xz,xs⟩:=vy.out w0 br;have x0:w0.cell? ⟨w.heap.size,0,none⟩=some (.string o.kind):=xs 0;have x1:w0.cell? ⟨w.heap.size,1,none⟩=some (.string o.name):=xs 1;have x2:w0.cell? ⟨w.heap.size,2,none⟩=some (.string o.team):=xs 2;have x3:w0.cell? ⟨w.heap.size,3,none⟩=some (.slice b1 o.values.length c1):=xs 3;have x4:w0.cell? ⟨w.heap.size,4,none⟩=some (.bool o.ending):=xs 4;have x5:w0.cell? ⟨w.heap.size,5,none⟩=some (.slice b2 o.holds.length c2):=xs 5;have x6:w0.cell? ⟨w.heap.size,6,none⟩=some (.int .i64 o.version):=xs 6;clear xs;go_enter Tryz.func122,Tryz.ntmps122
 go_upto_region 1 with fail
 rw[← gx];clear gx;go_wp2_with fail
 refine(Bl o b1 c1 b2 c2 w0 (HA.out.2.2.later gd.out)).mono ?_;rintro e w1 ⟨⟨a1,n1,d1,a2,n2,d2,mid,rfl,eJ,fx,gB,hH⟩,bl⟩;rw[qF.out]at eJ gB;have th:w.heap.size+2≤w1.heap.size:=by have:=bl.size;rw[qF.out]at this;exact this
 have cQ:=hid (aa gd.out bl);obtain⟨w2,gQ⟩:∃ w2,w2=w1.alloc (.cells #[.string o.kind,.string o.name,.string o.team,.slice a1 n1 d1,.bool o.ending,.slice a2 n2 d2,.int .i64 o.version] 111):=⟨_,rfl⟩
 obtain⟨X,hX⟩:∃ X,X=w1.heap.size:=⟨_,rfl⟩
 have aA:Bel w1 w2:=by rw[gQ];exact ab br _
 have vN:Hid (gg w w2 X mid o o.values (.slice a1 n1 d1) (.slice a2 n2 d2)):=by
  show gg _ _ _ _ _ _ _ _;rw[hX];have q:∀ j,w2.cell? ⟨w1.heap.size,j,none⟩=(#[.string o.kind,.string o.name,.string o.team,.slice a1 n1 d1,.bool o.ending,.slice a2 n2 d2,.int .i64 o.version]:Array Value)[j]? :=fun j=>by rw[gQ];exact World.cell?_alloc_at _ _ _ _ rfl
  exact⟨aa cQ.out aA,(rI.out.later bl).later aA,by rw[gQ];simp,q 0,q 1,q 2,q 3,q 4,q 5,q 6,eJ.later aA,fx.later aA,gB,hH⟩
 have iI:=hid (aa bl aA);go_upto_region 2 with fail
 rw[← gQ,← hX];clear gQ hX bl aA eJ fx gB hH th x0 x1 x2 x3 x4 x5 x6 xz;obtain⟨xz,xs⟩:=vy.out w2 iI.out;have x0:w2.cell? ⟨w.heap.size,0,none⟩=some (.string o.kind):=xs 0;have x1:w2.cell? ⟨w.heap.size,1,none⟩=some (.string o.name):=xs 1;have x2:w2.cell? ⟨w.heap.size,2,none⟩=some (.string o.team):=xs 2;have x3:w2.cell? ⟨w.heap.size,3,none⟩=some (.slice b1 o.values.length c1):=xs 3;have x4:w2.cell? ⟨w.heap.size,4,none⟩=some (.bool o.ending):=xs 4;have x5:w2.cell? ⟨w.heap.size,5,none⟩=some (.slice b2 o.holds.length c2):=xs 5;have x6:w2.cell? ⟨w.heap.size,6,none⟩=some (.int .i64 o.version):=xs 6;clear xs;go_wp2_with fail
 refine(jx w B ss o b1 c1 b2 c2 w2 HA.out.1 vN.out.bel).mono ?_;rintro e w3 ⟨a,n,c,rfl,kS,aO⟩;obtain⟨R,hR⟩:∃ R,R=aT ss o:=⟨_,rfl⟩
 rw[← hR]at kS ⊢;have nA:=hid kS;have fg:=hid hR;have nC:=hid (vN.out.later aO);have BM:=hid (aa iI.out aO);clear hR kS aO x0 x1 x2 x3 x4 x5 x6 xz vN iI;obtain⟨xz,xs⟩:=vy.out w3 BM.out;have x0:w3.cell? ⟨w.heap.size,0,none⟩=some (.string o.kind):=xs 0;clear xs;obtain⟨_,_,z1,X0,X1,X2,X3,X4,X5,X6,_,_,_,_⟩:=nC.out;cases R
 ·have HF:Hid (bI ss ms o.kind o.values=o.values):=by
   show bI _ _ _ _=_;unfold bI;rw[if_neg];intro hh;have:=fg.out;unfold aT at this;rw[hh.1,decide_eq_true hh.2]at this;cases this
  have hR:=nC.out.own;have ij:=hR.frozen;have z2:=hR.lt;obtain⟨y0,kE⟩:=hR.cell 0 (by omega);obtain⟨y1,kF⟩:=hR.cell 1 (by omega);obtain⟨y2,kx⟩:=hR.cell 2 (by omega);obtain⟨y3,kG⟩:=hR.cell 3 (by omega);obtain⟨y4,ti⟩:=hR.cell 4 (by omega);obtain⟨y5,tq⟩:=hR.cell 5 (by omega);obtain⟨y6,tk⟩:=hR.cell 6 (by omega);clear hR;go_wp2;obtain⟨r,_,t1,t2,t3,t4,t5⟩:=nC.out.out [.string o.kind,.string o.name,.string o.team,.slice a1 n1 d1,.bool o.ending,.slice a2 n2 d2,.int .i64 o.version] rfl;have r0:(((((((w3.setCell ⟨w.heap.size+1,0,none⟩ (.string o.kind)).setCell ⟨w.heap.size+1,1,none⟩ (.string o.name)).setCell ⟨w.heap.size+1,2,none⟩ (.string o.team)).setCell ⟨w.heap.size+1,3,none⟩ (.slice a1 n1 d1)).setCell ⟨w.heap.size+1,4,none⟩ (.bool o.ending)).setCell ⟨w.heap.size+1,5,none⟩ (.slice a2 n2 d2)).setCell ⟨w.heap.size+1,6,none⟩ (.int .i64 o.version)).cell? ⟨w.heap.size+1,0,none⟩=some (.string o.kind):=r 0 (by omega);have r1:(((((((w3.setCell ⟨w.heap.size+1,0,none⟩ (.string o.kind)).setCell ⟨w.heap.size+1,1,none⟩ (.string o.name)).setCell ⟨w.heap.size+1,2,none⟩ (.string o.team)).setCell ⟨w.heap.size+1,3,none⟩ (.slice a1 n1 d1)).setCell ⟨w.heap.size+1,4,none⟩ (.bool o.ending)).setCell ⟨w.heap.size+1,5,none⟩ (.slice a2 n2 d2)).setCell ⟨w.heap.size+1,6,none⟩ (.int .i64 o.version)).cell? ⟨w.heap.size+1,1,none⟩=some (.string o.name):=r 1 (by omega);have r2:(((((((w3.setCell ⟨w.heap.size+1,0,none⟩ (.string o.kind)).setCell ⟨w.heap.size+1,1,none⟩ (.string o.name)).setCell ⟨w.heap.size+1,2,none⟩ (.string o.team)).setCell ⟨w.heap.size+1,3,none⟩ (.slice a1 n1 d1)).setCell ⟨w.heap.size+1,4,none⟩ (.bool o.ending)).setCell ⟨w.heap.size+1,5,none⟩ (.slice a2 n2 d2)).setCell ⟨w.heap.size+1,6,none⟩ (.int .i64 o.version)).cell? ⟨w.heap.size+1,2,none⟩=some (.string o.team):=r 2 (by omega);have r3:(((((((w3.setCell ⟨w.heap.size+1,0,none⟩ (.string o.kind)).setCell ⟨w.heap.size+1,1,none⟩ (.string o.name)).setCell ⟨w.heap.size+1,2,none⟩ (.string o.team)).setCell ⟨w.heap.size+1,3,none⟩ (.slice a1 n1 d1)).setCell ⟨w.heap.size+1,4,none⟩ (.bool o.ending)).setCell ⟨w.heap.size+1,5,none⟩ (.slice a2 n2 d2)).setCell ⟨w.heap.size+1,6,none⟩ (.int .i64 o.version)).cell? ⟨w.heap.size+1,3,none⟩=some (.slice a1 n1 d1):=r 3 (by omega);have r4:(((((((w3.setCell ⟨w.heap.size+1,0,none⟩ (.string o.kind)).setCell ⟨w.heap.size+1,1,none⟩ (.string o.name)).setCell ⟨w.heap.size+1,2,none⟩ (.string o.team)).setCell ⟨w.heap.size+1,3,none⟩ (.slice a1 n1 d1)).setCell ⟨w.heap.size+1,4,none⟩ (.bool o.ending)).setCell ⟨w.heap.size+1,5,none⟩ (.slice a2 n2 d2)).setCell ⟨w.heap.size+1,6,none⟩ (.int .i64 o.version)).cell? ⟨w.heap.size+1,4,none⟩=some (.bool o.ending):=r 4 (by omega);have r5:(((((((w3.setCell ⟨w.heap.size+1,0,none⟩ (.string o.kind)).setCell ⟨w.heap.size+1,1,none⟩ (.string o.name)).setCell ⟨w.heap.size+1,2,none⟩ (.string o.team)).setCell ⟨w.heap.size+1,3,none⟩ (.slice a1 n1 d1)).setCell ⟨w.heap.size+1,4,none⟩ (.bool o.ending)).setCell ⟨w.heap.size+1,5,none⟩ (.slice a2 n2 d2)).setCell ⟨w.heap.size+1,6,none⟩ (.int .i64 o.version)).cell? ⟨w.heap.size+1,5,none⟩=some (.slice a2 n2 d2):=r 5 (by omega);have r6:(((((((w3.setCell ⟨w.heap.size+1,0,none⟩ (.string o.kind)).setCell ⟨w.heap.size+1,1,none⟩ (.string o.name)).setCell ⟨w.heap.size+1,2,none⟩ (.string o.team)).setCell ⟨w.heap.size+1,3,none⟩ (.slice a1 n1 d1)).setCell ⟨w.heap.size+1,4,none⟩ (.bool o.ending)).setCell ⟨w.heap.size+1,5,none⟩ (.slice a2 n2 d2)).setCell ⟨w.heap.size+1,6,none⟩ (.int .i64 o.version)).cell? ⟨w.heap.size+1,6,none⟩=some (.int .i64 o.version):=r 6 (by omega);refine bodyPost_ret (v:=.agg #[.string o.kind,.string o.name,.string o.team,.slice a1 n1 d1,.bool o.ending,.slice a2 n2 d2,.int .i64 o.version]) (by simp only[results,Tryz.results122];simp[go_sem,r0,r1,r2,r3,r4,r5,r6]) rfl ⟨⟨_,_,_,_,_,_,mid,rfl, ?_,t2,t3,t4⟩,t5⟩;rw[HF.out];exact t1
 obtain⟨b,hv,gW,hf⟩:=nA.out rfl;obtain⟨s,hs⟩:∃ s,s=ss.getD (aB ss o.kind) Shp.none:=⟨_,rfl⟩
 rw[← hs]at hv hf;injection hv with pE rJ pR
 subst pE rJ pR;have EH:=fg.out.symm;unfold aT at EH;rw[← hs]at EH;simp only[Bool.and_eq_true,decide_eq_true_eq]at EH;obtain⟨Hk,heq⟩:=EH;have vJ:aB ss o.kind<ss.length:=by simpa [aK]using Hk
 have lM:=vO.out;unfold aU at lM;simp only[Bool.and_eq_true]at lM;obtain⟨⟨⟨zn,yR⟩,BV⟩,Io⟩:=lM;have rG:Hid (bW w b s.fields):=by
  have dQ:=HA.out.1.small s (by rw[hs];simp[vJ]);exact⟨gW,dQ.1,dQ.2,hf⟩
 have BX:Hid (∀ m∈ms,bm s.kind m=true→found s.fields m):=by rw[hs];exact me zn BV vJ
 have MP:Hid (∀ m∈ms,bm s.kind m=true→aR s.fields m=true):=by rw[hs];exact n7 zn BV vJ
 have BF:Hid (aH ss s.fields=true):=by rw[hs];exact iT zn vJ
 have jF:ms.length≤12:=of_decide_eq_true yR;have HS:=hid (And.intro hs Hk);have pv:Hid (s.kind.toList=o.kind.toList):=by
  have e:ss.getD (aB ss o.kind) Shp.none=ss[aB ss o.kind]:=by simp[vJ]
  have:=List.findIdx_getElem (xs:=ss) (p:=fun x:Shp=>x.kind.toList==o.kind.toList) (w:=vJ);rw[hs,e];exact beq_iff_eq.1 this
 obtain⟨b',_,J6,_,_,q0,q1,kY⟩:=HA.out.1.at_ (aB ss o.kind) vJ;rw[← hs]at q0 q1 kY;have HFJ:Hid (bW w b' s.fields):=⟨J6,rG.out.len,rG.out.small,kY⟩
 have vD:Hid (Calls Tryz.prog 124 #[.slice (some ⟨B,0,none⟩) ss.length ss.length,.string o.kind] w3 fun e w'=>e=.returned (.int .i64 (aB ss o.kind:Nat))∧w3=w'):=by
  have:=fY B ss o.kind w3 (HA.out.1.later nC.out.bel);rw[if_pos vJ]at this;exact this
 obtain⟨ki,D8⟩:∃ ki,ki=aB ss o.kind:=⟨_,rfl⟩
 have q0':w3.cell? ⟨B,ki*2,none⟩=some (.string s.kind):=by rw[D8];exact(nC.out.bel.cell (p:=⟨B,_,none⟩) HA.out.1.lt).trans q0
 have q1':w3.cell? ⟨B,ki*2+1,none⟩=some (.slice (some ⟨b',0,none⟩) s.fields.length s.fields.length):=by rw[D8];exact(nC.out.bel.cell (p:=⟨B,_,none⟩) HA.out.1.lt).trans q1
 have hBz:=lo HA.out.1.lt nC.out.bel.size;rw[← D8]at vD vJ;have jg:=rG.out.len;have zb:=hid heq;have HLO:=hid nC.out.lt;clear gW hf hs Hk D8 zn yR BV Io nA q0 q1 kY J6 heq;obtain⟨L,Ez⟩:∃ L,L=bz s.fields ms s.kind:=⟨_,rfl⟩
 obtain⟨row,j7⟩:∃ row,row=cx (rdM s.fields ms s.kind) s.fields.length s.fields.length:=⟨_,rfl⟩
 have HF:Hid (bI ss ms o.kind o.values=fF L o.values row):=by
  show bI _ _ _ _=_;unfold bI mF rowAt mF;rw[← HS.out.1,if_pos ⟨HS.out.2,zb.out⟩,j7,Ez];rfl
 have ze:=hid Ez;have Ik:=hid j7;have I1:Hid (Calls Tryz.prog 117 #[.agg #[.string s.kind,.slice (some ⟨b',0,none⟩) s.fields.length s.fields.length],.slice (some ⟨mb,0,none⟩) ms.length ms.length] w3 fun e w'=>(∃ g c,e=.returned (.slice (some ⟨g,0,none⟩) row.length c)∧w3.heap.size≤g∧ff w' (.slice (some ⟨g,0,none⟩) row.length c) (row.map (cP s.fields)))∧Bel w3 w'):=by
  rw[j7];exact Ff ss s b' mb ms w3 (HFJ.out.later nC.out.bel) (HA.out.2.1.later nC.out.bel) BF.out BX.out
 clear Ez j7;go_wp2_with fail
 refine vD.out.mono ?_;rintro e w3' ⟨rfl,rfl⟩;go_wp2_with fail
 refine I1.out.mono ?_;rintro e w5 ⟨⟨gr,cr,rfl,Ch,hna⟩,gI⟩;have Nf:=hid (And.intro (nC.out.later gI) hna);have HGL:=hid (lo HLO.out Ch);have Kg:Hid (row.length≤1048576∧∀ i,i<row.length→row.getD i 0<s.fields.length):=by
  refine⟨?_,fun i hi=> ?_⟩
  ·have:=jM (rdM s.fields ms s.kind) s.fields.length s.fields.length;rw[← Ik.out]at this;omega
  ·have e:row.getD i 0=row[i]:=by simp[hi]
   have:=kH (rdM s.fields ms s.kind) s.fields.length s.fields.length row[i] (by rw[← Ik.out];exact List.getElem_mem hi);rw[e];exact this
 have F6:=Kg.out.1;clear gI hna Ch q0' q1' hBz x0 xz z1 X0 X1 X2 X3 X4 X5 X6 nC BM I1 vD;go_wp2;go_loopw [11] (fun s11 wr=>∃ q:Nat,q≤row.length∧s11=.int .i64 q∧gg w wr X mid o (fF L o.values (row.take q)) (.slice a1 n1 d1) (.slice a2 n2 d2)∧ff wr (.slice (some ⟨gr,0,none⟩) row.length cr) (row.map (cP s.fields))) (fun s11 _=>row.length - (intOf s11).toNat)
 case atStart=>exact⟨0,nz,rfl,Nf.out⟩
 case round=>
  obtain⟨q,hq,rfl,hI,MJ⟩:=hrel;obtain⟨vs,nj⟩:∃ vs,vs=fF L o.values (row.take q):=⟨_,rfl⟩
  have GK:=hid nj;rw[← nj]at hI;clear nj;have HI:=hid hI;have HNA:=hid MJ;have vK:vs.length=o.values.length:=by rw[GK.out];exact jW _ _ _
  have EW:Hid (vs.length=s.fields.length):=by show _=_;rw[vK,zb.out]
  obtain⟨_,_,z1,X0,X1,X2,X3,X4,X5,X6,Gl,_,gB,hH⟩:=hI;by_cases av:q<row.length
  ·obtain⟨p,hp⟩:∃ p,p=row.getD q 0:=⟨_,rfl⟩
   have BT:p<s.fields.length:=by rw[hp];exact Kg.out.2 q av
   have eI:p<vs.length:=by rw[EW.out];exact BT
   have hF:Hid (fF L o.values (row.take (q+1))=dV L vs p):=by show _=_;rw[mS L o.values row q av,← GK.out,hp]
   obtain⟨gr',cr',e0,KX,_,GO⟩:=MJ;injection e0 with e1 e2' e3
   clear e2';injection e1 with e1
   injection e1 with e1
   subst e1 e3;have i0:=GO q (by rw[List.length_map];exact av);have en0:(row.map (cP s.fields)).getD q ByteArray.empty=cP s.fields p:=by rw[hp];simp[av]
   rw[en0]at i0;rcases Gl with⟨_,e2⟩|⟨g,cap,e1,M4,xb,G0,I7,Ib⟩
   ·rw[e2]at eI;exact absurd eI (Nat.not_lt_zero p)
   injection e1 with e1 e3 e4
   subst e1 e3 e4;have KN:Hid (VAt wr g vs):=⟨G0.lt,by rw[EW.out];exact jg,Ib⟩
   have HG:=hid (And.intro G0 (And.intro I7 xb));have BC:=hid hH;have EE:Hid (∀ W,Bel wr W→Calls Tryz.prog 163 #[.slice (some ⟨b,0,none⟩) s.fields.length s.fields.length,.string (cP s.fields p)] W fun e w'=>e=.returned (.int .i64 (p:Nat))∧w'=W):=by
    intro W hW;have e:=fV BF.out BT;have:=iy b s.fields (cP s.fields p) W ((rG.out.later HI.out.bel).later hW) (by unfold cP;rw[e];exact BT);have e':nameAt s.fields (cP s.fields p)=p:=e;rw[e']at this;exact this
   have Mw:Hid (∀ W,Bel wr W→Calls Tryz.prog 168 #[.slice (some ⟨b,0,none⟩) s.fields.length s.fields.length,.slice (some ⟨mb,0,none⟩) ms.length ms.length,.agg #[.string o.kind,.string o.name,.string o.team,.slice (some ⟨g,0,none⟩) vs.length d1,.bool o.ending,.slice a2 n2 d2,.int .i64 o.version],.string (cP s.fields p)] W fun e w'=>e=.returned (.string ((bT s.fields o.kind p vs ms).getD (vs.getD p ByteArray.empty)))∧Bel W w'):=by
    intro W hW;have hK:∀ m,bm o.kind m=true→bm s.kind m=true:=fun m hh=>by unfold bm at hh ⊢;rw[pv.out];exact hh
    exact Ax ss b mb g d1 p s.fields ms vs o.kind o.name o.team o.ending _ o.version W ((rG.out.later HI.out.bel).later hW) ((HA.out.2.1.later HI.out.bel).later hW) (KN.out.later hW) BF.out EW.out BT (fun m hm hk=>BX.out m hm (hK m hk)) (fun m hm hk=>MP.out m hm (hK m hk))
   obtain⟨zz,lP⟩:∃ zz,zz=(bT s.fields o.kind p vs ms).getD (vs.getD p ByteArray.empty):=⟨_,rfl⟩
   have HN:Hid (dV L vs p=vs.set p zz):=by
    show dV _ _ _=_;rw[ze.out,rS s.fields s.kind ms vs p eI,lP,mh s.fields pv.out]
   rw[← lP]at Mw;obtain⟨np,hnp⟩:∃ np,np=cP s.fields p:=⟨_,rfl⟩
   rw[← hnp]at EE Mw i0;clear lP hnp GO hp M4 xb G0 I7 Ib vK gB hH en0;have iO:Hid (∀ W,Bel wr W→(X<W.heap.size∧W.cell? ⟨X,0,none⟩=some (.string o.kind)∧W.cell? ⟨X,1,none⟩=some (.string o.name)∧W.cell? ⟨X,2,none⟩=some (.string o.team)∧W.cell? ⟨X,3,none⟩=some (.slice (some ⟨g,0,none⟩) vs.length d1)∧W.cell? ⟨X,4,none⟩=some (.bool o.ending)∧W.cell? ⟨X,5,none⟩=some (.slice a2 n2 d2)∧W.cell? ⟨X,6,none⟩=some (.int .i64 o.version))∧(W.frozen? ⟨g,p,none⟩=false∧g<W.heap.size∧∃ u,W.cell? ⟨g,p,none⟩=some u)∧gr<W.heap.size∧W.cell? ⟨gr,q,none⟩=some (.string np)):=by
    intro W hW;have q1:=HI.out.later hW;have q2:=HG.out.1.later hW;have q3:=HG.out.2.1;exact⟨⟨q1.lt,q1.x0,q1.x1,q1.x2,q1.x3,q1.x4,q1.x5,q1.x6⟩,⟨q2.frozen p,q2.lt,q2.cell p (by omega)⟩,lo KX hW.size,(hW.cell (p:=⟨gr,q,none⟩) KX).trans i0⟩
   have La:Hid (∀ W,Bel wr W→gg w (W.setCell ⟨g,p,none⟩ (.string zz)) X mid o (fF L o.values (row.take (q+1))) (.slice (some ⟨g,0,none⟩) vs.length d1) (.slice a2 n2 d2)∧ff (W.setCell ⟨g,p,none⟩ (.string zz)) (.slice (some ⟨gr,0,none⟩) row.length cr) (row.map (cP s.fields))):=by
    intro W hW;refine⟨?_,(HNA.out.later hW).sc (lo:=X) (fun g' c' e=>by injection e with e1;injection e1 with e1;injection e1 with e1;have:=HGL.out;omega) (by have:=HG.out.2.2;have:=BC.out;omega) _ _⟩;rw[hF.out,HN.out];exact(HI.out.later hW).Cz p eI zz
   obtain⟨_,⟨ij,za,u,hu⟩,_,_⟩:=iO.out wr br;have hq1:q<row.length:=av;have hqi:((q:Int)<(row.length:Int)):=by omega
   have hpi:((p:Int)<(vs.length:Int)):=by omega
   have HPQ:=hid (And.intro hq1 eI);go_upto_region 9 with fail
   refine wp_region_any (by kernel_rfl) ?_;refine xC (R:=fun a=>wpAny _ _ _ _ _ _ a _) _ ?_;intro a0 Gh;have kD:54<a0.tmps.size:=by rw[Gh];simp
   have f1:a0.eval (.tmp 1)=.slice (some ⟨mb,0,none⟩) ms.length ms.length:=by rw[Gh];rfl
   have f7:a0.eval (.tmp 7)=.pointer (some ⟨X,0,none⟩):=by rw[Gh];rfl
   have f8:a0.eval (.tmp 8)=.slice (some ⟨b,0,none⟩) s.fields.length s.fields.length:=by rw[Gh];rfl
   have f10:a0.eval (.tmp 10)=.slice (some ⟨gr,0,none⟩) row.length cr:=by rw[Gh];rfl
   have f11:a0.eval (.tmp 11)=.int .i64 (q:Nat):=by rw[Gh];rfl
   refine mr (fun l a W=>∃ bX dh dd dg da cR cI cS cW cU cT cJ cE cY cX cZ dc:Value,a=ck a0 bX dh dd dg da cR cI cS cW cU cT cJ cE cY cX cZ dc∧(l.getD 0 false=true→bX=.pointer (some ⟨X,3,none⟩))∧(l.getD 1 false=true→dh=.slice (some ⟨g,0,none⟩) vs.length d1)∧(l.getD 2 false=true→dd=.slice (some ⟨b,0,none⟩) s.fields.length s.fields.length)∧(l.getD 3 false=true→dg=.slice (some ⟨gr,0,none⟩) row.length cr)∧(l.getD 4 false=true→da=.int .i64 (q:Nat))∧(l.getD 5 false=true→cR=.pointer (some ⟨gr,q,none⟩))∧(l.getD 6 false=true→cI=.string np)∧(l.getD 7 false=true→cS=.int .i64 (p:Nat))∧(l.getD 8 false=true→cW=.slice (some ⟨b,0,none⟩) s.fields.length s.fields.length)∧(l.getD 9 false=true→cU=.slice (some ⟨mb,0,none⟩) ms.length ms.length)∧(l.getD 10 false=true→cT=.agg #[.string o.kind,.string o.name,.string o.team,.slice (some ⟨g,0,none⟩) vs.length d1,.bool o.ending,.slice a2 n2 d2,.int .i64 o.version])∧(l.getD 11 false=true→cJ=.slice (some ⟨gr,0,none⟩) row.length cr)∧(l.getD 12 false=true→cE=.int .i64 (q:Nat))∧(l.getD 13 false=true→cY=.pointer (some ⟨gr,q,none⟩))∧(l.getD 14 false=true→cX=.string np)∧(l.getD 15 false=true→cZ=.string zz)∧(l.getD 16 false=true→dc=.pointer (some ⟨g,p,none⟩))∧l.size=18∧((l.getD 17 false=false∧Bel wr W)∨(l.getD 17 false=true∧∃ W0,Bel wr W0∧W=W0.setCell ⟨g,p,none⟩ (.string zz)))) ?_ ?_ _ _ _ _ ?_ ?_ ?_
   ·rintro l a W i ⟨bX,dh,dd,dg,da,cR,cI,cS,cW,cU,cT,cJ,cE,cY,cX,cZ,dc,rfl,h0,h1,h2,h3,h4,h5,h6,h7,h8,h9,qB,qG,jF,qH,qz,qC,lG,pQ,hw⟩ hC hi;obtain⟨hun,o',ho,aw⟩:=mem_ready.1 hi;have av:i<18:=(Array.getElem?_eq_some_iff.1 ho).1;rcases hw with⟨jC,hB⟩|⟨L17,_⟩
    rotate_left
    ·exfalso;have L15:l.getD 15 false=true:=hC 17 _ ⟨15,.data⟩ rfl (by simp) rfl L17;have L16:l.getD 16 false=true:=hC 17 _ ⟨16,.data⟩ rfl (by simp) rfl L17;have L7:l.getD 7 false=true:=hC 16 _ ⟨7,.data⟩ rfl (by simp) rfl L16;have L1:l.getD 1 false=true:=hC 16 _ ⟨1,.data⟩ rfl (by simp) rfl L16;have L0:l.getD 0 false=true:=hC 1 _ ⟨0,.data⟩ rfl (by simp) rfl L1;have L2:l.getD 2 false=true:=hC 7 _ ⟨2,.data⟩ rfl (by simp) rfl L7;have L6:l.getD 6 false=true:=hC 7 _ ⟨6,.data⟩ rfl (by simp) rfl L7;have L5:l.getD 5 false=true:=hC 6 _ ⟨5,.data⟩ rfl (by simp) rfl L6;have L3:l.getD 3 false=true:=hC 5 _ ⟨3,.data⟩ rfl (by simp) rfl L5;have L4:l.getD 4 false=true:=hC 5 _ ⟨4,.data⟩ rfl (by simp) rfl L5;have L8:l.getD 8 false=true:=hC 15 _ ⟨8,.data⟩ rfl (by simp) rfl L15;have L9:l.getD 9 false=true:=hC 15 _ ⟨9,.data⟩ rfl (by simp) rfl L15;have L10:l.getD 10 false=true:=hC 15 _ ⟨10,.data⟩ rfl (by simp) rfl L15;have L14:l.getD 14 false=true:=hC 15 _ ⟨14,.data⟩ rfl (by simp) rfl L15;have L13:l.getD 13 false=true:=hC 14 _ ⟨13,.data⟩ rfl (by simp) rfl L14;have L11:l.getD 11 false=true:=hC 13 _ ⟨11,.data⟩ rfl (by simp) rfl L13;have L12:l.getD 12 false=true:=hC 13 _ ⟨12,.data⟩ rfl (by simp) rfl L13;have hf:=kP hun;have vF:i=0∨i=1∨i=2∨i=3∨i=4∨i=5∨i=6∨i=7∨i=8∨i=9∨i=10∨i=11∨i=12∨i=13∨i=14∨i=15∨i=16∨i=17:=by omega
     rcases vF with rfl|rfl|rfl|rfl|rfl|rfl|rfl|rfl|rfl|rfl|rfl|rfl|rfl|rfl|rfl|rfl|rfl|rfl
     ·rw[L0]at hf;cases hf
     ·rw[L1]at hf;cases hf
     ·rw[L2]at hf;cases hf
     ·rw[L3]at hf;cases hf
     ·rw[L4]at hf;cases hf
     ·rw[L5]at hf;cases hf
     ·rw[L6]at hf;cases hf
     ·rw[L7]at hf;cases hf
     ·rw[L8]at hf;cases hf
     ·rw[L9]at hf;cases hf
     ·rw[L10]at hf;cases hf
     ·rw[L11]at hf;cases hf
     ·rw[L12]at hf;cases hf
     ·rw[L13]at hf;cases hf
     ·rw[L14]at hf;cases hf
     ·rw[L15]at hf;cases hf
     ·rw[L16]at hf;cases hf
     ·rw[L17]at hf;cases hf
    obtain⟨⟨z9,X90,X91,X92,X93,X94,X95,X96⟩,⟨JG,MY,u9,hu9⟩,hgr9,i9⟩:=iO.out W hB;have vF:i=0∨i=1∨i=2∨i=3∨i=4∨i=5∨i=6∨i=7∨i=8∨i=9∨i=10∨i=11∨i=12∨i=13∨i=14∨i=15∨i=16∨i=17:=by omega
    rcases vF with rfl|rfl|rfl|rfl|rfl|rfl|rfl|rfl|rfl|rfl|rfl|rfl|rfl|rfl|rfl|rfl|rfl|rfl
    ·have kA:=ho;simp at ho;subst ho;refine bJ (v:=.pointer (some ⟨X,3,none⟩)) (w':=W) kA rfl ?_ ?_
     ·simp[execOp,go_sem,wu _ _ _ _ _ _ _ _ _ _ _ _ _ _ _ _ _ _ _ f7]
     ·show ∃ bX,_;rw[AM];exact⟨_,_,_,_,_,_,_,_,_,_,_,_,_,_,_,_,_,rfl,fun _=>rfl,fun h=>h1 ((ag h).resolve_left (by decide)),fun h=>h2 ((ag h).resolve_left (by decide)),fun h=>h3 ((ag h).resolve_left (by decide)),fun h=>h4 ((ag h).resolve_left (by decide)),fun h=>h5 ((ag h).resolve_left (by decide)),fun h=>h6 ((ag h).resolve_left (by decide)),fun h=>h7 ((ag h).resolve_left (by decide)),fun h=>h8 ((ag h).resolve_left (by decide)),fun h=>h9 ((ag h).resolve_left (by decide)),fun h=>qB ((ag h).resolve_left (by decide)),fun h=>qG ((ag h).resolve_left (by decide)),fun h=>jF ((ag h).resolve_left (by decide)),fun h=>qH ((ag h).resolve_left (by decide)),fun h=>qz ((ag h).resolve_left (by decide)),fun h=>qC ((ag h).resolve_left (by decide)),fun h=>lG ((ag h).resolve_left (by decide)),(by simpa using pQ),Or.inl ⟨by rw[getD_set_ne _ (show (0:Nat)≠17 by decide)];exact jC,hB⟩⟩
    ·have kA:=ho;simp at ho;subst ho;have e0:=(h0 (aw ⟨0,.data⟩ (by simp) rfl)).symm;subst e0;refine bJ (v:=.slice (some ⟨g,0,none⟩) vs.length d1) (w':=W) kA rfl ?_ ?_
     ·simp[execOp,go_sem,AO _ _ _ _ _ _ _ _ _ _ _ _ _ _ _ _ _ _ kD,X93]
     ·show ∃ bX,_;rw[zu];exact⟨_,_,_,_,_,_,_,_,_,_,_,_,_,_,_,_,_,rfl,fun h=>h0 ((ag h).resolve_left (by decide)),fun _=>rfl,fun h=>h2 ((ag h).resolve_left (by decide)),fun h=>h3 ((ag h).resolve_left (by decide)),fun h=>h4 ((ag h).resolve_left (by decide)),fun h=>h5 ((ag h).resolve_left (by decide)),fun h=>h6 ((ag h).resolve_left (by decide)),fun h=>h7 ((ag h).resolve_left (by decide)),fun h=>h8 ((ag h).resolve_left (by decide)),fun h=>h9 ((ag h).resolve_left (by decide)),fun h=>qB ((ag h).resolve_left (by decide)),fun h=>qG ((ag h).resolve_left (by decide)),fun h=>jF ((ag h).resolve_left (by decide)),fun h=>qH ((ag h).resolve_left (by decide)),fun h=>qz ((ag h).resolve_left (by decide)),fun h=>qC ((ag h).resolve_left (by decide)),fun h=>lG ((ag h).resolve_left (by decide)),(by simpa using pQ),Or.inl ⟨by rw[getD_set_ne _ (show (1:Nat)≠17 by decide)];exact jC,hB⟩⟩
    ·have kA:=ho;simp at ho;subst ho;refine bJ (v:=.slice (some ⟨b,0,none⟩) s.fields.length s.fields.length) (w':=W) kA rfl ?_ ?_
     ·simp[execOp,go_sem,vV _ _ _ _ _ _ _ _ _ _ _ _ _ _ _ _ _ _ _ f8]
     ·show ∃ bX,_;rw[Ak];exact⟨_,_,_,_,_,_,_,_,_,_,_,_,_,_,_,_,_,rfl,fun h=>h0 ((ag h).resolve_left (by decide)),fun h=>h1 ((ag h).resolve_left (by decide)),fun _=>rfl,fun h=>h3 ((ag h).resolve_left (by decide)),fun h=>h4 ((ag h).resolve_left (by decide)),fun h=>h5 ((ag h).resolve_left (by decide)),fun h=>h6 ((ag h).resolve_left (by decide)),fun h=>h7 ((ag h).resolve_left (by decide)),fun h=>h8 ((ag h).resolve_left (by decide)),fun h=>h9 ((ag h).resolve_left (by decide)),fun h=>qB ((ag h).resolve_left (by decide)),fun h=>qG ((ag h).resolve_left (by decide)),fun h=>jF ((ag h).resolve_left (by decide)),fun h=>qH ((ag h).resolve_left (by decide)),fun h=>qz ((ag h).resolve_left (by decide)),fun h=>qC ((ag h).resolve_left (by decide)),fun h=>lG ((ag h).resolve_left (by decide)),(by simpa using pQ),Or.inl ⟨by rw[getD_set_ne _ (show (2:Nat)≠17 by decide)];exact jC,hB⟩⟩
    ·have kA:=ho;simp at ho;subst ho;refine bJ (v:=.slice (some ⟨gr,0,none⟩) row.length cr) (w':=W) kA rfl ?_ ?_
     ·simp[execOp,go_sem,rP _ _ _ _ _ _ _ _ _ _ _ _ _ _ _ _ _ _ _ f10]
     ·show ∃ bX,_;rw[zW];exact⟨_,_,_,_,_,_,_,_,_,_,_,_,_,_,_,_,_,rfl,fun h=>h0 ((ag h).resolve_left (by decide)),fun h=>h1 ((ag h).resolve_left (by decide)),fun h=>h2 ((ag h).resolve_left (by decide)),fun _=>rfl,fun h=>h4 ((ag h).resolve_left (by decide)),fun h=>h5 ((ag h).resolve_left (by decide)),fun h=>h6 ((ag h).resolve_left (by decide)),fun h=>h7 ((ag h).resolve_left (by decide)),fun h=>h8 ((ag h).resolve_left (by decide)),fun h=>h9 ((ag h).resolve_left (by decide)),fun h=>qB ((ag h).resolve_left (by decide)),fun h=>qG ((ag h).resolve_left (by decide)),fun h=>jF ((ag h).resolve_left (by decide)),fun h=>qH ((ag h).resolve_left (by decide)),fun h=>qz ((ag h).resolve_left (by decide)),fun h=>qC ((ag h).resolve_left (by decide)),fun h=>lG ((ag h).resolve_left (by decide)),(by simpa using pQ),Or.inl ⟨by rw[getD_set_ne _ (show (3:Nat)≠17 by decide)];exact jC,hB⟩⟩
    ·have kA:=ho;simp at ho;subst ho;refine bJ (v:=.int .i64 (q:Nat)) (w':=W) kA rfl ?_ ?_
     ·simp[execOp,go_sem,sO _ _ _ _ _ _ _ _ _ _ _ _ _ _ _ _ _ _ _ f11]
     ·show ∃ bX,_;rw[AK];exact⟨_,_,_,_,_,_,_,_,_,_,_,_,_,_,_,_,_,rfl,fun h=>h0 ((ag h).resolve_left (by decide)),fun h=>h1 ((ag h).resolve_left (by decide)),fun h=>h2 ((ag h).resolve_left (by decide)),fun h=>h3 ((ag h).resolve_left (by decide)),fun _=>rfl,fun h=>h5 ((ag h).resolve_left (by decide)),fun h=>h6 ((ag h).resolve_left (by decide)),fun h=>h7 ((ag h).resolve_left (by decide)),fun h=>h8 ((ag h).resolve_left (by decide)),fun h=>h9 ((ag h).resolve_left (by decide)),fun h=>qB ((ag h).resolve_left (by decide)),fun h=>qG ((ag h).resolve_left (by decide)),fun h=>jF ((ag h).resolve_left (by decide)),fun h=>qH ((ag h).resolve_left (by decide)),fun h=>qz ((ag h).resolve_left (by decide)),fun h=>qC ((ag h).resolve_left (by decide)),fun h=>lG ((ag h).resolve_left (by decide)),(by simpa using pQ),Or.inl ⟨by rw[getD_set_ne _ (show (4:Nat)≠17 by decide)];exact jC,hB⟩⟩
    ·have kA:=ho;simp at ho;subst ho;have e3:=(h3 (aw ⟨3,.data⟩ (by simp) rfl)).symm;subst e3;have e4:=(h4 (aw ⟨4,.data⟩ (by simp) rfl)).symm;subst e4;refine bJ (v:=.pointer (some ⟨gr,q,none⟩)) (w':=W) kA rfl ?_ ?_
     ·simp[execOp,go_sem,z7 _ _ _ _ _ _ _ _ _ _ _ _ _ _ _ _ _ _ kD,Bt _ _ _ _ _ _ _ _ _ _ _ _ _ _ _ _ _ _ kD,hqi]
     ·show ∃ bX,_;rw[zt];exact⟨_,_,_,_,_,_,_,_,_,_,_,_,_,_,_,_,_,rfl,fun h=>h0 ((ag h).resolve_left (by decide)),fun h=>h1 ((ag h).resolve_left (by decide)),fun h=>h2 ((ag h).resolve_left (by decide)),fun h=>h3 ((ag h).resolve_left (by decide)),fun h=>h4 ((ag h).resolve_left (by decide)),fun _=>rfl,fun h=>h6 ((ag h).resolve_left (by decide)),fun h=>h7 ((ag h).resolve_left (by decide)),fun h=>h8 ((ag h).resolve_left (by decide)),fun h=>h9 ((ag h).resolve_left (by decide)),fun h=>qB ((ag h).resolve_left (by decide)),fun h=>qG ((ag h).resolve_left (by decide)),fun h=>jF ((ag h).resolve_left (by decide)),fun h=>qH ((ag h).resolve_left (by decide)),fun h=>qz ((ag h).resolve_left (by decide)),fun h=>qC ((ag h).resolve_left (by decide)),fun h=>lG ((ag h).resolve_left (by decide)),(by simpa using pQ),Or.inl ⟨by rw[getD_set_ne _ (show (5:Nat)≠17 by decide)];exact jC,hB⟩⟩
    ·have kA:=ho;simp at ho;subst ho;have e5:=(h5 (aw ⟨5,.data⟩ (by simp) rfl)).symm;subst e5;refine bJ (v:=.string np) (w':=W) kA rfl ?_ ?_
     ·simp[execOp,go_sem,zU _ _ _ _ _ _ _ _ _ _ _ _ _ _ _ _ _ _ kD,i9]
     ·show ∃ bX,_;rw[A3];exact⟨_,_,_,_,_,_,_,_,_,_,_,_,_,_,_,_,_,rfl,fun h=>h0 ((ag h).resolve_left (by decide)),fun h=>h1 ((ag h).resolve_left (by decide)),fun h=>h2 ((ag h).resolve_left (by decide)),fun h=>h3 ((ag h).resolve_left (by decide)),fun h=>h4 ((ag h).resolve_left (by decide)),fun h=>h5 ((ag h).resolve_left (by decide)),fun _=>rfl,fun h=>h7 ((ag h).resolve_left (by decide)),fun h=>h8 ((ag h).resolve_left (by decide)),fun h=>h9 ((ag h).resolve_left (by decide)),fun h=>qB ((ag h).resolve_left (by decide)),fun h=>qG ((ag h).resolve_left (by decide)),fun h=>jF ((ag h).resolve_left (by decide)),fun h=>qH ((ag h).resolve_left (by decide)),fun h=>qz ((ag h).resolve_left (by decide)),fun h=>qC ((ag h).resolve_left (by decide)),fun h=>lG ((ag h).resolve_left (by decide)),(by simpa using pQ),Or.inl ⟨by rw[getD_set_ne _ (show (6:Nat)≠17 by decide)];exact jC,hB⟩⟩
    ·have kA:=ho;simp at ho;subst ho;have e2:=(h2 (aw ⟨2,.data⟩ (by simp) rfl)).symm;subst e2;have e6:=(h6 (aw ⟨6,.data⟩ (by simp) rfl)).symm;subst e6;refine jI (f:=163) (args:=#[.slice (some ⟨b,0,none⟩) s.fields.length s.fields.length,.string np]) kA rfl ?_ ?_
     ·simp[go_sem,zV _ _ _ _ _ _ _ _ _ _ _ _ _ _ _ _ _ _ kD,Bj _ _ _ _ _ _ _ _ _ _ _ _ _ _ _ _ _ _ kD]
     ·refine(EE.out W hB).mono ?_;rintro e W2 ⟨rfl,rfl⟩;refine⟨_,rfl, ?_⟩;show ∃ bX,_;rw[Ab];exact⟨_,_,_,_,_,_,_,_,_,_,_,_,_,_,_,_,_,rfl,fun h=>h0 ((ag h).resolve_left (by decide)),fun h=>h1 ((ag h).resolve_left (by decide)),fun h=>h2 ((ag h).resolve_left (by decide)),fun h=>h3 ((ag h).resolve_left (by decide)),fun h=>h4 ((ag h).resolve_left (by decide)),fun h=>h5 ((ag h).resolve_left (by decide)),fun h=>h6 ((ag h).resolve_left (by decide)),fun _=>rfl,fun h=>h8 ((ag h).resolve_left (by decide)),fun h=>h9 ((ag h).resolve_left (by decide)),fun h=>qB ((ag h).resolve_left (by decide)),fun h=>qG ((ag h).resolve_left (by decide)),fun h=>jF ((ag h).resolve_left (by decide)),fun h=>qH ((ag h).resolve_left (by decide)),fun h=>qz ((ag h).resolve_left (by decide)),fun h=>qC ((ag h).resolve_left (by decide)),fun h=>lG ((ag h).resolve_left (by decide)),(by simpa using pQ),Or.inl ⟨by rw[getD_set_ne _ (show (7:Nat)≠17 by decide)];exact jC,hB⟩⟩
    ·have kA:=ho;simp at ho;subst ho;refine bJ (v:=.slice (some ⟨b,0,none⟩) s.fields.length s.fields.length) (w':=W) kA rfl ?_ ?_
     ·simp[execOp,go_sem,vV _ _ _ _ _ _ _ _ _ _ _ _ _ _ _ _ _ _ _ f8]
     ·show ∃ bX,_;rw[AE];exact⟨_,_,_,_,_,_,_,_,_,_,_,_,_,_,_,_,_,rfl,fun h=>h0 ((ag h).resolve_left (by decide)),fun h=>h1 ((ag h).resolve_left (by decide)),fun h=>h2 ((ag h).resolve_left (by decide)),fun h=>h3 ((ag h).resolve_left (by decide)),fun h=>h4 ((ag h).resolve_left (by decide)),fun h=>h5 ((ag h).resolve_left (by decide)),fun h=>h6 ((ag h).resolve_left (by decide)),fun h=>h7 ((ag h).resolve_left (by decide)),fun _=>rfl,fun h=>h9 ((ag h).resolve_left (by decide)),fun h=>qB ((ag h).resolve_left (by decide)),fun h=>qG ((ag h).resolve_left (by decide)),fun h=>jF ((ag h).resolve_left (by decide)),fun h=>qH ((ag h).resolve_left (by decide)),fun h=>qz ((ag h).resolve_left (by decide)),fun h=>qC ((ag h).resolve_left (by decide)),fun h=>lG ((ag h).resolve_left (by decide)),(by simpa using pQ),Or.inl ⟨by rw[getD_set_ne _ (show (8:Nat)≠17 by decide)];exact jC,hB⟩⟩
    ·have kA:=ho;simp at ho;subst ho;refine bJ (v:=.slice (some ⟨mb,0,none⟩) ms.length ms.length) (w':=W) kA rfl ?_ ?_
     ·simp[execOp,go_sem,Dl _ _ _ _ _ _ _ _ _ _ _ _ _ _ _ _ _ _ _ f1]
     ·show ∃ bX,_;rw[zD];exact⟨_,_,_,_,_,_,_,_,_,_,_,_,_,_,_,_,_,rfl,fun h=>h0 ((ag h).resolve_left (by decide)),fun h=>h1 ((ag h).resolve_left (by decide)),fun h=>h2 ((ag h).resolve_left (by decide)),fun h=>h3 ((ag h).resolve_left (by decide)),fun h=>h4 ((ag h).resolve_left (by decide)),fun h=>h5 ((ag h).resolve_left (by decide)),fun h=>h6 ((ag h).resolve_left (by decide)),fun h=>h7 ((ag h).resolve_left (by decide)),fun h=>h8 ((ag h).resolve_left (by decide)),fun _=>rfl,fun h=>qB ((ag h).resolve_left (by decide)),fun h=>qG ((ag h).resolve_left (by decide)),fun h=>jF ((ag h).resolve_left (by decide)),fun h=>qH ((ag h).resolve_left (by decide)),fun h=>qz ((ag h).resolve_left (by decide)),fun h=>qC ((ag h).resolve_left (by decide)),fun h=>lG ((ag h).resolve_left (by decide)),(by simpa using pQ),Or.inl ⟨by rw[getD_set_ne _ (show (9:Nat)≠17 by decide)];exact jC,hB⟩⟩
    ·have kA:=ho;simp at ho;subst ho;refine bJ (v:=.agg #[.string o.kind,.string o.name,.string o.team,.slice (some ⟨g,0,none⟩) vs.length d1,.bool o.ending,.slice a2 n2 d2,.int .i64 o.version]) (w':=W) kA rfl ?_ ?_
     ·simp[execOp,go_sem,wu _ _ _ _ _ _ _ _ _ _ _ _ _ _ _ _ _ _ _ f7,X90,X91,X92,X93,X94,X95,X96]
     ·show ∃ bX,_;rw[A1];exact⟨_,_,_,_,_,_,_,_,_,_,_,_,_,_,_,_,_,rfl,fun h=>h0 ((ag h).resolve_left (by decide)),fun h=>h1 ((ag h).resolve_left (by decide)),fun h=>h2 ((ag h).resolve_left (by decide)),fun h=>h3 ((ag h).resolve_left (by decide)),fun h=>h4 ((ag h).resolve_left (by decide)),fun h=>h5 ((ag h).resolve_left (by decide)),fun h=>h6 ((ag h).resolve_left (by decide)),fun h=>h7 ((ag h).resolve_left (by decide)),fun h=>h8 ((ag h).resolve_left (by decide)),fun h=>h9 ((ag h).resolve_left (by decide)),fun _=>rfl,fun h=>qG ((ag h).resolve_left (by decide)),fun h=>jF ((ag h).resolve_left (by decide)),fun h=>qH ((ag h).resolve_left (by decide)),fun h=>qz ((ag h).resolve_left (by decide)),fun h=>qC ((ag h).resolve_left (by decide)),fun h=>lG ((ag h).resolve_left (by decide)),(by simpa using pQ),Or.inl ⟨by rw[getD_set_ne _ (show (10:Nat)≠17 by decide)];exact jC,hB⟩⟩
    ·have kA:=ho;simp at ho;subst ho;refine bJ (v:=.slice (some ⟨gr,0,none⟩) row.length cr) (w':=W) kA rfl ?_ ?_
     ·simp[execOp,go_sem,rP _ _ _ _ _ _ _ _ _ _ _ _ _ _ _ _ _ _ _ f10]
     ·show ∃ bX,_;rw[AG];exact⟨_,_,_,_,_,_,_,_,_,_,_,_,_,_,_,_,_,rfl,fun h=>h0 ((ag h).resolve_left (by decide)),fun h=>h1 ((ag h).resolve_left (by decide)),fun h=>h2 ((ag h).resolve_left (by decide)),fun h=>h3 ((ag h).resolve_left (by decide)),fun h=>h4 ((ag h).resolve_left (by decide)),fun h=>h5 ((ag h).resolve_left (by decide)),fun h=>h6 ((ag h).resolve_left (by decide)),fun h=>h7 ((ag h).resolve_left (by decide)),fun h=>h8 ((ag h).resolve_left (by decide)),fun h=>h9 ((ag h).resolve_left (by decide)),fun h=>qB ((ag h).resolve_left (by decide)),fun _=>rfl,fun h=>jF ((ag h).resolve_left (by decide)),fun h=>qH ((ag h).resolve_left (by decide)),fun h=>qz ((ag h).resolve_left (by decide)),fun h=>qC ((ag h).resolve_left (by decide)),fun h=>lG ((ag h).resolve_left (by decide)),(by simpa using pQ),Or.inl ⟨by rw[getD_set_ne _ (show (11:Nat)≠17 by decide)];exact jC,hB⟩⟩
    ·have kA:=ho;simp at ho;subst ho;refine bJ (v:=.int .i64 (q:Nat)) (w':=W) kA rfl ?_ ?_
     ·simp[execOp,go_sem,sO _ _ _ _ _ _ _ _ _ _ _ _ _ _ _ _ _ _ _ f11]
     ·show ∃ bX,_;rw[zT];exact⟨_,_,_,_,_,_,_,_,_,_,_,_,_,_,_,_,_,rfl,fun h=>h0 ((ag h).resolve_left (by decide)),fun h=>h1 ((ag h).resolve_left (by decide)),fun h=>h2 ((ag h).resolve_left (by decide)),fun h=>h3 ((ag h).resolve_left (by decide)),fun h=>h4 ((ag h).resolve_left (by decide)),fun h=>h5 ((ag h).resolve_left (by decide)),fun h=>h6 ((ag h).resolve_left (by decide)),fun h=>h7 ((ag h).resolve_left (by decide)),fun h=>h8 ((ag h).resolve_left (by decide)),fun h=>h9 ((ag h).resolve_left (by decide)),fun h=>qB ((ag h).resolve_left (by decide)),fun h=>qG ((ag h).resolve_left (by decide)),fun _=>rfl,fun h=>qH ((ag h).resolve_left (by decide)),fun h=>qz ((ag h).resolve_left (by decide)),fun h=>qC ((ag h).resolve_left (by decide)),fun h=>lG ((ag h).resolve_left (by decide)),(by simpa using pQ),Or.inl ⟨by rw[getD_set_ne _ (show (12:Nat)≠17 by decide)];exact jC,hB⟩⟩
    ·have kA:=ho;simp at ho;subst ho;have e11:=(qG (aw ⟨11,.data⟩ (by simp) rfl)).symm;subst e11;have e12:=(jF (aw ⟨12,.data⟩ (by simp) rfl)).symm;subst e12;refine bJ (v:=.pointer (some ⟨gr,q,none⟩)) (w':=W) kA rfl ?_ ?_
     ·simp[execOp,go_sem,zQ _ _ _ _ _ _ _ _ _ _ _ _ _ _ _ _ _ _ kD,Be _ _ _ _ _ _ _ _ _ _ _ _ _ _ _ _ _ _ kD,hqi]
     ·show ∃ bX,_;rw[zC];exact⟨_,_,_,_,_,_,_,_,_,_,_,_,_,_,_,_,_,rfl,fun h=>h0 ((ag h).resolve_left (by decide)),fun h=>h1 ((ag h).resolve_left (by decide)),fun h=>h2 ((ag h).resolve_left (by decide)),fun h=>h3 ((ag h).resolve_left (by decide)),fun h=>h4 ((ag h).resolve_left (by decide)),fun h=>h5 ((ag h).resolve_left (by decide)),fun h=>h6 ((ag h).resolve_left (by decide)),fun h=>h7 ((ag h).resolve_left (by decide)),fun h=>h8 ((ag h).resolve_left (by decide)),fun h=>h9 ((ag h).resolve_left (by decide)),fun h=>qB ((ag h).resolve_left (by decide)),fun h=>qG ((ag h).resolve_left (by decide)),fun h=>jF ((ag h).resolve_left (by decide)),fun _=>rfl,fun h=>qz ((ag h).resolve_left (by decide)),fun h=>qC ((ag h).resolve_left (by decide)),fun h=>lG ((ag h).resolve_left (by decide)),(by simpa using pQ),Or.inl ⟨by rw[getD_set_ne _ (show (13:Nat)≠17 by decide)];exact jC,hB⟩⟩
    ·have kA:=ho;simp at ho;subst ho;have e13:=(qH (aw ⟨13,.data⟩ (by simp) rfl)).symm;subst e13;refine bJ (v:=.string np) (w':=W) kA rfl ?_ ?_
     ·simp[execOp,go_sem,zO _ _ _ _ _ _ _ _ _ _ _ _ _ _ _ _ _ _ kD,i9]
     ·show ∃ bX,_;rw[AS];exact⟨_,_,_,_,_,_,_,_,_,_,_,_,_,_,_,_,_,rfl,fun h=>h0 ((ag h).resolve_left (by decide)),fun h=>h1 ((ag h).resolve_left (by decide)),fun h=>h2 ((ag h).resolve_left (by decide)),fun h=>h3 ((ag h).resolve_left (by decide)),fun h=>h4 ((ag h).resolve_left (by decide)),fun h=>h5 ((ag h).resolve_left (by decide)),fun h=>h6 ((ag h).resolve_left (by decide)),fun h=>h7 ((ag h).resolve_left (by decide)),fun h=>h8 ((ag h).resolve_left (by decide)),fun h=>h9 ((ag h).resolve_left (by decide)),fun h=>qB ((ag h).resolve_left (by decide)),fun h=>qG ((ag h).resolve_left (by decide)),fun h=>jF ((ag h).resolve_left (by decide)),fun h=>qH ((ag h).resolve_left (by decide)),fun _=>rfl,fun h=>qC ((ag h).resolve_left (by decide)),fun h=>lG ((ag h).resolve_left (by decide)),(by simpa using pQ),Or.inl ⟨by rw[getD_set_ne _ (show (14:Nat)≠17 by decide)];exact jC,hB⟩⟩
    ·have kA:=ho;simp at ho;subst ho;have e8:=(h8 (aw ⟨8,.data⟩ (by simp) rfl)).symm;subst e8;have e9:=(h9 (aw ⟨9,.data⟩ (by simp) rfl)).symm;subst e9;have e10:=(qB (aw ⟨10,.data⟩ (by simp) rfl)).symm;subst e10;have e14:=(qz (aw ⟨14,.data⟩ (by simp) rfl)).symm;subst e14;refine jI (f:=168) (args:=#[.slice (some ⟨b,0,none⟩) s.fields.length s.fields.length,.slice (some ⟨mb,0,none⟩) ms.length ms.length,.agg #[.string o.kind,.string o.name,.string o.team,.slice (some ⟨g,0,none⟩) vs.length d1,.bool o.ending,.slice a2 n2 d2,.int .i64 o.version],.string np]) kA rfl ?_ ?_
     ·simp[go_sem,Br _ _ _ _ _ _ _ _ _ _ _ _ _ _ _ _ _ _ kD,zF _ _ _ _ _ _ _ _ _ _ _ _ _ _ _ _ _ _ kD,Bw _ _ _ _ _ _ _ _ _ _ _ _ _ _ _ _ _ _ kD,Am _ _ _ _ _ _ _ _ _ _ _ _ _ _ _ _ _ _ kD]
     ·refine(Mw.out W hB).mono ?_;rintro e W2 ⟨rfl,aA⟩;refine⟨_,rfl, ?_⟩;show ∃ bX,_;rw[A9];exact⟨_,_,_,_,_,_,_,_,_,_,_,_,_,_,_,_,_,rfl,fun h=>h0 ((ag h).resolve_left (by decide)),fun h=>h1 ((ag h).resolve_left (by decide)),fun h=>h2 ((ag h).resolve_left (by decide)),fun h=>h3 ((ag h).resolve_left (by decide)),fun h=>h4 ((ag h).resolve_left (by decide)),fun h=>h5 ((ag h).resolve_left (by decide)),fun h=>h6 ((ag h).resolve_left (by decide)),fun h=>h7 ((ag h).resolve_left (by decide)),fun h=>h8 ((ag h).resolve_left (by decide)),fun h=>h9 ((ag h).resolve_left (by decide)),fun h=>qB ((ag h).resolve_left (by decide)),fun h=>qG ((ag h).resolve_left (by decide)),fun h=>jF ((ag h).resolve_left (by decide)),fun h=>qH ((ag h).resolve_left (by decide)),fun h=>qz ((ag h).resolve_left (by decide)),fun _=>rfl,fun h=>lG ((ag h).resolve_left (by decide)),(by simpa using pQ),Or.inl ⟨by rw[getD_set_ne _ (show (15:Nat)≠17 by decide)];exact jC,aa hB aA⟩⟩
    ·have kA:=ho;simp at ho;subst ho;have e1:=(h1 (aw ⟨1,.data⟩ (by simp) rfl)).symm;subst e1;have e7:=(h7 (aw ⟨7,.data⟩ (by simp) rfl)).symm;subst e7;refine bJ (v:=.pointer (some ⟨g,p,none⟩)) (w':=W) kA rfl ?_ ?_
     ·simp[execOp,go_sem,Aq _ _ _ _ _ _ _ _ _ _ _ _ _ _ _ _ _ _ kD,Ar _ _ _ _ _ _ _ _ _ _ _ _ _ _ _ _ _ _ kD,hpi]
     ·show ∃ bX,_;rw[Ao];exact⟨_,_,_,_,_,_,_,_,_,_,_,_,_,_,_,_,_,rfl,fun h=>h0 ((ag h).resolve_left (by decide)),fun h=>h1 ((ag h).resolve_left (by decide)),fun h=>h2 ((ag h).resolve_left (by decide)),fun h=>h3 ((ag h).resolve_left (by decide)),fun h=>h4 ((ag h).resolve_left (by decide)),fun h=>h5 ((ag h).resolve_left (by decide)),fun h=>h6 ((ag h).resolve_left (by decide)),fun h=>h7 ((ag h).resolve_left (by decide)),fun h=>h8 ((ag h).resolve_left (by decide)),fun h=>h9 ((ag h).resolve_left (by decide)),fun h=>qB ((ag h).resolve_left (by decide)),fun h=>qG ((ag h).resolve_left (by decide)),fun h=>jF ((ag h).resolve_left (by decide)),fun h=>qH ((ag h).resolve_left (by decide)),fun h=>qz ((ag h).resolve_left (by decide)),fun h=>qC ((ag h).resolve_left (by decide)),fun _=>rfl,(by simpa using pQ),Or.inl ⟨by rw[getD_set_ne _ (show (16:Nat)≠17 by decide)];exact jC,hB⟩⟩
    ·have kA:=ho;simp at ho;subst ho;have e16:=(lG (aw ⟨16,.data⟩ (by simp) rfl)).symm;subst e16;have e15:=(qC (aw ⟨15,.data⟩ (by simp) rfl)).symm;subst e15;refine pZ (w':=W.setCell ⟨g,p,none⟩ (.string zz)) kA rfl ?_ ?_
     ·simp[execOp,go_sem,AR _ _ _ _ _ _ _ _ _ _ _ _ _ _ _ _ _ _ kD,AI _ _ _ _ _ _ _ _ _ _ _ _ _ _ _ _ _ _ kD,JG,hu9]
     ·show ∃ bX,_;rw[Bb];exact⟨_,_,_,_,_,_,_,_,_,_,_,_,_,_,_,_,_,rfl,fun h=>h0 ((ag h).resolve_left (by decide)),fun h=>h1 ((ag h).resolve_left (by decide)),fun h=>h2 ((ag h).resolve_left (by decide)),fun h=>h3 ((ag h).resolve_left (by decide)),fun h=>h4 ((ag h).resolve_left (by decide)),fun h=>h5 ((ag h).resolve_left (by decide)),fun h=>h6 ((ag h).resolve_left (by decide)),fun h=>h7 ((ag h).resolve_left (by decide)),fun h=>h8 ((ag h).resolve_left (by decide)),fun h=>h9 ((ag h).resolve_left (by decide)),fun h=>qB ((ag h).resolve_left (by decide)),fun h=>qG ((ag h).resolve_left (by decide)),fun h=>jF ((ag h).resolve_left (by decide)),fun h=>qH ((ag h).resolve_left (by decide)),fun h=>qz ((ag h).resolve_left (by decide)),fun h=>qC ((ag h).resolve_left (by decide)),fun h=>lG ((ag h).resolve_left (by decide)),(by simpa using pQ),Or.inr ⟨ju hun,W,hB,rfl⟩⟩
   ·rintro l a W ⟨bX,dh,dd,dg,da,cR,cI,cS,cW,cU,cT,cJ,cE,cY,cX,cZ,dc,rfl,h0,h1,h2,h3,h4,h5,h6,h7,h8,h9,qB,qG,jF,qH,qz,qC,lG,pQ,hw⟩ hr;have L:=tW hr (by kernel_rfl) pQ;have e0:=(h0 (L 0 (by decide))).symm;subst e0;have e1:=(h1 (L 1 (by decide))).symm;subst e1;have e2:=(h2 (L 2 (by decide))).symm;subst e2;have e3:=(h3 (L 3 (by decide))).symm;subst e3;have e4:=(h4 (L 4 (by decide))).symm;subst e4;have e5:=(h5 (L 5 (by decide))).symm;subst e5;have e6:=(h6 (L 6 (by decide))).symm;subst e6;have e7:=(h7 (L 7 (by decide))).symm;subst e7;have e8:=(h8 (L 8 (by decide))).symm;subst e8;have e9:=(h9 (L 9 (by decide))).symm;subst e9;have e10:=(qB (L 10 (by decide))).symm;subst e10;have e11:=(qG (L 11 (by decide))).symm;subst e11;have e12:=(jF (L 12 (by decide))).symm;subst e12;have e13:=(qH (L 13 (by decide))).symm;subst e13;have e14:=(qz (L 14 (by decide))).symm;subst e14;have e15:=(qC (L 15 (by decide))).symm;subst e15;have e16:=(lG (L 16 (by decide))).symm;subst e16;rcases hw with⟨jC,_⟩|⟨_,W0,hB,rfl⟩
    ·rw[L 17 (by decide)]at jC;cases jC
    ·subst Gh;simp[ck,Act.put];clear hr L pQ;go_wp2;go_roundw
     case rel=>exact⟨q+1,by have:=HPQ.out.1;omega,by go_num,La.out _ hB⟩
     case measure=>have:=HPQ.out.1;simp[intOf];omega
   ·refine⟨_,_,_,_,_,_,_,_,_,_,_,_,_,_,_,_,_,C7 a0, ?_⟩;exact⟨fun h=>absurd h Bool.false_ne_true,fun h=>absurd h Bool.false_ne_true,fun h=>absurd h Bool.false_ne_true,fun h=>absurd h Bool.false_ne_true,fun h=>absurd h Bool.false_ne_true,fun h=>absurd h Bool.false_ne_true,fun h=>absurd h Bool.false_ne_true,fun h=>absurd h Bool.false_ne_true,fun h=>absurd h Bool.false_ne_true,fun h=>absurd h Bool.false_ne_true,fun h=>absurd h Bool.false_ne_true,fun h=>absurd h Bool.false_ne_true,fun h=>absurd h Bool.false_ne_true,fun h=>absurd h Bool.false_ne_true,fun h=>absurd h Bool.false_ne_true,fun h=>absurd h Bool.false_ne_true,fun h=>absurd h Bool.false_ne_true,rfl,Or.inl ⟨rfl,by repeat(first|exact br|refine Below.drew ?_)⟩⟩
   ·exact fj.none _ (jt 18)
   ·exact Nat.le_of_eq (by kernel_rfl)
  ·obtain rfl:q=row.length:=by omega
   have GL:Hid (bI ss ms o.kind o.values=vs):=by show _=_;rw[HF.out,GK.out,List.take_length]
   clear MJ Gl vK gB hH;have hR:=HI.out.own;have ij:=hR.frozen;have z2:=hR.lt;obtain⟨y0,kE⟩:=hR.cell 0 (by omega);obtain⟨y1,kF⟩:=hR.cell 1 (by omega);obtain⟨y2,kx⟩:=hR.cell 2 (by omega);obtain⟨y3,kG⟩:=hR.cell 3 (by omega);obtain⟨y4,ti⟩:=hR.cell 4 (by omega);obtain⟨y5,tq⟩:=hR.cell 5 (by omega);obtain⟨y6,tk⟩:=hR.cell 6 (by omega);clear hR;go_wp2;obtain⟨r,_,t1,t2,t3,t4,t5⟩:=HI.out.out [.string o.kind,.string o.name,.string o.team,.slice a1 n1 d1,.bool o.ending,.slice a2 n2 d2,.int .i64 o.version] rfl;have r0:(((((((wr.setCell ⟨w.heap.size+1,0,none⟩ (.string o.kind)).setCell ⟨w.heap.size+1,1,none⟩ (.string o.name)).setCell ⟨w.heap.size+1,2,none⟩ (.string o.team)).setCell ⟨w.heap.size+1,3,none⟩ (.slice a1 n1 d1)).setCell ⟨w.heap.size+1,4,none⟩ (.bool o.ending)).setCell ⟨w.heap.size+1,5,none⟩ (.slice a2 n2 d2)).setCell ⟨w.heap.size+1,6,none⟩ (.int .i64 o.version)).cell? ⟨w.heap.size+1,0,none⟩=some (.string o.kind):=r 0 (by omega);have r1:(((((((wr.setCell ⟨w.heap.size+1,0,none⟩ (.string o.kind)).setCell ⟨w.heap.size+1,1,none⟩ (.string o.name)).setCell ⟨w.heap.size+1,2,none⟩ (.string o.team)).setCell ⟨w.heap.size+1,3,none⟩ (.slice a1 n1 d1)).setCell ⟨w.heap.size+1,4,none⟩ (.bool o.ending)).setCell ⟨w.heap.size+1,5,none⟩ (.slice a2 n2 d2)).setCell ⟨w.heap.size+1,6,none⟩ (.int .i64 o.version)).cell? ⟨w.heap.size+1,1,none⟩=some (.string o.name):=r 1 (by omega);have r2:(((((((wr.setCell ⟨w.heap.size+1,0,none⟩ (.string o.kind)).setCell ⟨w.heap.size+1,1,none⟩ (.string o.name)).setCell ⟨w.heap.size+1,2,none⟩ (.string o.team)).setCell ⟨w.heap.size+1,3,none⟩ (.slice a1 n1 d1)).setCell ⟨w.heap.size+1,4,none⟩ (.bool o.ending)).setCell ⟨w.heap.size+1,5,none⟩ (.slice a2 n2 d2)).setCell ⟨w.heap.size+1,6,none⟩ (.int .i64 o.version)).cell? ⟨w.heap.size+1,2,none⟩=some (.string o.team):=r 2 (by omega);have r3:(((((((wr.setCell ⟨w.heap.size+1,0,none⟩ (.string o.kind)).setCell ⟨w.heap.size+1,1,none⟩ (.string o.name)).setCell ⟨w.heap.size+1,2,none⟩ (.string o.team)).setCell ⟨w.heap.size+1,3,none⟩ (.slice a1 n1 d1)).setCell ⟨w.heap.size+1,4,none⟩ (.bool o.ending)).setCell ⟨w.heap.size+1,5,none⟩ (.slice a2 n2 d2)).setCell ⟨w.heap.size+1,6,none⟩ (.int .i64 o.version)).cell? ⟨w.heap.size+1,3,none⟩=some (.slice a1 n1 d1):=r 3 (by omega);have r4:(((((((wr.setCell ⟨w.heap.size+1,0,none⟩ (.string o.kind)).setCell ⟨w.heap.size+1,1,none⟩ (.string o.name)).setCell ⟨w.heap.size+1,2,none⟩ (.string o.team)).setCell ⟨w.heap.size+1,3,none⟩ (.slice a1 n1 d1)).setCell ⟨w.heap.size+1,4,none⟩ (.bool o.ending)).setCell ⟨w.heap.size+1,5,none⟩ (.slice a2 n2 d2)).setCell ⟨w.heap.size+1,6,none⟩ (.int .i64 o.version)).cell? ⟨w.heap.size+1,4,none⟩=some (.bool o.ending):=r 4 (by omega);have r5:(((((((wr.setCell ⟨w.heap.size+1,0,none⟩ (.string o.kind)).setCell ⟨w.heap.size+1,1,none⟩ (.string o.name)).setCell ⟨w.heap.size+1,2,none⟩ (.string o.team)).setCell ⟨w.heap.size+1,3,none⟩ (.slice a1 n1 d1)).setCell ⟨w.heap.size+1,4,none⟩ (.bool o.ending)).setCell ⟨w.heap.size+1,5,none⟩ (.slice a2 n2 d2)).setCell ⟨w.heap.size+1,6,none⟩ (.int .i64 o.version)).cell? ⟨w.heap.size+1,5,none⟩=some (.slice a2 n2 d2):=r 5 (by omega);have r6:(((((((wr.setCell ⟨w.heap.size+1,0,none⟩ (.string o.kind)).setCell ⟨w.heap.size+1,1,none⟩ (.string o.name)).setCell ⟨w.heap.size+1,2,none⟩ (.string o.team)).setCell ⟨w.heap.size+1,3,none⟩ (.slice a1 n1 d1)).setCell ⟨w.heap.size+1,4,none⟩ (.bool o.ending)).setCell ⟨w.heap.size+1,5,none⟩ (.slice a2 n2 d2)).setCell ⟨w.heap.size+1,6,none⟩ (.int .i64 o.version)).cell? ⟨w.heap.size+1,6,none⟩=some (.int .i64 o.version):=r 6 (by omega);refine bodyPost_ret (v:=.agg #[.string o.kind,.string o.name,.string o.team,.slice a1 n1 d1,.bool o.ending,.slice a2 n2 d2,.int .i64 o.version]) (by simp only[results,Tryz.results122];simp[go_sem,r0,r1,r2,r3,r4,r5,r6]) rfl ⟨⟨_,_,_,_,_,_,mid,rfl, ?_,t2,t3,t4⟩,t5⟩;rw[GL.out];exact t1
end Go.Proofs.YtbiokpmdghmgcaaGreat
