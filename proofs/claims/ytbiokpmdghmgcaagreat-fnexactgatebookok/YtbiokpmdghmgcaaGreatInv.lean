import Derived.WalkKit
import Derived.Deep.OwnRows
import Derived.Deep.RegionWith
import Derived.Orders
import Derived.Test.YtbiokpmdghmgcaaGreatOwn
namespace Go.Proofs.YtbiokpmdghmgcaaGreat
open Go.RowKit Go.Deep
def left (listed:Array Bool):Nat:=listed.toList.countP (fun b=> !b)
theorem rG {listed:Array Bool} {i:Nat} (h:listed.getD i true=false):left (listed.setIfInBounds i true)+1=left listed:=by
 have aw:i<listed.size:=by
  rcases Nat.lt_or_ge i listed.size with h'|h'
  ·exact h'
  ·simp[Array.getElem?_eq_none h']at h
 have hv:listed[i]=false:=by simpa [aw]using h
 unfold left;rw[Array.toList_setIfInBounds];have hl:i<listed.toList.length:=by simpa using aw
 have Be:listed.toList[i]=false:=by simpa using hv
 generalize listed.toList=l at hl Be;clear h hv aw;induction l generalizing i with
 |nil=>simp at hl
 |cons b l ih=>
  cases i with
  |zero=>
   simp only[List.getElem_cons_zero]at Be;subst Be;simp
  |succ i=>
   simp only[List.set_cons_succ,List.countP_cons];have:=ih (i:=i) (by simpa using hl) (by simpa using Be);omega
theorem xB {listed:Array Bool} (h:left listed=0) (i:Nat):listed.getD i true=true:=by
 unfold left at h;rw[List.countP_eq_zero]at h;by_cases hi:i<listed.size
 ·have:=h (listed[i]) (by simp);simpa [hi]using this
 ·simp[Array.getElem?_eq_none (by omega:listed.size≤i)]
section
variable {P:Program} {ops:Array Oper} {md:Region.Mode} {Q:Exit→Act→World→Prop}
theorem jD {listed:Array Bool} (h:left listed=0):Region.ready md ops listed=[]:=by
 rw[List.eq_nil_iff_forall_not_mem];intro j hj;have:=(mem_ready.1 hj).1;rw[xB h j]at this;cases this
theorem et {l:Array Bool} {i j:Nat} (h:l.getD j false=true):(l.setIfInBounds i true).getD j false=true:=by
 by_cases e:i=j
 ·subst e;have aw:i<l.size:=by
   rcases Nat.lt_or_ge i l.size with h'|h'
   ·exact h'
   ·simp[Array.getElem?_eq_none h']at h
  simp[aw]
 ·rw[getD_set_ne false e];exact h
theorem ag {l:Array Bool} {i j:Nat} (h:(l.setIfInBounds i true).getD j false=true):j=i∨l.getD j false=true:=by
 by_cases e:i=j
 ·exact Or.inl e.symm
 ·rw[getD_set_ne false e]at h;exact Or.inr h
def fq (md:Region.Mode) (ops:Array Oper) (l:Array Bool):Prop:=∀ i o e,ops[i]? =some o→e∈o.after→Region.binds md e=true→l.getD i false=true→l.getD e.on false=true
theorem fq.set {l:Array Bool} {i:Nat} (h:fq md ops l) (hi:i∈Region.ready md ops l):fq md ops (l.setIfInBounds i true):=by
 intro j o e ho he hb hj;rcases ag hj with rfl|hj
 ·obtain⟨_,o',Ic,av⟩:=mem_ready.1 hi;have:o'=o:=Option.some.inj (Ic.symm.trans ho);subst this;exact et (av e he hb)
 ·exact et (h j o e ho he hb hj)
theorem fq.none (l:Array Bool) (h:∀ i,l.getD i false=false):fq md ops l:=by
 intro i o e _ _ _ hi;rw[h i]at hi;cases hi
theorem ji (n k:Nat):(Array.replicate n false).getD k false=false:=by
 rw[Array.getD_eq_getD_getElem?,Array.getElem?_replicate];split<;>rfl
theorem ma (I:Array Bool→Act→World→Prop)
  (hstep:∀ listed a w i,I listed a w→fq md ops listed→i∈Region.ready md ops listed→wpOp P ops Q i (fun a' w'=>I (listed.setIfInBounds i true) a' w') a w)
  (hend:∀ listed a w,I listed a w→Region.ready md ops listed=[]→Q .normal a w):
  ∀ (fuel:Nat) (listed:Array Bool) (a:Act) (w:World),I listed a w→fq md ops listed→left listed≤fuel→wpAny P md ops Q fuel listed a w
 |0,listed,a,w,h,_,hf=>⟨jD (Nat.le_zero.1 hf),hend _ _ _ h (jD (Nat.le_zero.1 hf))⟩
 |fuel+1,listed,a,w,h,hc,hf=>⟨fun h0=>hend _ _ _ h h0,fun i hi=>wpOp_mono (fun a' w' h'=>ma I hstep hend fuel _ a' w' h' (hc.set hi) (by have:=rG (mem_ready.1 hi).1;omega)) (hstep _ _ _ _ h hc hi)⟩
end
def asc (md:Region.Mode) (ops:Array Oper):Bool:=(List.range ops.size).all fun n=>match ops[n]? with
 |some o=>o.after.all fun e=> !(Region.binds md e)||decide (e.on<n)
 |none=>true
theorem uo {md:Region.Mode} {ops:Array Oper} {l:Array Bool} (hr:Region.ready md ops l=[]) (ha:asc md ops=true) (hl:l.size=ops.size):∀ n,n<ops.size→l.getD n false=true:=by
 intro n;induction n using Nat.strongRecOn with
 |_ n ih=>
  intro hn;cases h:l.getD n false with
  |true=>rfl
  |false=>
   exfalso;have h2:l.getD n true=false:=by
    have:n<l.size:=by omega
    simpa [this]using h
   have ho:ops[n]? =some ops[n]:=by simp[hn]
   have hA:∀ e∈ops[n].after,Region.binds md e=true→e.on<n:=by
    unfold asc at ha;rw[List.all_eq_true]at ha;have:=ha n (List.mem_range.2 hn);rw[ho]at this;intro e he hb;have h3:=(Array.all_eq_true_iff_forall_mem.1 this) e he;rw[hb]at h3;simpa using h3
   have:=mem_ready.2 ⟨h2,ops[n],ho,fun e he hb=>ih e.on (hA e he hb) (by have:=hA e he hb;omega)⟩;rw[hr]at this;cases this
theorem wS {R:Act→Prop} (a:Act) (h:∀ a0,a0=a→R a0):R a:=h a rfl
theorem bI {P:Program} {ops:Array Oper} {Q:Exit→Act→World→Prop} {i:Nat} {K:Act→World→Prop} {a:Act} {w w':World} {o:Oper} {v:Value} (ho:ops[i]? =some o) (hg:o.guard=none)
  (hr:(execOp a.eval o).run P w=.ok (.value v) w') (hk:K (a.put o.dst v) w'):wpOp P ops Q i K a w:=by
 have hw:Region.wanted o (yielded ops a.tmps)=true:=by simp[Region.wanted,hg]
 simp only[wpOp,ho,hw,if_true];left;simp only[Oper.wp,hr,Oper.upon];exact hk
theorem p8 {P:Program} {ops:Array Oper} {Q:Exit→Act→World→Prop} {i:Nat} {K:Act→World→Prop} {a:Act} {w w':World} {o:Oper} (ho:ops[i]? =some o) (hg:o.guard=none)
  (hr:(execOp a.eval o).run P w=.ok .skip w') (hk:K (a.put o.dst undef) w'):wpOp P ops Q i K a w:=by
 have hw:Region.wanted o (yielded ops a.tmps)=true:=by simp[Region.wanted,hg]
 simp only[wpOp,ho,hw,if_true];left;simp only[Oper.wp,hr,Oper.upon];exact hk
theorem za (a:Act) (u:Value):a.put none u=a:=rfl
theorem jl {l:Array Bool} {i:Nat} (h:l.getD i true=false):(l.setIfInBounds i true).getD i false=true:=by
 have aw:i<l.size:=by
  rcases Nat.lt_or_ge i l.size with h'|h'
  ·exact h'
  ·simp[Array.getElem?_eq_none h']at h
 simp[aw]
theorem ku {l:Array Bool} {i:Nat} (h:l.getD i true=false):l.getD i false=false:=by
 have aw:i<l.size:=by
  rcases Nat.lt_or_ge i l.size with h'|h'
  ·exact h'
  ·simp[Array.getElem?_eq_none h']at h
 simpa [aw]using h
theorem jI {P:Program} {ops:Array Oper} {Q:Exit→Act→World→Prop} {i:Nat} {K:Act→World→Prop} {a:Act} {w:World} {o:Oper} {f:FuncId} {args:Array Value} (ho:ops[i]? =some o) (hg:o.guard=none)
  (hr:(execOp a.eval o).run P w=.ok (.enter f args) w) (hk:Calls P f args w fun e w'=>∃ u,e=.returned u∧K (a.put o.dst u) w'):wpOp P ops Q i K a w:=by
 have hw:Region.wanted o (yielded ops a.tmps)=true:=by simp[Region.wanted,hg]
 simp only[wpOp,ho,hw,if_true];left;simp only[Oper.wp,hr,Oper.upon];refine hk.mono ?_;rintro e w' ⟨u,rfl,h⟩;exact h
theorem ee (a:Act) (k:Nat) (u v:Value):(a.put (some k) u).put (some k) v=a.put (some k) v:=by
 simp[Act.put]
theorem ak (a:Act) (j k:Nat) (u v:Value) (h:j≠k):(a.put (some j) u).put (some k) v=(a.put (some k) v).put (some j) u:=by
 simp[Act.put,Array.setIfInBounds_comm _ _ h]
theorem b8 (a:Act) (k:Nat) (u:Value) (h:k<a.tmps.size):(a.put (some k) u).eval (.tmp k)=u:=by
 simp[Act.put,Act.eval,h]
theorem ah (a:Act) (j k:Nat) (u:Value) (h:j≠k):(a.put (some j) u).eval (.tmp k)=a.eval (.tmp k):=by
 simp[Act.put,Act.eval,Array.getElem?_setIfInBounds_ne h]
theorem bR (a:Act) (k:Nat) (u:Value):(a.put (some k) u).tmps.size=a.tmps.size:=by simp[Act.put]
theorem dd (a:Act) (k:Nat):a.put (some k) (a.eval (.tmp k))=a:=by
 obtain⟨t,d⟩:=a;simp only[Act.put,Act.eval];congr 1;apply Array.ext
 ·simp
 ·intro i h1 h2;rw[Array.getElem_setIfInBounds h2];split
  ·rename_i e;subst e;simp[h2]
  ·rfl
end Go.Proofs.YtbiokpmdghmgcaaGreat
