import Derived.OrdersIn
import Derived.RangeFuncNested
import Derived.RangeFuncLeaves
import Derived.WalkKit
import Derived.Deep.DeepCutAuto
import Derived.RangeFuncCalls
import Derived.RangeFuncFrom
import Derived.Shelf.Abstract
import Derived.OwnWalkIn
import Derived.TacticsInMore
import Derived.LoopIn
import Derived.Test.YtbiokpmdghmgcaaGreatPlainBk
import Derived.Test.YtbiokpmdghmgcaaGreatShR
namespace Go.Proofs.YtbiokpmdghmgcaaGreat
open Go.RowKit Go.Deep
section
variable {F:Fence} {m:Nat} {P:Program} {ops:Array Oper} {md:Region.Mode} {Q:Exit→Act→World→Prop}
theorem m6 (I:Array Bool→Act→World→Prop)
  (hstep:∀ listed a w i,I listed a w→fj md ops listed→i∈Region.ready md ops listed→wpOpIn F m P ops Q i (fun a' w'=>I (listed.setIfInBounds i true) a' w') a w)
  (hend:∀ listed a w,I listed a w→Region.ready md ops listed=[]→Q .normal a w):
  ∀ (fuel:Nat) (listed:Array Bool) (a:Act) (w:World),I listed a w→fj md ops listed→left listed≤fuel→wpAnyIn F m P md ops Q fuel listed a w
 |0,listed,a,w,h,_,hf=>⟨jK (Nat.le_zero.1 hf),hend _ _ _ h (jK (Nat.le_zero.1 hf))⟩
 |fuel+1,listed,a,w,h,hc,hf=>⟨fun h0=>hend _ _ _ h h0,fun i hi=>wpOpIn_mono (fun a' w' h'=>m6 I hstep hend fuel _ a' w' h' (hc.set hi) (by have:=sd (mem_ready.1 hi).1;omega)) (hstep _ _ _ _ h hc hi)⟩
end
def mN (l:List Oper) (n:Nat):Bool:=l.all fun o=>match o.dst with
 |some k=>decide (k<n)
 |none=>true
theorem na {l:List Oper} {n:Nat} (h:mN l n=true) {i:Nat} {o:Oper} (hi:l[i]? =some o):∀ k,o.dst=some k→k<n:=by
 unfold mN at h;rw[List.all_eq_true]at h;have:=h o (List.mem_of_getElem? hi);intro k hk;rw[hk]at this;simpa using this
theorem jA.Bp {l:List Oper} {a0:Act} {C:Array Bool→World→Prop} {V:Nat→Value→World→Prop} {L:Array Bool} {a:Act} {W:World} (h:jA l a0 C V L a W) (hap:kg l=true) (eI:mN l a0.tmps.size=true) {i:Nat} {o:Oper} {u:Value} {W':World} (ho:l[i]? =some o) (hi:L.getD i true=false) (hC:C (L.setIfInBounds i true) W') (hm:∀ j v,L.getD j false=true→V j v W→V j v W') (hV:o.dst.isSome=true→V i u W'):
  jA l a0 C V (L.setIfInBounds i true) (a.put o.dst u) W':=by
 cases hd:o.dst with
 |none=>
  refine⟨by simp[h.len],hC,h.df,h.sz,fun k hk=>h.old k fun j o' hj lJ=> ?_,fun j o' k hj lJ hl=> ?_⟩
  ·have:=hk j o' hj lJ;cases e:L.getD j false
   ·rfl
   ·rw[et e]at this;cases this
  ·rcases ag hl with rfl|hl
   ·rw[ho]at hj;injection hj with hj;subst hj;rw[hd]at lJ;cases lJ
   ·exact hm _ _ hl (h.new j o' k hj lJ hl)
 |some q=>
  have hq:q<a.tmps.size:=by rw[h.sz];exact na eI ho q hd
  refine⟨by simp[h.len],hC,h.df,by rw[bR];exact h.sz,fun k hk=> ?_,fun j o' k hj lJ hl=> ?_⟩
  ·have fe:q≠k:=by
    intro e;subst e;have:=hk i o ho hd;rw[ju hi]at this;cases this
   rw[ah _ _ _ _ fe];refine h.old k fun j o' hj lJ=> ?_;have:=hk j o' hj lJ;cases e:L.getD j false
   ·rfl
   ·rw[et e]at this;cases this
  ·by_cases e:q=k
   ·subst e;obtain rfl:=apart_spec hap ho hj hd lJ;rw[bY _ _ _ hq];exact hV (by rw[hd];rfl)
   ·rw[ah _ _ _ _ e];rcases ag hl with rfl|hl
    ·rw[ho]at hj;injection hj with hj;subst hj;rw[hd]at lJ;injection lJ with lJ;exact absurd lJ e
    ·exact hm _ _ hl (h.new j o' k hj lJ hl)
theorem rp {F:Fence} {m:Nat} {P:Program} {id:Nat} {Q:Exit→Act→World→Prop} {a0:Act} {w:World} {l:List Oper} (C:Array Bool→World→Prop) (V:Nat→Value→World→Prop) (hm:P.follows .mixedOrders=true)
  (hasc:asc .any l.toArray=true) (eI:mN l a0.tmps.size=true) (hC0:C (Array.replicate l.length false) w.drew)
  (Ea:∀ (L:Array Bool) (a:Act) (W:World) (i:Nat) (o:Oper),jA l a0 C V L a W→fj .any l.toArray L→l[i]? =some o→L.getD i true=false→(∀ e∈o.after,Region.binds .any e=true→L.getD e.on false=true)→
   wpOpIn F m P l.toArray Q i (fun a' W'=>jA l a0 C V (L.setIfInBounds i true) a' W') a W)
  (hend:∀ (L:Array Bool) (W:World) (vs:Nat→Value),(∀ i,i<l.length→L.getD i false=true)→C L W→(∀ (i:Nat) (o:Oper) (k:Nat),l[i]? =some o→o.dst=some k→V i (vs k) W)→Q .normal (eu l a0 vs) W):
  (Code.region id l.toArray true).wpIn F m P Q a0 w:=by
 refine wpIn_region_any hm ?_;refine m6 (jA l a0 C V) ?_ ?_ _ _ _ _ ?_ (fj.none _ (jt _)) ?_
 ·intro L a W i h hc hi;obtain⟨zk,o,ho,aw⟩:=mem_ready.1 hi;exact Ea L a W i o h hc (by simpa using ho) zk aw
 ·intro L a W h hr;have aw:∀ i,i<l.length→L.getD i false=true:=fun i hi=>tW hr hasc (by simpa using h.len) i (by simpa using hi);have e:a=eu l a0 (fun k=>a.eval (.tmp k)):=by
   have hs:∀ o∈l,∀ q,o.dst=some q→q<a0.tmps.size:=fun o ho q hq=>by
    obtain⟨i,hi⟩:=List.getElem?_of_mem ho;exact na eI hi q hq
   refine wP (by rw[ji];exact h.df) (by rw[km];exact h.sz) fun k=> ?_;rw[iS l a0 _ k hs];by_cases hk:∃ o∈l,o.dst=some k
   ·rw[if_pos hk]
   ·rw[if_neg hk];refine h.old k fun i o hi hd=>absurd ⟨o,List.mem_of_getElem? hi,hd⟩ hk
  have:=hend L W (fun k=>a.eval (.tmp k)) aw h.cw (fun i o k hi hd=>h.new i o k hi hd (aw i (List.getElem?_eq_some_iff.1 hi).1));rw[← e]at this;exact this
 ·refine⟨by simp, ?_,rfl,rfl,fun _ _=>rfl,fun i o k hi _ hl=> ?_⟩
  ·simpa using hC0
  ·rw[jt]at hl;cases hl
 ·unfold left;exact Nat.le_trans List.countP_le_length (by simp)
theorem cd {l:List Oper} {a:Act} {o oj:Oper} {j k:Nat} {b:Bool} (hg:o.guard=some (j,true)) (hj:l[j]? =some oj) (hd:oj.dst=some k) (hv:a.eval (.tmp k)=.bool b):Region.wanted o (yielded l.toArray a.tmps)=b:=by
 have ht:a.tmps[k]? =some (.bool b):=by
  have h1:a.tmps[k]?.getD undef=.bool b:=by simpa [Act.eval]using hv
  cases e:a.tmps[k]? with
  |none=>rw[e]at h1;cases h1
  |some v=>rw[e]at h1;exact congrArg some h1
 have hy:yielded l.toArray a.tmps j=some b:=by
  unfold yielded;rw[List.getElem?_toArray,hj];simp[hd,ht]
 unfold Region.wanted;rw[hg];simp only[hy];cases b<;>rfl
theorem eT {o:Oper} {y:Nat→Option Bool} (hg:o.guard=none):Region.wanted o y=true:=by
 unfold Region.wanted;rw[hg]
theorem jA.runIn {F:Fence} {m:Nat} {P:Program} {Q:Exit→Act→World→Prop} {l:List Oper} {a0:Act} {C:Array Bool→World→Prop} {V:Nat→Value→World→Prop} {L:Array Bool} {a:Act} {W:World} (h:jA l a0 C V L a W) (hap:kg l=true) (eI:mN l a0.tmps.size=true) (H6:F.round=none) (ER:∀ f,F.fn f)
  {i:Nat} {o:Oper} (ho:l[i]? =some o) (hi:L.getD i true=false) (hC:C (L.setIfInBounds i true) W) (b:Bool) (hw:Region.wanted o (yielded l.toArray a.tmps)=b)
  (hdo:b=true→∃ u,(execOp a.eval o).run P W=.ok (.value u) W∧V i u W) (iM:b=false→V i undef W):
  wpOpIn F m P l.toArray Q i (fun a' W'=>jA l a0 C V (L.setIfInBounds i true) a' W') a W:=by
 unfold wpOpIn;rw[List.getElem?_toArray,ho];simp only[hw];cases b with
 |true=>
  obtain⟨u,hu,hv⟩:=hdo rfl;refine⟨fun f _=>ER f, ?_⟩;rw[H6,Oper.semAt_none,hu,Oper.uponIn_value];exact h.Bp hap eI ho hi hC (fun _ _ _ hh=>hh) (fun _=>hv)
 |false=>
  refine⟨fun f _=>ER f, ?_⟩;exact h.Bp hap eI ho hi hC (fun _ _ _ hh=>hh) (fun _=>iM rfl)
theorem jA.Dv {F:Fence} {m:Nat} {P:Program} {Q:Exit→Act→World→Prop} {l:List Oper} {a0:Act} {C:Array Bool→World→Prop} {V:Nat→Value→World→Prop} {L:Array Bool} {a:Act} {W:World} (h:jA l a0 C V L a W) (hap:kg l=true) (eI:mN l a0.tmps.size=true) (H6:F.round=none) (ER:∀ f,F.fn f) (hdp:F.depth=none)
  {i:Nat} {o:Oper} (ho:l[i]? =some o) (hi:L.getD i true=false) (hw:Region.wanted o (yielded l.toArray a.tmps)=true) {lp:Nat} {fn:FuncId} {tmps:Array Value} {assign body:Code} {R:Ending→World→Prop}
  (Hl:(execOp a.eval o).run P W=.ok (.round lp fn tmps assign body) W) (hR:RoundIn F (m - 1) P lp fn tmps assign body W R)
  (hk:∀ e W',R e W'→∃ u,e=.returned u∧C (L.setIfInBounds i true) W'∧(∀ j v,L.getD j false=true→V j v W→V j v W')∧V i u W'):
  wpOpIn F m P l.toArray Q i (fun a' W'=>jA l a0 C V (L.setIfInBounds i true) a' W') a W:=by
 unfold wpOpIn;rw[List.getElem?_toArray,ho];simp only[hw,if_true];refine⟨fun f _=>ER f, ?_⟩;rw[H6,Oper.semAt_none,Hl,Oper.uponIn_round];refine⟨fun e=>(by rw[hdp]at e;cases e),hR.mono fun e W' he=> ?_⟩;obtain⟨u,rfl,hC,hm,hV⟩:=hk e W' he;exact h.Bp hap eI ho hi hC hm (fun _=>hV)
def tN (l:List Oper):Nat→List Nat→List Nat
 |0,s=>s
 |n+1,s=>tN l n (s++s.flatMap (fun i=>((l[i]?.map fun o=>(o.after.toList.filter (Region.binds .any)).map (·.on)).getD []))).eraseDups
theorem nZ {l:List Oper} {L:Array Bool} (hc:fj .any l.toArray L):∀ (n:Nat) (s:List Nat),(∀ i∈s,L.getD i false=true)→∀ i∈tN l n s,L.getD i false=true
 |0,s,h=>h
 |n+1,s,h=>by
  refine nZ hc n _ fun i hi=> ?_;rw[List.mem_eraseDups,List.mem_append]at hi;rcases hi with hi|hi
  ·exact h i hi
  ·rw[List.mem_flatMap]at hi;obtain⟨j,hj,hi⟩:=hi;cases e:l[j]? with
   |none=>rw[e]at hi;simp at hi
   |some o=>
    rw[e]at hi;simp only[Option.map_some,Option.getD_some,List.mem_map,List.mem_filter]at hi;obtain⟨ed,⟨h1,h2⟩,rfl⟩:=hi;exact hc j o ed (by rw[List.getElem?_toArray];exact e) (by simpa using h1) h2 (h j hj)
theorem behind {l:List Oper} {L:Array Bool} (hc:fj .any l.toArray L) {n i j:Nat} (hij:(tN l n [j]).contains i=true) (hi:L.getD i true=false):L.getD j false=false:=by
 cases e:L.getD j false with
 |false=>rfl
 |true=>
  have:=nZ hc n [j] (by simpa using e) i (by simpa using hij);rw[Array.getD_eq_getD_getElem?]at this hi;cases e2:L[i]? with
  |none=>rw[e2]at hi;cases hi
  |some v=>rw[e2]at hi this;simp at hi this;rw[hi]at this;cases this
end Go.Proofs.YtbiokpmdghmgcaaGreat
namespace Go.Proofs.YtbiokpmdghmgcaaGreat
set_option maxRecDepth 8000
set_option maxHeartbeats 40000000
open Go.RowKit Go.Deep
def qW (f:Fld) (v:ByteArray):Bool:=decide (f.kind=4)&& !v.toList.isEmpty
def cg (fs:List Fld) (vs:List ByteArray):Nat→List (ByteArray×ByteArray)
 |0=> []
 |k+1=>cg fs vs k++(if qW (fs.getD k Fld.none) (vs.getD k ByteArray.empty) then [((fs.getD k Fld.none).to,vs.getD k ByteArray.empty)] else [])
theorem mT (fs:List Fld) (vs:List ByteArray):∀ k,(cg fs vs k).length≤k
 |0=>nr
 |k+1=>by
  have:=mT fs vs k;rw[cg,List.length_append];split<;>simp<;>omega
theorem ng (fs:List Fld) (vs:List ByteArray) (k:Nat):∀ m,cg fs vs k<+:cg fs vs (k+m)
 |0=>List.prefix_refl _
 |m+1=>(ng fs vs k m).trans (by rw[← Nat.add_assoc,cg];exact List.prefix_append _ _)
theorem mY {β:Type} {B:Nat} {J:β→World→Prop} (h:AbidesFrom B J) {s:β} {W:World} (hj:J s W):J s W.drew:=
 h s W W.drew none hj ⟨rfl,rfl,rfl,nr,fun _ _ _=>rfl⟩ (fun _ e=>by cases e)
theorem qM {β:Type} {B:Nat} {J:β→World→Prop} (h:AbidesFrom B J) {s:β} {W:World} (o:Obj) (hj:J s W):J s (W.alloc o):=
 h s W (W.alloc o) none hj ⟨rfl,rfl,rfl,by simp,fun i hi _=>Below.heap_alloc W o i hi⟩ (fun _ e=>by cases e)
def VLk (l E bo b c1 q:Nat) (n:Nat) (f:Fld) (v:ByteArray) (lk ne ln:Bool) (R:Bool→World→Prop):Nat→Value→World→Prop
 |0,u,_=>u=.pointer (some ⟨E,1,none⟩)
 |1,u,_=>u=.int .i64 f.kind
 |2,u,_=>u=.bool lk
 |3,u,_=>u=.bool lk
 |4,u,_=>lk=true→u=.pointer (some ⟨bo,3,none⟩)
 |5,u,_=>lk=true→u=.slice (some ⟨b,0,none⟩) n c1
 |6,u,_=>lk=true→u=.int .i64 q
 |7,u,_=>lk=true→u=.pointer (some ⟨b,q,none⟩)
 |8,u,_=>lk=true→u=.string v
 |9,u,_=>lk=true→u=.bool ne
 |10,u,_=>u=.bool ln
 |11,u,_=>u=.bool ln
 |12,u,_=>ln=true→u=.func (.yield l) #[] #[]
 |13,u,_=>ln=true→u=.pointer (some ⟨E,5,none⟩)
 |14,u,_=>ln=true→u=.string f.to
 |15,u,_=>ln=true→u=.pointer (some ⟨bo,3,none⟩)
 |16,u,_=>ln=true→u=.slice (some ⟨b,0,none⟩) n c1
 |17,u,_=>ln=true→u=.int .i64 q
 |18,u,_=>ln=true→u=.pointer (some ⟨b,q,none⟩)
 |19,u,_=>ln=true→u=.string v
 |20,u,W=>ln=true→∃ c,u=.bool c∧R c W
 |21,u,W=>ln=true→∃ c,u=.bool (!c)∧R c W
 |22,u,W=>(ln=false∧u=.bool false)∨(ln=true∧∃ c,u=.bool (!c)∧R c W)
 |_,_,_=>True
theorem Bv {l E bo b c1 q n:Nat} {f:Fld} {v:ByteArray} {lk ne ln:Bool} {R:Bool→World→Prop} {j:Nat} {u:Value} {W W':World} (h0:j≠20) (h1:j≠21) (h2:j≠22) (h:VLk l E bo b c1 q n f v lk ne ln R j u W):VLk l E bo b c1 q n f v lk ne ln R j u W':=by
 match j,h0,h1,h2,h with
 |0,_,_,_,h=>exact h
 |1,_,_,_,h=>exact h
 |2,_,_,_,h=>exact h
 |3,_,_,_,h=>exact h
 |4,_,_,_,h=>exact h
 |5,_,_,_,h=>exact h
 |6,_,_,_,h=>exact h
 |7,_,_,_,h=>exact h
 |8,_,_,_,h=>exact h
 |9,_,_,_,h=>exact h
 |10,_,_,_,h=>exact h
 |11,_,_,_,h=>exact h
 |12,_,_,_,h=>exact h
 |13,_,_,_,h=>exact h
 |14,_,_,_,h=>exact h
 |15,_,_,_,h=>exact h
 |16,_,_,_,h=>exact h
 |17,_,_,_,h=>exact h
 |18,_,_,_,h=>exact h
 |19,_,_,_,h=>exact h
 |20,h0,_,_,_=>exact absurd rfl h0
 |21,_,h1,_,_=>exact absurd rfl h1
 |22,_,_,h2,_=>exact absurd rfl h2
 |n+23,_,_,_,_=>trivial
theorem sW (n:Nat) (w:World) (bs bo g:Nat) (kd:ByteArray) (fs:List Fld) (vs:List ByteArray) (b1:Option Addr) (c1:Nat) (ov:Array Value)
  (hs:aM w bs #[.string kd,.slice (some ⟨g,0,none⟩) fs.length fs.length]) (hg:g<w.heap.size) (ea:∀ i,i<fs.length→bx w g (i*11) (fs.getD i Fld.none)) (jg:fs.length≤1048576)
  (ho:aM w bo ov) (hov:ov[3]? =some (.slice b1 vs.length c1)) (nj:TxG w b1 c1 vs) (vK:fs.length≤vs.length):
  SeqStopsK (α:=ByteArray×ByteArray) Fence.wide n Tryz.prog 186 #[.pointer (some ⟨bs,0,none⟩),.pointer (some ⟨bo,0,none⟩)] (fun x=> #[.string x.1,.string x.2]) (Below w.heap.size)
   (fun xs=>xs=cg fs vs fs.length) (fun pre=>pre<+:cg fs vs fs.length) fs.length w:=by
 intro l J Jx W hW hJ hJx hY h0;refine callsIn_wide.2 ?_;show Calls Tryz.prog 186 #[.func (.yield l) #[] #[],.pointer (some ⟨bs,0,none⟩),.pointer (some ⟨bo,0,none⟩)] W _;have HS:=hid (And.intro hs (And.intro ho (And.intro hov (And.intro nj vK))));have HF:=hid (And.intro hg ea);have HJ:=hid (And.intro hJ hJx);have HY:=hid hY;clear hs ho hov nj hg ea hJ hJx hY vK;have y1:=(HS.out.1.later hW).at_ 1;go_enter Tryz.func186,Tryz.ntmps186
 go_wp2;clear y1;go_loopw [9] (fun i wr=>∃ q:Nat,q≤fs.length∧i=.int .i64 q∧Bel w wr∧J (cg fs vs q) wr) (fun i _=>fs.length - (intOf i).toNat)
 case atStart=>exact⟨0,nz,rfl,hW,h0⟩
 case round=>
  obtain⟨q,hq,rfl,Mx,hj⟩:=hrel;by_cases av:q<fs.length
  ·obtain⟨f,hf⟩:∃ f,f=fs.getD q Fld.none:=⟨_,rfl⟩
   obtain⟨v,hv⟩:∃ v,v=vs.getD q ByteArray.empty:=⟨_,rfl⟩
   have Nh:=hid (And.intro hf hv);have Mh:bx wr g (q*11) f:=by rw[hf];exact(HF.out.2 q av).later Mx HF.out.1
   obtain⟨gw,_,_,dP⟩:=Mh;obtain⟨f0,f1,f2,f3,f4,f5,f6,f7,f8,f9,f10,_⟩:=dP;clear hf hv;have Ch:=lo HF.out.1 Mx.size;obtain⟨w4,eo⟩:∃ w4,w4=wr.alloc (.cells #[.string f.nm,.int .i64 f.kind,.int .i64 f.least,.int .i64 f.most,.slice (some ⟨gw,0,none⟩) f.words.length f.words.length,.string f.to,.int .i64 f.role,.bool f.must,.bool f.fixed,.string f.de,.string f.we] 122):=⟨_,rfl⟩
   have aZ:Hid (aM w4 wr.heap.size #[.string f.nm,.int .i64 f.kind,.int .i64 f.least,.int .i64 f.most,.slice (some ⟨gw,0,none⟩) f.words.length f.words.length,.string f.to,.int .i64 f.role,.bool f.must,.bool f.fixed,.string f.de,.string f.we]∧Bel wr w4):=by rw[eo];exact⟨aM.bp _ _ _ _ rfl,ab br _⟩
   have HJ4:Hid (J (cg fs vs q) w4):=by rw[eo];exact qM HJ.out.1 _ hj
   clear hj;go_upto_region 3 with fail
   rw[← eo];clear eo f0 f1 f2 f3 f4 f5 f6 f7 f8 f9 f10;obtain⟨E,hE⟩:∃ E,E=wr.heap.size:=⟨_,rfl⟩
   rw[← hE]at aZ ⊢;have KL:Bel w w4:=aa Mx (by rw[hE]at aZ;exact aZ.out.2);have cC:=aZ.out.1;have x1:w4.cell? ⟨E,1,none⟩=some (.int .i64 f.kind):=cC.at_ 1;have x5:w4.cell? ⟨E,5,none⟩=some (.string f.to):=cC.at_ 5;have y3:=((HS.out.2.1.later KL).at_ 3).trans HS.out.2.2.1;have htx:=HS.out.2.2.2.1.later KL;have vm:=lo av HS.out.2.2.2.2;obtain⟨b,rfl,gW,H7⟩:∃ b,b1=some ⟨b,0,none⟩∧b<w4.heap.size∧w4.cell? ⟨b,q,none⟩=some (.string v):=by
    rcases htx with⟨_,_,e⟩|⟨b,h1,h2,h3⟩
    ·rw[e]at vm;exact absurd vm (Nat.not_lt_zero _)
    ·exact⟨b,h1,h2,by rw[Nh.out.2];exact h3 q vm⟩
   have z:w4.cell? ⟨b,q,none⟩=some (.string v):=H7;obtain⟨lk,Iq⟩:∃ lk,lk=decide (f.kind=4):=⟨_,rfl⟩
   obtain⟨ne,fe⟩:∃ ne,ne= !v.toList.isEmpty:=⟨_,rfl⟩
   obtain⟨ln,M1⟩:∃ ln,ln=(lk&&ne):=⟨_,rfl⟩
   have tG:=hid Iq;have HNE:=hid fe;have HLN:=hid M1;clear Iq fe M1 H7 htx;obtain⟨R,hR⟩:∃ R:Bool→World→Prop,R=fun c W=>(c=true∧J (cg fs vs q++[(f.to,v)]) W∧Below w.heap.size w4.drew W)∨(c=false∧Jx (cg fs vs q++[(f.to,v)]) W):=⟨_,rfl⟩
   have Ce:=hid hR;clear hR;refine(wpIn_wide (n:=n)).1 ?_;refine rp (fun L W=>(L.getD 20 false=false∨ln=false)→W=w4.drew) (VLk l E bo b c1 q vs.length f v lk ne ln R) (by kernel_rfl) (by kernel_rfl) (by kernel_rfl) (fun _=>rfl) ?_ ?_
   ·intro L a W i o h hc ho hi aw;have et0:a.tmps[0]?.getD undef=.func (.yield l) #[] #[]:=(ay a 0).trans ((h.lS (k:=0) (by kernel_rfl)).trans rfl);have et2:a.tmps[2]?.getD undef=.pointer (some ⟨bo,0,none⟩):=(ay a 2).trans ((h.lS (k:=2) (by kernel_rfl)).trans rfl);have et4:a.tmps[4]?.getD undef=.int .i64 q:=(ay a 4).trans ((h.lS (k:=4) (by kernel_rfl)).trans rfl);have et5:a.tmps[5]?.getD undef=.pointer (some ⟨E,0,none⟩):=(ay a 5).trans ((h.lS (k:=5) (by kernel_rfl)).trans rfl);have py:((L.setIfInBounds i true).getD 20 false=false∨ln=false)→W=w4.drew:=fun hh=>h.cw (hh.imp (fun e=>by
     cases e2:L.getD 20 false
     ·rfl
     ·rw[et e2]at e;cases e) id)
    match i,ho with
    |0,ho=>
     injection ho with ho;subst ho
     have jD:W=w4.drew:=h.cw (Or.inl (behind hc (n:=12) (j:=20) (by kernel_rfl) hi));subst jD;refine h.runIn (by kernel_rfl) (by kernel_rfl) rfl (fun _=>trivial) rfl hi py true (eT rfl) (fun _=> ?_) (fun hg=>by cases hg);exact⟨_,by simp[execOp,go_sem,et5],rfl⟩
    |1,ho=>
     injection ho with ho;subst ho
     have jD:W=w4.drew:=h.cw (Or.inl (behind hc (n:=12) (j:=20) (by kernel_rfl) hi));subst jD;refine h.runIn (by kernel_rfl) (by kernel_rfl) rfl (fun _=>trivial) rfl hi py true (eT rfl) (fun _=> ?_) (fun hg=>by cases hg);have e0:a.tmps[14]?.getD undef=_:=(ay a 14).trans ((h.new 0 _ 14 rfl rfl (aw ⟨0,.data⟩ (by simp) rfl)));exact⟨_,by simp[execOp,go_sem,e0,x1],rfl⟩
    |2,ho=>
     injection ho with ho;subst ho
     have jD:W=w4.drew:=h.cw (Or.inl (behind hc (n:=12) (j:=20) (by kernel_rfl) hi));subst jD;refine h.runIn (by kernel_rfl) (by kernel_rfl) rfl (fun _=>trivial) rfl hi py true (eT rfl) (fun _=> ?_) (fun hg=>by cases hg);have e0:a.tmps[15]?.getD undef=_:=(ay a 15).trans ((h.new 1 _ 15 rfl rfl (aw ⟨1,.data⟩ (by simp) rfl)));exact⟨.bool lk,by rw[tG.out];simp[execOp,go_sem,e0];rfl,rfl⟩
    |3,ho=>
     injection ho with ho;subst ho
     have jD:W=w4.drew:=h.cw (Or.inl (behind hc (n:=12) (j:=20) (by kernel_rfl) hi));subst jD;refine h.runIn (by kernel_rfl) (by kernel_rfl) rfl (fun _=>trivial) rfl hi py true (eT rfl) (fun _=> ?_) (fun hg=>by cases hg);have e0:a.tmps[16]?.getD undef=_:=(ay a 16).trans ((h.new 2 _ 16 rfl rfl (aw ⟨2,.data⟩ (by simp) rfl)));exact⟨_,by simp[execOp,go_sem,e0],rfl⟩
    |4,ho=>
     injection ho with ho;subst ho
     have jD:W=w4.drew:=h.cw (Or.inl (behind hc (n:=12) (j:=20) (by kernel_rfl) hi));subst jD;refine h.runIn (by kernel_rfl) (by kernel_rfl) rfl (fun _=>trivial) rfl hi py lk (cd rfl rfl rfl (h.new 3 _ 17 rfl rfl (aw ⟨3,.guard⟩ (by simp) rfl))) (fun hg=> ?_) (fun hg hh=>by rw[hg]at hh;cases hh);exact⟨_,by simp[execOp,go_sem,et2],fun _=>rfl⟩
    |5,ho=>
     injection ho with ho;subst ho
     have jD:W=w4.drew:=h.cw (Or.inl (behind hc (n:=12) (j:=20) (by kernel_rfl) hi));subst jD;refine h.runIn (by kernel_rfl) (by kernel_rfl) rfl (fun _=>trivial) rfl hi py lk (cd rfl rfl rfl (h.new 3 _ 17 rfl rfl (aw ⟨3,.guard⟩ (by simp) rfl))) (fun hg=> ?_) (fun hg hh=>by rw[hg]at hh;cases hh);have e0:a.tmps[18]?.getD undef=_:=(ay a 18).trans ((h.new 4 _ 18 rfl rfl (aw ⟨4,.data⟩ (by simp) rfl)) hg);exact⟨_,by simp[execOp,go_sem,e0,y3],fun _=>rfl⟩
    |6,ho=>
     injection ho with ho;subst ho
     have jD:W=w4.drew:=h.cw (Or.inl (behind hc (n:=12) (j:=20) (by kernel_rfl) hi));subst jD;refine h.runIn (by kernel_rfl) (by kernel_rfl) rfl (fun _=>trivial) rfl hi py lk (cd rfl rfl rfl (h.new 3 _ 17 rfl rfl (aw ⟨3,.guard⟩ (by simp) rfl))) (fun hg=> ?_) (fun hg hh=>by rw[hg]at hh;cases hh);exact⟨_,by simp[execOp,go_sem,et4],fun _=>rfl⟩
    |7,ho=>
     injection ho with ho;subst ho
     have jD:W=w4.drew:=h.cw (Or.inl (behind hc (n:=12) (j:=20) (by kernel_rfl) hi));subst jD;refine h.runIn (by kernel_rfl) (by kernel_rfl) rfl (fun _=>trivial) rfl hi py lk (cd rfl rfl rfl (h.new 3 _ 17 rfl rfl (aw ⟨3,.guard⟩ (by simp) rfl))) (fun hg=> ?_) (fun hg hh=>by rw[hg]at hh;cases hh);have e0:a.tmps[19]?.getD undef=_:=(ay a 19).trans ((h.new 5 _ 19 rfl rfl (aw ⟨5,.data⟩ (by simp) rfl)) hg);have e1:a.tmps[20]?.getD undef=_:=(ay a 20).trans ((h.new 6 _ 20 rfl rfl (aw ⟨6,.data⟩ (by simp) rfl)) hg);exact⟨.pointer (some ⟨b,q,none⟩),by simp[execOp,go_sem,e0,e1];(intro hh;exact absurd vm (Nat.not_lt.2 hh)),fun _=>rfl⟩
    |8,ho=>
     injection ho with ho;subst ho
     have jD:W=w4.drew:=h.cw (Or.inl (behind hc (n:=12) (j:=20) (by kernel_rfl) hi));subst jD;refine h.runIn (by kernel_rfl) (by kernel_rfl) rfl (fun _=>trivial) rfl hi py lk (cd rfl rfl rfl (h.new 3 _ 17 rfl rfl (aw ⟨3,.guard⟩ (by simp) rfl))) (fun hg=> ?_) (fun hg hh=>by rw[hg]at hh;cases hh);have e0:a.tmps[21]?.getD undef=_:=(ay a 21).trans ((h.new 7 _ 21 rfl rfl (aw ⟨7,.data⟩ (by simp) rfl)) hg);exact⟨_,by simp[execOp,go_sem,e0,z],fun _=>rfl⟩
    |9,ho=>
     injection ho with ho;subst ho
     have jD:W=w4.drew:=h.cw (Or.inl (behind hc (n:=12) (j:=20) (by kernel_rfl) hi));subst jD;refine h.runIn (by kernel_rfl) (by kernel_rfl) rfl (fun _=>trivial) rfl hi py lk (cd rfl rfl rfl (h.new 3 _ 17 rfl rfl (aw ⟨3,.guard⟩ (by simp) rfl))) (fun hg=> ?_) (fun hg hh=>by rw[hg]at hh;cases hh);have e0:a.tmps[22]?.getD undef=_:=(ay a 22).trans ((h.new 8 _ 22 rfl rfl (aw ⟨8,.data⟩ (by simp) rfl)) hg);exact⟨.bool ne,by rw[HNE.out];simp[execOp,go_sem,e0],fun _=>rfl⟩
    |10,ho=>
     injection ho with ho;subst ho
     have jD:W=w4.drew:=h.cw (Or.inl (behind hc (n:=12) (j:=20) (by kernel_rfl) hi));subst jD;refine h.runIn (by kernel_rfl) (by kernel_rfl) rfl (fun _=>trivial) rfl hi py true (eT rfl) (fun _=> ?_) (fun hg=>by cases hg);have e0:a.tmps[17]?.getD undef=_:=(ay a 17).trans ((h.new 3 _ 17 rfl rfl (aw ⟨3,.data⟩ (by simp) rfl)));have e1:=fun hg=>(ay a 23).trans ((h.new 9 _ 23 rfl rfl (aw ⟨9,.data⟩ (by simp) rfl)) hg);refine⟨.bool ln, ?_,rfl⟩;have hl:=HLN.out;cases lk
     ·rw[hl];simp[execOp,go_sem,e0]
     ·rw[hl];simp[execOp,go_sem,e0,e1 rfl]
    |11,ho=>
     injection ho with ho;subst ho
     have jD:W=w4.drew:=h.cw (Or.inl (behind hc (n:=12) (j:=20) (by kernel_rfl) hi));subst jD;refine h.runIn (by kernel_rfl) (by kernel_rfl) rfl (fun _=>trivial) rfl hi py true (eT rfl) (fun _=> ?_) (fun hg=>by cases hg);have e0:a.tmps[24]?.getD undef=_:=(ay a 24).trans ((h.new 10 _ 24 rfl rfl (aw ⟨10,.data⟩ (by simp) rfl)));exact⟨_,by simp[execOp,go_sem,e0],rfl⟩
    |12,ho=>
     injection ho with ho;subst ho
     have jD:W=w4.drew:=h.cw (Or.inl (behind hc (n:=12) (j:=20) (by kernel_rfl) hi));subst jD;refine h.runIn (by kernel_rfl) (by kernel_rfl) rfl (fun _=>trivial) rfl hi py ln (cd rfl rfl rfl (h.new 11 _ 25 rfl rfl (aw ⟨11,.guard⟩ (by simp) rfl))) (fun hg=> ?_) (fun hg hh=>by rw[hg]at hh;cases hh);exact⟨_,by simp[execOp,go_sem,et0],fun _=>rfl⟩
    |13,ho=>
     injection ho with ho;subst ho
     have jD:W=w4.drew:=h.cw (Or.inl (behind hc (n:=12) (j:=20) (by kernel_rfl) hi));subst jD;refine h.runIn (by kernel_rfl) (by kernel_rfl) rfl (fun _=>trivial) rfl hi py ln (cd rfl rfl rfl (h.new 11 _ 25 rfl rfl (aw ⟨11,.guard⟩ (by simp) rfl))) (fun hg=> ?_) (fun hg hh=>by rw[hg]at hh;cases hh);exact⟨_,by simp[execOp,go_sem,et5],fun _=>rfl⟩
    |14,ho=>
     injection ho with ho;subst ho
     have jD:W=w4.drew:=h.cw (Or.inl (behind hc (n:=12) (j:=20) (by kernel_rfl) hi));subst jD;refine h.runIn (by kernel_rfl) (by kernel_rfl) rfl (fun _=>trivial) rfl hi py ln (cd rfl rfl rfl (h.new 11 _ 25 rfl rfl (aw ⟨11,.guard⟩ (by simp) rfl))) (fun hg=> ?_) (fun hg hh=>by rw[hg]at hh;cases hh);have e0:a.tmps[27]?.getD undef=_:=(ay a 27).trans ((h.new 13 _ 27 rfl rfl (aw ⟨13,.data⟩ (by simp) rfl)) hg);exact⟨_,by simp[execOp,go_sem,e0,x5],fun _=>rfl⟩
    |15,ho=>
     injection ho with ho;subst ho
     have jD:W=w4.drew:=h.cw (Or.inl (behind hc (n:=12) (j:=20) (by kernel_rfl) hi));subst jD;refine h.runIn (by kernel_rfl) (by kernel_rfl) rfl (fun _=>trivial) rfl hi py ln (cd rfl rfl rfl (h.new 11 _ 25 rfl rfl (aw ⟨11,.guard⟩ (by simp) rfl))) (fun hg=> ?_) (fun hg hh=>by rw[hg]at hh;cases hh);exact⟨_,by simp[execOp,go_sem,et2],fun _=>rfl⟩
    |16,ho=>
     injection ho with ho;subst ho
     have jD:W=w4.drew:=h.cw (Or.inl (behind hc (n:=12) (j:=20) (by kernel_rfl) hi));subst jD;refine h.runIn (by kernel_rfl) (by kernel_rfl) rfl (fun _=>trivial) rfl hi py ln (cd rfl rfl rfl (h.new 11 _ 25 rfl rfl (aw ⟨11,.guard⟩ (by simp) rfl))) (fun hg=> ?_) (fun hg hh=>by rw[hg]at hh;cases hh);have e0:a.tmps[29]?.getD undef=_:=(ay a 29).trans ((h.new 15 _ 29 rfl rfl (aw ⟨15,.data⟩ (by simp) rfl)) hg);exact⟨_,by simp[execOp,go_sem,e0,y3],fun _=>rfl⟩
    |17,ho=>
     injection ho with ho;subst ho
     have jD:W=w4.drew:=h.cw (Or.inl (behind hc (n:=12) (j:=20) (by kernel_rfl) hi));subst jD;refine h.runIn (by kernel_rfl) (by kernel_rfl) rfl (fun _=>trivial) rfl hi py ln (cd rfl rfl rfl (h.new 11 _ 25 rfl rfl (aw ⟨11,.guard⟩ (by simp) rfl))) (fun hg=> ?_) (fun hg hh=>by rw[hg]at hh;cases hh);exact⟨_,by simp[execOp,go_sem,et4],fun _=>rfl⟩
    |18,ho=>
     injection ho with ho;subst ho
     have jD:W=w4.drew:=h.cw (Or.inl (behind hc (n:=12) (j:=20) (by kernel_rfl) hi));subst jD;refine h.runIn (by kernel_rfl) (by kernel_rfl) rfl (fun _=>trivial) rfl hi py ln (cd rfl rfl rfl (h.new 11 _ 25 rfl rfl (aw ⟨11,.guard⟩ (by simp) rfl))) (fun hg=> ?_) (fun hg hh=>by rw[hg]at hh;cases hh);have e0:a.tmps[30]?.getD undef=_:=(ay a 30).trans ((h.new 16 _ 30 rfl rfl (aw ⟨16,.data⟩ (by simp) rfl)) hg);have e1:a.tmps[31]?.getD undef=_:=(ay a 31).trans ((h.new 17 _ 31 rfl rfl (aw ⟨17,.data⟩ (by simp) rfl)) hg);exact⟨.pointer (some ⟨b,q,none⟩),by simp[execOp,go_sem,e0,e1];(intro hh;exact absurd vm (Nat.not_lt.2 hh)),fun _=>rfl⟩
    |19,ho=>
     injection ho with ho;subst ho
     have jD:W=w4.drew:=h.cw (Or.inl (behind hc (n:=12) (j:=20) (by kernel_rfl) hi));subst jD;refine h.runIn (by kernel_rfl) (by kernel_rfl) rfl (fun _=>trivial) rfl hi py ln (cd rfl rfl rfl (h.new 11 _ 25 rfl rfl (aw ⟨11,.guard⟩ (by simp) rfl))) (fun hg=> ?_) (fun hg hh=>by rw[hg]at hh;cases hh);have e0:a.tmps[32]?.getD undef=_:=(ay a 32).trans ((h.new 18 _ 32 rfl rfl (aw ⟨18,.data⟩ (by simp) rfl)) hg);exact⟨_,by simp[execOp,go_sem,e0,z],fun _=>rfl⟩
    |20,ho=>
     injection ho with ho;subst ho
     rcases Bool.eq_false_or_eq_true ln with hl|hl
     ·have jD:W=w4.drew:=h.cw (Or.inl (behind hc (n:=0) (j:=20) (by kernel_rfl) hi));have EA:=behind hc (n:=1) (j:=21) (by kernel_rfl) hi;have Ih:=behind hc (n:=2) (j:=22) (by kernel_rfl) hi;have hn0:=behind hc (n:=0) (j:=20) (by kernel_rfl) hi;subst jD;obtain⟨fn,tmps,assign,body,hy,hR⟩:=HY.out (cg fs vs q) (f.to,v) w4.drew (mY HJ.out.1 HJ4.out) (Nat.lt_of_le_of_lt (mT fs vs q) av);dsimp only at hy
      have e0:a.tmps[26]?.getD undef=_:=(ay a 26).trans ((h.new 12 _ 26 rfl rfl (aw ⟨12,.data⟩ (by simp) rfl)) hl);have e1:a.tmps[28]?.getD undef=_:=(ay a 28).trans ((h.new 14 _ 28 rfl rfl (aw ⟨14,.data⟩ (by simp) rfl)) hl);have e2:a.tmps[33]?.getD undef=_:=(ay a 33).trans ((h.new 19 _ 33 rfl rfl (aw ⟨19,.data⟩ (by simp) rfl)) hl);refine h.Dv (by kernel_rfl) (by kernel_rfl) rfl (fun _=>trivial) rfl rfl hi ((cd rfl rfl rfl (h.new 11 _ 25 rfl rfl (aw ⟨11,.guard⟩ (by simp) rfl))).trans hl) (by simp[execOp,go_sem,e0,e1,e2,hy]) hR ?_;intro e W' he;have hm:∀ j u,L.getD j false=true→VLk l E bo b c1 q vs.length f v lk ne ln R j u w4.drew→VLk l E bo b c1 q vs.length f v lk ne ln R j u W':=by
       intro j u hj hu;refine Bv ?_ ?_ ?_ hu<;>(rintro rfl;simp_all)
      rcases he with⟨rfl,Mu,he2⟩|⟨rfl,Mu⟩
      ·exact⟨_,rfl,fun hh=>(by rcases hh with hh|hh;(·rw[ju hi]at hh;cases hh);(·rw[hl]at hh;cases hh)),hm,fun _=>⟨true,rfl,(by rw[Ce.out];exact Or.inl ⟨rfl,Mu,he2⟩)⟩⟩
      ·exact⟨_,rfl,fun hh=>(by rcases hh with hh|hh;(·rw[ju hi]at hh;cases hh);(·rw[hl]at hh;cases hh)),hm,fun _=>⟨false,rfl,(by rw[Ce.out];exact Or.inr ⟨rfl,Mu⟩)⟩⟩
     ·exact h.runIn (by kernel_rfl) (by kernel_rfl) rfl (fun _=>trivial) rfl hi py ln (cd rfl rfl rfl (h.new 11 _ 25 rfl rfl (aw ⟨11,.guard⟩ (by simp) rfl))) (fun hg=>by rw[hl]at hg;cases hg) (fun _ hh=>by rw[hl]at hh;cases hh)
    |21,ho=>
     injection ho with ho;subst ho
     refine h.runIn (by kernel_rfl) (by kernel_rfl) rfl (fun _=>trivial) rfl hi py ln (cd rfl rfl rfl (h.new 11 _ 25 rfl rfl (aw ⟨11,.guard⟩ (by simp) rfl))) (fun hg=> ?_) (fun hg hh=>by rw[hg]at hh;cases hh);obtain⟨c,e0,hr⟩:=(h.new 20 _ 34 rfl rfl (aw ⟨20,.data⟩ (by simp) rfl)) hg;have e0:=(ay a 34).trans e0;exact⟨.bool (!c),by simp[execOp,go_sem,e0],fun _=>⟨c,rfl,hr⟩⟩
    |22,ho=>
     injection ho with ho;subst ho
     refine h.runIn (by kernel_rfl) (by kernel_rfl) rfl (fun _=>trivial) rfl hi py true (eT rfl) (fun _=> ?_) (fun hg=>by cases hg);have e0:a.tmps[25]?.getD undef=_:=(ay a 25).trans ((h.new 11 _ 25 rfl rfl (aw ⟨11,.data⟩ (by simp) rfl)));have e1:=fun hg=>(h.new 21 _ 35 rfl rfl (aw ⟨21,.data⟩ (by simp) rfl)) hg;rcases Bool.eq_false_or_eq_true ln with hl|hl
     ·obtain⟨c,e1,hr⟩:=e1 hl;have e1:=(ay a 35).trans e1;rw[hl]at e0;exact⟨.bool (!c),by simp[execOp,go_sem,e0,e1],Or.inr ⟨hl,c,rfl,hr⟩⟩
     ·rw[hl]at e0;exact⟨.bool false,by simp[execOp,go_sem,e0],Or.inl ⟨hl,rfl⟩⟩
    |n+23,ho=>simp at ho
   ·intro L w9 vals M5 K5 hv9;have v22:VLk l E bo b c1 q vs.length f v lk ne ln R 22 (vals 36) w9:=hv9 22 _ 36 rfl rfl;have HLS:Hid (cg fs vs (q+1)=cg fs vs q++if ln then [(f.to,v)] else []):=by
     show cg fs vs (q+1)=_;rw[cg];unfold qW;rw[← Nh.out.1,← Nh.out.2,HLN.out,tG.out,HNE.out]
    clear hv9;simp only[eu,Act.put,List.setIfInBounds_toArray,List.set_cons_zero,List.set_cons_succ];rcases v22 with⟨hl,ev⟩|⟨hl,c,ev,hr⟩
    ·obtain rfl:=K5 (Or.inr hl);have Hu:Hid (J (cg fs vs (q+1)) w4.drew):=by show J _ _;rw[HLS.out,hl];simpa using mY HJ.out.1 HJ4.out
     have KM:=hid (Below.drew KL);rw[ev];generalize vals 14=s14;generalize vals 15=s15;generalize vals 16=s16;generalize vals 17=s17;generalize vals 18=s18;generalize vals 19=s19;generalize vals 20=s20;generalize vals 21=s21;generalize vals 22=s22;generalize vals 23=s23;generalize vals 24=s24;generalize vals 25=s25;generalize vals 26=s26;generalize vals 27=s27;generalize vals 28=s28;generalize vals 29=s29;generalize vals 30=s30;generalize vals 31=s31;generalize vals 32=s32;generalize vals 33=s33;generalize vals 34=s34;generalize vals 35=s35;clear ev K5 M5 x1 x5 y3 z;generalize w4.drew=w9 at Hu KM Ce ⊢;go_wp2;go_roundw
     case rel=>exact⟨q+1,av,rfl,KM.out,Hu.out⟩
     case measure=>simp[intOf];omega
    ·have J4:Hid (cg fs vs (q+1)=cg fs vs q++[(f.to,v)]):=by show _=_;rw[HLS.out,hl];rfl
     rw[Ce.out]at hr;rcases hr with⟨rfl,Kk,xf⟩|⟨rfl,Kk⟩
     ·have Hu:Hid (J (cg fs vs (q+1)) w9):=by show J _ _;rw[J4.out];exact Kk
      have KM:=hid ((Below.drew KL).trans xf);rw[ev];generalize vals 14=s14;generalize vals 15=s15;generalize vals 16=s16;generalize vals 17=s17;generalize vals 18=s18;generalize vals 19=s19;generalize vals 20=s20;generalize vals 21=s21;generalize vals 22=s22;generalize vals 23=s23;generalize vals 24=s24;generalize vals 25=s25;generalize vals 26=s26;generalize vals 27=s27;generalize vals 28=s28;generalize vals 29=s29;generalize vals 30=s30;generalize vals 31=s31;generalize vals 32=s32;generalize vals 33=s33;generalize vals 34=s34;generalize vals 35=s35;clear ev K5 M5 x1 x5 y3 z Kk xf;go_wp2;go_roundw
      case rel=>exact⟨q+1,av,rfl,KM.out,Hu.out⟩
      case measure=>simp[intOf];omega
     ·have Hu:Hid (Jx (cg fs vs (q+1)) w9):=by show Jx _ _;rw[J4.out];exact Kk
      rw[ev];generalize vals 14=s14;generalize vals 15=s15;generalize vals 16=s16;generalize vals 17=s17;generalize vals 18=s18;generalize vals 19=s19;generalize vals 20=s20;generalize vals 21=s21;generalize vals 22=s22;generalize vals 23=s23;generalize vals 24=s24;generalize vals 25=s25;generalize vals 26=s26;generalize vals 27=s27;generalize vals 28=s28;generalize vals 29=s29;generalize vals 30=s30;generalize vals 31=s31;generalize vals 32=s32;generalize vals 33=s33;generalize vals 34=s34;generalize vals 35=s35;clear ev K5 M5 x1 x5 y3 z Kk;go_wp2;refine bodyPost_ret (results_none rfl _ _ _) rfl ?_;refine⟨⟨_,rfl⟩,.inr ⟨_, ?_,Hu.out⟩⟩;have:=ng fs vs (q+1) (fs.length - (q+1));rwa [show q+1+(fs.length - (q+1))=fs.length by omega]at this
  ·obtain rfl:q=fs.length:=by omega
   go_wp2;go_end0
   exact⟨⟨_,rfl⟩,.inl ⟨_,rfl,hj⟩⟩
set_option maxRecDepth 8000
set_option maxHeartbeats 40000000
open Go.RowKit Go.Deep Go.Shelf
theorem sj {W W':World} {B:Nat} {t:TypeId} {v:Value} (h:Boxed W B t v) (hb:Bel W W'):Boxed W' B t v:=(hb.block B h.lt).trans h
theorem Fu (kd:ByteArray) (g n c:Nat) (x:Ob) (b1 b2 c1 c2:Nat) (w:World):
  Calls Tryz.prog 142 #[.agg #[.string kd,.slice (some ⟨g,0,none⟩) n c],.agg #[.string x.kind,.string x.name,.string x.team,.slice (some ⟨b1,0,none⟩) x.values.length c1,.bool x.ending,.slice (some ⟨b2,0,none⟩) x.holds.length c2,.int .i64 x.version]] w fun e w'=>
   e=.returned (.func (.func 186) #[] #[.pointer (some ⟨w.heap.size,0,none⟩),.pointer (some ⟨w.heap.size+1,0,none⟩)])∧
   w'=(w.alloc (.cells #[.string kd,.slice (some ⟨g,0,none⟩) n c] 134)).alloc (.cells #[.string x.kind,.string x.name,.string x.team,.slice (some ⟨b1,0,none⟩) x.values.length c1,.bool x.ending,.slice (some ⟨b2,0,none⟩) x.holds.length c2,.int .i64 x.version] 111):=by
 go_enter Tryz.func142,Tryz.ntmps142
 go_wp2;go_ret;exact⟨rfl,rfl⟩
attribute [local go_sem] Oper.semAt_some
def okL (K:Bk) (y:ByteArray×ByteArray):Bool:=decide (kU K.objects y.1 y.2<K.objects.length)
theorem mE (K:Bk) (fs:List Fld) (vs:List ByteArray):∀ k,aC (cG K fs vs) k=(cg fs vs k).all (okL K)
 |0=>rfl
 |k+1=>by
  rw[aC,mE K fs vs k,cg,List.all_append];congr 1;show oc K _ _=_;unfold oc;cases e:qW (fs.getD k Fld.none) (vs.getD k ByteArray.empty)<;>(unfold qW at e;rw[e];simp[okL])
theorem A6 {tmps:Array Value} {W:World} {B:Nat} {b:Bool} {R':Ending→World→Prop} (ht:tmps[6]?.getD undef=.pointer (some ⟨B,0,none⟩)) (hc:W.cell? ⟨B,0,none⟩=some (.bool b)) (hR:R' (.returned (.bool b)) W):
  bodyPostM Fence.wide 4 Tryz.prog Tryz.f86 R' .ret {tmps:=tmps,defers:=[]} W:=
 ⟨.bool b,by simp[results,Tryz.f86,go_sem,ht,hc],hR⟩
theorem xY (L:Lw) (K:Bk) (x:Ob) (a0 a1 a2 e0 e1 e2 e3 b1 b2:Nat) (w:World) (hL:fT w a0 a1 a2 L) (hK:fG w e0 e1 e2 e3 K) (hm:aU L.shapes L.mends=true) (ha:jB K.objects=true)
  (hx:i7 w b1 b2 x) (lK:x.sized) (jr:∀ i,i<x.values.length→(x.values.getD i ByteArray.empty).size≤maxLen) (gX:∀ i,i<x.holds.length→(x.holds.getD i ByteArray.empty).size≤maxLen):
  Calls Tryz.prog 86 #[.agg #[.slice (some ⟨a0,0,none⟩) L.shapes.length L.shapes.length,.slice (some ⟨a1,0,none⟩) L.mends.length L.mends.length,.slice (some ⟨a2,0,none⟩) L.teams.length L.teams.length],.agg #[.int .i64 K.now,.int .i64 K.tick,.int .i64 K.given,.slice (some ⟨e0,0,none⟩) K.objects.length K.objects.length,.slice (some ⟨e1,0,none⟩) K.grants.length K.grants.length,.slice (some ⟨e2,0,none⟩) K.ledgers.length K.ledgers.length,.slice (some ⟨e3,0,none⟩) K.purses.length K.purses.length],.agg #[.string x.kind,.string x.name,.string x.team,.slice (some ⟨b1,0,none⟩) x.values.length x.values.length,.bool x.ending,.slice (some ⟨b2,0,none⟩) x.holds.length x.holds.length,.int .i64 x.version]] w fun e w'=>e=.returned (.bool (gS L K x))∧Bel w w':=by
 have HA:=hid (And.intro hL (And.intro hK (And.intro hm ha)));have HO:=hid (And.intro hx (And.intro lK (And.intro jr gX)));obtain⟨R,hR⟩:∃ R,R=gS L K x:=⟨_,rfl⟩
 have HR:=hid hR;rw[← hR];clear hL hK hm ha hx lK jr gX hR;obtain⟨w1,eb⟩:∃ w1,w1=(((w.alloc (.cells #[.slice (some ⟨a0,0,none⟩) L.shapes.length L.shapes.length,.slice (some ⟨a1,0,none⟩) L.mends.length L.mends.length,.slice (some ⟨a2,0,none⟩) L.teams.length L.teams.length] 40)).alloc (.cells #[.int .i64 K.now,.int .i64 K.tick,.int .i64 K.given,.slice (some ⟨e0,0,none⟩) K.objects.length K.objects.length,.slice (some ⟨e1,0,none⟩) K.grants.length K.grants.length,.slice (some ⟨e2,0,none⟩) K.ledgers.length K.ledgers.length,.slice (some ⟨e3,0,none⟩) K.purses.length K.purses.length] 47)).alloc (.cells #[.string x.kind,.string x.name,.string x.team,.slice (some ⟨b1,0,none⟩) x.values.length x.values.length,.bool x.ending,.slice (some ⟨b2,0,none⟩) x.holds.length x.holds.length,.int .i64 x.version] 111)).alloc (.cells #[.bool false] 4):=⟨_,rfl⟩
 have cQ:Hid (Bel w w1):=by show Below _ _ _;rw[eb];exact ab (ab (ab (ab br _) _) _) _
 have dE:Hid (∀ W,Bel w1 W→aM W w.heap.size #[.slice (some ⟨a0,0,none⟩) L.shapes.length L.shapes.length,.slice (some ⟨a1,0,none⟩) L.mends.length L.mends.length,.slice (some ⟨a2,0,none⟩) L.teams.length L.teams.length]∧aM W (w.heap.size+1) #[.int .i64 K.now,.int .i64 K.tick,.int .i64 K.given,.slice (some ⟨e0,0,none⟩) K.objects.length K.objects.length,.slice (some ⟨e1,0,none⟩) K.grants.length K.grants.length,.slice (some ⟨e2,0,none⟩) K.ledgers.length K.ledgers.length,.slice (some ⟨e3,0,none⟩) K.purses.length K.purses.length]∧aM W (w.heap.size+1+1) #[.string x.kind,.string x.name,.string x.team,.slice (some ⟨b1,0,none⟩) x.values.length x.values.length,.bool x.ending,.slice (some ⟨b2,0,none⟩) x.holds.length x.holds.length,.int .i64 x.version]∧Boxed W (w.heap.size+1+1+1) 4 (.bool false)):=by
  have q:aM w1 w.heap.size #[.slice (some ⟨a0,0,none⟩) L.shapes.length L.shapes.length,.slice (some ⟨a1,0,none⟩) L.mends.length L.mends.length,.slice (some ⟨a2,0,none⟩) L.teams.length L.teams.length]∧aM w1 (w.heap.size+1) #[.int .i64 K.now,.int .i64 K.tick,.int .i64 K.given,.slice (some ⟨e0,0,none⟩) K.objects.length K.objects.length,.slice (some ⟨e1,0,none⟩) K.grants.length K.grants.length,.slice (some ⟨e2,0,none⟩) K.ledgers.length K.ledgers.length,.slice (some ⟨e3,0,none⟩) K.purses.length K.purses.length]∧aM w1 (w.heap.size+1+1) #[.string x.kind,.string x.name,.string x.team,.slice (some ⟨b1,0,none⟩) x.values.length x.values.length,.bool x.ending,.slice (some ⟨b2,0,none⟩) x.holds.length x.holds.length,.int .i64 x.version]∧Boxed w1 (w.heap.size+1+1+1) 4 (.bool false):=by
   rw[eb];exact⟨(((aM.bp _ _ _ _ rfl).cy _).cy _).cy _,((aM.bp _ _ _ _ (by simp)).cy _).cy _,(aM.bp _ _ _ _ (by simp)).cy _,by have:=Boxed.new (((w.alloc (.cells #[.slice (some ⟨a0,0,none⟩) L.shapes.length L.shapes.length,.slice (some ⟨a1,0,none⟩) L.mends.length L.mends.length,.slice (some ⟨a2,0,none⟩) L.teams.length L.teams.length] 40)).alloc (.cells #[.int .i64 K.now,.int .i64 K.tick,.int .i64 K.given,.slice (some ⟨e0,0,none⟩) K.objects.length K.objects.length,.slice (some ⟨e1,0,none⟩) K.grants.length K.grants.length,.slice (some ⟨e2,0,none⟩) K.ledgers.length K.ledgers.length,.slice (some ⟨e3,0,none⟩) K.purses.length K.purses.length] 47)).alloc (.cells #[.string x.kind,.string x.name,.string x.team,.slice (some ⟨b1,0,none⟩) x.values.length x.values.length,.bool x.ending,.slice (some ⟨b2,0,none⟩) x.holds.length x.holds.length,.int .i64 x.version] 111)) 4 (.bool false);simpa using this⟩
  intro W hW;exact⟨q.1.later hW,q.2.1.later hW,q.2.2.1.later hW,sj q.2.2.2 hW⟩
 have H5:Hid (w1.heap.size=w.heap.size+1+1+1+1):=by show _=_;rw[eb];simp
 refine(callsIn_wide (n:=4)).1 (callsIn_of_wp_marks Tryz.func86 rfl trivial ?_);simp only[Tryz.ntmps86,List.size_toArray,List.length_cons,List.length_nil,Nat.reduceAdd,Nat.reduceSub,Array.replicate_succ,Array.replicate_zero,List.push_toArray,List.append_toArray,List.nil_append,List.cons_append];refine wpIn_wide.2 ?_;go_upto_region 1 with fail
 rw[← eb];clear eb;obtain⟨y3,y7,y5,y6⟩:=dE.out w1 br;have q0:w1.cell? ⟨w.heap.size,0,none⟩=some (.slice (some ⟨a0,0,none⟩) L.shapes.length L.shapes.length):=y3.at_ 0;have q1:w1.cell? ⟨w.heap.size+1+1,0,none⟩=some (.string x.kind):=y5.at_ 0;have HCs:=nc a0 L.shapes x.kind w1 (HA.out.1.later cQ.out).s;go_wp2_with fail
 refine HCs.mono ?_;rintro e w2 ⟨kd,sa,sn,sc,rfl,kS,aA⟩;clear y3 y7 y5 y6 q0 q1 HCs;obtain⟨hk,Hk⟩:∃ hk,hk=aK L.shapes x.kind:=⟨_,rfl⟩
 have Li:=hid Hk;rw[← Hk];clear Hk;have nA:=hid kS;clear kS;obtain⟨w3,vj⟩:∃ w3,w3=w2.alloc (.cells #[.string kd,.slice sa sn sc] 134):=⟨_,rfl⟩
 obtain⟨E,hE⟩:∃ E,E=w2.heap.size:=⟨_,rfl⟩
 have aO:Bel w1 w3:=by rw[vj];exact ab aA _
 have fO:=hid (aa cQ.out aO);have vu:Hid (∀ W,Bel w3 W→(aM W w.heap.size #[.slice (some ⟨a0,0,none⟩) L.shapes.length L.shapes.length,.slice (some ⟨a1,0,none⟩) L.mends.length L.mends.length,.slice (some ⟨a2,0,none⟩) L.teams.length L.teams.length]∧aM W (w.heap.size+1) #[.int .i64 K.now,.int .i64 K.tick,.int .i64 K.given,.slice (some ⟨e0,0,none⟩) K.objects.length K.objects.length,.slice (some ⟨e1,0,none⟩) K.grants.length K.grants.length,.slice (some ⟨e2,0,none⟩) K.ledgers.length K.ledgers.length,.slice (some ⟨e3,0,none⟩) K.purses.length K.purses.length]∧aM W (w.heap.size+1+1) #[.string x.kind,.string x.name,.string x.team,.slice (some ⟨b1,0,none⟩) x.values.length x.values.length,.bool x.ending,.slice (some ⟨b2,0,none⟩) x.holds.length x.holds.length,.int .i64 x.version]∧Boxed W (w.heap.size+1+1+1) 4 (.bool false))∧aM W E #[.string kd,.slice sa sn sc]):=by
  have q:aM w3 E #[.string kd,.slice sa sn sc]:=by rw[vj];exact aM.bp _ _ _ _ hE
  intro W hW;exact⟨dE.out W (aa aO hW),q.later hW⟩
 have pS:Hid (∀ W,Bel w3 W→R=false→(W.setCell ⟨w.heap.size+1+1+1,0,none⟩ (.bool false)).cell? ⟨w.heap.size+1+1+1,0,none⟩=some (.bool false)∧(Ending.returned (Value.bool false)=Ending.returned (Value.bool R)∧Bel w (W.setCell ⟨w.heap.size+1+1+1,0,none⟩ (.bool false)))):=fun W hW hr=>by
  have hc:=Boxed.cell (vu.out W hW).1.2.2.2;exact⟨World.cell?_setCell_same' _ _ _ (by rw[hc];rfl),by rw[hr],(aa fO.out hW).setCell (p:=⟨w.heap.size+1+1+1,0,none⟩) (by simp;omega) _⟩
 go_upto_region 2 with fail
 rw[← vj,← hE];clear vj aA hE;cases hk
 ·obtain⟨⟨y3,y7,y5,y6⟩,yE⟩:=vu.out w3 br;have hc:=Boxed.cell y6;have hf:=Boxed.frozen y6;have DZ:Hid (R=false):=by show _=_;rw[HR.out];unfold gS;rw[← Li.out];rfl
  go_wp2;obtain⟨h1,h2⟩:=pS.out w3 br DZ.out;exact A6 rfl h1 h2
 ·obtain⟨e1,g,e2,Ch,ea⟩:=nA.out Li.out.symm;obtain⟨fs,GU⟩:∃ fs,fs=fieldsOf L x:=⟨_,rfl⟩
  have wW:(L.shapes.getD (aB L.shapes x.kind) Shp.none).fields=fs:=GU.symm;have tF:aB L.shapes x.kind<L.shapes.length:=by have:=Li.out.symm;unfold aK at this;exact of_decide_eq_true this
  have dQ:(L.shapes.getD (aB L.shapes x.kind) Shp.none).small:=HA.out.1.s.small _ (by simp[tF]);rw[wW]at e2 ea;injection e2 with e2 e3 e4
  subst e2 e3 e4;have rG:Hid (bW w3 g fs):=by
   refine bW.later ⟨Ch, ?_, ?_,ea⟩ aO
   ·rw[← wW];exact dQ.1
   ·rw[← wW];exact dQ.2
  have HFS:=hid GU;clear ea Ch wW GU dQ tF e1 nA;have mn:Hid (R=(decide (dk fs x=0)&&bB L.teams x.team&&within x.version 1 K.now&&ee (bM L.shapes L.mends x) x.values&&aC (cG K fs x.values) fs.length)):=by
   show R=_;rw[HR.out];unfold gS;rw[← Li.out,HFS.out];rfl
  obtain⟨⟨y3,y7,y5,y6⟩,yE⟩:=vu.out w3 br;have hc:=Boxed.cell y6;have hf:=Boxed.frozen y6;have q0:w3.cell? ⟨w.heap.size+1+1,0,none⟩=some (.string x.kind):=y5.at_ 0;have q1:w3.cell? ⟨w.heap.size+1+1,1,none⟩=some (.string x.name):=y5.at_ 1;have q2:w3.cell? ⟨w.heap.size+1+1,2,none⟩=some (.string x.team):=y5.at_ 2;have q3:w3.cell? ⟨w.heap.size+1+1,3,none⟩=some (.slice (some ⟨b1,0,none⟩) x.values.length x.values.length):=y5.at_ 3;have q4:w3.cell? ⟨w.heap.size+1+1,4,none⟩=some (.bool x.ending):=y5.at_ 4;have q5:w3.cell? ⟨w.heap.size+1+1,5,none⟩=some (.slice (some ⟨b2,0,none⟩) x.holds.length x.holds.length):=y5.at_ 5;have q6:w3.cell? ⟨w.heap.size+1+1,6,none⟩=some (.int .i64 x.version):=y5.at_ 6;have g0:w3.cell? ⟨E,0,none⟩=some (.string kd):=yE.at_ 0;have g1:w3.cell? ⟨E,1,none⟩=some (.slice (some ⟨g,0,none⟩) fs.length fs.length):=yE.at_ 1;obtain⟨cc,pD⟩:∃ cc,cc=dk fs x:=⟨_,rfl⟩
  have Nx:=hid pD;have Ny:=rQ kd g fs x b1 x.values.length b2 x.holds.length w3 (HO.out.1.later fO.out) rG.out HO.out.2.1 HO.out.2.2.1 HO.out.2.2.2;rw[← pD]at Ny;clear pD y3 y7 y5 y6 yE;go_wp2_with fail
  refine Ny.mono ?_;rintro e w5 ⟨rfl,gI⟩;clear Ny hc hf;obtain⟨⟨y3,y7,y5,y6⟩,yE⟩:=vu.out w5 gI;have hc:=Boxed.cell y6;have hf:=Boxed.frozen y6;clear y3 y7 y5 y6 yE g0 g1 q0 q1 q2 q3 q4 q5 q6;by_cases DS:cc=0
  ·have ev:fE cc (dF fs x)=.nilIface:=by unfold fE;rw[if_pos DS]
   rw[ev];clear ev;go_upto_region 4 with fail
   have hb5':=gI;obtain⟨⟨y3,y7,y5,y6⟩,yE⟩:=vu.out w5 gI;have q2:w5.cell? ⟨w.heap.size,2,none⟩=some (.slice (some ⟨a2,0,none⟩) L.teams.length L.teams.length):=y3.at_ 2;have q3:w5.cell? ⟨w.heap.size+1+1,2,none⟩=some (.string x.team):=y5.at_ 2;obtain⟨t1,yI⟩:∃ t1,t1=bB L.teams x.team:=⟨_,rfl⟩
   have Ht:=hid yI;have LN:=jH a2 L.teams x.team w5 (HA.out.1.later (aa fO.out gI)).t;rw[← yI]at LN;clear yI y3 y7 y5 y6 yE;go_wp2_with fail
   refine LN.mono ?_;rintro e w6 ⟨rfl,yW⟩;clear LN hc hf q2 q3;have KO:=aa gI yW;obtain⟨⟨y3,y7,y5,y6⟩,yE⟩:=vu.out w6 KO;have hc:=Boxed.cell y6;have hf:=Boxed.frozen y6;cases t1
   ·have DZ:Hid (R=false):=by show _=_;rw[mn.out,← Ht.out];simp
    clear y3 y7 y5 y6 yE;go_wp2;obtain⟨h1,h2⟩:=pS.out w6 KO DZ.out;exact A6 rfl h1 h2
   have q2:w6.cell? ⟨w.heap.size+1,0,none⟩=some (.int .i64 K.now):=y7.at_ 0;have q3:w6.cell? ⟨w.heap.size+1+1,6,none⟩=some (.int .i64 x.version):=y5.at_ 6;obtain⟨t3,BS⟩:∃ t3,t3=within x.version 1 K.now:=⟨_,rfl⟩
   have yV:=hid BS;have Hw:=hU x.version 1 K.now w6;rw[← BS]at Hw;clear BS y3 y7 y5 y6 yE;go_wp2_with fail
   refine Hw.mono ?_;rintro e w7 ⟨rfl,rfl⟩;clear Hw q2 q3;cases t3
   ·have DZ:Hid (R=false):=by show _=_;rw[mn.out,← yV.out];simp
    go_wp2;obtain⟨h1,h2⟩:=pS.out w6 KO DZ.out;exact A6 rfl h1 h2
   obtain⟨sv,wV⟩:∃ sv,sv=bM L.shapes L.mends x:=⟨_,rfl⟩
   have Cr:Hid (sv.length≤1048576∧x.values.length≤1048576):=by
    refine⟨?_,HO.out.1.len1⟩;rw[wV,jk];exact HO.out.1.len1
   have BB:Hid (∀ W,Bel w3 W→Calls Tryz.prog 141 #[.slice (some ⟨a0,0,none⟩) L.shapes.length L.shapes.length,.slice (some ⟨a1,0,none⟩) L.mends.length L.mends.length,.agg #[.string x.kind,.string x.name,.string x.team,.slice (some ⟨b1,0,none⟩) x.values.length x.values.length,.bool x.ending,.slice (some ⟨b2,0,none⟩) x.holds.length x.holds.length,.int .i64 x.version]] W fun e w'=>∃ v0 v1 v2 g1 n1 f1 v4 v5 v6,e=.returned (.agg #[v0,v1,v2,.slice g1 n1 f1,v4,v5,v6])∧(n1=sv.length∧TxG w' g1 f1 sv)∧Bel W w'):=fun W bG=>by
    have fu:=aa fO.out bG;refine(xG a0 a1 L.shapes L.mends x _ _ _ _ W (HA.out.1.later fu).s (HA.out.1.later fu).m HA.out.2.2.1 ((HO.out.1.later fu).g _ _)).mono ?_;rintro e w' ⟨⟨g1,n1,f1,g2,n2,f2,mid,rfl,h1,_,_,_⟩,hb⟩;rw[← wV]at h1;exact⟨_,_,_,_,_,_,_,_,_,rfl,h1.g,hb⟩
   obtain⟨sm,dQ⟩:∃ sm,sm=ee sv x.values:=⟨_,rfl⟩
   have BH:Hid (∀ W (g1:Option Addr) (n1 f1:Nat),Bel w3 W→(n1=sv.length∧TxG W g1 f1 sv)→Calls Tryz.prog 140 #[.slice g1 n1 f1,.slice (some ⟨b1,0,none⟩) x.values.length x.values.length] W fun e w'=>e=.returned (.bool sm)∧Bel W w'):=fun W g1 n1 f1 bG hg=>by
    have ho:=HO.out.1.later (aa fO.out bG);rw[dQ];exact Iy _ _ _ _ _ _ _ W Cr.out.1 Cr.out.2 hg.1 hg.2 ho.lt1 ho.at1
   have nH:Hid (sm=ee (bM L.shapes L.mends x) x.values):=by show sm=_;rw[dQ,wV]
   clear dQ wV hc hf;have Hm:=hid KO;go_upto_region 6 with fail
   refine jf w3 Hm.out (VSh w.heap.size (w.heap.size+1+1) (.slice (some ⟨a0,0,none⟩) L.shapes.length L.shapes.length) (.slice (some ⟨a1,0,none⟩) L.mends.length L.mends.length) (.agg #[.string x.kind,.string x.name,.string x.team,.slice (some ⟨b1,0,none⟩) x.values.length x.values.length,.bool x.ending,.slice (some ⟨b2,0,none⟩) x.holds.length x.holds.length,.int .i64 x.version]) (.slice (some ⟨b1,0,none⟩) x.values.length x.values.length) sv sm) (oz _ _ _ _ _ _ _ _) (by kernel_rfl) (by kernel_rfl) (by kernel_rfl) (by kernel_rfl) ?_ ?_
   ·intro i o ho a W hW hk hd;obtain⟨⟨r3,_,ao,_⟩,_⟩:=vu.out W hW;have bD:bC W w.heap.size (.slice (some ⟨a0,0,none⟩) L.shapes.length L.shapes.length) (.slice (some ⟨a1,0,none⟩) L.mends.length L.mends.length) (.slice (some ⟨a2,0,none⟩) L.teams.length L.teams.length):=⟨r3.lt,r3.at_ 0,r3.at_ 1,r3.at_ 2⟩
    obtain⟨lz,l0,l1,l2⟩:=bD;have ez:=ao.lt;have x0:W.cell? ⟨(w.heap.size+1+1),0,none⟩=some (.string x.kind):=ao.at_ 0;have x1:W.cell? ⟨(w.heap.size+1+1),1,none⟩=some (.string x.name):=ao.at_ 1;have x2:W.cell? ⟨(w.heap.size+1+1),2,none⟩=some (.string x.team):=ao.at_ 2;have x3:W.cell? ⟨(w.heap.size+1+1),3,none⟩=some (.slice (some ⟨b1,0,none⟩) x.values.length x.values.length):=ao.at_ 3;have x4:W.cell? ⟨(w.heap.size+1+1),4,none⟩=some (.bool x.ending):=ao.at_ 4;have x5:W.cell? ⟨(w.heap.size+1+1),5,none⟩=some (.slice (some ⟨b2,0,none⟩) x.holds.length x.holds.length):=ao.at_ 5;have x6:W.cell? ⟨(w.heap.size+1+1),6,none⟩=some (.int .i64 x.version):=ao.at_ 6;have etl:a.tmps[3]?.getD undef=.pointer (some ⟨w.heap.size,0,none⟩):=(ay a 3).trans ((hk 3 rfl).trans rfl);have eto:a.tmps[5]?.getD undef=.pointer (some ⟨(w.heap.size+1+1),0,none⟩):=(ay a 5).trans ((hk 5 rfl).trans rfl);match i,ho with
    |0,ho=>
     injection ho with ho;subst ho
     exact Or.inl ⟨_,W,by simp[execOp,go_sem,etl],br,rfl⟩
    |1,ho=>
     injection ho with ho;subst ho
     have e0:a.tmps[43]?.getD undef=_:=(ay a 43).trans (hd 0 _ 43 rfl rfl ⟨⟨0,.data⟩,by simp,rfl,rfl⟩);exact Or.inl ⟨_,W,by simp[execOp,go_sem,e0,l0],br,rfl⟩
    |2,ho=>
     injection ho with ho;subst ho
     exact Or.inl ⟨_,W,by simp[execOp,go_sem,etl],br,rfl⟩
    |3,ho=>
     injection ho with ho;subst ho
     have e0:a.tmps[45]?.getD undef=_:=(ay a 45).trans (hd 2 _ 45 rfl rfl ⟨⟨2,.data⟩,by simp,rfl,rfl⟩);exact Or.inl ⟨_,W,by simp[execOp,go_sem,e0,l1],br,rfl⟩
    |4,ho=>
     injection ho with ho;subst ho
     exact Or.inl ⟨_,W,by simp[execOp,go_sem,eto,x0,x1,x2,x3,x4,x5,x6],br,rfl⟩
    |5,ho=>
     injection ho with ho;subst ho
     have e0:a.tmps[44]?.getD undef=_:=(ay a 44).trans (hd 1 _ 44 rfl rfl ⟨⟨1,.data⟩,by simp,rfl,rfl⟩);have e1:a.tmps[46]?.getD undef=_:=(ay a 46).trans (hd 3 _ 46 rfl rfl ⟨⟨3,.data⟩,by simp,rfl,rfl⟩);have e2:a.tmps[47]?.getD undef=_:=(ay a 47).trans (hd 4 _ 47 rfl rfl ⟨⟨4,.data⟩,by simp,rfl,rfl⟩);refine Or.inr ⟨141,#[.slice (some ⟨a0,0,none⟩) L.shapes.length L.shapes.length,.slice (some ⟨a1,0,none⟩) L.mends.length L.mends.length,.agg #[.string x.kind,.string x.name,.string x.team,.slice (some ⟨b1,0,none⟩) x.values.length x.values.length,.bool x.ending,.slice (some ⟨b2,0,none⟩) x.holds.length x.holds.length,.int .i64 x.version]],by simp[go_sem,e0,e1,e2],(BB.out W hW).mono ?_⟩;rintro e W' ⟨v0,v1,v2,g1,n1,f1,v4,v5,v6,rfl,hg,hb⟩;exact⟨_,rfl,hb,v0,v1,v2,g1,n1,f1,v4,v5,v6,rfl,hg⟩
    |6,ho=>
     injection ho with ho;subst ho
     obtain⟨v0,v1,v2,g1,n1,f1,v4,v5,v6,e0,hg⟩:=(hd 5 _ 48 rfl rfl ⟨⟨5,.data⟩,by simp,rfl,rfl⟩)
     have e0:=(ay a 48).trans e0;exact Or.inl ⟨.slice g1 n1 f1,W,by simp[execOp,go_sem,e0,lx],br,g1,n1,f1,rfl,hg⟩
    |7,ho=>
     injection ho with ho;subst ho
     exact Or.inl ⟨_,W,by simp[execOp,go_sem,eto],br,rfl⟩
    |8,ho=>
     injection ho with ho;subst ho
     have e0:a.tmps[50]?.getD undef=_:=(ay a 50).trans (hd 7 _ 50 rfl rfl ⟨⟨7,.data⟩,by simp,rfl,rfl⟩);exact Or.inl ⟨_,W,by simp[execOp,go_sem,e0,x3],br,rfl⟩
    |9,ho=>
     injection ho with ho;subst ho
     obtain⟨g1,n1,f1,e0,hg⟩:=(hd 6 _ 49 rfl rfl ⟨⟨6,.data⟩,by simp,rfl,rfl⟩)
     have e0:=(ay a 49).trans e0;have e1:a.tmps[51]?.getD undef=_:=(ay a 51).trans (hd 8 _ 51 rfl rfl ⟨⟨8,.data⟩,by simp,rfl,rfl⟩);refine Or.inr ⟨140,#[.slice g1 n1 f1,.slice (some ⟨b1,0,none⟩) x.values.length x.values.length],by simp[go_sem,e0,e1],(BH.out W g1 n1 f1 hW hg).mono ?_⟩;rintro e W' ⟨rfl,hb⟩;exact⟨_,rfl,hb,rfl⟩
    |10,ho=>
     injection ho with ho;subst ho
     have e0:a.tmps[52]?.getD undef=_:=(ay a 52).trans (hd 9 _ 52 rfl rfl ⟨⟨9,.data⟩,by simp,rfl,rfl⟩);exact Or.inl ⟨.bool (!sm),W,by simp[execOp,go_sem,e0],br,rfl⟩
    |n+11,ho=>simp at ho
   ·intro w9 vs Cp nj;have elast:vs 53=.bool (!sm):=nj 10 _ 53 rfl rfl;simp only[eu,Act.put,List.setIfInBounds_toArray,List.set_cons_zero,List.set_cons_succ];rw[elast];generalize vs 43=cR;generalize vs 44=cI;generalize vs 45=cS;generalize vs 46=cW;generalize vs 47=cU;generalize vs 48=cT;generalize vs 49=cJ;generalize vs 50=cE;generalize vs 51=cY;generalize vs 52=cX;clear nj elast;obtain⟨⟨y3,y7,y5,y6⟩,yE⟩:=vu.out w9 Cp;have hc:=Boxed.cell y6;have hf:=Boxed.frozen y6;clear y3 y7 y5 y6 yE;cases sm
    ·have DZ:Hid (R=false):=by show _=_;rw[mn.out,← nH.out];simp
     go_wp2;obtain⟨h1,h2⟩:=pS.out w9 Cp DZ.out;exact A6 rfl h1 h2
    have Ic:Hid (R=aC (cG K fs x.values) fs.length):=by show R=_;rw[mn.out,← Nx.out,← Ht.out,← yV.out,← nH.out,DS];simp
    have EW:Hid (x.values.length=fs.length):=by
     show x.values.length=fs.length;have h:=Nx.out;rw[DS]at h;unfold dk at h;split at h
     ·rename_i hh
      simp only[Bool.and_eq_true,decide_eq_true_eq]at hh;exact hh.1.1.2
     ·cases h
    go_upto_region 8 with fail
    clear hc hf;obtain⟨⟨y3,y7,y5,y6⟩,yE⟩:=vu.out w9 Cp;have q0:w9.cell? ⟨w.heap.size+1+1,0,none⟩=some (.string x.kind):=y5.at_ 0;have q1:w9.cell? ⟨w.heap.size+1+1,1,none⟩=some (.string x.name):=y5.at_ 1;have q2:w9.cell? ⟨w.heap.size+1+1,2,none⟩=some (.string x.team):=y5.at_ 2;have q3:w9.cell? ⟨w.heap.size+1+1,3,none⟩=some (.slice (some ⟨b1,0,none⟩) x.values.length x.values.length):=y5.at_ 3;have q4:w9.cell? ⟨w.heap.size+1+1,4,none⟩=some (.bool x.ending):=y5.at_ 4;have q5:w9.cell? ⟨w.heap.size+1+1,5,none⟩=some (.slice (some ⟨b2,0,none⟩) x.holds.length x.holds.length):=y5.at_ 5;have q6:w9.cell? ⟨w.heap.size+1+1,6,none⟩=some (.int .i64 x.version):=y5.at_ 6;have g0:w9.cell? ⟨E,0,none⟩=some (.string kd):=yE.at_ 0;have g1:w9.cell? ⟨E,1,none⟩=some (.slice (some ⟨g,0,none⟩) fs.length fs.length):=yE.at_ 1;have HLI:=Fu kd g fs.length fs.length x b1 b2 x.values.length x.holds.length w9;clear y3 y7 y5 y6 yE;go_wp2_with fail
    refine HLI.mono ?_;rintro e GM ⟨rfl,J5⟩;clear HLI q0 q1 q2 q3 q4 q5 q6 g0 g1;have D5:Hid (Bel w9 GM∧aM GM w9.heap.size #[.string kd,.slice (some ⟨g,0,none⟩) fs.length fs.length]∧aM GM (w9.heap.size+1) #[.string x.kind,.string x.name,.string x.team,.slice (some ⟨b1,0,none⟩) x.values.length x.values.length,.bool x.ending,.slice (some ⟨b2,0,none⟩) x.holds.length x.holds.length,.int .i64 x.version]):=by
     rw[J5];exact⟨ab (ab br _) _,(aM.bp _ _ _ _ rfl).cy _,aM.bp _ _ _ _ (by simp)⟩
    clear J5;have rE:=hid (aa Cp D5.out.1);have vr:=hid (aa fO.out rE.out);obtain⟨p0,Im⟩:∃ p0,p0=w9.heap.size:=⟨_,rfl⟩
    rw[← Im]at D5 ⊢;clear Im;have MI:=sW 3 GM p0 (p0+1) g kd fs x.values (some ⟨b1,0,none⟩) x.values.length _ D5.out.2.1 (rG.out.later rE.out).lt (rG.out.later rE.out).at_ (rG.out.len) D5.out.2.2 rfl (Or.inr ⟨b1,rfl,(HO.out.1.later vr.out).lt1,(HO.out.1.later vr.out).at1⟩) (by rw[EW.out];exact nr);go_wp2_with fail
    refine(wpIn_wide (n:=4)).1 ?_;refine wpIn_rangeFunc_ownF rfl (by decide) (gf:=186) (lb:=#[.pointer (some ⟨p0,0,none⟩),.pointer (some ⟨p0+1,0,none⟩)]) rfl trivial (enters_of Tryz.func186 (by kernel_rfl) rfl) MI belowK_t (belowK_b nr) br (fun _=>rfl)
     (fun pre W=>pre.all (okL K)=true∧Bel GM W)
     (fun c pre W=>(c=.ret∧pre.all (okL K)=false∧W.cell? ⟨w.heap.size+1+1+1,0,none⟩=some (.bool false))∧Bel w W)
     (OwnFrom.and (Own.from (fun s A B row hs hg hr=>hs) _) (ownFrom_below nr nr))
     (fun c=>OwnFrom.and (Own.from (fun s A B row hs hg hr=>⟨hs.1,hs.2.1,cell_kept hs.2.2 hg hr⟩) _) (ownFrom_below nr vr.out.size))
     ⟨rfl,br⟩ ?a1 ?assign ?body ?done ?stop
    case assign=>
     intro l y W K1 hK1;gi_wp2
     exact hK1
    case body=>
     rintro l pre y W ⟨hp,hB⟩ hlen;have hk:=aa rE.out hB;have HPB:=hid (aa vr.out hB);obtain⟨⟨y3,y7,y5,y6⟩,yE⟩:=vu.out W hk;have q3:W.cell? ⟨w.heap.size+1,3,none⟩=some (.slice (some ⟨e0,0,none⟩) K.objects.length K.objects.length):=y7.at_ 3;obtain⟨pl,eI⟩:∃ pl,pl=dJ K.objects y.1 y.2:=⟨_,rfl⟩
     obtain⟨ok,fN⟩:∃ ok,ok=okL K y:=⟨_,rfl⟩
     have vO:=hid fN;have HCP:=mC e0 K.objects y.1 y.2 W (HA.out.2.1.later HPB.out).o HA.out.2.2.2;rw[← eI,show decide (kU K.objects y.1 y.2<K.objects.length)=ok from fN.symm]at HCP;clear eI fN y3 y7 y5 y6 yE;have HP:=hid hp;have Hh:=hid hB;have I1:Hid (∀ W',Bel W W'→W'.cell? ⟨w.heap.size+1+1+1,0,none⟩=some (.bool false)∧W'.frozen? ⟨w.heap.size+1+1+1,0,none⟩=false):=fun W' ml=>by
      have y6:=(vu.out W' (aa hk ml)).1.2.2.2;exact⟨Boxed.cell y6,Boxed.frozen y6⟩
     clear hp hB hlen hk;gi_wp2_with (refine⟨trivial, ?_⟩;gi_at_call 143;refine(CallsIn.inRound l (callsIn_wide.2 HCP)).mono ?_;rintro e W1 ⟨rfl,bl⟩;obtain⟨hc,hf⟩:=I1.out W1 bl;clear I1 q3)
     ·rename_i iM
      have NF:KeepsOthers W W1:=⟨bl.size,fun k o hk _=>(bl.block k (Array.getElem?_eq_some_iff.1 hk).1).trans hk⟩
      refine⟨NF.trans (KeepsOthers.setCell _ _ _),⟨rfl, ?_,World.cell?_setCell_same' _ _ _ (by rw[hc];rfl)⟩,(aa HPB.out bl).setCell (p:=⟨w.heap.size+1+1+1,0,none⟩) (by simp;omega) _⟩;rw[List.all_append,HP.out];have:=vO.out;cases ok
      ·simp[← this]
      ·cases iM
     ·rename_i iM
      have NF:KeepsOthers W W1:=⟨bl.size,fun k o hk _=>(bl.block k (Array.getElem?_eq_some_iff.1 hk).1).trans hk⟩
      refine⟨NF,bl.mono Hh.out.size, ?_,Hh.out.trans (bl.mono Hh.out.size)⟩;rw[List.all_append,HP.out];have:=vO.out;cases ok
      ·cases iM
      ·simp[← this]
    case done=>
     rintro D ys W hD rfl ⟨hp,hB⟩ hK;obtain⟨⟨y3,y7,y5,y6⟩,yE⟩:=vu.out W (aa rE.out hB);have hc:=Boxed.cell y6;have hf:=Boxed.frozen y6;have Nu:Hid (R=true):=by show R=true;rw[Ic.out,mE];exact hp
     have Hh:=hid (aa vr.out hB);have GW:=hid (And.intro hK hD);clear y3 y7 y5 y6 yE hp hB hK hD;go_wp2;have Ng:=(KeepsOthers.setCell W ⟨w.heap.size+1+1+1,0,none⟩ (.bool true)).same D _ GW.out.1 rfl;refine⟨by simp,.inl ⟨_,_,rfl,run_takeDeferred Ng, ?_⟩⟩;have MK:=cell_kept (World.cell?_setCell_same' W ⟨w.heap.size+1+1+1,0,none⟩ (.bool true) (by rw[hc];rfl)) (grownBy_putObj' _ D (.deferred none)) (fun r e=>by cases e;exact⟨_,Ng,rfl⟩);refine⟨.bool true,by simp[results,Tryz.f86,go_sem,MK],by rw[Nu.out],(Hh.out.setCell (p:=⟨w.heap.size+1+1+1,0,none⟩) (by simp;omega) _).trans (belowK_b (w:=w) nr _ D _ _ (Nat.le_trans vr.out.size GW.out.2) Ng rfl rfl)⟩
    case stop=>
     rintro D c pre W hD Jt ⟨⟨rfl,bA,GO⟩,hB⟩ hK;have Nu:Hid (R=false):=by
      show R=false;rw[Ic.out,mE];obtain⟨tl,htl⟩:=Jt;rw[← htl,List.all_append,bA];rfl
     refine wpIn_wide.2 ?_;have GW:=hid (And.intro hK hD);have Hh:=hid hB;clear hK hD hB bA Jt;go_wp2;refine⟨by simp,.inl ⟨_,_,rfl,run_takeDeferred GW.out.1, ?_⟩⟩;have MK:=cell_kept GO (grownBy_putObj' _ D (.deferred none)) (fun r e=>by cases e;exact⟨_,GW.out.1,rfl⟩);refine⟨.bool false,by simp[results,Tryz.f86,go_sem,MK],by rw[Nu.out],Hh.out.trans (belowK_b (w:=w) nr W D _ _ (Nat.le_trans vr.out.size GW.out.2) GW.out.1 rfl rfl)⟩
  ·have ev:fE cc (dF fs x)=.iface 261 (.agg #[.int .i64 (cc:Nat),.int .i64 (dF fs x:Nat)]):=by unfold fE;rw[if_neg DS]
   have DZ:Hid (R=false):=by show _=_;rw[mn.out,← Nx.out];simp[DS]
   rw[ev];clear ev;go_wp2;obtain⟨h1,h2⟩:=pS.out w5 gI DZ.out;exact A6 rfl h1 h2
end Go.Proofs.YtbiokpmdghmgcaaGreat
