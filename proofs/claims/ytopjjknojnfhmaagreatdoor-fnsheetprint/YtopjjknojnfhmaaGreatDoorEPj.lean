import Derived.Test.YtopjjknojnfhmaaGreatDoorEIo
import Derived.Test.YtopjjknojnfhmaaGreatDoorRgG
namespace Go.Proofs.YtopjjknojnfhmaaGreatDoor
set_option maxRecDepth 8000
set_option maxHeartbeats 40000000
open Go.RowKit Go.Deep
def cmE (p:ByteArray×Int×Nat):MapEntry:=⟨.string p.1,.int .i64 p.2.1,p.2.2⟩
def gw (x:ByteArray):List (ByteArray×Int×Nat)→Nat→Option (Nat×Int)
 |[],_=>none
 |p::M,i=>if x.toList==p.1.toList then some (i,p.2.1) else gw x M (i+1)
def gM (x:ByteArray):List (ByteArray×Int×Nat)→Int
 |[]=>0
 |p::M=>if x.toList==p.1.toList then p.2.1 else gM x M
def gT (x:ByteArray) (v:Int) (cl:Nat):List (ByteArray×Int×Nat)→List (ByteArray×Int×Nat)
 |[]=> [(x,v,cl)]
 |p::M=>if x.toList==p.1.toList then (x,v,p.2.2)::M else p::gT x v cl M
theorem xN (x:ByteArray):∀ (M:List (ByteArray×Int×Nat)) (i:Nat),Instr.findNow .string (.string x) (M.map cmE) i=some ((gw x M i).map fun q=>(q.1,.int .i64 q.2))
 |[],_=>rfl
 |p::M,i=>by
  have e:=fF x p.1.toList p.1 rfl;rw[List.map_cons];unfold cmE gw;rw[Instr.findNow];simp only[Instr.sameNow,e];cases x.toList==p.1.toList
  ·exact xN x M (i+1)
  ·rfl
theorem C7 (x:ByteArray):∀ (M:List (ByteArray×Int×Nat)) (i:Nat),gM x M=match gw x M i with
   |none=>0
   |some q=>q.2
 |[],_=>rfl
 |p::M,i=>by
  unfold gM gw;cases x.toList==p.1.toList
  ·exact C7 x M (i+1)
  ·rfl
theorem iN {a b:ByteArray} (h:(a.toList==b.toList)=true):a=b:=by
 have h:=beq_iff_eq.1 h;cases a with
 |mk a=>
  cases b with
  |mk b=>
   rw[Pl.tl,Pl.tl]at h;exact congrArg ByteArray.mk (Array.toList_inj.1 h)
theorem rR (x:ByteArray) (v:Int) (cl:Nat):∀ (M:List (ByteArray×Int×Nat)) (i:Nat),gw x M i=none→M.map cmE++[⟨.string x,.int .i64 v,cl⟩]=(gT x v cl M).map cmE
 |[],_,_=>rfl
 |p::M,i,h=>by
  unfold gw at h;unfold gT;cases hq:x.toList==p.1.toList
  ·rw[hq]at h;simp only[Bool.false_eq_true,if_false]at h ⊢;rw[List.map_cons,List.map_cons,List.cons_append,rR x v cl M (i+1) h]
  ·rw[hq]at h;simp at h
theorem rJ (x:ByteArray) (v:Int) (cl:Nat):∀ (M:List (ByteArray×Int×Nat)) (i j:Nat) (u:Int),gw x M i=some (j,u)→i≤j∧((M.map cmE)[j - i]?).map (·.key)=some (.string x)∧(M.map cmE).modify (j - i) (fun e=>{e with key:=.string x,val:=.int .i64 v})=(gT x v cl M).map cmE
 |[],_,_,_,h=>by cases h
 |p::M,i,j,u,h=>by
  unfold gw at h;unfold gT;cases hq:x.toList==p.1.toList
  ·rw[hq]at h;simp only[Bool.false_eq_true,if_false]at h ⊢;obtain⟨h1,h2,h3⟩:=rJ x v cl M (i+1) j u h;obtain⟨d,hd⟩:∃ d,j - i=d+1:=⟨j - i - 1,by omega⟩
   have hd':j - (i+1)=d:=by omega
   rw[hd']at h2 h3;refine⟨by omega, ?_, ?_⟩
   ·rw[hd];simpa using h2
   ·rw[hd,List.map_cons,List.map_cons,← h3];rfl
  ·rw[hq]at h;simp only[if_true]at h;injection h with h
   injection h with e1 e2
   subst e1;have:=iN hq;refine⟨zE, ?_, ?_⟩
   ·rw[Nat.sub_self,List.map_cons,this];rfl
   ·rw[Nat.sub_self,if_pos rfl,List.map_cons,List.map_cons];rfl
theorem kI (x y:ByteArray) (v:Int) (cl:Nat):∀ M:List (ByteArray×Int×Nat),gM y (gT x v cl M)=if y.toList==x.toList then v else gM y M
 |[]=>by unfold gT gM gM;rfl
 |p::M=>by
  unfold gT;cases hq:x.toList==p.1.toList
  ·simp only[Bool.false_eq_true,if_false];unfold gM;rw[kI x y v cl M];cases hy:y.toList==p.1.toList
   ·rfl
   ·have:(y.toList==x.toList)=false:=by
     have e:=beq_iff_eq.1 hy;rw[e,beq_eq_false_iff_ne];intro h;rw[h]at hq;simp at hq
    rw[this];rfl
  ·simp only[if_true];have e:=iN hq;unfold gM;rw[← e];cases y.toList==x.toList<;>rfl
theorem Tryz.nV:Tryz.prog.underlying 98=some (.map 9 3):=by kernel_rfl
theorem zo {W:World} {mb cl:Nat} {M:List (ByteArray×Int×Nat)} (hb:W.heap[mb]? =some (.map (M.map cmE).toArray cl)) (x:ByteArray):
  (Instr.lookup 98 (.map (some mb)) (.string x) false).run Tryz.prog W=.ok (.int .i64 (gM x M)) W:=by
 have hz:(zeroValue 3).run Tryz.prog W=.ok (.int .i64 0) W:=by kernel_rfl
 have hf:=ig W x (M.map cmE) _ (xN x M 0);rw[C7 x M 0];cases hc:gw x M 0 with
 |none=>
  rw[hc]at hf;simp[Instr.lookup,run_underlying Tryz.nV,MapKept.run_getObj_map hb,dC,hf,hz,Result.andThen]
 |some q=>
  rw[hc]at hf;simp[Instr.lookup,run_underlying Tryz.nV,MapKept.run_getObj_map hb,dC,hf,Result.andThen]
theorem xS (W:World) (x:ByteArray):(Instr.keyThatStays (.string x) (.string x)).run Tryz.prog W=.ok (.string x) W:=by
 have:Instr.sameBits 10000 (.string x) (.string x)=true:=by
  show (x==x)=true;exact(fF x x.toList x rfl).trans (by simp)
 simp[Instr.keyThatStays,this]
theorem J0 {W:World} {mb cl:Nat} {M:List (ByteArray×Int×Nat)} (hb:W.heap[mb]? =some (.map (M.map cmE).toArray cl)) (x:ByteArray) (v:Int):
  ∃ OK,(Instr.mapUpdate 98 (.map (some mb)) (.string x) (.int .i64 v)).run Tryz.prog W=.ok () (ir W mb (.map ((gT x v cl M).map cmE).toArray OK)):=by
 have hf:=ig W x (M.map cmE) _ (xN x M 0);cases hc:gw x M 0 with
 |none=>
  rw[hc]at hf;have e:=rR x v cl M 0 hc;refine⟨cl+1, ?_⟩;rw[← e];simp[Instr.mapUpdate,run_underlying Tryz.nV,MapKept.run_getObj_map hb,dC,hf,MapKept.run_setObj_map _ hb,Result.andThen,ir]
 |some q=>
  obtain⟨j,u⟩:=q;rw[hc]at hf;obtain⟨_,h2,h3⟩:=rJ x v cl M 0 j u hc;rw[Nat.sub_zero]at h2 h3;refine⟨cl, ?_⟩;rw[← h3];have hs:=xS W x;have So:(Option.map (fun e=>e.key) (M.map cmE)[j]?)=some (.string x):=h2;have h4:Option.map ((fun x=>x.key) ∘ cmE) M[j]? =some (.string x):=by rw[← So];simp
  simp[Instr.mapUpdate,run_underlying Tryz.nV,MapKept.run_getObj_map hb,dC,hf,MapKept.run_setObj_map _ hb,Result.andThen,ir,h4,hs]
theorem xH (c0:ByteArray) (m:Bool) (v1 v3:Value) (w:World):
  Calls Tryz.prog 47 #[.agg #[.string c0,v1,.bool m,v3]] w fun e w'=>e=.returned (.int .i64 (if m then 10 else 1))∧Bel w w':=by
 cases m
 all_goals
  go_enter Tryz.func47,Tryz.ntmps47
  go_wp2;go_ret;exact⟨rfl,ae zR _⟩
namespace Pl
def im (l:List Ru) (key:ByteArray) (ws:List ByteArray):Bool:=match bC l key with
 |none=>false
 |some j=>gP (l.getD j bq).args ws
def gj (l:List Ru) (key:ByteArray):Bool:=match bC l key with
 |none=>false
 |some j=>(l.getD j bq).many
def fS (l:List Ru) (L:List Ln) (i:Nat):Bool:=im l (L.getD i aK).key (L.getD i aK).ws&& !decide ((if gj l (L.getD i aK).key then (10:Int) else 1)<(aI (L.take (i+1)) (L.getD i aK).key:Nat))
end Pl
def gY (l:List Pl.Ru) (L:List Pl.Ln):Bool:=(List.range L.length).all (Pl.fS l L)&&rM l L
theorem xn {l:List Pl.Ru} {key:ByteArray} {W:World} {e:Ending} (h:lB l key W e) (har:∀ r∈l,∀ z∈r.args,1≤z∧z≤6):
  ∃ c0 a1 n1 c1 a3 n3 c3 kn,e=.returned (.tuple #[.agg #[.string c0,.slice a1 n1 c1,.bool (Pl.gj l key),.slice a3 n3 c3],.bool kn])∧(kn=false→∀ ws,Pl.im l key ws=false)∧
   (kn=true→∀ (X:World),Bel W X→∀ (ws:List ByteArray) (wv:Value),Raw X [.row 9 [.s]] [.row ws.length (txD ws)] [wv]→(∀ y∈ws,y.size≤maxLen)→Calls Tryz.prog 46 #[.agg #[.string c0,.slice a1 n1 c1,.bool (Pl.gj l key),.slice a3 n3 c3],wv] X fun e w'=>e=.returned (.bool (Pl.im l key ws))∧Bel X w'):=by
 unfold lB at h;unfold Pl.gj Pl.im;cases lL:Pl.bC l key with
 |none=>
  rw[lL]at h;simp only at h ⊢;exact⟨_,_,_,_,_,_,_,false,h,by simp,(fun h=>by cases h)⟩
 |some j=>
  rw[lL]at h;simp only at h ⊢;have hj:=Pl.iZ lL;obtain⟨a1,c1,a3,c3,he,hA,hD⟩:=h;refine⟨_,_,_,_,_,_,_,true,he,(fun h=>by cases h),fun _ X hX ws wv hw hs=>mT _ _ _ a1 c1 _ ws wv X (hA.later hX) hw ?_ hs⟩;have e:l.getD j Pl.bq=l[j]:=by simp[hj]
  rw[e];exact har _ (List.getElem_mem hj)
theorem Pl.vI (L:List Pl.Ln) (k:Nat) (hk:k<L.length) (y:ByteArray):Pl.aI (L.take (k+1)) y=if y.toList==(L.getD k Pl.aK).key.toList then Pl.aI (L.take k) (L.getD k Pl.aK).key+1 else Pl.aI (L.take k) y:=by
 have e:L.getD k Pl.aK=L[k]:=by simp[hk]
 unfold Pl.aI;rw[e,List.take_succ_eq_append_getElem hk,List.countP_append];have c:List.countP (fun x=>Pl.dD x.key y) [L[k]]=if Pl.dD L[k].key y then 1 else 0:=by
  rw[List.countP_cons,List.countP_nil];simp
 rw[c];unfold Pl.dD;cases hy:y.toList==L[k].key.toList
 ·have:(L[k].key.toList==y.toList)=false:=by
   rw[beq_eq_false_iff_ne]at hy ⊢;exact fun h=>hy h.symm
  rw[this];rfl
 ·have:=iN hy;subst this;simp
def VHA :Nat→Value→World→Prop
 |0,vv,_=>vv=.bool false
 |1,vv,_|2,vv,_|8,vv,_|9,vv,_|17,vv,_=>vv=.bool true
 |3,vv,_|4,vv,_|5,vv,_|6,vv,_|7,vv,_|10,vv,_|11,vv,_|12,vv,_|13,vv,_|14,vv,_|15,vv,_|16,vv,_=>vv=undef
 |_,_,_=>True
theorem CZ :∀ jj vv W W',Bel W W'→VHA  jj vv W→VHA  jj vv W':=by
 intro jj vv W W' hb h;match jj with
 |0|1|2|3|4|5|6|7|8|9|10|11|12|13|14|15|16|17=>exact h
 |n+18=>exact trivial
def VHB (bl:Nat) (n1:Nat) (c1:Nat) (n3:Nat) (c3:Nat) (cx:Nat) (ax:Option Addr) (a1:Option Addr) (a3:Option Addr) (m:Bool) (c0:ByteArray) (x:Pl.Ln):Nat→Value→World→Prop
 |0,vv,_|7,vv,_|8,vv,_|9,vv,_|17,vv,_=>vv=.bool true
 |1,vv,_|2,vv,_|6,vv,_=>vv=.bool false
 |3,vv,_=>vv=.agg #[.string c0,.slice a1 n1 c1,.bool m,.slice a3 n3 c3]
 |4,vv,_=>vv=.pointer (some ⟨bl,1,none⟩)
 |5,vv,_=>vv=.slice ax x.ws.length cx
 |10,vv,_|11,vv,_|12,vv,_|13,vv,_|14,vv,_|15,vv,_|16,vv,_=>vv=undef
 |_,_,_=>True
theorem Dq (bl:Nat) (n1:Nat) (c1:Nat) (n3:Nat) (c3:Nat) (cx:Nat) (ax:Option Addr) (a1:Option Addr) (a3:Option Addr) (m:Bool) (c0:ByteArray) (x:Pl.Ln):∀ jj vv W W',Bel W W'→VHB bl n1 c1 n3 c3 cx ax a1 a3 m c0 x jj vv W→VHB bl n1 c1 n3 c3 cx ax a1 a3 m c0 x jj vv W':=by
 intro jj vv W W' hb h;match jj with
 |0|1|2|3|4|5|6|7|8|9|10|11|12|13|14|15|16|17=>exact h
 |n+18=>exact trivial
def VHC (b0:Nat) (bl:Nat) (n1:Nat) (c1:Nat) (n3:Nat) (c3:Nat) (cx:Nat) (nn:Nat) (mo:Int) (ax:Option Addr) (a1:Option Addr) (a3:Option Addr) (m:Bool) (c0:ByteArray) (x:Pl.Ln):Nat→Value→World→Prop
 |0,vv,_|6,vv,_=>vv=.bool true
 |1,vv,_|2,vv,_|7,vv,_|8,vv,_|9,vv,_=>vv=.bool false
 |3,vv,_|14,vv,_=>vv=.agg #[.string c0,.slice a1 n1 c1,.bool m,.slice a3 n3 c3]
 |4,vv,_=>vv=.pointer (some ⟨bl,1,none⟩)
 |5,vv,_=>vv=.slice ax x.ws.length cx
 |10,vv,_=>vv=.map (some (b0+1))
 |11,vv,_=>vv=.pointer (some ⟨bl,0,none⟩)
 |12,vv,_=>vv=.string x.key
 |13,vv,_=>vv=.int .i64 ((nn+1:Nat):Int)
 |15,vv,_=>vv=.int .i64 mo
 |16,vv,_|17,vv,_=>vv=.bool (decide (mo<((nn+1:Nat):Int)))
 |_,_,_=>True
theorem DZ (b0:Nat) (bl:Nat) (n1:Nat) (c1:Nat) (n3:Nat) (c3:Nat) (cx:Nat) (nn:Nat) (mo:Int) (ax:Option Addr) (a1:Option Addr) (a3:Option Addr) (m:Bool) (c0:ByteArray) (x:Pl.Ln):∀ jj vv W W',Bel W W'→VHC b0 bl n1 c1 n3 c3 cx nn mo ax a1 a3 m c0 x jj vv W→VHC b0 bl n1 c1 n3 c3 cx nn mo ax a1 a3 m c0 x jj vv W':=by
 intro jj vv W W' hb h;match jj with
 |0|1|2|3|4|5|6|7|8|9|10|11|12|13|14|15|16|17=>exact h
 |n+18=>exact trivial
theorem J5 (l:List Pl.Ru) (va:Option Addr) (vc:Nat) (L:List Pl.Ln) (v:Value) (w:World) (hl:l.length≤100) (har:∀ r∈l,∀ z∈r.args,1≤z∧z≤6) (wL:Raw w [.row 96 aF] [cQ l] [.slice va l.length vc]) (h:Raw w bF [bT L] [v]) (hz:∀ x∈L,∀ y∈x.ws,y.size≤maxLen):
  Calls Tryz.prog 26 #[.agg #[.slice va l.length vc],v] w fun e w'=>e=.returned (.bool (gY l L))∧Bel w w':=by
 obtain⟨a,c,ev⟩:=h.bm;subst ev;have hlen:L.length≤maxLen:=by
  rcases cE h with⟨e,_⟩|⟨_,_,_,_,_,e,_⟩
  ·omega
  ·exact e
 unfold maxLen at hlen;obtain⟨R,hR⟩:∃ R,R=gY l L:=⟨_,rfl⟩
 have HR:Hid (R=gY l L):=hR;rw[← hR];have HH:=uh h;have nC:=uh wL;have HZ:=uh hz;have HL:=uh hl;have OI:=uh har;clear h wL hR hz hl har;obtain⟨wa,aZ⟩:∃ wa,wa=(w.alloc (.cells #[.slice va l.length vc] 64)).alloc (.map #[] 0):=⟨_,rfl⟩
 obtain⟨b0,cd⟩:∃ b0,b0=w.heap.size:=⟨_,rfl⟩
 have kW:=uh cd;have HB:Hid (Bel w wa):=by show Below _ _ _;rw[aZ];exact ae (ae zR _) _
 have ey:Hid (aS wa b0 [.slice va l.length vc]):=by show aS _ _ _;rw[aZ,cd];exact(aS.new w #[.slice va l.length vc] _ _ rfl).lf _
 have ON:Hid (wa.heap[b0+1]? =some (.map (([]:List (ByteArray×Int×Nat)).map cmE).toArray 0)):=by
  show _=_;have q:=(MapKept.heap_alloc (w.alloc (.cells #[.slice va l.length vc] 64)) (.map #[] 0)).1;have LH:(w.alloc (.cells #[.slice va l.length vc] 64)).heap.size=w.heap.size+1:=by simp
  rw[LH]at q;rw[aZ,cd];exact q
 go_enter Tryz.func26,Tryz.ntmps26
 have fz:∀ W:World,(Instr.makeMap 98 none).run Tryz.prog W=.ok (.map (some W.heap.size)) (W.alloc (.map #[] 0)):=fun W=>by kernel_rfl
 go_upto_region 3 with fail
 rw[← aZ,← cd];clear aZ cd fz;go_loopw [13] (fun i wr=>∃ (k:Nat) (M:List (ByteArray×Int×Nat)) (cl:Nat),k≤L.length∧i=.int .i64 k∧(List.range k).all (Pl.fS l L)=true∧aS wr b0 [.slice va l.length vc]∧wr.heap[b0+1]? =some (.map (M.map cmE).toArray cl)∧(∀ y,gM y M=(Pl.aI (L.take k) y:Nat))∧Bel w wr) (fun i _=>L.length - (intOf i).toNat)
 case atStart=>exact⟨0,[],0,zN,rfl,rfl,ey.out,ON.out,fun y=>rfl,HB.out⟩
 case round=>
  obtain⟨k,M,cl,hk,rfl,bs,hK,hM,hG,hW⟩:=hrel;have HK:=uh hK;have HM:=uh hM;have HG:=uh hG;have EI:=uh bs;have HW:=uh hW;have zk:=hK.get 0 _ rfl;have zl:=hK.lt;clear hK hM hG bs hW;by_cases bd:k<L.length
  rotate_left
  ·obtain rfl:k=L.length:=by omega
   have Js:=uh (JU l va vc HL.out L (.slice a L.length c) wr (nC.out.later HW.out) (HH.out.later HW.out));have HE:Hid (R=rM l L):=by show R=_;rw[HR.out,gY,EI.out,Bool.true_and]
   go_wp2_with (go_at_call 48;refine Js.out.mono ?_;rintro e w2 ⟨rfl,eD⟩)
   go_ret;exact⟨Pl.aq HE.out.symm,ah HW.out eD⟩
  rcases cE HH.out with⟨e0,_⟩|⟨p,o,c',hv,hp,_,aO⟩
  ·omega
  injection hv with g1 _ g3
  subst g1;subst g3;obtain⟨ax,cx,hg,fe⟩:=aO k bd;obtain⟨x,hx⟩:∃ x,x=L.getD k Pl.aK:=⟨_,rfl⟩
  rw[← hx]at hg fe;have x0:wr.cell? ⟨p,o+k*2,none⟩=some (.string x.key):=aE (aB hg hp HW.out) 0 _ rfl;have x1:wr.cell? ⟨p,o+k*2+1,none⟩=some (.slice ax x.ws.length cx):=aE (aB hg hp HW.out) 1 _ rfl;have FE:p<wr.heap.size:=zL hp HW.out.size;have ec:(0:Int)≤(k:Int):=by omega
  have dP:(k:Int)<(L.length:Int):=by omega
  have qa:Hid (∀ y∈x.ws,y.size≤maxLen):=by
   have e:L.getD k Pl.aK=L[k]:=by simp[bd]
   rw[hx,e];exact HZ.out _ (List.getElem_mem bd)
  have B8:=uh fe;obtain⟨nn,qs⟩:∃ nn,nn=Pl.aI (L.take k) x.key:=⟨_,rfl⟩
  have Lp:nn≤k:=by
   rw[qs];unfold Pl.aI;exact Nat.le_trans List.countP_le_length (by rw[List.length_take];omega)
  have tF:Hid (∀ y,Pl.aI (L.take (k+1)) y=if y.toList==x.key.toList then nn+1 else Pl.aI (L.take k) y):=fun y=>by rw[qs,hx];exact Pl.vI L k bd y
  have BA:Hid (Pl.fS l L k=(Pl.im l x.key x.ws&& !decide ((if Pl.gj l x.key then (10:Int) else 1)<((nn+1:Nat):Int)))):=by
   show _=_;unfold Pl.fS;rw[← hx,tF.out x.key];simp
  have fg:Hid (gM x.key M=(nn:Nat)):=by show _=_;rw[HG.out,qs]
  clear aO hg fe hx qs;obtain⟨bl,eY⟩:∃ bl,bl=wr.heap.size:=⟨_,rfl⟩
  obtain⟨wb,jM⟩:∃ wb,wb=wr.alloc (.cells #[.string x.key,.slice ax x.ws.length cx] 46):=⟨_,rfl⟩
  have zI:Hid (Bel wr wb):=by show Below _ _ _;rw[jM];exact ae zR _
  have Mx:Hid (aS wb bl [.string x.key,.slice ax x.ws.length cx]):=by show aS _ _ _;rw[jM,eY];exact aS.new wr #[.string x.key,.slice ax x.ws.length cx] _ _ rfl
  have tY:=uh (HK.out.later zI.out);have zkb:=tY.out.get 0 _ rfl;have zlb:=tY.out.lt;have RX:=uh eY;have zb0:=Mx.out.get 0 _ rfl;have zb1:=Mx.out.lt;have HC:=uh (IW l va vc x.key w wb (ah HW.out zI.out) HL.out nC.out);go_upto_region 5 with fail
  rw[← jM,← eY];clear jM eY x0 x1;go_wp2_with fail
  refine HC.out.mono ?_;rintro e w1 ⟨Px,bJ⟩;obtain⟨c0,a1,n1,c1,a3,n3,c3,kn,he,OX,Fm⟩:=xn Px OI.out;subst he;have tN:=uh OX;have Bj:=uh Fm;clear OX Fm Px HC;obtain⟨m,hm⟩:∃ m,m=Pl.gj l x.key:=⟨_,rfl⟩
  rw[← hm]at Bj BA ⊢;clear hm;obtain⟨br,Lb⟩:∃ br,br=w1.heap.size:=⟨_,rfl⟩
  obtain⟨w2,gI⟩:∃ w2,w2=w1.alloc (.cells #[.string c0,.slice a1 n1 c1,.bool m,.slice a3 n3 c3] 96):=⟨_,rfl⟩
  have Hx:Hid (Bel w1 w2):=by show Below _ _ _;rw[gI];exact ae zR _
  have PO:Hid (Bel wr w2):=ah zI.out (ah bJ Hx.out);have Rp:Hid (aS w2 br [.string c0,.slice a1 n1 c1,.bool m,.slice a3 n3 c3]):=by show aS _ _ _;rw[gI,Lb];exact aS.new w1 #[.string c0,.slice a1 n1 c1,.bool m,.slice a3 n3 c3] _ _ rfl
  have LV:=uh ((Mx.out.later bJ).later Hx.out);have tR:=uh ((tY.out.later bJ).later Hx.out);have dJ:w1.heap.size≤w2.heap.size:=Hx.out.size;have ga:wr.heap.size≤w1.heap.size:=Nat.le_trans zI.out.size bJ.size;have hz9:b0+1<wr.heap.size:=by
   by_cases q:b0+1<wr.heap.size
   ·exact q
   ·have:=HM.out;rw[Array.getElem?_eq_none (by omega)]at this;cases this
  have nO:Hid (w2.heap[b0+1]? =some (.map (M.map cmE).toArray cl)):=(PO.out.block _ hz9).trans HM.out;have HWB1:=uh bJ;have tW:=zo nO.out x.key;rw[fg.out]at tW;obtain⟨OK,qp⟩:=J0 nO.out x.key ((nn+1:Nat):Int);have Md:IntKind.i64.wrap ((nn:Int)+1)=(nn:Int)+1:=fI _ (by omega) (by omega);have y0:=LV.out.get 0 _ rfl;have yl:=LV.out.lt;obtain⟨wm,LL⟩:∃ wm,wm=ir w2 (b0+1) (.map ((gT x.key ((nn+1:Nat):Int) cl M).map cmE).toArray OK):=⟨_,rfl⟩
  rw[← LL,show ((nn+1:Nat):Int)=(nn:Int)+1 by omega]at qp;have qn:Hid (Marks (fun b=>b=b0+1) w2 wm):=by show Marks _ _ _;rw[LL];exact gl _ nO.out
  have HMM:Hid (wm.heap[b0+1]? =some (.map ((gT x.key ((nn+1:Nat):Int) cl M).map cmE).toArray OK)):=by show _=_;rw[LL];exact nX _ (by omega)
  go_upto_region 6 with fail
  rw[← gI,← Lb];clear gI LL zk zl zkb zlb zb0 zb1;have HBRZ:=uh Lb;have zbl:=RX.out;have OY:br≠b0+1:=by omega
  have N4:bl≠b0+1:=by omega
  have O5:b0≠b0+1:=by omega
  have HKM:=uh (tR.out.mks qn.out O5);have wj:=uh (LV.out.mks qn.out N4);have vW:=uh (Rp.out.mks qn.out OY);have I8:Hid (Bel w wm):=qn.out.below (fun b e=>by have:=kW.out;omega) (ah HW.out PO.out);have HB1M:Hid (Bel wr wm→True):=fun _=>trivial;have HMP:Hid (∀ X,Bel wm X→X.heap[b0+1]? =some (.map ((gT x.key ((nn+1:Nat):Int) cl M).map cmE).toArray OK)):=fun X hX=>(hX.block _ (by have:=qn.out.size;omega)).trans HMM.out;have SG:Hid (gM x.key (gT x.key ((nn+1:Nat):Int) cl M)=((nn+1:Nat):Int)):=by show _=_;rw[kI];simp
  have HGA:Hid (∀ y,gM y (gT x.key ((nn+1:Nat):Int) cl M)=(Pl.aI (L.take (k+1)) y:Nat)):=fun y=>by
   rw[kI,tF.out y,HG.out y];cases y.toList==x.key.toList<;>rfl
  clear zbl Lb OY N4 O5;go_upto_region 7 with fail
  obtain⟨mo,Jf⟩:∃ mo:Int,mo=if m then 10 else 1:=⟨_,rfl⟩
  rw[← Jf]at BA;have HMO:Hid (∀ X,Calls Tryz.prog 47 #[.agg #[.string c0,.slice a1 n1 c1,.bool m,.slice a3 n3 c3]] X fun e w'=>e=.returned (.int .i64 mo)∧Bel X w'):=fun X=>by rw[Jf];exact xH _ _ _ _ X
  clear Jf tW qp Md y0 yl;have Fl:Hid (Pl.fS l L k=false→R=false):=fun hq=>by rw[HR.out,gY,Pl.fv bd hq];rfl
  cases kn
  ·have tC:Hid (True→R=false):=fun _=>Fl.out (by rw[BA.out,tN.out rfl];rfl);refine RY.aH wm zR (VHA) (CZ) (by kernel_rfl) (by kernel_rfl) (by kernel_rfl) (by kernel_rfl) ?_ ?_
   ·intro ii o' ho a X hX hk hd;have zbl:=wj.out.later hX;have zbll:=zbl.lt;have zbr:=vW.out.later hX;have zbrl:=zbr.lt;match ii,ho with
    |0,rfl=>
     exact RY.n (RY.p (.bool false) (by simp[execOp,go_sem,RY.K hk 9 (.bool false)]))
    |1,rfl=>
     exact RY.n (RY.p (.bool true) (by simp[execOp,go_sem,RY.E hd 0 29]))
    |2,rfl=>
     exact RY.n (RY.p (.bool true) (by simp[execOp,go_sem,RY.E hd 1 30]))
    |3,rfl|4,rfl|5,rfl|6,rfl|7,rfl=>
     exact RY.off hd 2 31
    |8,rfl=>
     exact RY.n (RY.p (.bool true) (by simp[execOp,go_sem,RY.E hd 2 31,RY.E hd 7 36]))
    |9,rfl=>
     exact RY.n (RY.p (.bool true) (by simp[execOp,go_sem,RY.E hd 8 37]))
    |10,rfl|11,rfl|12,rfl|13,rfl|14,rfl|15,rfl|16,rfl=>
     exact RY.off hd 9 38
    |17,rfl=>
     exact RY.n (RY.p (.bool true) (by simp[execOp,go_sem,RY.E hd 9 38,RY.E hd 16 45]))
    |n+18,ho=>simp at ho
   intro X vs hX bg;have q46:vs 46=_:=bg 17 _ 46 rfl rfl;simp only[RY.aC,Act.put,List.setIfInBounds_toArray,List.set_cons_zero,List.set_cons_succ];rw[q46];generalize vs 29=s29,vs 30=s30,vs 31=sr,vs 32=qw,vs 33=qM,vs 34=qX,vs 35=lN,vs 36=lI,vs 37=lR,vs 38=nu,vs 39=nS,vs 40=s40,vs 41=s41,vs 42=s42,vs 43=s43,vs 44=s44,vs 45=s45;clear bg q46;go_wp2;go_ret;exact⟨Pl.aq (tC.out trivial).symm,ah I8.out hX⟩
  ·cases nL:Pl.im l x.key x.ws
   ·have wA:Hid (∀ X,Bel wm X→Calls Tryz.prog 46 #[.agg #[.string c0,.slice a1 n1 c1,.bool m,.slice a3 n3 c3],.slice ax x.ws.length cx] X fun e w'=>e=.returned (.bool false)∧Bel X w'):=fun X hX=>by
     have q:=Bj.out rfl X (ah I8.out hX) x.ws _ (B8.out.later (ah I8.out hX)) qa.out;rw[nL]at q;exact q
    have tC:Hid (True→R=false):=fun _=>Fl.out (by rw[BA.out,nL];rfl);clear nL;refine RY.aH wm zR (VHB bl n1 c1 n3 c3 cx ax a1 a3 m c0 x) (Dq _ _ _ _ _ _ _ _ _ _ _ _) (by kernel_rfl) (by kernel_rfl) (by kernel_rfl) (by kernel_rfl) ?_ ?_
    ·intro ii o' ho a X hX hk hd;have zbl:=wj.out.later hX;have zbll:=zbl.lt;have zbr:=vW.out.later hX;have zbrl:=zbr.lt;match ii,ho with
     |0,rfl=>
      exact RY.n (RY.p (.bool true) (by simp[execOp,go_sem,RY.K hk 9 (.bool true)]))
     |1,rfl=>
      exact RY.n (RY.p (.bool false) (by simp[execOp,go_sem,RY.E hd 0 29]))
     |2,rfl=>
      exact RY.n (RY.p (.bool false) (by simp[execOp,go_sem,RY.E hd 1 30]))
     |3,rfl=>
      have gd:=hd 2 _ 31 rfl rfl ⟨⟨2,.guard⟩,by simp,rfl,rfl⟩;have v8:a.eval (.tmp 8)=.pointer (some ⟨br,0,none⟩):=(hk 8 (by kernel_rfl)).trans rfl;exact Or.inl ⟨(RY.aj rfl rfl rfl gd).trans rfl,Or.inl ⟨_,X,ar 96 _ rfl br 0 v8 [.string c0,.slice a1 n1 c1,.bool m,.slice a3 n3 c3] _ zbr.at_ Tryz.underlying96 rfl (by kernel_rfl),zR,rfl⟩⟩
     |4,rfl=>
      exact RY.on hd 2 31 (RY.p (.pointer (some ⟨bl,1,none⟩)) (by simp[execOp,go_sem,RY.K hk 7 (.pointer (some ⟨bl,0,none⟩))]))
     |5,rfl=>
      have e33:=RY.E hd 4 33;have ycl_:=zbl.get 1 _ rfl;exact RY.on hd 2 31 (RY.p (.slice ax x.ws.length cx) (by simp[execOp,go_sem,e33,ycl_]))
     |6,rfl=>
      have e32:=RY.E hd 3 32;have e34:=RY.E hd 5 34;refine RY.on hd 2 31 (.inr ⟨46,#[.agg #[.string c0,.slice a1 n1 c1,.bool m,.slice a3 n3 c3],.slice ax x.ws.length cx],by simp[go_sem,e32,e34],(wA.out X hX).mono ?_⟩);rintro e W' ⟨rfl,hb⟩;exact⟨_,rfl,hb,rfl⟩
     |7,rfl=>
      exact RY.on hd 2 31 (RY.p (.bool true) (by simp[execOp,go_sem,RY.E hd 6 35]))
     |8,rfl=>
      exact RY.n (RY.p (.bool true) (by simp[execOp,go_sem,RY.E hd 2 31,RY.E hd 7 36]))
     |9,rfl=>
      exact RY.n (RY.p (.bool true) (by simp[execOp,go_sem,RY.E hd 8 37]))
     |10,rfl|11,rfl|12,rfl|13,rfl|14,rfl|15,rfl|16,rfl=>
      exact RY.off hd 9 38
     |17,rfl=>
      exact RY.n (RY.p (.bool true) (by simp[execOp,go_sem,RY.E hd 9 38,RY.E hd 16 45]))
     |n+18,ho=>simp at ho
    intro X vs hX bg;have q46:vs 46=_:=bg 17 _ 46 rfl rfl;simp only[RY.aC,Act.put,List.setIfInBounds_toArray,List.set_cons_zero,List.set_cons_succ];rw[q46];generalize vs 29=s29,vs 30=s30,vs 31=sr,vs 32=qw,vs 33=qM,vs 34=qX,vs 35=lN,vs 36=lI,vs 37=lR,vs 38=nu,vs 39=nS,vs 40=s40,vs 41=s41,vs 42=s42,vs 43=s43,vs 44=s44,vs 45=s45;clear bg q46;go_wp2;go_ret;exact⟨Pl.aq (tC.out trivial).symm,ah I8.out hX⟩
   ·have wA:Hid (∀ X,Bel wm X→Calls Tryz.prog 46 #[.agg #[.string c0,.slice a1 n1 c1,.bool m,.slice a3 n3 c3],.slice ax x.ws.length cx] X fun e w'=>e=.returned (.bool true)∧Bel X w'):=fun X hX=>by
     have q:=Bj.out rfl X (ah I8.out hX) x.ws _ (B8.out.later (ah I8.out hX)) qa.out;rw[nL]at q;exact q
    have tC:Hid (mo<((nn+1:Nat):Int)→R=false):=fun hq=>Fl.out (by rw[BA.out,nL,decide_eq_true hq];rfl);have EE:Hid (¬ mo<((nn+1:Nat):Int)→(List.range (k+1)).all (Pl.fS l L)=true):=fun hq=>Pl.eJ EI.out (by rw[BA.out,nL,decide_eq_false hq];rfl);clear nL;refine RY.aH wm zR (VHC b0 bl n1 c1 n3 c3 cx nn mo ax a1 a3 m c0 x) (DZ _ _ _ _ _ _ _ _ _ _ _ _ _ _ _) (by kernel_rfl) (by kernel_rfl) (by kernel_rfl) (by kernel_rfl) ?_ ?_
    ·intro ii o' ho a X hX hk hd;have zbl:=wj.out.later hX;have zbll:=zbl.lt;have zbr:=vW.out.later hX;have zbrl:=zbr.lt;match ii,ho with
     |0,rfl=>
      exact RY.n (RY.p (.bool true) (by simp[execOp,go_sem,RY.K hk 9 (.bool true)]))
     |1,rfl=>
      exact RY.n (RY.p (.bool false) (by simp[execOp,go_sem,RY.E hd 0 29]))
     |2,rfl=>
      exact RY.n (RY.p (.bool false) (by simp[execOp,go_sem,RY.E hd 1 30]))
     |3,rfl=>
      have gd:=hd 2 _ 31 rfl rfl ⟨⟨2,.guard⟩,by simp,rfl,rfl⟩;have v8:a.eval (.tmp 8)=.pointer (some ⟨br,0,none⟩):=(hk 8 (by kernel_rfl)).trans rfl;exact Or.inl ⟨(RY.aj rfl rfl rfl gd).trans rfl,Or.inl ⟨_,X,ar 96 _ rfl br 0 v8 [.string c0,.slice a1 n1 c1,.bool m,.slice a3 n3 c3] _ zbr.at_ Tryz.underlying96 rfl (by kernel_rfl),zR,rfl⟩⟩
     |4,rfl=>
      exact RY.on hd 2 31 (RY.p (.pointer (some ⟨bl,1,none⟩)) (by simp[execOp,go_sem,RY.K hk 7 (.pointer (some ⟨bl,0,none⟩))]))
     |5,rfl=>
      have e33:=RY.E hd 4 33;have ycl_:=zbl.get 1 _ rfl;exact RY.on hd 2 31 (RY.p (.slice ax x.ws.length cx) (by simp[execOp,go_sem,e33,ycl_]))
     |6,rfl=>
      have e32:=RY.E hd 3 32;have e34:=RY.E hd 5 34;refine RY.on hd 2 31 (.inr ⟨46,#[.agg #[.string c0,.slice a1 n1 c1,.bool m,.slice a3 n3 c3],.slice ax x.ws.length cx],by simp[go_sem,e32,e34],(wA.out X hX).mono ?_⟩);rintro e W' ⟨rfl,hb⟩;exact⟨_,rfl,hb,rfl⟩
     |7,rfl=>
      exact RY.on hd 2 31 (RY.p (.bool false) (by simp[execOp,go_sem,RY.E hd 6 35]))
     |8,rfl=>
      exact RY.n (RY.p (.bool false) (by simp[execOp,go_sem,RY.E hd 2 31,RY.E hd 7 36]))
     |9,rfl=>
      exact RY.n (RY.p (.bool false) (by simp[execOp,go_sem,RY.E hd 8 37]))
     |10,rfl=>
      exact RY.on hd 9 38 (RY.p (.map (some (b0+1))) (by simp[execOp,go_sem,RY.K hk 5 (.map (some (b0+1)))]))
     |11,rfl=>
      exact RY.on hd 9 38 (RY.p (.pointer (some ⟨bl,0,none⟩)) (by simp[execOp,go_sem,RY.K hk 7 (.pointer (some ⟨bl,0,none⟩))]))
     |12,rfl=>
      have e40:=RY.E hd 11 40;have ycl_:=zbl.get 0 _ rfl;exact RY.on hd 9 38 (RY.p (.string x.key) (by simp[execOp,go_sem,e40,ycl_]))
     |13,rfl=>
      have gd:=hd 9 _ 38 rfl rfl ⟨⟨9,.guard⟩,by simp,rfl,rfl⟩;have e39:=RY.E hd 10 39;have e41:=RY.E hd 12 41;have tW:=zo (HMP.out X hX) x.key;rw[SG.out]at tW;exact Or.inl ⟨(RY.aj rfl rfl rfl gd).trans rfl,Or.inl ⟨_,X,by simp[execOp,go_sem,e39,e41,tW],zR,rfl⟩⟩
     |14,rfl=>
      have gd:=hd 9 _ 38 rfl rfl ⟨⟨9,.guard⟩,by simp,rfl,rfl⟩;have v8:a.eval (.tmp 8)=.pointer (some ⟨br,0,none⟩):=(hk 8 (by kernel_rfl)).trans rfl;exact Or.inl ⟨(RY.aj rfl rfl rfl gd).trans rfl,Or.inl ⟨_,X,ar 96 _ rfl br 0 v8 [.string c0,.slice a1 n1 c1,.bool m,.slice a3 n3 c3] _ zbr.at_ Tryz.underlying96 rfl (by kernel_rfl),zR,rfl⟩⟩
     |15,rfl=>
      have e43:=RY.E hd 14 43;refine RY.on hd 9 38 (.inr ⟨47,#[.agg #[.string c0,.slice a1 n1 c1,.bool m,.slice a3 n3 c3]],by simp[go_sem,e43],(HMO.out X).mono ?_⟩);rintro e W' ⟨rfl,hb⟩;exact⟨_,rfl,hb,rfl⟩
     |16,rfl=>
      exact RY.on hd 9 38 (RY.p (.bool (decide (mo<((nn+1:Nat):Int)))) (by simp[execOp,go_sem,RY.E hd 13 42,RY.E hd 15 44]))
     |17,rfl=>
      exact RY.n (RY.p (.bool (decide (mo<((nn+1:Nat):Int)))) (by simp[execOp,go_sem,RY.E hd 9 38,RY.E hd 16 45]))
     |n+18,ho=>simp at ho
    intro X vs hX bg;have q46:vs 46=_:=bg 17 _ 46 rfl rfl;simp only[RY.aC,Act.put,List.setIfInBounds_toArray,List.set_cons_zero,List.set_cons_succ];rw[q46];generalize vs 29=s29,vs 30=s30,vs 31=sr,vs 32=qw,vs 33=qM,vs 34=qX,vs 35=lN,vs 36=lI,vs 37=lR,vs 38=nu,vs 39=nS,vs 40=s40,vs 41=s41,vs 42=s42,vs 43=s43,vs 44=s44,vs 45=s45;clear bg q46;by_cases Jf:mo<((nn+1:Nat):Int)
    ·have d0:decide (mo<((nn+1:Nat):Int))=true:=decide_eq_true Jf;rw[d0];clear d0;go_wp2;go_ret;exact⟨Pl.aq (tC.out Jf).symm,ah I8.out hX⟩
    ·have d0:decide (mo<((nn+1:Nat):Int))=false:=decide_eq_false Jf;rw[d0];clear d0;have kf:=uh (EE.out Jf);go_wp2;go_roundw
     case rel=>exact⟨k+1,_,_,by omega,by go_num,kf.out,HKM.out.later hX,HMP.out X hX,HGA.out,ah I8.out hX⟩
     case measure=>simp[intOf];omega
theorem rz:∀ l:List UInt8,Op.bytesLess l l=false
 |[]=>rfl
 |a::x=>by unfold Op.bytesLess;rw[rz x];simp
theorem jA {a b:ByteArray} (h:Pl.dD a b=true):a=b:=iN h
theorem rp (a:ByteArray):Pl.nH a a=false:=rz _
theorem iR (a b:ByteArray):bL a b<0↔Pl.nH a b=true:=by
 unfold bL;cases Pl.nH a b
 ·cases a.toList==b.toList<;>simp
 ·simp
theorem bp (a b:ByteArray):bL a b=0↔Pl.dD a b=true:=by
 unfold bL;cases h:Pl.dD a b
 ·have h':(a.toList==b.toList)=false:=h;rw[h'];cases Pl.nH a b<;>simp
 ·have:=jA h;subst this;rw[rp];simp
theorem dY:∀ A B:List ByteArray,cG A B<0↔Pl.cM A B=true
 |[],[]=>by unfold cG Pl.cM<;>simp
 |[],_::_=>by unfold cG Pl.cM<;>simp
 |_::_,[]=>by unfold cG Pl.cM<;>simp
 |a::x,b::y=>by
  unfold cG Pl.cM;cases h:Pl.dD a b
  ·have h0:¬ bL a b=0:=fun e=>by rw[(bp a b).1 e]at h;cases h
   rw[if_neg h0];simp only[Bool.false_eq_true,if_false];exact iR a b
  ·rw[if_pos ((bp a b).2 h)];simp only[if_true];exact dY x y
theorem pN (a b:Int):dz a b<0↔a<b:=by unfold dz;split<;>(try split)<;>simp_all
theorem cJ (a b:Int):dz a b=0↔a=b:=by unfold dz;split<;>(try split)<;>constructor<;>intro h<;>omega
theorem rU (x y:Pl.Bl):decide (dm x y<0)=Pl.ahead x y:=by
 unfold dm fC Pl.ahead;by_cases h:bL x.kind y.kind=0
 ·rw[if_pos h];have e:=(bp _ _).1 h;have e2:=jA e;rw[e,e2,rp,Bool.false_or,Bool.true_and];rw[Bool.eq_iff_iff,decide_eq_true_iff];exact iR _ _
 ·rw[if_neg h];have e:Pl.dD x.kind y.kind=false:=by
   cases q:Pl.dD x.kind y.kind
   ·rfl
   ·exact absurd ((bp _ _).2 q) h
  rw[e,Bool.false_and,Bool.or_false];rw[Bool.eq_iff_iff,decide_eq_true_iff];exact iR _ _
theorem rq (kind:ByteArray) (x y:Pl.Ln):decide (dp (Pl.ai kind) x y<0)=Pl.aL kind x y:=by
 have hu:dp (Pl.ai kind) x y=fC (dz (Pl.fP kind x.key) (Pl.fP kind y.key)) (cG x.ws y.ws):=rfl;rw[hu];unfold fC Pl.aL;by_cases h:dz (Pl.fP kind x.key) (Pl.fP kind y.key)=0
 ·rw[if_pos h];have e:=(cJ _ _).1 h;rw[e];have:decide (Pl.fP kind y.key<Pl.fP kind y.key)=false:=decide_eq_false (by omega);rw[this];simp only[Bool.false_or,BEq.rfl,Bool.true_and];rw[Bool.eq_iff_iff,decide_eq_true_iff];exact dY _ _
 ·rw[if_neg h];have e:(Pl.fP kind x.key==Pl.fP kind y.key)=false:=by
   rw[beq_eq_false_iff_ne];exact fun q=>h ((cJ _ _).2 q)
  rw[e,Bool.false_and,Bool.or_false];rw[Bool.eq_iff_iff,decide_eq_true_iff,decide_eq_true_iff];exact pN _ _
theorem rE (n:Nat) (f:Nat→Bool) (g:Nat→Nat→Bool):(List.range n).all (fun i=>f i&&(decide (i=0)||g (i - 1) i))=((List.range n).all f&&(List.range (n - 1)).all (fun i=>g i (i+1))):=by
 rw[Bool.eq_iff_iff];simp only[Bool.and_eq_true,List.all_eq_true,List.mem_range,Bool.or_eq_true,decide_eq_true_iff];constructor
 ·intro h;refine⟨fun i hi=>(h i hi).1,fun i hi=> ?_⟩;rcases(h (i+1) (by omega)).2 with e|e
  ·omega
  ·exact e
 ·rintro⟨h1,h2⟩ i hi;refine⟨h1 i hi, ?_⟩;cases i with
  |zero=>exact Or.inl rfl
  |succ i=>exact Or.inr (h2 i (by omega))
theorem KH (m:Bool) (n:Nat):(!decide ((if m then (10:Int) else 1)<(n:Nat)))=Pl.gy m n:=by
 unfold Pl.gy;cases m
 ·rw[Bool.eq_iff_iff];simp;omega
 ·rw[Bool.eq_iff_iff];simp;omega
theorem DN (kind:ByteArray) (L:List Pl.Ln):gY (Pl.ai kind) L=Pl.bU kind L:=by
 unfold gY Pl.bU rM;have e1:Pl.dj kind L=fun i=>(Pl.fS (Pl.ai kind) L i)&&(decide (i=0)||Pl.aL kind (L.getD (i - 1) Pl.aK) (L.getD i Pl.aK)):=by
  funext i
  unfold Pl.dj Pl.fS;rw[KH];have a1:Pl.bh kind (L.getD i Pl.aK).key (L.getD i Pl.aK).ws=Pl.im (Pl.ai kind) (L.getD i Pl.aK).key (L.getD i Pl.aK).ws:=rfl;have a2:Pl.fp kind (L.getD i Pl.aK).key=Pl.gj (Pl.ai kind) (L.getD i Pl.aK).key:=rfl;rw[a1,a2,Bool.and_assoc,Bool.and_assoc];congr 1;exact Bool.and_comm _ _
 rw[e1,rE L.length (Pl.fS (Pl.ai kind) L) (fun i j=>Pl.aL kind (L.getD i Pl.aK) (L.getD j Pl.aK))];congr 1;congr 1;funext i
 exact rq kind _ _
def nE (b:Pl.Bl):Bool:= !decide ((Pl.ai b.kind).length=0)&&Pl.aT b.name&&gY (Pl.ai b.kind) b.lines
theorem Dp (s:List Pl.Bl):Pl.bH s=(decide (s.length≤60)&&(na s&&(List.range s.length).all fun i=>nE (s.getD i Pl.aN))):=by
 unfold Pl.bH;congr 1;have e1:Pl.dk s=fun i=>nE (s.getD i Pl.aN)&&(decide (i=0)||Pl.ahead (s.getD (i - 1) Pl.aN) (s.getD i Pl.aN)):=by
  funext i
  unfold Pl.dk nE;rw[DN]
 rw[e1,rE s.length (fun i=>nE (s.getD i Pl.aN)) (fun i j=>Pl.ahead (s.getD i Pl.aN) (s.getD j Pl.aN)),Bool.and_comm];congr 1;unfold na;congr 1;funext i
 exact(rU _ _).symm
end Go.Proofs.YtopjjknojnfhmaaGreatDoor
