import Derived.Maps.Keyed
import Derived.Test.YtmgibmmpopoboaaERu
namespace Go.Proofs.Ytmgibmmpopoboaa
set_option maxRecDepth 8000
set_option maxHeartbeats 40000000
open Go.RowKit Go.Deep
theorem Lh {P:Program} {ops:Array Oper} {rest:List Oper} {o:Oper} {a:Act} {w:World} {Q:Exit→Act→World→Prop} (hg:o.guard=none) (k:Option Tmp) (hk:o.dst=k) (u:Value) (w':World) (hr:(execOp a.eval o).run P w=.ok (.value u) w')
  (h:wpList P ops Q rest (a.put k u) w'):wpList P ops Q (o::rest) a w:=by
 subst hk;refine wpList_plain hg fun K hK=> ?_;unfold Oper.wp;rw[hr,Oper.upon_value];exact hK _ _ h
theorem bL {P:Program} {ops:Array Oper} {rest:List Oper} {o:Oper} {a:Act} {w:World} {Q:Exit→Act→World→Prop} (hg:o.guard=none) (t e:TypeId) (n:Nat) (parts:Array (Nat×Operand)) (ho:o.op=.buildSlice t n parts) (N:Nat) (hN:w.heap.size=N) (k:Option Tmp) (hk:o.dst=k)
  (hu:P.underlying t=some (.slice e)) {z:Value} {m b:Nat} (hi:(P.info? e).map (fun i=>(i.zero,i.size,i.bytes))=some (some z,m,b)) (h1:¬ n*m>2 ^ 24) (h2:¬ n*m=0) (cells:Array Value)
  (hf:Instr.fill (fun i=>some (i*m,m)) ((Array.range (n*m)).map (z.cells[· % z.cells.size]!)) (parts.map fun (i,x)=>(i,a.eval x)).toList=some cells)
  (h:wpList P ops Q rest (a.put k (.slice (some ⟨N,0,none⟩) n n)) (w.alloc (.cells cells e))):wpList P ops Q (o::rest) a w:=by
 subst hN;subst hk;obtain⟨i0,eT,ee,gi,_⟩:=iZ hi;subst gi;exact wpList_buildSlice hg t e n parts ho cells i0 z hu eT ee h1 h2 hf h
theorem db {P:Program} {ops:Array Oper} {rest:List Oper} {o:Oper} {a:Act} {w:World} {Q:Exit→Act→World→Prop} (hg:o.guard=none) (t:TypeId) (parts:Array (Nat×Operand)) (ho:o.op=.build t parts) (k:Option Tmp) (hk:o.dst=k) (cells:Array Value) (hf:P.built t (parts.map fun (i,x)=>(i,a.eval x)).toList=some cells)
  (h:wpList P ops Q rest (a.put k (.agg cells)) w):wpList P ops Q (o::rest) a w:=by
 subst hk;refine wpList_build hg t parts ho (by rw[hf];rfl) ?_;rw[hf];exact h
theorem zU {P:Program} {ops:Array Oper} {rest:List Oper} {o:Oper} {a:Act} {w:World} {Q:Exit→Act→World→Prop} (hg:o.guard=none) (hd:o.dst=none) (w':World) (cg:(execOp a.eval o).run P w=.ok .skip w')
  (h:wpList P ops Q rest a w'):wpList P ops Q (o::rest) a w:=by
 refine wpList_plain hg fun K hK=> ?_;unfold Oper.wp;rw[cg];have e:a.put o.dst undef=a:=by rw[hd];rfl
 refine hK (a.put o.dst undef) _ ?_;rw[e];exact h
def gV (W:World) (mb:Nat) (o:Obj):World:={W with heap:=W.heap.setIfInBounds mb o}
theorem wG (W:World) (mb:Nat) (o:Obj):(gV W mb o).heap.size=W.heap.size:=by simp[gV]
theorem mM {W:World} {mb:Nat} (o:Obj) (h:mb<W.heap.size):(gV W mb o).heap[mb]? =some o:=by simp[gV,h]
theorem nU {W:World} {mb b:Nat} (o:Obj) (h:b≠mb):(gV W mb o).heap[b]? =W.heap[b]? :=by
 simp only[gV];rw[Array.getElem?_setIfInBounds,if_neg (fun e=>h e.symm)]
theorem fT {W:World} {mb:Nat} {es:Array MapEntry} {cl:Nat} (o:Obj) (h:W.heap[mb]? =some (.map es cl)):Marks (fun b=>b=mb) W (gV W mb o):=
 ⟨rfl,rfl,rfl,by rw[wG];exact zE,fun p _ hn=>nU o hn,fun b t m hO=>by
  obtain⟨cs,e,hm⟩:=hO;have iM:b≠mb:=fun e'=>by subst e';rw[h]at e;cases e
  exact⟨cs,(nU o iM).trans e,hm⟩⟩
theorem Try.rj:Try.prog.underlying 9=some .string:=by kernel_rfl
theorem Try.g6:Try.prog.underlying 61=some (.map 9 64):=by kernel_rfl
theorem Try.cq:Try.prog.underlying 37=some (.slice 3):=by kernel_rfl
theorem Try.cF:Try.prog.underlying 38=some (.slice 9):=by kernel_rfl
theorem dq (W:World) (em:Bool) (k:ByteArray):(Instr.checkKey em 10000 9 (.string k)).run Try.prog W=.ok () W:=by
 show (Instr.checkKey em (9999+1) 9 (.string k)).run Try.prog W=.ok () W;rw[Instr.checkKey];simp[Sem.run_bind,run_underlying Try.rj,Result.andThen]
theorem gS (W:World) (k:ByteArray) (es:List MapEntry) (r:Option (Nat×Value)) (h:Instr.findNow .string (.string k) es 0=some r):
  (Instr.findKey 9 (.string k) es).run Try.prog W=.ok r W:=by
 simp[Instr.findKey,run_underlying Try.rj,h,Result.andThen]
theorem nQ {W:World} {mb:Nat} {es:Array MapEntry} {cl:Nat} (hb:W.heap[mb]? =some (.map es cl)) (k:ByteArray) (v:Value) (hf:Instr.findNow .string (.string k) es.toList 0=some none):
  (Instr.mapUpdate 61 (.map (some mb)) (.string k) v).run Try.prog W=.ok () (gV W mb (.map (es.push ⟨.string k,v,cl⟩) (cl+1))):=by
 simp[Instr.mapUpdate,run_underlying Try.g6,MapKept.run_getObj_map hb,dq,gS _ k es.toList none hf,MapKept.run_setObj_map _ hb,Result.andThen,gV]
theorem vk (W:World):∀ xs:List Int,Rep W false (bP xs.length [.i]) [] (xs.map .i) (xs.map (.int .i64))
 |[]=> .nil
 |x::xs=>by rw[List.length_cons,cR];exact .i x (vk W xs)
theorem y7 (W:World):∀ xs:List ByteArray,Rep W false (bP xs.length [.s]) [] (txD xs) (xs.map .string)
 |[]=> .nil
 |x::xs=>by rw[List.length_cons,cR];exact .s x (y7 W xs)
theorem sN (W:World) (xs:List Int) (ca:Array Value) (h:ca.toList=xs.map (.int .i64)) (hl:xs.length≤100):Rep (W.alloc (.cells ca 3)) false [.row 3 [.i]] [W.heap.size] [.row xs.length (xs.map .i)] [.slice (some ⟨W.heap.size,0,none⟩) xs.length xs.length]:=by
 refine Rep.row 3 [.i] W.heap.size 0 xs.length xs.length 3 xs.length (xs.map (.int .i64)) (xs.map .i) [] (aL.alloc W ca 3 _ (by rw[← Array.length_toList,h,List.length_map])) (by simp) (by intro h;cases h) ⟨by unfold maxLen;omega,zE⟩ ?_ (vk _ xs) .nil;intro j v hv;rw[Nat.zero_add];refine(World.cell?_alloc_at _ _ _ _ rfl).trans ?_;rw[← h]at hv;simpa using hv
theorem CN (W:World) (xs:List ByteArray) (ca:Array Value) (h:ca.toList=xs.map .string) (hl:xs.length≤100):Rep (W.alloc (.cells ca 9)) false [.row 9 [.s]] [W.heap.size] [.row xs.length (txD xs)] [.slice (some ⟨W.heap.size,0,none⟩) xs.length xs.length]:=by
 refine Rep.row 9 [.s] W.heap.size 0 xs.length xs.length 9 xs.length (xs.map .string) (txD xs) [] (aL.alloc W ca 9 _ (by rw[← Array.length_toList,h,List.length_map])) (by simp) (by intro h;cases h) ⟨by unfold maxLen;omega,zE⟩ ?_ (y7 _ xs) .nil;intro j v hv;rw[Nat.zero_add];refine(World.cell?_alloc_at _ _ _ _ rfl).trans ?_;rw[← h]at hv;simpa using hv
theorem Acc.one {w W:World} {l:List Pl.Ru} {G:List Nat} {cs:List Value} (h:Acc w W l G cs) (r:Pl.Ru) (ca ct:Array Value) (h1:ca.toList=r.args.map (.int .i64)) (h3:ct.toList=r.dflt.map .string) (l1:r.args.length≤100) (l3:r.dflt.length≤100) (hm:r.many=false):
  ∃ F,Acc w ((W.alloc (.cells ca 3)).alloc (.cells ct 9)) (l++[r]) F (cs++[.string r.key,.slice (some ⟨W.heap.size,0,none⟩) r.args.length r.args.length,.bool false,.slice (some ⟨W.heap.size+1,0,none⟩) r.dflt.length r.dflt.length]):=by
 have k1:=(sN W r.args ca h1 l1).ae (ah zR (.cells ct 9));have k3:=CN (W.alloc (.cells ca 3)) r.dflt ct h3 l3;have hz:(W.alloc (.cells ca 3)).heap.size=W.heap.size+1:=by simp
 rw[hz]at k3;have k:=ed r.key k1 r.many k3;rw[hm]at k;refine⟨_,h.push (F:=[W.heap.size]++([W.heap.size+1]++[])) (r:=r) ?_ ?_ ?_ (ah (ah zR _) _)⟩
 ·unfold ruD;rw[hm];exact k
 ·simp
 ·intro b hb;simp at hb;omega
theorem Acc.many {w W:World} {l:List Pl.Ru} {G:List Nat} {cs:List Value} (h:Acc w W l G cs) (r:Pl.Ru) (ca:Array Value) (h1:ca.toList=r.args.map (.int .i64)) (h3:r.dflt=[]) (l1:r.args.length≤100) (hm:r.many=true):
  ∃ F,Acc w (W.alloc (.cells ca 3)) (l++[r]) F (cs++[.string r.key,.slice (some ⟨W.heap.size,0,none⟩) r.args.length r.args.length,.bool true,.slice none 0 0]):=by
 have k1:=sN W r.args ca h1 l1;have k:=ed r.key k1 r.many (Rep.emp (w:=W.alloc (.cells ca 3)) (tt:=false) 9 [.s] none rfl .nil);rw[hm]at k;refine⟨_,h.push (F:=[W.heap.size]++([]++[])) (r:=r) ?_ ?_ ?_ (ah zR _)⟩
 ·unfold ruD;rw[hm,h3];exact k
 ·simp
 ·intro b hb;simp at hb;omega
def Kp (w:World) (l:List Pl.Ru) (v:Value) (W:World):Prop:=∃ F,Rep W false [.row 40 aC] F [bQ l] [v]∧F.Nodup∧∀ b∈F,w.heap.size≤b
theorem Kp.ae {w W W':World} {l:List Pl.Ru} {v:Value} (h:Kp w l v W) (hb:Bel W W'):Kp w l v W':=by
 obtain⟨F,r,n,o⟩:=h;exact⟨F,r.ae hb,n,o⟩
theorem Kp.mono {w w0 W:World} {l:List Pl.Ru} {v:Value} (h:Kp w l v W) (h0:w0.heap.size≤w.heap.size):Kp w0 l v W:=by
 obtain⟨F,r,n,o⟩:=h;exact⟨F,r,n,fun b hb=>Nat.le_trans h0 (o b hb)⟩
theorem Kp.put {w W:World} {l:List Pl.Ru} {v:Value} {mb:Nat} {es:Array MapEntry} {cl:Nat} (h:Kp w l v W) (o:Obj) (hm:W.heap[mb]? =some (.map es cl)) (bN:mb<w.heap.size):Kp w l v (gV W mb o):=by
 obtain⟨F,r,n,q⟩:=h;exact⟨F,r.aY (fT o hm) (fun b hb e=>by have:=q b hb;omega),n,q⟩
theorem Kp.ans {w0 w W:World} {l:List Pl.Ru} {v:Value} (h:Kp w0 l v W) (h0:w.heap.size≤w0.heap.size) (hb:Bel w W):fe [.row 40 aC] (bQ l) w (.returned v) W:=by
 obtain⟨F,r,n,q⟩:=h;exact⟨v,F,rfl,r,n,fun b fE=>Nat.le_trans h0 (q b fE),hb⟩
theorem Kp.of {w:World} {l:List Pl.Ru} {v:Value} {W':World} (h:fe [.row 40 aC] (bQ l) w (.returned v) W'):Kp w l v W':=by
 obtain⟨v',F,e,r,n,q,_⟩:=h;injection e with e
 subst e;exact⟨F,r,n,q⟩
def E6 (w:World) (e:Ending) (w':World):Prop:=∃ mb w0 vt vb vs,e=.returned (.map (some mb))∧w'.heap[mb]? =some (.map #[⟨.string {data:=#[116,101,97,109]},.agg #[vt],0⟩,⟨.string {data:=#[98,101,114,116,104]},.agg #[vb],1⟩,⟨.string {data:=#[115,101,114,118,105,99,101]},.agg #[vs],2⟩] 3)∧w.heap.size≤w0.heap.size∧Kp w0 Pl.iY vt w'∧Kp w0 Pl.ix vb w'∧Kp w0 Pl.fM vs w'∧Bel w w'
theorem gy (w:World):Calls Try.prog 33 #[] w (E6 w):=by
 have HB:=uh (Below.refl w.heap.size w);go_enter Try.func33,Try.ntmps33
 go_upto_region 1 with fail
 refine wp_region_lit ?_;refine Lh rfl _ rfl (.map (some w.heap.size)) (w.alloc (.map #[] 0)) (by simp[execOp,go_sem,run_makeMap]) ?_;simp only[Act.put,List.setIfInBounds_toArray,List.set_cons_zero,List.set_cons_succ];obtain⟨w0,tz⟩:∃ x,x=w.alloc (.map #[] 0):=⟨_,rfl⟩
 rw[← tz];have HM:Hid (w0.heap[w.heap.size]? =some (.map #[] 0)):=by rw[tz];exact heap_alloc_new w _
 have HZ:Hid (w0.heap.size=w.heap.size+1):=by show _=_;rw[tz];simp
 replace HB:Hid (Bel w w0):=by rw[tz];exact ah zR _
 have HA:Hid (Acc w0 w0 [] [] []):=Acc.nil w0;have HQ:Hid (w0.heap.size≤w0.heap.size):=zE;clear tz;refine bL rfl 37 3 1 _ rfl w0.heap.size rfl _ rfl Try.cq Try.cf (by decide) (by decide) #[.int .i64 1] (by kernel_rfl) ?_;refine bL rfl 38 9 1 _ rfl (w0.heap.size+1) (by simp) _ rfl Try.cF Try.bI (by decide) (by decide) #[.string {data:=#[49,48,48]}] (by kernel_rfl) ?_;refine db rfl 40 _ rfl _ rfl #[.string {data:=#[99,111,112,105,101,115]},.slice (some ⟨w0.heap.size,0,none⟩) 1 1,.bool false,.slice (some ⟨w0.heap.size+1,0,none⟩) 1 1] (by kernel_rfl) ?_;simp only[Act.put,List.setIfInBounds_toArray,List.set_cons_zero,List.set_cons_succ];obtain⟨w1,vQ⟩:∃ x,x=(w0.alloc (.cells #[.int .i64 1] 3)).alloc (.cells #[.string {data:=#[49,48,48]}] 9):=⟨_,rfl⟩
 rw[← vQ];have HX:Hid (Bel w0 w1):=by rw[vQ];exact ah (ah zR _) _
 obtain⟨G,hG⟩:=HA.out.one ⟨{data:=#[99,111,112,105,101,115]},[1],false,[{data:=#[49,48,48]}]⟩ #[.int .i64 1] #[.string {data:=#[49,48,48]}] rfl rfl (by decide) (by decide) rfl;rw[← vQ]at hG;replace HA:=uh hG
 replace HB:=uh (ai HB.out HX.out)
 replace HM:=uh ((HX.out.block _ (Array.getElem?_eq_some_iff.1 HM.out).1).trans HM.out)
 clear hG HX vQ;refine bL rfl 37 3 1 _ rfl w1.heap.size rfl _ rfl Try.cq Try.cf (by decide) (by decide) #[.int .i64 1] (by kernel_rfl) ?_;refine bL rfl 38 9 1 _ rfl (w1.heap.size+1) (by simp) _ rfl Try.cF Try.bI (by decide) (by decide) #[.string {data:=#[49,48,48,48]}] (by kernel_rfl) ?_;refine db rfl 40 _ rfl _ rfl #[.string {data:=#[114,111,111,109]},.slice (some ⟨w1.heap.size,0,none⟩) 1 1,.bool false,.slice (some ⟨w1.heap.size+1,0,none⟩) 1 1] (by kernel_rfl) ?_;simp only[Act.put,List.setIfInBounds_toArray,List.set_cons_zero,List.set_cons_succ];obtain⟨w2,kX⟩:∃ x,x=(w1.alloc (.cells #[.int .i64 1] 3)).alloc (.cells #[.string {data:=#[49,48,48,48]}] 9):=⟨_,rfl⟩
 rw[← kX];have HX:Hid (Bel w1 w2):=by rw[kX];exact ah (ah zR _) _
 obtain⟨G,hG⟩:=HA.out.one ⟨{data:=#[114,111,111,109]},[1],false,[{data:=#[49,48,48,48]}]⟩ #[.int .i64 1] #[.string {data:=#[49,48,48,48]}] rfl rfl (by decide) (by decide) rfl;rw[← kX]at hG;replace HA:=uh hG
 replace HB:=uh (ai HB.out HX.out)
 replace HM:=uh ((HX.out.block _ (Array.getElem?_eq_some_iff.1 HM.out).1).trans HM.out)
 clear hG HX kX;have HD:=uh (Kp.of (HA.out.done #[.string {data:=#[99,111,112,105,101,115]},.slice (some ⟨w0.heap.size,0,none⟩) 1 1,.bool false,.slice (some ⟨w0.heap.size+1,0,none⟩) 1 1,.string {data:=#[114,111,111,109]},.slice (some ⟨w1.heap.size,0,none⟩) 1 1,.bool false,.slice (some ⟨w1.heap.size+1,0,none⟩) 1 1] rfl (by decide)));refine bL rfl 33 40 2 _ rfl w2.heap.size rfl _ rfl Try.eh Try.jq (by decide) (by decide) #[.string {data:=#[99,111,112,105,101,115]},.slice (some ⟨w0.heap.size,0,none⟩) 1 1,.bool false,.slice (some ⟨w0.heap.size+1,0,none⟩) 1 1,.string {data:=#[114,111,111,109]},.slice (some ⟨w1.heap.size,0,none⟩) 1 1,.bool false,.slice (some ⟨w1.heap.size+1,0,none⟩) 1 1] (by kernel_rfl) ?_;refine db rfl 64 _ rfl _ rfl #[.slice (some ⟨w2.heap.size,0,none⟩) 2 2] (by kernel_rfl) ?_;obtain⟨w3,fy⟩:∃ x,x=w2.alloc (.cells #[.string {data:=#[99,111,112,105,101,115]},.slice (some ⟨w0.heap.size,0,none⟩) 1 1,.bool false,.slice (some ⟨w0.heap.size+1,0,none⟩) 1 1,.string {data:=#[114,111,111,109]},.slice (some ⟨w1.heap.size,0,none⟩) 1 1,.bool false,.slice (some ⟨w1.heap.size+1,0,none⟩) 1 1] 40):=⟨_,rfl⟩
 rw[← fy];rw[← fy]at HD;have HX:Hid (Bel w2 w3):=by rw[fy];exact ah zR _
 replace HB:=uh (ai HB.out HX.out)
 replace HM:=uh ((HX.out.block _ (Array.getElem?_eq_some_iff.1 HM.out).1).trans HM.out)
 obtain⟨v0,BY⟩:∃ x,x=Value.slice (some ⟨w2.heap.size,0,none⟩) 2 2:=⟨_,rfl⟩
 replace HD:Hid (Kp w0 Pl.iY v0 w3):=by rw[BY];exact HD.out.mono HQ.out
 have eA:=HD;rw[← BY];simp only[Act.put,List.setIfInBounds_toArray,List.set_cons_zero,List.set_cons_succ];clear HX HD fy BY HA HQ;have hi:=nQ HM.out ({data:=#[116,101,97,109]}) (.agg #[v0]) rfl;refine zU rfl rfl (gV w3 w.heap.size (.map #[⟨.string {data:=#[116,101,97,109]},.agg #[v0],0⟩] 1)) (by simp[execOp,go_sem,hi]) ?_;obtain⟨w4,B4⟩:∃ x,x=gV w3 w.heap.size (.map #[⟨.string {data:=#[116,101,97,109]},.agg #[v0],0⟩] 1):=⟨_,rfl⟩
 rw[← B4];have HP:Hid (Marks (fun b=>b=w.heap.size) w3 w4):=by rw[B4];exact fT _ HM.out
 replace HB:=uh (HP.out.below (fun p e=>by omega) HB.out)
 replace eA:Hid (Kp w0 Pl.iY v0 w4):=by rw[B4];exact eA.out.put _ HM.out (by have:=HZ.out;omega)
 replace HM:Hid (w4.heap[w.heap.size]? =some (.map #[⟨.string {data:=#[116,101,97,109]},.agg #[v0],0⟩] 1)):=by rw[B4];exact mM _ (Array.getElem?_eq_some_iff.1 HM.out).1
 clear HP B4 hi;have HA:Hid (Acc w4 w4 [] [] []):=Acc.nil w4;have HQ:Hid (w0.heap.size≤w4.heap.size):=by have:=(Array.getElem?_eq_some_iff.1 HM.out).1;have:=HZ.out;show _≤_;omega
 refine bL rfl 37 3 1 _ rfl w4.heap.size rfl _ rfl Try.cq Try.cf (by decide) (by decide) #[.int .i64 3] (by kernel_rfl) ?_;refine bL rfl 38 9 1 _ rfl (w4.heap.size+1) (by simp) _ rfl Try.cF Try.bI (by decide) (by decide) #[.string {data:=#[122]}] (by kernel_rfl) ?_;refine db rfl 40 _ rfl _ rfl #[.string {data:=#[122,111,110,101]},.slice (some ⟨w4.heap.size,0,none⟩) 1 1,.bool false,.slice (some ⟨w4.heap.size+1,0,none⟩) 1 1] (by kernel_rfl) ?_;simp only[Act.put,List.setIfInBounds_toArray,List.set_cons_zero,List.set_cons_succ];obtain⟨w5,KC⟩:∃ x,x=(w4.alloc (.cells #[.int .i64 3] 3)).alloc (.cells #[.string {data:=#[122]}] 9):=⟨_,rfl⟩
 rw[← KC];have HX:Hid (Bel w4 w5):=by rw[KC];exact ah (ah zR _) _
 obtain⟨G,hG⟩:=HA.out.one ⟨{data:=#[122,111,110,101]},[3],false,[{data:=#[122]}]⟩ #[.int .i64 3] #[.string {data:=#[122]}] rfl rfl (by decide) (by decide) rfl;rw[← KC]at hG;replace HA:=uh hG
 replace HB:=uh (ai HB.out HX.out)
 replace HM:=uh ((HX.out.block _ (Array.getElem?_eq_some_iff.1 HM.out).1).trans HM.out)
 replace eA:=uh (eA.out.ae HX.out)
 clear hG HX KC;refine bL rfl 37 3 1 _ rfl w5.heap.size rfl _ rfl Try.cq Try.cf (by decide) (by decide) #[.int .i64 1] (by kernel_rfl) ?_;refine bL rfl 38 9 1 _ rfl (w5.heap.size+1) (by simp) _ rfl Try.cF Try.bI (by decide) (by decide) #[.string {data:=#[49,48,48]}] (by kernel_rfl) ?_;refine db rfl 40 _ rfl _ rfl #[.string {data:=#[114,111,111,109]},.slice (some ⟨w5.heap.size,0,none⟩) 1 1,.bool false,.slice (some ⟨w5.heap.size+1,0,none⟩) 1 1] (by kernel_rfl) ?_;simp only[Act.put,List.setIfInBounds_toArray,List.set_cons_zero,List.set_cons_succ];obtain⟨w6,vX⟩:∃ x,x=(w5.alloc (.cells #[.int .i64 1] 3)).alloc (.cells #[.string {data:=#[49,48,48]}] 9):=⟨_,rfl⟩
 rw[← vX];have HX:Hid (Bel w5 w6):=by rw[vX];exact ah (ah zR _) _
 obtain⟨G,hG⟩:=HA.out.one ⟨{data:=#[114,111,111,109]},[1],false,[{data:=#[49,48,48]}]⟩ #[.int .i64 1] #[.string {data:=#[49,48,48]}] rfl rfl (by decide) (by decide) rfl;rw[← vX]at hG;replace HA:=uh hG
 replace HB:=uh (ai HB.out HX.out)
 replace HM:=uh ((HX.out.block _ (Array.getElem?_eq_some_iff.1 HM.out).1).trans HM.out)
 replace eA:=uh (eA.out.ae HX.out)
 clear hG HX vX;refine bL rfl 37 3 1 _ rfl w6.heap.size rfl _ rfl Try.cq Try.cf (by decide) (by decide) #[.int .i64 1] (by kernel_rfl) ?_;refine bL rfl 38 9 1 _ rfl (w6.heap.size+1) (by simp) _ rfl Try.cF Try.bI (by decide) (by decide) #[.string {data:=#[49,48,48]}] (by kernel_rfl) ?_;refine db rfl 40 _ rfl _ rfl #[.string {data:=#[104,111,108,100]},.slice (some ⟨w6.heap.size,0,none⟩) 1 1,.bool false,.slice (some ⟨w6.heap.size+1,0,none⟩) 1 1] (by kernel_rfl) ?_;simp only[Act.put,List.setIfInBounds_toArray,List.set_cons_zero,List.set_cons_succ];obtain⟨w7,AS⟩:∃ x,x=(w6.alloc (.cells #[.int .i64 1] 3)).alloc (.cells #[.string {data:=#[49,48,48]}] 9):=⟨_,rfl⟩
 rw[← AS];have HX:Hid (Bel w6 w7):=by rw[AS];exact ah (ah zR _) _
 obtain⟨G,hG⟩:=HA.out.one ⟨{data:=#[104,111,108,100]},[1],false,[{data:=#[49,48,48]}]⟩ #[.int .i64 1] #[.string {data:=#[49,48,48]}] rfl rfl (by decide) (by decide) rfl;rw[← AS]at hG;replace HA:=uh hG
 replace HB:=uh (ai HB.out HX.out)
 replace HM:=uh ((HX.out.block _ (Array.getElem?_eq_some_iff.1 HM.out).1).trans HM.out)
 replace eA:=uh (eA.out.ae HX.out)
 clear hG HX AS;refine bL rfl 37 3 1 _ rfl w7.heap.size rfl _ rfl Try.cq Try.cf (by decide) (by decide) #[.int .i64 3] (by kernel_rfl) ?_;refine db rfl 40 _ rfl _ rfl #[.string {data:=#[109,97,114,107]},.slice (some ⟨w7.heap.size,0,none⟩) 1 1,.bool true,.slice none 0 0] (by kernel_rfl) ?_;simp only[Act.put,List.setIfInBounds_toArray,List.set_cons_zero,List.set_cons_succ];obtain⟨w8,KD⟩:∃ x,x=w7.alloc (.cells #[.int .i64 3] 3):=⟨_,rfl⟩
 rw[← KD];have HX:Hid (Bel w7 w8):=by rw[KD];exact ah zR _
 obtain⟨G,hG⟩:=HA.out.many ⟨{data:=#[109,97,114,107]},[3],true,[]⟩ #[.int .i64 3] rfl rfl (by decide) rfl;rw[← KD]at hG;replace HA:=uh hG
 replace HB:=uh (ai HB.out HX.out)
 replace HM:=uh ((HX.out.block _ (Array.getElem?_eq_some_iff.1 HM.out).1).trans HM.out)
 replace eA:=uh (eA.out.ae HX.out)
 clear hG HX KD;have HD:=uh (Kp.of (HA.out.done #[.string {data:=#[122,111,110,101]},.slice (some ⟨w4.heap.size,0,none⟩) 1 1,.bool false,.slice (some ⟨w4.heap.size+1,0,none⟩) 1 1,.string {data:=#[114,111,111,109]},.slice (some ⟨w5.heap.size,0,none⟩) 1 1,.bool false,.slice (some ⟨w5.heap.size+1,0,none⟩) 1 1,.string {data:=#[104,111,108,100]},.slice (some ⟨w6.heap.size,0,none⟩) 1 1,.bool false,.slice (some ⟨w6.heap.size+1,0,none⟩) 1 1,.string {data:=#[109,97,114,107]},.slice (some ⟨w7.heap.size,0,none⟩) 1 1,.bool true,.slice none 0 0] rfl (by decide)));refine bL rfl 33 40 4 _ rfl w8.heap.size rfl _ rfl Try.eh Try.jq (by decide) (by decide) #[.string {data:=#[122,111,110,101]},.slice (some ⟨w4.heap.size,0,none⟩) 1 1,.bool false,.slice (some ⟨w4.heap.size+1,0,none⟩) 1 1,.string {data:=#[114,111,111,109]},.slice (some ⟨w5.heap.size,0,none⟩) 1 1,.bool false,.slice (some ⟨w5.heap.size+1,0,none⟩) 1 1,.string {data:=#[104,111,108,100]},.slice (some ⟨w6.heap.size,0,none⟩) 1 1,.bool false,.slice (some ⟨w6.heap.size+1,0,none⟩) 1 1,.string {data:=#[109,97,114,107]},.slice (some ⟨w7.heap.size,0,none⟩) 1 1,.bool true,.slice none 0 0] (by kernel_rfl) ?_;refine db rfl 64 _ rfl _ rfl #[.slice (some ⟨w8.heap.size,0,none⟩) 4 4] (by kernel_rfl) ?_;obtain⟨w9,yv⟩:∃ x,x=w8.alloc (.cells #[.string {data:=#[122,111,110,101]},.slice (some ⟨w4.heap.size,0,none⟩) 1 1,.bool false,.slice (some ⟨w4.heap.size+1,0,none⟩) 1 1,.string {data:=#[114,111,111,109]},.slice (some ⟨w5.heap.size,0,none⟩) 1 1,.bool false,.slice (some ⟨w5.heap.size+1,0,none⟩) 1 1,.string {data:=#[104,111,108,100]},.slice (some ⟨w6.heap.size,0,none⟩) 1 1,.bool false,.slice (some ⟨w6.heap.size+1,0,none⟩) 1 1,.string {data:=#[109,97,114,107]},.slice (some ⟨w7.heap.size,0,none⟩) 1 1,.bool true,.slice none 0 0] 40):=⟨_,rfl⟩
 rw[← yv];rw[← yv]at HD;have HX:Hid (Bel w8 w9):=by rw[yv];exact ah zR _
 replace HB:=uh (ai HB.out HX.out)
 replace HM:=uh ((HX.out.block _ (Array.getElem?_eq_some_iff.1 HM.out).1).trans HM.out)
 replace eA:=uh (eA.out.ae HX.out)
 obtain⟨v1,jK⟩:∃ x,x=Value.slice (some ⟨w8.heap.size,0,none⟩) 4 4:=⟨_,rfl⟩
 replace HD:Hid (Kp w0 Pl.ix v1 w9):=by rw[jK];exact HD.out.mono HQ.out
 have iH:=HD;rw[← jK];simp only[Act.put,List.setIfInBounds_toArray,List.set_cons_zero,List.set_cons_succ];clear HX HD yv jK HA HQ;have hi:=nQ HM.out ({data:=#[98,101,114,116,104]}) (.agg #[v1]) rfl;refine zU rfl rfl (gV w9 w.heap.size (.map #[⟨.string {data:=#[116,101,97,109]},.agg #[v0],0⟩,⟨.string {data:=#[98,101,114,116,104]},.agg #[v1],1⟩] 2)) (by simp[execOp,go_sem,hi]) ?_;obtain⟨lh,om⟩:∃ x,x=gV w9 w.heap.size (.map #[⟨.string {data:=#[116,101,97,109]},.agg #[v0],0⟩,⟨.string {data:=#[98,101,114,116,104]},.agg #[v1],1⟩] 2):=⟨_,rfl⟩
 rw[← om];have HP:Hid (Marks (fun b=>b=w.heap.size) w9 lh):=by rw[om];exact fT _ HM.out
 replace HB:=uh (HP.out.below (fun p e=>by omega) HB.out)
 replace eA:Hid (Kp w0 Pl.iY v0 lh):=by rw[om];exact eA.out.put _ HM.out (by have:=HZ.out;omega)
 replace iH:Hid (Kp w0 Pl.ix v1 lh):=by rw[om];exact iH.out.put _ HM.out (by have:=HZ.out;omega)
 replace HM:Hid (lh.heap[w.heap.size]? =some (.map #[⟨.string {data:=#[116,101,97,109]},.agg #[v0],0⟩,⟨.string {data:=#[98,101,114,116,104]},.agg #[v1],1⟩] 2)):=by rw[om];exact mM _ (Array.getElem?_eq_some_iff.1 HM.out).1
 clear HP om hi;have HA:Hid (Acc lh lh [] [] []):=Acc.nil lh;have HQ:Hid (w0.heap.size≤lh.heap.size):=by have:=(Array.getElem?_eq_some_iff.1 HM.out).1;have:=HZ.out;show _≤_;omega
 refine bL rfl 37 3 1 _ rfl lh.heap.size rfl _ rfl Try.cq Try.cf (by decide) (by decide) #[.int .i64 3] (by kernel_rfl) ?_;refine bL rfl 38 9 1 _ rfl (lh.heap.size+1) (by simp) _ rfl Try.cF Try.bI (by decide) (by decide) #[.string {data:=#[99,111,114,101]}] (by kernel_rfl) ?_;refine db rfl 40 _ rfl _ rfl #[.string {data:=#[116,101,97,109]},.slice (some ⟨lh.heap.size,0,none⟩) 1 1,.bool false,.slice (some ⟨lh.heap.size+1,0,none⟩) 1 1] (by kernel_rfl) ?_;simp only[Act.put,List.setIfInBounds_toArray,List.set_cons_zero,List.set_cons_succ];obtain⟨tG,Dj⟩:∃ x,x=(lh.alloc (.cells #[.int .i64 3] 3)).alloc (.cells #[.string {data:=#[99,111,114,101]}] 9):=⟨_,rfl⟩
 rw[← Dj];have HX:Hid (Bel lh tG):=by rw[Dj];exact ah (ah zR _) _
 obtain⟨G,hG⟩:=HA.out.one ⟨{data:=#[116,101,97,109]},[3],false,[{data:=#[99,111,114,101]}]⟩ #[.int .i64 3] #[.string {data:=#[99,111,114,101]}] rfl rfl (by decide) (by decide) rfl;rw[← Dj]at hG;replace HA:=uh hG
 replace HB:=uh (ai HB.out HX.out)
 replace HM:=uh ((HX.out.block _ (Array.getElem?_eq_some_iff.1 HM.out).1).trans HM.out)
 replace eA:=uh (eA.out.ae HX.out)
 replace iH:=uh (iH.out.ae HX.out)
 clear hG HX Dj;refine bL rfl 37 3 1 _ rfl tG.heap.size rfl _ rfl Try.cq Try.cf (by decide) (by decide) #[.int .i64 1] (by kernel_rfl) ?_;refine bL rfl 38 9 1 _ rfl (tG.heap.size+1) (by simp) _ rfl Try.cF Try.bI (by decide) (by decide) #[.string {data:=#[49]}] (by kernel_rfl) ?_;refine db rfl 40 _ rfl _ rfl #[.string {data:=#[105,109,97,103,101]},.slice (some ⟨tG.heap.size,0,none⟩) 1 1,.bool false,.slice (some ⟨tG.heap.size+1,0,none⟩) 1 1] (by kernel_rfl) ?_;simp only[Act.put,List.setIfInBounds_toArray,List.set_cons_zero,List.set_cons_succ];obtain⟨vO,Dl⟩:∃ x,x=(tG.alloc (.cells #[.int .i64 1] 3)).alloc (.cells #[.string {data:=#[49]}] 9):=⟨_,rfl⟩
 rw[← Dl];have HX:Hid (Bel tG vO):=by rw[Dl];exact ah (ah zR _) _
 obtain⟨G,hG⟩:=HA.out.one ⟨{data:=#[105,109,97,103,101]},[1],false,[{data:=#[49]}]⟩ #[.int .i64 1] #[.string {data:=#[49]}] rfl rfl (by decide) (by decide) rfl;rw[← Dl]at hG;replace HA:=uh hG
 replace HB:=uh (ai HB.out HX.out)
 replace HM:=uh ((HX.out.block _ (Array.getElem?_eq_some_iff.1 HM.out).1).trans HM.out)
 replace eA:=uh (eA.out.ae HX.out)
 replace iH:=uh (iH.out.ae HX.out)
 clear hG HX Dl;refine bL rfl 37 3 1 _ rfl vO.heap.size rfl _ rfl Try.cq Try.cf (by decide) (by decide) #[.int .i64 1] (by kernel_rfl) ?_;refine bL rfl 38 9 1 _ rfl (vO.heap.size+1) (by simp) _ rfl Try.cF Try.bI (by decide) (by decide) #[.string {data:=#[49]}] (by kernel_rfl) ?_;refine db rfl 40 _ rfl _ rfl #[.string {data:=#[119,97,110,116]},.slice (some ⟨vO.heap.size,0,none⟩) 1 1,.bool false,.slice (some ⟨vO.heap.size+1,0,none⟩) 1 1] (by kernel_rfl) ?_;simp only[Act.put,List.setIfInBounds_toArray,List.set_cons_zero,List.set_cons_succ];obtain⟨tE,DW⟩:∃ x,x=(vO.alloc (.cells #[.int .i64 1] 3)).alloc (.cells #[.string {data:=#[49]}] 9):=⟨_,rfl⟩
 rw[← DW];have HX:Hid (Bel vO tE):=by rw[DW];exact ah (ah zR _) _
 obtain⟨G,hG⟩:=HA.out.one ⟨{data:=#[119,97,110,116]},[1],false,[{data:=#[49]}]⟩ #[.int .i64 1] #[.string {data:=#[49]}] rfl rfl (by decide) (by decide) rfl;rw[← DW]at hG;replace HA:=uh hG
 replace HB:=uh (ai HB.out HX.out)
 replace HM:=uh ((HX.out.block _ (Array.getElem?_eq_some_iff.1 HM.out).1).trans HM.out)
 replace eA:=uh (eA.out.ae HX.out)
 replace iH:=uh (iH.out.ae HX.out)
 clear hG HX DW;refine bL rfl 37 3 1 _ rfl tE.heap.size rfl _ rfl Try.cq Try.cf (by decide) (by decide) #[.int .i64 1] (by kernel_rfl) ?_;refine bL rfl 38 9 1 _ rfl (tE.heap.size+1) (by simp) _ rfl Try.cF Try.bI (by decide) (by decide) #[.string {data:=#[49]}] (by kernel_rfl) ?_;refine db rfl 40 _ rfl _ rfl #[.string {data:=#[100,111,119,110]},.slice (some ⟨tE.heap.size,0,none⟩) 1 1,.bool false,.slice (some ⟨tE.heap.size+1,0,none⟩) 1 1] (by kernel_rfl) ?_;simp only[Act.put,List.setIfInBounds_toArray,List.set_cons_zero,List.set_cons_succ];obtain⟨uV,D0⟩:∃ x,x=(tE.alloc (.cells #[.int .i64 1] 3)).alloc (.cells #[.string {data:=#[49]}] 9):=⟨_,rfl⟩
 rw[← D0];have HX:Hid (Bel tE uV):=by rw[D0];exact ah (ah zR _) _
 obtain⟨G,hG⟩:=HA.out.one ⟨{data:=#[100,111,119,110]},[1],false,[{data:=#[49]}]⟩ #[.int .i64 1] #[.string {data:=#[49]}] rfl rfl (by decide) (by decide) rfl;rw[← D0]at hG;replace HA:=uh hG
 replace HB:=uh (ai HB.out HX.out)
 replace HM:=uh ((HX.out.block _ (Array.getElem?_eq_some_iff.1 HM.out).1).trans HM.out)
 replace eA:=uh (eA.out.ae HX.out)
 replace iH:=uh (iH.out.ae HX.out)
 clear hG HX D0;refine bL rfl 37 3 1 _ rfl uV.heap.size rfl _ rfl Try.cq Try.cf (by decide) (by decide) #[.int .i64 1] (by kernel_rfl) ?_;refine bL rfl 38 9 1 _ rfl (uV.heap.size+1) (by simp) _ rfl Try.cF Try.bI (by decide) (by decide) #[.string {data:=#[48]}] (by kernel_rfl) ?_;refine db rfl 40 _ rfl _ rfl #[.string {data:=#[111,118,101,114]},.slice (some ⟨uV.heap.size,0,none⟩) 1 1,.bool false,.slice (some ⟨uV.heap.size+1,0,none⟩) 1 1] (by kernel_rfl) ?_;simp only[Act.put,List.setIfInBounds_toArray,List.set_cons_zero,List.set_cons_succ];obtain⟨tD,Dz⟩:∃ x,x=(uV.alloc (.cells #[.int .i64 1] 3)).alloc (.cells #[.string {data:=#[48]}] 9):=⟨_,rfl⟩
 rw[← Dz];have HX:Hid (Bel uV tD):=by rw[Dz];exact ah (ah zR _) _
 obtain⟨G,hG⟩:=HA.out.one ⟨{data:=#[111,118,101,114]},[1],false,[{data:=#[48]}]⟩ #[.int .i64 1] #[.string {data:=#[48]}] rfl rfl (by decide) (by decide) rfl;rw[← Dz]at hG;replace HA:=uh hG
 replace HB:=uh (ai HB.out HX.out)
 replace HM:=uh ((HX.out.block _ (Array.getElem?_eq_some_iff.1 HM.out).1).trans HM.out)
 replace eA:=uh (eA.out.ae HX.out)
 replace iH:=uh (iH.out.ae HX.out)
 clear hG HX Dz;refine bL rfl 37 3 2 _ rfl tD.heap.size rfl _ rfl Try.cq Try.cf (by decide) (by decide) #[.int .i64 1,.int .i64 1] (by kernel_rfl) ?_;refine bL rfl 38 9 2 _ rfl (tD.heap.size+1) (by simp) _ rfl Try.cF Try.bI (by decide) (by decide) #[.string {data:=#[49]},.string {data:=#[49]}] (by kernel_rfl) ?_;refine db rfl 40 _ rfl _ rfl #[.string {data:=#[110,101,101,100,115]},.slice (some ⟨tD.heap.size,0,none⟩) 2 2,.bool false,.slice (some ⟨tD.heap.size+1,0,none⟩) 2 2] (by kernel_rfl) ?_;simp only[Act.put,List.setIfInBounds_toArray,List.set_cons_zero,List.set_cons_succ];obtain⟨xO,Dw⟩:∃ x,x=(tD.alloc (.cells #[.int .i64 1,.int .i64 1] 3)).alloc (.cells #[.string {data:=#[49]},.string {data:=#[49]}] 9):=⟨_,rfl⟩
 rw[← Dw];have HX:Hid (Bel tD xO):=by rw[Dw];exact ah (ah zR _) _
 obtain⟨G,hG⟩:=HA.out.one ⟨{data:=#[110,101,101,100,115]},[1,1],false,[{data:=#[49]},{data:=#[49]}]⟩ #[.int .i64 1,.int .i64 1] #[.string {data:=#[49]},.string {data:=#[49]}] rfl rfl (by decide) (by decide) rfl;rw[← Dw]at hG;replace HA:=uh hG
 replace HB:=uh (ai HB.out HX.out)
 replace HM:=uh ((HX.out.block _ (Array.getElem?_eq_some_iff.1 HM.out).1).trans HM.out)
 replace eA:=uh (eA.out.ae HX.out)
 replace iH:=uh (iH.out.ae HX.out)
 clear hG HX Dw;refine bL rfl 37 3 1 _ rfl xO.heap.size rfl _ rfl Try.cq Try.cf (by decide) (by decide) #[.int .i64 4] (by kernel_rfl) ?_;refine bL rfl 38 9 1 _ rfl (xO.heap.size+1) (by simp) _ rfl Try.cF Try.bI (by decide) (by decide) #[.string {data:=#[]}] (by kernel_rfl) ?_;refine db rfl 40 _ rfl _ rfl #[.string {data:=#[119,104,101,114,101]},.slice (some ⟨xO.heap.size,0,none⟩) 1 1,.bool false,.slice (some ⟨xO.heap.size+1,0,none⟩) 1 1] (by kernel_rfl) ?_;simp only[Act.put,List.setIfInBounds_toArray,List.set_cons_zero,List.set_cons_succ];obtain⟨Ez,DT⟩:∃ x,x=(xO.alloc (.cells #[.int .i64 4] 3)).alloc (.cells #[.string {data:=#[]}] 9):=⟨_,rfl⟩
 rw[← DT];have HX:Hid (Bel xO Ez):=by rw[DT];exact ah (ah zR _) _
 obtain⟨G,hG⟩:=HA.out.one ⟨{data:=#[119,104,101,114,101]},[4],false,[{data:=#[]}]⟩ #[.int .i64 4] #[.string {data:=#[]}] rfl rfl (by decide) (by decide) rfl;rw[← DT]at hG;replace HA:=uh hG
 replace HB:=uh (ai HB.out HX.out)
 replace HM:=uh ((HX.out.block _ (Array.getElem?_eq_some_iff.1 HM.out).1).trans HM.out)
 replace eA:=uh (eA.out.ae HX.out)
 replace iH:=uh (iH.out.ae HX.out)
 clear hG HX DT;refine bL rfl 37 3 2 _ rfl Ez.heap.size rfl _ rfl Try.cq Try.cf (by decide) (by decide) #[.int .i64 4,.int .i64 2] (by kernel_rfl) ?_;refine db rfl 40 _ rfl _ rfl #[.string {data:=#[108,105,107,101]},.slice (some ⟨Ez.heap.size,0,none⟩) 2 2,.bool true,.slice none 0 0] (by kernel_rfl) ?_;simp only[Act.put,List.setIfInBounds_toArray,List.set_cons_zero,List.set_cons_succ];obtain⟨xU,DK⟩:∃ x,x=Ez.alloc (.cells #[.int .i64 4,.int .i64 2] 3):=⟨_,rfl⟩
 rw[← DK];have HX:Hid (Bel Ez xU):=by rw[DK];exact ah zR _
 obtain⟨G,hG⟩:=HA.out.many ⟨{data:=#[108,105,107,101]},[4,2],true,[]⟩ #[.int .i64 4,.int .i64 2] rfl rfl (by decide) rfl;rw[← DK]at hG;replace HA:=uh hG
 replace HB:=uh (ai HB.out HX.out)
 replace HM:=uh ((HX.out.block _ (Array.getElem?_eq_some_iff.1 HM.out).1).trans HM.out)
 replace eA:=uh (eA.out.ae HX.out)
 replace iH:=uh (iH.out.ae HX.out)
 clear hG HX DK;refine bL rfl 37 3 1 _ rfl xU.heap.size rfl _ rfl Try.cq Try.cf (by decide) (by decide) #[.int .i64 6] (by kernel_rfl) ?_;refine bL rfl 38 9 1 _ rfl (xU.heap.size+1) (by simp) _ rfl Try.cF Try.bI (by decide) (by decide) #[.string {data:=#[110,111,110,101]}] (by kernel_rfl) ?_;refine db rfl 40 _ rfl _ rfl #[.string {data:=#[97,112,97,114,116]},.slice (some ⟨xU.heap.size,0,none⟩) 1 1,.bool false,.slice (some ⟨xU.heap.size+1,0,none⟩) 1 1] (by kernel_rfl) ?_;simp only[Act.put,List.setIfInBounds_toArray,List.set_cons_zero,List.set_cons_succ];obtain⟨xT,De⟩:∃ x,x=(xU.alloc (.cells #[.int .i64 6] 3)).alloc (.cells #[.string {data:=#[110,111,110,101]}] 9):=⟨_,rfl⟩
 rw[← De];have HX:Hid (Bel xU xT):=by rw[De];exact ah (ah zR _) _
 obtain⟨G,hG⟩:=HA.out.one ⟨{data:=#[97,112,97,114,116]},[6],false,[{data:=#[110,111,110,101]}]⟩ #[.int .i64 6] #[.string {data:=#[110,111,110,101]}] rfl rfl (by decide) (by decide) rfl;rw[← De]at hG;replace HA:=uh hG
 replace HB:=uh (ai HB.out HX.out)
 replace HM:=uh ((HX.out.block _ (Array.getElem?_eq_some_iff.1 HM.out).1).trans HM.out)
 replace eA:=uh (eA.out.ae HX.out)
 replace iH:=uh (iH.out.ae HX.out)
 clear hG HX De;refine bL rfl 37 3 1 _ rfl xT.heap.size rfl _ rfl Try.cq Try.cf (by decide) (by decide) #[.int .i64 5] (by kernel_rfl) ?_;refine bL rfl 38 9 1 _ rfl (xT.heap.size+1) (by simp) _ rfl Try.cF Try.bI (by decide) (by decide) #[.string {data:=#[110,111]}] (by kernel_rfl) ?_;refine db rfl 40 _ rfl _ rfl #[.string {data:=#[118,111,108,117,109,101]},.slice (some ⟨xT.heap.size,0,none⟩) 1 1,.bool false,.slice (some ⟨xT.heap.size+1,0,none⟩) 1 1] (by kernel_rfl) ?_;simp only[Act.put,List.setIfInBounds_toArray,List.set_cons_zero,List.set_cons_succ];obtain⟨xH,Dx⟩:∃ x,x=(xT.alloc (.cells #[.int .i64 5] 3)).alloc (.cells #[.string {data:=#[110,111]}] 9):=⟨_,rfl⟩
 rw[← Dx];have HX:Hid (Bel xT xH):=by rw[Dx];exact ah (ah zR _) _
 obtain⟨G,hG⟩:=HA.out.one ⟨{data:=#[118,111,108,117,109,101]},[5],false,[{data:=#[110,111]}]⟩ #[.int .i64 5] #[.string {data:=#[110,111]}] rfl rfl (by decide) (by decide) rfl;rw[← Dx]at hG;replace HA:=uh hG
 replace HB:=uh (ai HB.out HX.out)
 replace HM:=uh ((HX.out.block _ (Array.getElem?_eq_some_iff.1 HM.out).1).trans HM.out)
 replace eA:=uh (eA.out.ae HX.out)
 replace iH:=uh (iH.out.ae HX.out)
 clear hG HX Dx;refine bL rfl 37 3 3 _ rfl xH.heap.size rfl _ rfl Try.cq Try.cf (by decide) (by decide) #[.int .i64 1,.int .i64 1,.int .i64 1] (by kernel_rfl) ?_;refine bL rfl 38 9 3 _ rfl (xH.heap.size+1) (by simp) _ rfl Try.cF Try.bI (by decide) (by decide) #[.string {data:=#[48]},.string {data:=#[48]},.string {data:=#[48]}] (by kernel_rfl) ?_;refine db rfl 40 _ rfl _ rfl #[.string {data:=#[102,111,108,108,111,119]},.slice (some ⟨xH.heap.size,0,none⟩) 3 3,.bool false,.slice (some ⟨xH.heap.size+1,0,none⟩) 3 3] (by kernel_rfl) ?_;simp only[Act.put,List.setIfInBounds_toArray,List.set_cons_zero,List.set_cons_succ];obtain⟨pZ,qw⟩:∃ x,x=(xH.alloc (.cells #[.int .i64 1,.int .i64 1,.int .i64 1] 3)).alloc (.cells #[.string {data:=#[48]},.string {data:=#[48]},.string {data:=#[48]}] 9):=⟨_,rfl⟩
 rw[← qw];have HX:Hid (Bel xH pZ):=by rw[qw];exact ah (ah zR _) _
 obtain⟨G,hG⟩:=HA.out.one ⟨{data:=#[102,111,108,108,111,119]},[1,1,1],false,[{data:=#[48]},{data:=#[48]},{data:=#[48]}]⟩ #[.int .i64 1,.int .i64 1,.int .i64 1] #[.string {data:=#[48]},.string {data:=#[48]},.string {data:=#[48]}] rfl rfl (by decide) (by decide) rfl;rw[← qw]at hG;replace HA:=uh hG
 replace HB:=uh (ai HB.out HX.out)
 replace HM:=uh ((HX.out.block _ (Array.getElem?_eq_some_iff.1 HM.out).1).trans HM.out)
 replace eA:=uh (eA.out.ae HX.out)
 replace iH:=uh (iH.out.ae HX.out)
 clear hG HX qw;refine bL rfl 37 3 3 _ rfl pZ.heap.size rfl _ rfl Try.cq Try.cf (by decide) (by decide) #[.int .i64 1,.int .i64 1,.int .i64 1] (by kernel_rfl) ?_;refine bL rfl 38 9 3 _ rfl (pZ.heap.size+1) (by simp) _ rfl Try.cF Try.bI (by decide) (by decide) #[.string {data:=#[48]},.string {data:=#[48]},.string {data:=#[48]}] (by kernel_rfl) ?_;refine db rfl 40 _ rfl _ rfl #[.string {data:=#[112,97,99,101]},.slice (some ⟨pZ.heap.size,0,none⟩) 3 3,.bool false,.slice (some ⟨pZ.heap.size+1,0,none⟩) 3 3] (by kernel_rfl) ?_;simp only[Act.put,List.setIfInBounds_toArray,List.set_cons_zero,List.set_cons_succ];obtain⟨E0,Dg⟩:∃ x,x=(pZ.alloc (.cells #[.int .i64 1,.int .i64 1,.int .i64 1] 3)).alloc (.cells #[.string {data:=#[48]},.string {data:=#[48]},.string {data:=#[48]}] 9):=⟨_,rfl⟩
 rw[← Dg];have HX:Hid (Bel pZ E0):=by rw[Dg];exact ah (ah zR _) _
 obtain⟨G,hG⟩:=HA.out.one ⟨{data:=#[112,97,99,101]},[1,1,1],false,[{data:=#[48]},{data:=#[48]},{data:=#[48]}]⟩ #[.int .i64 1,.int .i64 1,.int .i64 1] #[.string {data:=#[48]},.string {data:=#[48]},.string {data:=#[48]}] rfl rfl (by decide) (by decide) rfl;rw[← Dg]at hG;replace HA:=uh hG
 replace HB:=uh (ai HB.out HX.out)
 replace HM:=uh ((HX.out.block _ (Array.getElem?_eq_some_iff.1 HM.out).1).trans HM.out)
 replace eA:=uh (eA.out.ae HX.out)
 replace iH:=uh (iH.out.ae HX.out)
 clear hG HX Dg;have HD:=uh (Kp.of (HA.out.done #[.string {data:=#[116,101,97,109]},.slice (some ⟨lh.heap.size,0,none⟩) 1 1,.bool false,.slice (some ⟨lh.heap.size+1,0,none⟩) 1 1,.string {data:=#[105,109,97,103,101]},.slice (some ⟨tG.heap.size,0,none⟩) 1 1,.bool false,.slice (some ⟨tG.heap.size+1,0,none⟩) 1 1,.string {data:=#[119,97,110,116]},.slice (some ⟨vO.heap.size,0,none⟩) 1 1,.bool false,.slice (some ⟨vO.heap.size+1,0,none⟩) 1 1,.string {data:=#[100,111,119,110]},.slice (some ⟨tE.heap.size,0,none⟩) 1 1,.bool false,.slice (some ⟨tE.heap.size+1,0,none⟩) 1 1,.string {data:=#[111,118,101,114]},.slice (some ⟨uV.heap.size,0,none⟩) 1 1,.bool false,.slice (some ⟨uV.heap.size+1,0,none⟩) 1 1,.string {data:=#[110,101,101,100,115]},.slice (some ⟨tD.heap.size,0,none⟩) 2 2,.bool false,.slice (some ⟨tD.heap.size+1,0,none⟩) 2 2,.string {data:=#[119,104,101,114,101]},.slice (some ⟨xO.heap.size,0,none⟩) 1 1,.bool false,.slice (some ⟨xO.heap.size+1,0,none⟩) 1 1,.string {data:=#[108,105,107,101]},.slice (some ⟨Ez.heap.size,0,none⟩) 2 2,.bool true,.slice none 0 0,.string {data:=#[97,112,97,114,116]},.slice (some ⟨xU.heap.size,0,none⟩) 1 1,.bool false,.slice (some ⟨xU.heap.size+1,0,none⟩) 1 1,.string {data:=#[118,111,108,117,109,101]},.slice (some ⟨xT.heap.size,0,none⟩) 1 1,.bool false,.slice (some ⟨xT.heap.size+1,0,none⟩) 1 1,.string {data:=#[102,111,108,108,111,119]},.slice (some ⟨xH.heap.size,0,none⟩) 3 3,.bool false,.slice (some ⟨xH.heap.size+1,0,none⟩) 3 3,.string {data:=#[112,97,99,101]},.slice (some ⟨pZ.heap.size,0,none⟩) 3 3,.bool false,.slice (some ⟨pZ.heap.size+1,0,none⟩) 3 3] rfl (by decide)));refine bL rfl 33 40 12 _ rfl E0.heap.size rfl _ rfl Try.eh Try.jq (by decide) (by decide) #[.string {data:=#[116,101,97,109]},.slice (some ⟨lh.heap.size,0,none⟩) 1 1,.bool false,.slice (some ⟨lh.heap.size+1,0,none⟩) 1 1,.string {data:=#[105,109,97,103,101]},.slice (some ⟨tG.heap.size,0,none⟩) 1 1,.bool false,.slice (some ⟨tG.heap.size+1,0,none⟩) 1 1,.string {data:=#[119,97,110,116]},.slice (some ⟨vO.heap.size,0,none⟩) 1 1,.bool false,.slice (some ⟨vO.heap.size+1,0,none⟩) 1 1,.string {data:=#[100,111,119,110]},.slice (some ⟨tE.heap.size,0,none⟩) 1 1,.bool false,.slice (some ⟨tE.heap.size+1,0,none⟩) 1 1,.string {data:=#[111,118,101,114]},.slice (some ⟨uV.heap.size,0,none⟩) 1 1,.bool false,.slice (some ⟨uV.heap.size+1,0,none⟩) 1 1,.string {data:=#[110,101,101,100,115]},.slice (some ⟨tD.heap.size,0,none⟩) 2 2,.bool false,.slice (some ⟨tD.heap.size+1,0,none⟩) 2 2,.string {data:=#[119,104,101,114,101]},.slice (some ⟨xO.heap.size,0,none⟩) 1 1,.bool false,.slice (some ⟨xO.heap.size+1,0,none⟩) 1 1,.string {data:=#[108,105,107,101]},.slice (some ⟨Ez.heap.size,0,none⟩) 2 2,.bool true,.slice none 0 0,.string {data:=#[97,112,97,114,116]},.slice (some ⟨xU.heap.size,0,none⟩) 1 1,.bool false,.slice (some ⟨xU.heap.size+1,0,none⟩) 1 1,.string {data:=#[118,111,108,117,109,101]},.slice (some ⟨xT.heap.size,0,none⟩) 1 1,.bool false,.slice (some ⟨xT.heap.size+1,0,none⟩) 1 1,.string {data:=#[102,111,108,108,111,119]},.slice (some ⟨xH.heap.size,0,none⟩) 3 3,.bool false,.slice (some ⟨xH.heap.size+1,0,none⟩) 3 3,.string {data:=#[112,97,99,101]},.slice (some ⟨pZ.heap.size,0,none⟩) 3 3,.bool false,.slice (some ⟨pZ.heap.size+1,0,none⟩) 3 3] (by kernel_rfl) ?_;refine db rfl 64 _ rfl _ rfl #[.slice (some ⟨E0.heap.size,0,none⟩) 12 12] (by kernel_rfl) ?_;obtain⟨Ht,DM⟩:∃ x,x=E0.alloc (.cells #[.string {data:=#[116,101,97,109]},.slice (some ⟨lh.heap.size,0,none⟩) 1 1,.bool false,.slice (some ⟨lh.heap.size+1,0,none⟩) 1 1,.string {data:=#[105,109,97,103,101]},.slice (some ⟨tG.heap.size,0,none⟩) 1 1,.bool false,.slice (some ⟨tG.heap.size+1,0,none⟩) 1 1,.string {data:=#[119,97,110,116]},.slice (some ⟨vO.heap.size,0,none⟩) 1 1,.bool false,.slice (some ⟨vO.heap.size+1,0,none⟩) 1 1,.string {data:=#[100,111,119,110]},.slice (some ⟨tE.heap.size,0,none⟩) 1 1,.bool false,.slice (some ⟨tE.heap.size+1,0,none⟩) 1 1,.string {data:=#[111,118,101,114]},.slice (some ⟨uV.heap.size,0,none⟩) 1 1,.bool false,.slice (some ⟨uV.heap.size+1,0,none⟩) 1 1,.string {data:=#[110,101,101,100,115]},.slice (some ⟨tD.heap.size,0,none⟩) 2 2,.bool false,.slice (some ⟨tD.heap.size+1,0,none⟩) 2 2,.string {data:=#[119,104,101,114,101]},.slice (some ⟨xO.heap.size,0,none⟩) 1 1,.bool false,.slice (some ⟨xO.heap.size+1,0,none⟩) 1 1,.string {data:=#[108,105,107,101]},.slice (some ⟨Ez.heap.size,0,none⟩) 2 2,.bool true,.slice none 0 0,.string {data:=#[97,112,97,114,116]},.slice (some ⟨xU.heap.size,0,none⟩) 1 1,.bool false,.slice (some ⟨xU.heap.size+1,0,none⟩) 1 1,.string {data:=#[118,111,108,117,109,101]},.slice (some ⟨xT.heap.size,0,none⟩) 1 1,.bool false,.slice (some ⟨xT.heap.size+1,0,none⟩) 1 1,.string {data:=#[102,111,108,108,111,119]},.slice (some ⟨xH.heap.size,0,none⟩) 3 3,.bool false,.slice (some ⟨xH.heap.size+1,0,none⟩) 3 3,.string {data:=#[112,97,99,101]},.slice (some ⟨pZ.heap.size,0,none⟩) 3 3,.bool false,.slice (some ⟨pZ.heap.size+1,0,none⟩) 3 3] 40):=⟨_,rfl⟩
 rw[← DM];rw[← DM]at HD;have HX:Hid (Bel E0 Ht):=by rw[DM];exact ah zR _
 replace HB:=uh (ai HB.out HX.out)
 replace HM:=uh ((HX.out.block _ (Array.getElem?_eq_some_iff.1 HM.out).1).trans HM.out)
 replace eA:=uh (eA.out.ae HX.out)
 replace iH:=uh (iH.out.ae HX.out)
 obtain⟨v2,fK⟩:∃ x,x=Value.slice (some ⟨E0.heap.size,0,none⟩) 12 12:=⟨_,rfl⟩
 replace HD:Hid (Kp w0 Pl.fM v2 Ht):=by rw[fK];exact HD.out.mono HQ.out
 have yj:=HD;rw[← fK];simp only[Act.put,List.setIfInBounds_toArray,List.set_cons_zero,List.set_cons_succ];clear HX HD DM fK HA HQ;have hi:=nQ HM.out ({data:=#[115,101,114,118,105,99,101]}) (.agg #[v2]) rfl;refine zU rfl rfl (gV Ht w.heap.size (.map #[⟨.string {data:=#[116,101,97,109]},.agg #[v0],0⟩,⟨.string {data:=#[98,101,114,116,104]},.agg #[v1],1⟩,⟨.string {data:=#[115,101,114,118,105,99,101]},.agg #[v2],2⟩] 3)) (by simp[execOp,go_sem,hi]) ?_;obtain⟨Cf,uS⟩:∃ x,x=gV Ht w.heap.size (.map #[⟨.string {data:=#[116,101,97,109]},.agg #[v0],0⟩,⟨.string {data:=#[98,101,114,116,104]},.agg #[v1],1⟩,⟨.string {data:=#[115,101,114,118,105,99,101]},.agg #[v2],2⟩] 3):=⟨_,rfl⟩
 rw[← uS];have HP:Hid (Marks (fun b=>b=w.heap.size) Ht Cf):=by rw[uS];exact fT _ HM.out
 replace HB:=uh (HP.out.below (fun p e=>by omega) HB.out)
 replace eA:Hid (Kp w0 Pl.iY v0 Cf):=by rw[uS];exact eA.out.put _ HM.out (by have:=HZ.out;omega)
 replace iH:Hid (Kp w0 Pl.ix v1 Cf):=by rw[uS];exact iH.out.put _ HM.out (by have:=HZ.out;omega)
 replace yj:Hid (Kp w0 Pl.fM v2 Cf):=by rw[uS];exact yj.out.put _ HM.out (by have:=HZ.out;omega)
 replace HM:Hid (Cf.heap[w.heap.size]? =some (.map #[⟨.string {data:=#[116,101,97,109]},.agg #[v0],0⟩,⟨.string {data:=#[98,101,114,116,104]},.agg #[v1],1⟩,⟨.string {data:=#[115,101,114,118,105,99,101]},.agg #[v2],2⟩] 3)):=by rw[uS];exact mM _ (Array.getElem?_eq_some_iff.1 HM.out).1
 clear HP uS hi;have HA:Hid (Acc Cf Cf [] [] []):=Acc.nil Cf;have HQ:Hid (w0.heap.size≤Cf.heap.size):=by have:=(Array.getElem?_eq_some_iff.1 HM.out).1;have:=HZ.out;show _≤_;omega
 go_wp2;go_ret;exact⟨_,w0,v0,v1,v2,rfl,HM.out,by have:=HZ.out;omega,eA.out,iH.out,yj.out,HB.out⟩
end Go.Proofs.Ytmgibmmpopoboaa
