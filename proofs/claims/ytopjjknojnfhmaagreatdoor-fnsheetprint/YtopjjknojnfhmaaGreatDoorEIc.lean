import Derived.Maps.Keyed
import Derived.StillTailTactics
import Derived.WalkSpells
import Derived.Test.YtopjjknojnfhmaaGreatDoorERu
import Derived.Test.YtopjjknojnfhmaaGreatDoorESd
namespace Go.Proofs.YtopjjknojnfhmaaGreatDoor
set_option maxRecDepth 8000
set_option maxHeartbeats 40000000
open Go.RowKit Go.Deep
theorem QS {P:Program} {ops:Array Oper} {rest:List Oper} {o:Oper} {a:Act} {w:World} {Q:Exit→Act→World→Prop} (hg:o.guard=none) (k:Option Tmp) (hk:o.dst=k) (u:Value) (w':World) (hr:(execOp a.eval o).run P w=.ok (.value u) w')
  (h:wpList P ops Q rest (a.put k u) w'):wpList P ops Q (o::rest) a w:=by
 subst hk;refine wpList_plain hg fun K hK=> ?_;unfold Oper.wp;rw[hr,Oper.upon_value];exact hK _ _ h
theorem bt {P:Program} {ops:Array Oper} {rest:List Oper} {o:Oper} {a:Act} {w:World} {Q:Exit→Act→World→Prop} (hg:o.guard=none) (t e:TypeId) (n:Nat) (parts:Array (Nat×Operand)) (ho:o.op=.buildSlice t n parts) (N:Nat) (hN:w.heap.size=N) (k:Option Tmp) (hk:o.dst=k)
  (hu:P.underlying t=some (.slice e)) {z:Value} {m b:Nat} (hi:(P.info? e).map (fun i=>(i.zero,i.size,i.bytes))=some (some z,m,b)) (h1:¬ n*m>2 ^ 24) (h2:¬ n*m=0) (cells:Array Value)
  (hf:Instr.fill (fun i=>some (i*m,m)) ((Array.range (n*m)).map (z.cells[· % z.cells.size]!)) (parts.map fun (i,x)=>(i,a.eval x)).toList=some cells)
  (h:wpList P ops Q rest (a.put k (.slice (some ⟨N,0,none⟩) n n)) (w.alloc (.cells cells e))):wpList P ops Q (o::rest) a w:=by
 subst hN;subst hk;obtain⟨i0,gF,ga,dJ,_⟩:=ji hi;subst dJ;exact wpList_buildSlice hg t e n parts ho cells i0 z hu gF ga h1 h2 hf h
theorem cY {P:Program} {ops:Array Oper} {rest:List Oper} {o:Oper} {a:Act} {w:World} {Q:Exit→Act→World→Prop} (hg:o.guard=none) (t:TypeId) (parts:Array (Nat×Operand)) (ho:o.op=.build t parts) (k:Option Tmp) (hk:o.dst=k) (cells:Array Value) (hf:P.built t (parts.map fun (i,x)=>(i,a.eval x)).toList=some cells)
  (h:wpList P ops Q rest (a.put k (.agg cells)) w):wpList P ops Q (o::rest) a w:=by
 subst hk;refine wpList_build hg t parts ho (by rw[hf];rfl) ?_;rw[hf];exact h
theorem El {P:Program} {ops:Array Oper} {rest:List Oper} {o:Oper} {a:Act} {w:World} {Q:Exit→Act→World→Prop} (hg:o.guard=none) (hd:o.dst=none) (w':World) (dM:(execOp a.eval o).run P w=.ok .skip w')
  (h:wpList P ops Q rest a w'):wpList P ops Q (o::rest) a w:=by
 refine wpList_plain hg fun K hK=> ?_;unfold Oper.wp;rw[dM];have e:a.put o.dst undef=a:=by rw[hd];rfl
 refine hK (a.put o.dst undef) _ ?_;rw[e];exact h
def ir (W:World) (mb:Nat) (o:Obj):World:={W with heap:=W.heap.setIfInBounds mb o}
theorem Af (W:World) (mb:Nat) (o:Obj):(ir W mb o).heap.size=W.heap.size:=by simp[ir]
theorem nX {W:World} {mb:Nat} (o:Obj) (h:mb<W.heap.size):(ir W mb o).heap[mb]? =some o:=by simp[ir,h]
theorem oV {W:World} {mb b:Nat} (o:Obj) (h:b≠mb):(ir W mb o).heap[b]? =W.heap[b]? :=by
 simp only[ir];rw[Array.getElem?_setIfInBounds,if_neg (fun e=>h e.symm)]
theorem gl {W:World} {mb:Nat} {es:Array MapEntry} {cl:Nat} (o:Obj) (h:W.heap[mb]? =some (.map es cl)):Marks (fun b=>b=mb) W (ir W mb o):=
 ⟨rfl,rfl,rfl,by rw[Af];exact zE,fun p _ hn=>oV o hn,fun b t m hO=>by
  obtain⟨cs,e,hm⟩:=hO;have du:b≠mb:=fun e'=>by subst e';rw[h]at e;cases e
  exact⟨cs,(oV o du).trans e,hm⟩⟩
theorem Tryz.ux:Tryz.prog.underlying 9=some .string:=by kernel_rfl
theorem Tryz.ik:Tryz.prog.underlying 60=some (.map 9 64):=by kernel_rfl
theorem Tryz.bZ:Tryz.prog.underlying 94=some (.slice 3):=by kernel_rfl
theorem Tryz.cF:Tryz.prog.underlying 44=some (.slice 9):=by kernel_rfl
theorem dC (W:World) (em:Bool) (k:ByteArray):(Instr.checkKey em 10000 9 (.string k)).run Tryz.prog W=.ok () W:=by
 show (Instr.checkKey em (9999+1) 9 (.string k)).run Tryz.prog W=.ok () W;rw[Instr.checkKey];simp[Sem.run_bind,run_underlying Tryz.ux,Result.andThen]
theorem ig (W:World) (k:ByteArray) (es:List MapEntry) (r:Option (Nat×Value)) (h:Instr.findNow .string (.string k) es 0=some r):
  (Instr.findKey 9 (.string k) es).run Tryz.prog W=.ok r W:=by
 simp[Instr.findKey,run_underlying Tryz.ux,h,Result.andThen]
theorem oZ {W:World} {mb:Nat} {es:Array MapEntry} {cl:Nat} (hb:W.heap[mb]? =some (.map es cl)) (k:ByteArray) (v:Value) (hf:Instr.findNow .string (.string k) es.toList 0=some none):
  (Instr.mapUpdate 60 (.map (some mb)) (.string k) v).run Tryz.prog W=.ok () (ir W mb (.map (es.push ⟨.string k,v,cl⟩) (cl+1))):=by
 simp[Instr.mapUpdate,run_underlying Tryz.ik,MapKept.run_getObj_map hb,dC,ig _ k es.toList none hf,MapKept.run_setObj_map _ hb,Result.andThen,ir]
theorem zi (W:World):∀ xs:List Int,Rep W false (bf xs.length [.i]) [] (xs.map .i) (xs.map (.int .i64))
 |[]=> .nil
 |x::xs=>by rw[List.length_cons,bW];exact .i x (zi W xs)
theorem Di (W:World):∀ xs:List ByteArray,Rep W false (bf xs.length [.s]) [] (txD xs) (xs.map .string)
 |[]=> .nil
 |x::xs=>by rw[List.length_cons,bW];exact .s x (Di W xs)
theorem uk (W:World) (xs:List Int) (ca:Array Value) (h:ca.toList=xs.map (.int .i64)) (hl:xs.length≤100):Rep (W.alloc (.cells ca 3)) false [.row 3 [.i]] [W.heap.size] [.row xs.length (xs.map .i)] [.slice (some ⟨W.heap.size,0,none⟩) xs.length xs.length]:=by
 refine Rep.row 3 [.i] W.heap.size 0 xs.length xs.length 3 xs.length (xs.map (.int .i64)) (xs.map .i) [] (aV.alloc W ca 3 _ (by rw[← Array.length_toList,h,List.length_map])) (by simp) (by intro h;cases h) ⟨by unfold maxLen;omega,zE⟩ ?_ (zi _ xs) .nil;intro j v hv;rw[Nat.zero_add];refine(World.cell?_alloc_at _ _ _ _ rfl).trans ?_;rw[← h]at hv;simpa using hv
theorem Gw (W:World) (xs:List ByteArray) (ca:Array Value) (h:ca.toList=xs.map .string) (hl:xs.length≤100):Rep (W.alloc (.cells ca 9)) false [.row 9 [.s]] [W.heap.size] [.row xs.length (txD xs)] [.slice (some ⟨W.heap.size,0,none⟩) xs.length xs.length]:=by
 refine Rep.row 9 [.s] W.heap.size 0 xs.length xs.length 9 xs.length (xs.map .string) (txD xs) [] (aV.alloc W ca 9 _ (by rw[← Array.length_toList,h,List.length_map])) (by simp) (by intro h;cases h) ⟨by unfold maxLen;omega,zE⟩ ?_ (Di _ xs) .nil;intro j v hv;rw[Nat.zero_add];refine(World.cell?_alloc_at _ _ _ _ rfl).trans ?_;rw[← h]at hv;simpa using hv
theorem Acc.one {w W:World} {l:List Pl.Ru} {G:List Nat} {cs:List Value} (h:Acc w W l G cs) (r:Pl.Ru) (ca ct:Array Value) (h1:ca.toList=r.args.map (.int .i64)) (h3:ct.toList=r.dflt.map .string) (l1:r.args.length≤100) (l3:r.dflt.length≤100) (hm:r.many=false):
  ∃ F,Acc w ((W.alloc (.cells ca 3)).alloc (.cells ct 9)) (l++[r]) F (cs++[.string r.key,.slice (some ⟨W.heap.size,0,none⟩) r.args.length r.args.length,.bool false,.slice (some ⟨W.heap.size+1,0,none⟩) r.dflt.length r.dflt.length]):=by
 have k1:=(uk W r.args ca h1 l1).later (ae zR (.cells ct 9));have k3:=Gw (W.alloc (.cells ca 3)) r.dflt ct h3 l3;have hz:(W.alloc (.cells ca 3)).heap.size=W.heap.size+1:=by simp
 rw[hz]at k3;have k:=eG r.key k1 r.many k3;rw[hm]at k;refine⟨_,h.push (F:=[W.heap.size]++([W.heap.size+1]++[])) (r:=r) ?_ ?_ ?_ (ae (ae zR _) _)⟩
 ·unfold ruD;rw[hm];exact k
 ·simp
 ·intro b hb;simp at hb;omega
theorem Acc.many {w W:World} {l:List Pl.Ru} {G:List Nat} {cs:List Value} (h:Acc w W l G cs) (r:Pl.Ru) (ca:Array Value) (h1:ca.toList=r.args.map (.int .i64)) (h3:r.dflt=[]) (l1:r.args.length≤100) (hm:r.many=true):
  ∃ F,Acc w (W.alloc (.cells ca 3)) (l++[r]) F (cs++[.string r.key,.slice (some ⟨W.heap.size,0,none⟩) r.args.length r.args.length,.bool true,.slice none 0 0]):=by
 have k1:=uk W r.args ca h1 l1;have k:=eG r.key k1 r.many (Rep.emp (w:=W.alloc (.cells ca 3)) (tt:=false) 9 [.s] none rfl .nil);rw[hm]at k;refine⟨_,h.push (F:=[W.heap.size]++([]++[])) (r:=r) ?_ ?_ ?_ (ae zR _)⟩
 ·unfold ruD;rw[hm,h3];exact k
 ·simp
 ·intro b hb;simp at hb;omega
def Kp (w:World) (l:List Pl.Ru) (v:Value) (W:World):Prop:=∃ F,Rep W false [.row 96 aF] F [cQ l] [v]∧F.Nodup∧∀ b∈F,w.heap.size≤b
theorem Kp.later {w W W':World} {l:List Pl.Ru} {v:Value} (h:Kp w l v W) (hb:Bel W W'):Kp w l v W':=by
 obtain⟨F,r,n,o⟩:=h;exact⟨F,r.later hb,n,o⟩
theorem Kp.mono {w w0 W:World} {l:List Pl.Ru} {v:Value} (h:Kp w l v W) (h0:w0.heap.size≤w.heap.size):Kp w0 l v W:=by
 obtain⟨F,r,n,o⟩:=h;exact⟨F,r,n,fun b hb=>Nat.le_trans h0 (o b hb)⟩
theorem Kp.put {w W:World} {l:List Pl.Ru} {v:Value} {mb:Nat} {es:Array MapEntry} {cl:Nat} (h:Kp w l v W) (o:Obj) (hm:W.heap[mb]? =some (.map es cl)) (bd:mb<w.heap.size):Kp w l v (ir W mb o):=by
 obtain⟨F,r,n,q⟩:=h;exact⟨F,r.bo (gl o hm) (fun b hb e=>by have:=q b hb;omega),n,q⟩
theorem Kp.ans {w0 w W:World} {l:List Pl.Ru} {v:Value} (h:Kp w0 l v W) (h0:w.heap.size≤w0.heap.size) (hb:Bel w W):qC [.row 96 aF] (cQ l) w (.returned v) W:=by
 obtain⟨F,r,n,q⟩:=h;exact⟨v,F,rfl,r,n,fun b gb=>Nat.le_trans h0 (q b gb),hb⟩
theorem Kp.of {w:World} {l:List Pl.Ru} {v:Value} {W':World} (h:qC [.row 96 aF] (cQ l) w (.returned v) W'):Kp w l v W':=by
 obtain⟨v',F,e,r,n,q,_⟩:=h;injection e with e
 subst e;exact⟨F,r,n,q⟩
def JT (w:World) (e:Ending) (w':World):Prop:=∃ mb w0 vt vb vs,e=.returned (.map (some mb))∧w'.heap[mb]? =some (.map #[⟨.string {data:=#[116,101,97,109]},.agg #[vt],0⟩,⟨.string {data:=#[98,101,114,116,104]},.agg #[vb],1⟩,⟨.string {data:=#[115,101,114,118,105,99,101]},.agg #[vs],2⟩] 3)∧w.heap.size≤w0.heap.size∧Kp w0 Pl.ju vt w'∧Kp w0 Pl.jd vb w'∧Kp w0 Pl.fY vs w'∧Bel w w'
theorem mW (w:World):Calls Tryz.prog 24 #[] w (JT w):=by
 have HB:=uh (Below.refl w.heap.size w);go_enter Tryz.func24,Tryz.ntmps24
 go_upto_region 1 with fail
 refine wp_region_lit ?_;refine QS rfl _ rfl (.map (some w.heap.size)) (w.alloc (.map #[] 0)) (by simp[execOp,go_sem,run_makeMap]) ?_;simp only[Act.put,List.setIfInBounds_toArray,List.set_cons_zero,List.set_cons_succ];obtain⟨w0,wR⟩:∃ x,x=w.alloc (.map #[] 0):=⟨_,rfl⟩
 rw[← wR];have HM:Hid (w0.heap[w.heap.size]? =some (.map #[] 0)):=by rw[wR];exact heap_alloc_new w _
 have HZ:Hid (w0.heap.size=w.heap.size+1):=by show _=_;rw[wR];simp
 replace HB:Hid (Bel w w0):=by rw[wR];exact ae zR _
 have HA:Hid (Acc w0 w0 [] [] []):=Acc.nil w0;have HQ:Hid (w0.heap.size≤w0.heap.size):=zE;clear wR;refine bt rfl 94 3 1 _ rfl w0.heap.size rfl _ rfl Tryz.bZ Tryz.bP (by decide) (by decide) #[.int .i64 1] (by kernel_rfl) ?_;refine bt rfl 44 9 1 _ rfl (w0.heap.size+1) (by simp) _ rfl Tryz.cF Tryz.bA (by decide) (by decide) #[.string {data:=#[49,48,48]}] (by kernel_rfl) ?_;refine cY rfl 96 _ rfl _ rfl #[.string {data:=#[99,111,112,105,101,115]},.slice (some ⟨w0.heap.size,0,none⟩) 1 1,.bool false,.slice (some ⟨w0.heap.size+1,0,none⟩) 1 1] (by kernel_rfl) ?_;simp only[Act.put,List.setIfInBounds_toArray,List.set_cons_zero,List.set_cons_succ];obtain⟨w1,qq⟩:∃ x,x=(w0.alloc (.cells #[.int .i64 1] 3)).alloc (.cells #[.string {data:=#[49,48,48]}] 9):=⟨_,rfl⟩
 rw[← qq];have HX:Hid (Bel w0 w1):=by rw[qq];exact ae (ae zR _) _
 obtain⟨G,hG⟩:=HA.out.one ⟨{data:=#[99,111,112,105,101,115]},[1],false,[{data:=#[49,48,48]}]⟩ #[.int .i64 1] #[.string {data:=#[49,48,48]}] rfl rfl (by decide) (by decide) rfl;rw[← qq]at hG;replace HA:=uh hG
 replace HB:=uh (ah HB.out HX.out)
 replace HM:=uh ((HX.out.block _ (Array.getElem?_eq_some_iff.1 HM.out).1).trans HM.out)
 clear hG HX qq;refine bt rfl 94 3 1 _ rfl w1.heap.size rfl _ rfl Tryz.bZ Tryz.bP (by decide) (by decide) #[.int .i64 1] (by kernel_rfl) ?_;refine bt rfl 44 9 1 _ rfl (w1.heap.size+1) (by simp) _ rfl Tryz.cF Tryz.bA (by decide) (by decide) #[.string {data:=#[49,48,48,48]}] (by kernel_rfl) ?_;refine cY rfl 96 _ rfl _ rfl #[.string {data:=#[114,111,111,109]},.slice (some ⟨w1.heap.size,0,none⟩) 1 1,.bool false,.slice (some ⟨w1.heap.size+1,0,none⟩) 1 1] (by kernel_rfl) ?_;simp only[Act.put,List.setIfInBounds_toArray,List.set_cons_zero,List.set_cons_succ];obtain⟨w2,gI⟩:∃ x,x=(w1.alloc (.cells #[.int .i64 1] 3)).alloc (.cells #[.string {data:=#[49,48,48,48]}] 9):=⟨_,rfl⟩
 rw[← gI];have HX:Hid (Bel w1 w2):=by rw[gI];exact ae (ae zR _) _
 obtain⟨G,hG⟩:=HA.out.one ⟨{data:=#[114,111,111,109]},[1],false,[{data:=#[49,48,48,48]}]⟩ #[.int .i64 1] #[.string {data:=#[49,48,48,48]}] rfl rfl (by decide) (by decide) rfl;rw[← gI]at hG;replace HA:=uh hG
 replace HB:=uh (ah HB.out HX.out)
 replace HM:=uh ((HX.out.block _ (Array.getElem?_eq_some_iff.1 HM.out).1).trans HM.out)
 clear hG HX gI;have HD:=uh (Kp.of (HA.out.done #[.string {data:=#[99,111,112,105,101,115]},.slice (some ⟨w0.heap.size,0,none⟩) 1 1,.bool false,.slice (some ⟨w0.heap.size+1,0,none⟩) 1 1,.string {data:=#[114,111,111,109]},.slice (some ⟨w1.heap.size,0,none⟩) 1 1,.bool false,.slice (some ⟨w1.heap.size+1,0,none⟩) 1 1] rfl (by decide)));refine bt rfl 62 96 2 _ rfl w2.heap.size rfl _ rfl Tryz.eM Tryz.jP (by decide) (by decide) #[.string {data:=#[99,111,112,105,101,115]},.slice (some ⟨w0.heap.size,0,none⟩) 1 1,.bool false,.slice (some ⟨w0.heap.size+1,0,none⟩) 1 1,.string {data:=#[114,111,111,109]},.slice (some ⟨w1.heap.size,0,none⟩) 1 1,.bool false,.slice (some ⟨w1.heap.size+1,0,none⟩) 1 1] (by kernel_rfl) ?_;refine cY rfl 64 _ rfl _ rfl #[.slice (some ⟨w2.heap.size,0,none⟩) 2 2] (by kernel_rfl) ?_;obtain⟨w3,gh⟩:∃ x,x=w2.alloc (.cells #[.string {data:=#[99,111,112,105,101,115]},.slice (some ⟨w0.heap.size,0,none⟩) 1 1,.bool false,.slice (some ⟨w0.heap.size+1,0,none⟩) 1 1,.string {data:=#[114,111,111,109]},.slice (some ⟨w1.heap.size,0,none⟩) 1 1,.bool false,.slice (some ⟨w1.heap.size+1,0,none⟩) 1 1] 96):=⟨_,rfl⟩
 rw[← gh];rw[← gh]at HD;have HX:Hid (Bel w2 w3):=by rw[gh];exact ae zR _
 replace HB:=uh (ah HB.out HX.out)
 replace HM:=uh ((HX.out.block _ (Array.getElem?_eq_some_iff.1 HM.out).1).trans HM.out)
 obtain⟨v0,Fz⟩:∃ x,x=Value.slice (some ⟨w2.heap.size,0,none⟩) 2 2:=⟨_,rfl⟩
 replace HD:Hid (Kp w0 Pl.ju v0 w3):=by rw[Fz];exact HD.out.mono HQ.out
 have ey:=HD;rw[← Fz];simp only[Act.put,List.setIfInBounds_toArray,List.set_cons_zero,List.set_cons_succ];clear HX HD gh Fz HA HQ;have hi:=oZ HM.out ({data:=#[116,101,97,109]}) (.agg #[v0]) rfl;refine El rfl rfl (ir w3 w.heap.size (.map #[⟨.string {data:=#[116,101,97,109]},.agg #[v0],0⟩] 1)) (by simp[execOp,go_sem,hi]) ?_;obtain⟨w4,BM⟩:∃ x,x=ir w3 w.heap.size (.map #[⟨.string {data:=#[116,101,97,109]},.agg #[v0],0⟩] 1):=⟨_,rfl⟩
 rw[← BM];have HP:Hid (Marks (fun b=>b=w.heap.size) w3 w4):=by rw[BM];exact gl _ HM.out
 replace HB:=uh (HP.out.below (fun p e=>by omega) HB.out)
 replace ey:Hid (Kp w0 Pl.ju v0 w4):=by rw[BM];exact ey.out.put _ HM.out (by have:=HZ.out;omega)
 replace HM:Hid (w4.heap[w.heap.size]? =some (.map #[⟨.string {data:=#[116,101,97,109]},.agg #[v0],0⟩] 1)):=by rw[BM];exact nX _ (Array.getElem?_eq_some_iff.1 HM.out).1
 clear HP BM hi;have HA:Hid (Acc w4 w4 [] [] []):=Acc.nil w4;have HQ:Hid (w0.heap.size≤w4.heap.size):=by have:=(Array.getElem?_eq_some_iff.1 HM.out).1;have:=HZ.out;show _≤_;omega
 refine bt rfl 94 3 1 _ rfl w4.heap.size rfl _ rfl Tryz.bZ Tryz.bP (by decide) (by decide) #[.int .i64 3] (by kernel_rfl) ?_;refine bt rfl 44 9 1 _ rfl (w4.heap.size+1) (by simp) _ rfl Tryz.cF Tryz.bA (by decide) (by decide) #[.string {data:=#[122]}] (by kernel_rfl) ?_;refine cY rfl 96 _ rfl _ rfl #[.string {data:=#[122,111,110,101]},.slice (some ⟨w4.heap.size,0,none⟩) 1 1,.bool false,.slice (some ⟨w4.heap.size+1,0,none⟩) 1 1] (by kernel_rfl) ?_;simp only[Act.put,List.setIfInBounds_toArray,List.set_cons_zero,List.set_cons_succ];obtain⟨w5,Iw⟩:∃ x,x=(w4.alloc (.cells #[.int .i64 3] 3)).alloc (.cells #[.string {data:=#[122]}] 9):=⟨_,rfl⟩
 rw[← Iw];have HX:Hid (Bel w4 w5):=by rw[Iw];exact ae (ae zR _) _
 obtain⟨G,hG⟩:=HA.out.one ⟨{data:=#[122,111,110,101]},[3],false,[{data:=#[122]}]⟩ #[.int .i64 3] #[.string {data:=#[122]}] rfl rfl (by decide) (by decide) rfl;rw[← Iw]at hG;replace HA:=uh hG
 replace HB:=uh (ah HB.out HX.out)
 replace HM:=uh ((HX.out.block _ (Array.getElem?_eq_some_iff.1 HM.out).1).trans HM.out)
 replace ey:=uh (ey.out.later HX.out)
 clear hG HX Iw;refine bt rfl 94 3 1 _ rfl w5.heap.size rfl _ rfl Tryz.bZ Tryz.bP (by decide) (by decide) #[.int .i64 1] (by kernel_rfl) ?_;refine bt rfl 44 9 1 _ rfl (w5.heap.size+1) (by simp) _ rfl Tryz.cF Tryz.bA (by decide) (by decide) #[.string {data:=#[49,48,48]}] (by kernel_rfl) ?_;refine cY rfl 96 _ rfl _ rfl #[.string {data:=#[114,111,111,109]},.slice (some ⟨w5.heap.size,0,none⟩) 1 1,.bool false,.slice (some ⟨w5.heap.size+1,0,none⟩) 1 1] (by kernel_rfl) ?_;simp only[Act.put,List.setIfInBounds_toArray,List.set_cons_zero,List.set_cons_succ];obtain⟨w6,Hu⟩:∃ x,x=(w5.alloc (.cells #[.int .i64 1] 3)).alloc (.cells #[.string {data:=#[49,48,48]}] 9):=⟨_,rfl⟩
 rw[← Hu];have HX:Hid (Bel w5 w6):=by rw[Hu];exact ae (ae zR _) _
 obtain⟨G,hG⟩:=HA.out.one ⟨{data:=#[114,111,111,109]},[1],false,[{data:=#[49,48,48]}]⟩ #[.int .i64 1] #[.string {data:=#[49,48,48]}] rfl rfl (by decide) (by decide) rfl;rw[← Hu]at hG;replace HA:=uh hG
 replace HB:=uh (ah HB.out HX.out)
 replace HM:=uh ((HX.out.block _ (Array.getElem?_eq_some_iff.1 HM.out).1).trans HM.out)
 replace ey:=uh (ey.out.later HX.out)
 clear hG HX Hu;refine bt rfl 94 3 1 _ rfl w6.heap.size rfl _ rfl Tryz.bZ Tryz.bP (by decide) (by decide) #[.int .i64 1] (by kernel_rfl) ?_;refine bt rfl 44 9 1 _ rfl (w6.heap.size+1) (by simp) _ rfl Tryz.cF Tryz.bA (by decide) (by decide) #[.string {data:=#[49,48,48]}] (by kernel_rfl) ?_;refine cY rfl 96 _ rfl _ rfl #[.string {data:=#[104,111,108,100]},.slice (some ⟨w6.heap.size,0,none⟩) 1 1,.bool false,.slice (some ⟨w6.heap.size+1,0,none⟩) 1 1] (by kernel_rfl) ?_;simp only[Act.put,List.setIfInBounds_toArray,List.set_cons_zero,List.set_cons_succ];obtain⟨w7,LD⟩:∃ x,x=(w6.alloc (.cells #[.int .i64 1] 3)).alloc (.cells #[.string {data:=#[49,48,48]}] 9):=⟨_,rfl⟩
 rw[← LD];have HX:Hid (Bel w6 w7):=by rw[LD];exact ae (ae zR _) _
 obtain⟨G,hG⟩:=HA.out.one ⟨{data:=#[104,111,108,100]},[1],false,[{data:=#[49,48,48]}]⟩ #[.int .i64 1] #[.string {data:=#[49,48,48]}] rfl rfl (by decide) (by decide) rfl;rw[← LD]at hG;replace HA:=uh hG
 replace HB:=uh (ah HB.out HX.out)
 replace HM:=uh ((HX.out.block _ (Array.getElem?_eq_some_iff.1 HM.out).1).trans HM.out)
 replace ey:=uh (ey.out.later HX.out)
 clear hG HX LD;refine bt rfl 94 3 1 _ rfl w7.heap.size rfl _ rfl Tryz.bZ Tryz.bP (by decide) (by decide) #[.int .i64 3] (by kernel_rfl) ?_;refine cY rfl 96 _ rfl _ rfl #[.string {data:=#[109,97,114,107]},.slice (some ⟨w7.heap.size,0,none⟩) 1 1,.bool true,.slice none 0 0] (by kernel_rfl) ?_;simp only[Act.put,List.setIfInBounds_toArray,List.set_cons_zero,List.set_cons_succ];obtain⟨w8,NV⟩:∃ x,x=w7.alloc (.cells #[.int .i64 3] 3):=⟨_,rfl⟩
 rw[← NV];have HX:Hid (Bel w7 w8):=by rw[NV];exact ae zR _
 obtain⟨G,hG⟩:=HA.out.many ⟨{data:=#[109,97,114,107]},[3],true,[]⟩ #[.int .i64 3] rfl rfl (by decide) rfl;rw[← NV]at hG;replace HA:=uh hG
 replace HB:=uh (ah HB.out HX.out)
 replace HM:=uh ((HX.out.block _ (Array.getElem?_eq_some_iff.1 HM.out).1).trans HM.out)
 replace ey:=uh (ey.out.later HX.out)
 clear hG HX NV;have HD:=uh (Kp.of (HA.out.done #[.string {data:=#[122,111,110,101]},.slice (some ⟨w4.heap.size,0,none⟩) 1 1,.bool false,.slice (some ⟨w4.heap.size+1,0,none⟩) 1 1,.string {data:=#[114,111,111,109]},.slice (some ⟨w5.heap.size,0,none⟩) 1 1,.bool false,.slice (some ⟨w5.heap.size+1,0,none⟩) 1 1,.string {data:=#[104,111,108,100]},.slice (some ⟨w6.heap.size,0,none⟩) 1 1,.bool false,.slice (some ⟨w6.heap.size+1,0,none⟩) 1 1,.string {data:=#[109,97,114,107]},.slice (some ⟨w7.heap.size,0,none⟩) 1 1,.bool true,.slice none 0 0] rfl (by decide)));refine bt rfl 62 96 4 _ rfl w8.heap.size rfl _ rfl Tryz.eM Tryz.jP (by decide) (by decide) #[.string {data:=#[122,111,110,101]},.slice (some ⟨w4.heap.size,0,none⟩) 1 1,.bool false,.slice (some ⟨w4.heap.size+1,0,none⟩) 1 1,.string {data:=#[114,111,111,109]},.slice (some ⟨w5.heap.size,0,none⟩) 1 1,.bool false,.slice (some ⟨w5.heap.size+1,0,none⟩) 1 1,.string {data:=#[104,111,108,100]},.slice (some ⟨w6.heap.size,0,none⟩) 1 1,.bool false,.slice (some ⟨w6.heap.size+1,0,none⟩) 1 1,.string {data:=#[109,97,114,107]},.slice (some ⟨w7.heap.size,0,none⟩) 1 1,.bool true,.slice none 0 0] (by kernel_rfl) ?_;refine cY rfl 64 _ rfl _ rfl #[.slice (some ⟨w8.heap.size,0,none⟩) 4 4] (by kernel_rfl) ?_;obtain⟨w9,P6⟩:∃ x,x=w8.alloc (.cells #[.string {data:=#[122,111,110,101]},.slice (some ⟨w4.heap.size,0,none⟩) 1 1,.bool false,.slice (some ⟨w4.heap.size+1,0,none⟩) 1 1,.string {data:=#[114,111,111,109]},.slice (some ⟨w5.heap.size,0,none⟩) 1 1,.bool false,.slice (some ⟨w5.heap.size+1,0,none⟩) 1 1,.string {data:=#[104,111,108,100]},.slice (some ⟨w6.heap.size,0,none⟩) 1 1,.bool false,.slice (some ⟨w6.heap.size+1,0,none⟩) 1 1,.string {data:=#[109,97,114,107]},.slice (some ⟨w7.heap.size,0,none⟩) 1 1,.bool true,.slice none 0 0] 96):=⟨_,rfl⟩
 rw[← P6];rw[← P6]at HD;have HX:Hid (Bel w8 w9):=by rw[P6];exact ae zR _
 replace HB:=uh (ah HB.out HX.out)
 replace HM:=uh ((HX.out.block _ (Array.getElem?_eq_some_iff.1 HM.out).1).trans HM.out)
 replace ey:=uh (ey.out.later HX.out)
 obtain⟨v1,fy⟩:∃ x,x=Value.slice (some ⟨w8.heap.size,0,none⟩) 4 4:=⟨_,rfl⟩
 replace HD:Hid (Kp w0 Pl.jd v1 w9):=by rw[fy];exact HD.out.mono HQ.out
 have jm:=HD;rw[← fy];simp only[Act.put,List.setIfInBounds_toArray,List.set_cons_zero,List.set_cons_succ];clear HX HD P6 fy HA HQ;have hi:=oZ HM.out ({data:=#[98,101,114,116,104]}) (.agg #[v1]) rfl;refine El rfl rfl (ir w9 w.heap.size (.map #[⟨.string {data:=#[116,101,97,109]},.agg #[v0],0⟩,⟨.string {data:=#[98,101,114,116,104]},.agg #[v1],1⟩] 2)) (by simp[execOp,go_sem,hi]) ?_;obtain⟨qv,Bm⟩:∃ x,x=ir w9 w.heap.size (.map #[⟨.string {data:=#[116,101,97,109]},.agg #[v0],0⟩,⟨.string {data:=#[98,101,114,116,104]},.agg #[v1],1⟩] 2):=⟨_,rfl⟩
 rw[← Bm];have HP:Hid (Marks (fun b=>b=w.heap.size) w9 qv):=by rw[Bm];exact gl _ HM.out
 replace HB:=uh (HP.out.below (fun p e=>by omega) HB.out)
 replace ey:Hid (Kp w0 Pl.ju v0 qv):=by rw[Bm];exact ey.out.put _ HM.out (by have:=HZ.out;omega)
 replace jm:Hid (Kp w0 Pl.jd v1 qv):=by rw[Bm];exact jm.out.put _ HM.out (by have:=HZ.out;omega)
 replace HM:Hid (qv.heap[w.heap.size]? =some (.map #[⟨.string {data:=#[116,101,97,109]},.agg #[v0],0⟩,⟨.string {data:=#[98,101,114,116,104]},.agg #[v1],1⟩] 2)):=by rw[Bm];exact nX _ (Array.getElem?_eq_some_iff.1 HM.out).1
 clear HP Bm hi;have HA:Hid (Acc qv qv [] [] []):=Acc.nil qv;have HQ:Hid (w0.heap.size≤qv.heap.size):=by have:=(Array.getElem?_eq_some_iff.1 HM.out).1;have:=HZ.out;show _≤_;omega
 refine bt rfl 94 3 1 _ rfl qv.heap.size rfl _ rfl Tryz.bZ Tryz.bP (by decide) (by decide) #[.int .i64 3] (by kernel_rfl) ?_;refine bt rfl 44 9 1 _ rfl (qv.heap.size+1) (by simp) _ rfl Tryz.cF Tryz.bA (by decide) (by decide) #[.string {data:=#[99,111,114,101]}] (by kernel_rfl) ?_;refine cY rfl 96 _ rfl _ rfl #[.string {data:=#[116,101,97,109]},.slice (some ⟨qv.heap.size,0,none⟩) 1 1,.bool false,.slice (some ⟨qv.heap.size+1,0,none⟩) 1 1] (by kernel_rfl) ?_;simp only[Act.put,List.setIfInBounds_toArray,List.set_cons_zero,List.set_cons_succ];obtain⟨yu,Hz⟩:∃ x,x=(qv.alloc (.cells #[.int .i64 3] 3)).alloc (.cells #[.string {data:=#[99,111,114,101]}] 9):=⟨_,rfl⟩
 rw[← Hz];have HX:Hid (Bel qv yu):=by rw[Hz];exact ae (ae zR _) _
 obtain⟨G,hG⟩:=HA.out.one ⟨{data:=#[116,101,97,109]},[3],false,[{data:=#[99,111,114,101]}]⟩ #[.int .i64 3] #[.string {data:=#[99,111,114,101]}] rfl rfl (by decide) (by decide) rfl;rw[← Hz]at hG;replace HA:=uh hG
 replace HB:=uh (ah HB.out HX.out)
 replace HM:=uh ((HX.out.block _ (Array.getElem?_eq_some_iff.1 HM.out).1).trans HM.out)
 replace ey:=uh (ey.out.later HX.out)
 replace jm:=uh (jm.out.later HX.out)
 clear hG HX Hz;refine bt rfl 94 3 1 _ rfl yu.heap.size rfl _ rfl Tryz.bZ Tryz.bP (by decide) (by decide) #[.int .i64 1] (by kernel_rfl) ?_;refine bt rfl 44 9 1 _ rfl (yu.heap.size+1) (by simp) _ rfl Tryz.cF Tryz.bA (by decide) (by decide) #[.string {data:=#[49]}] (by kernel_rfl) ?_;refine cY rfl 96 _ rfl _ rfl #[.string {data:=#[105,109,97,103,101]},.slice (some ⟨yu.heap.size,0,none⟩) 1 1,.bool false,.slice (some ⟨yu.heap.size+1,0,none⟩) 1 1] (by kernel_rfl) ?_;simp only[Act.put,List.setIfInBounds_toArray,List.set_cons_zero,List.set_cons_succ];obtain⟨zJ,Ho⟩:∃ x,x=(yu.alloc (.cells #[.int .i64 1] 3)).alloc (.cells #[.string {data:=#[49]}] 9):=⟨_,rfl⟩
 rw[← Ho];have HX:Hid (Bel yu zJ):=by rw[Ho];exact ae (ae zR _) _
 obtain⟨G,hG⟩:=HA.out.one ⟨{data:=#[105,109,97,103,101]},[1],false,[{data:=#[49]}]⟩ #[.int .i64 1] #[.string {data:=#[49]}] rfl rfl (by decide) (by decide) rfl;rw[← Ho]at hG;replace HA:=uh hG
 replace HB:=uh (ah HB.out HX.out)
 replace HM:=uh ((HX.out.block _ (Array.getElem?_eq_some_iff.1 HM.out).1).trans HM.out)
 replace ey:=uh (ey.out.later HX.out)
 replace jm:=uh (jm.out.later HX.out)
 clear hG HX Ho;refine bt rfl 94 3 1 _ rfl zJ.heap.size rfl _ rfl Tryz.bZ Tryz.bP (by decide) (by decide) #[.int .i64 1] (by kernel_rfl) ?_;refine bt rfl 44 9 1 _ rfl (zJ.heap.size+1) (by simp) _ rfl Tryz.cF Tryz.bA (by decide) (by decide) #[.string {data:=#[49]}] (by kernel_rfl) ?_;refine cY rfl 96 _ rfl _ rfl #[.string {data:=#[119,97,110,116]},.slice (some ⟨zJ.heap.size,0,none⟩) 1 1,.bool false,.slice (some ⟨zJ.heap.size+1,0,none⟩) 1 1] (by kernel_rfl) ?_;simp only[Act.put,List.setIfInBounds_toArray,List.set_cons_zero,List.set_cons_succ];obtain⟨wV,Is⟩:∃ x,x=(zJ.alloc (.cells #[.int .i64 1] 3)).alloc (.cells #[.string {data:=#[49]}] 9):=⟨_,rfl⟩
 rw[← Is];have HX:Hid (Bel zJ wV):=by rw[Is];exact ae (ae zR _) _
 obtain⟨G,hG⟩:=HA.out.one ⟨{data:=#[119,97,110,116]},[1],false,[{data:=#[49]}]⟩ #[.int .i64 1] #[.string {data:=#[49]}] rfl rfl (by decide) (by decide) rfl;rw[← Is]at hG;replace HA:=uh hG
 replace HB:=uh (ah HB.out HX.out)
 replace HM:=uh ((HX.out.block _ (Array.getElem?_eq_some_iff.1 HM.out).1).trans HM.out)
 replace ey:=uh (ey.out.later HX.out)
 replace jm:=uh (jm.out.later HX.out)
 clear hG HX Is;refine bt rfl 94 3 1 _ rfl wV.heap.size rfl _ rfl Tryz.bZ Tryz.bP (by decide) (by decide) #[.int .i64 1] (by kernel_rfl) ?_;refine bt rfl 44 9 1 _ rfl (wV.heap.size+1) (by simp) _ rfl Tryz.cF Tryz.bA (by decide) (by decide) #[.string {data:=#[49]}] (by kernel_rfl) ?_;refine cY rfl 96 _ rfl _ rfl #[.string {data:=#[100,111,119,110]},.slice (some ⟨wV.heap.size,0,none⟩) 1 1,.bool false,.slice (some ⟨wV.heap.size+1,0,none⟩) 1 1] (by kernel_rfl) ?_;simp only[Act.put,List.setIfInBounds_toArray,List.set_cons_zero,List.set_cons_succ];obtain⟨yD,Ih⟩:∃ x,x=(wV.alloc (.cells #[.int .i64 1] 3)).alloc (.cells #[.string {data:=#[49]}] 9):=⟨_,rfl⟩
 rw[← Ih];have HX:Hid (Bel wV yD):=by rw[Ih];exact ae (ae zR _) _
 obtain⟨G,hG⟩:=HA.out.one ⟨{data:=#[100,111,119,110]},[1],false,[{data:=#[49]}]⟩ #[.int .i64 1] #[.string {data:=#[49]}] rfl rfl (by decide) (by decide) rfl;rw[← Ih]at hG;replace HA:=uh hG
 replace HB:=uh (ah HB.out HX.out)
 replace HM:=uh ((HX.out.block _ (Array.getElem?_eq_some_iff.1 HM.out).1).trans HM.out)
 replace ey:=uh (ey.out.later HX.out)
 replace jm:=uh (jm.out.later HX.out)
 clear hG HX Ih;refine bt rfl 94 3 1 _ rfl yD.heap.size rfl _ rfl Tryz.bZ Tryz.bP (by decide) (by decide) #[.int .i64 1] (by kernel_rfl) ?_;refine bt rfl 44 9 1 _ rfl (yD.heap.size+1) (by simp) _ rfl Tryz.cF Tryz.bA (by decide) (by decide) #[.string {data:=#[48]}] (by kernel_rfl) ?_;refine cY rfl 96 _ rfl _ rfl #[.string {data:=#[111,118,101,114]},.slice (some ⟨yD.heap.size,0,none⟩) 1 1,.bool false,.slice (some ⟨yD.heap.size+1,0,none⟩) 1 1] (by kernel_rfl) ?_;simp only[Act.put,List.setIfInBounds_toArray,List.set_cons_zero,List.set_cons_succ];obtain⟨wH,Ik⟩:∃ x,x=(yD.alloc (.cells #[.int .i64 1] 3)).alloc (.cells #[.string {data:=#[48]}] 9):=⟨_,rfl⟩
 rw[← Ik];have HX:Hid (Bel yD wH):=by rw[Ik];exact ae (ae zR _) _
 obtain⟨G,hG⟩:=HA.out.one ⟨{data:=#[111,118,101,114]},[1],false,[{data:=#[48]}]⟩ #[.int .i64 1] #[.string {data:=#[48]}] rfl rfl (by decide) (by decide) rfl;rw[← Ik]at hG;replace HA:=uh hG
 replace HB:=uh (ah HB.out HX.out)
 replace HM:=uh ((HX.out.block _ (Array.getElem?_eq_some_iff.1 HM.out).1).trans HM.out)
 replace ey:=uh (ey.out.later HX.out)
 replace jm:=uh (jm.out.later HX.out)
 clear hG HX Ik;refine bt rfl 94 3 2 _ rfl wH.heap.size rfl _ rfl Tryz.bZ Tryz.bP (by decide) (by decide) #[.int .i64 1,.int .i64 1] (by kernel_rfl) ?_;refine bt rfl 44 9 2 _ rfl (wH.heap.size+1) (by simp) _ rfl Tryz.cF Tryz.bA (by decide) (by decide) #[.string {data:=#[49]},.string {data:=#[49]}] (by kernel_rfl) ?_;refine cY rfl 96 _ rfl _ rfl #[.string {data:=#[110,101,101,100,115]},.slice (some ⟨wH.heap.size,0,none⟩) 2 2,.bool false,.slice (some ⟨wH.heap.size+1,0,none⟩) 2 2] (by kernel_rfl) ?_;simp only[Act.put,List.setIfInBounds_toArray,List.set_cons_zero,List.set_cons_succ];obtain⟨Bz,Hy⟩:∃ x,x=(wH.alloc (.cells #[.int .i64 1,.int .i64 1] 3)).alloc (.cells #[.string {data:=#[49]},.string {data:=#[49]}] 9):=⟨_,rfl⟩
 rw[← Hy];have HX:Hid (Bel wH Bz):=by rw[Hy];exact ae (ae zR _) _
 obtain⟨G,hG⟩:=HA.out.one ⟨{data:=#[110,101,101,100,115]},[1,1],false,[{data:=#[49]},{data:=#[49]}]⟩ #[.int .i64 1,.int .i64 1] #[.string {data:=#[49]},.string {data:=#[49]}] rfl rfl (by decide) (by decide) rfl;rw[← Hy]at hG;replace HA:=uh hG
 replace HB:=uh (ah HB.out HX.out)
 replace HM:=uh ((HX.out.block _ (Array.getElem?_eq_some_iff.1 HM.out).1).trans HM.out)
 replace ey:=uh (ey.out.later HX.out)
 replace jm:=uh (jm.out.later HX.out)
 clear hG HX Hy;refine bt rfl 94 3 1 _ rfl Bz.heap.size rfl _ rfl Tryz.bZ Tryz.bP (by decide) (by decide) #[.int .i64 4] (by kernel_rfl) ?_;refine bt rfl 44 9 1 _ rfl (Bz.heap.size+1) (by simp) _ rfl Tryz.cF Tryz.bA (by decide) (by decide) #[.string {data:=#[]}] (by kernel_rfl) ?_;refine cY rfl 96 _ rfl _ rfl #[.string {data:=#[119,104,101,114,101]},.slice (some ⟨Bz.heap.size,0,none⟩) 1 1,.bool false,.slice (some ⟨Bz.heap.size+1,0,none⟩) 1 1] (by kernel_rfl) ?_;simp only[Act.put,List.setIfInBounds_toArray,List.set_cons_zero,List.set_cons_succ];obtain⟨Jy,IF⟩:∃ x,x=(Bz.alloc (.cells #[.int .i64 4] 3)).alloc (.cells #[.string {data:=#[]}] 9):=⟨_,rfl⟩
 rw[← IF];have HX:Hid (Bel Bz Jy):=by rw[IF];exact ae (ae zR _) _
 obtain⟨G,hG⟩:=HA.out.one ⟨{data:=#[119,104,101,114,101]},[4],false,[{data:=#[]}]⟩ #[.int .i64 4] #[.string {data:=#[]}] rfl rfl (by decide) (by decide) rfl;rw[← IF]at hG;replace HA:=uh hG
 replace HB:=uh (ah HB.out HX.out)
 replace HM:=uh ((HX.out.block _ (Array.getElem?_eq_some_iff.1 HM.out).1).trans HM.out)
 replace ey:=uh (ey.out.later HX.out)
 replace jm:=uh (jm.out.later HX.out)
 clear hG HX IF;refine bt rfl 94 3 2 _ rfl Jy.heap.size rfl _ rfl Tryz.bZ Tryz.bP (by decide) (by decide) #[.int .i64 4,.int .i64 2] (by kernel_rfl) ?_;refine cY rfl 96 _ rfl _ rfl #[.string {data:=#[108,105,107,101]},.slice (some ⟨Jy.heap.size,0,none⟩) 2 2,.bool true,.slice none 0 0] (by kernel_rfl) ?_;simp only[Act.put,List.setIfInBounds_toArray,List.set_cons_zero,List.set_cons_succ];obtain⟨BE,IK⟩:∃ x,x=Jy.alloc (.cells #[.int .i64 4,.int .i64 2] 3):=⟨_,rfl⟩
 rw[← IK];have HX:Hid (Bel Jy BE):=by rw[IK];exact ae zR _
 obtain⟨G,hG⟩:=HA.out.many ⟨{data:=#[108,105,107,101]},[4,2],true,[]⟩ #[.int .i64 4,.int .i64 2] rfl rfl (by decide) rfl;rw[← IK]at hG;replace HA:=uh hG
 replace HB:=uh (ah HB.out HX.out)
 replace HM:=uh ((HX.out.block _ (Array.getElem?_eq_some_iff.1 HM.out).1).trans HM.out)
 replace ey:=uh (ey.out.later HX.out)
 replace jm:=uh (jm.out.later HX.out)
 clear hG HX IK;refine bt rfl 94 3 1 _ rfl BE.heap.size rfl _ rfl Tryz.bZ Tryz.bP (by decide) (by decide) #[.int .i64 6] (by kernel_rfl) ?_;refine bt rfl 44 9 1 _ rfl (BE.heap.size+1) (by simp) _ rfl Tryz.cF Tryz.bA (by decide) (by decide) #[.string {data:=#[110,111,110,101]}] (by kernel_rfl) ?_;refine cY rfl 96 _ rfl _ rfl #[.string {data:=#[97,112,97,114,116]},.slice (some ⟨BE.heap.size,0,none⟩) 1 1,.bool false,.slice (some ⟨BE.heap.size+1,0,none⟩) 1 1] (by kernel_rfl) ?_;simp only[Act.put,List.setIfInBounds_toArray,List.set_cons_zero,List.set_cons_succ];obtain⟨BF,Iv⟩:∃ x,x=(BE.alloc (.cells #[.int .i64 6] 3)).alloc (.cells #[.string {data:=#[110,111,110,101]}] 9):=⟨_,rfl⟩
 rw[← Iv];have HX:Hid (Bel BE BF):=by rw[Iv];exact ae (ae zR _) _
 obtain⟨G,hG⟩:=HA.out.one ⟨{data:=#[97,112,97,114,116]},[6],false,[{data:=#[110,111,110,101]}]⟩ #[.int .i64 6] #[.string {data:=#[110,111,110,101]}] rfl rfl (by decide) (by decide) rfl;rw[← Iv]at hG;replace HA:=uh hG
 replace HB:=uh (ah HB.out HX.out)
 replace HM:=uh ((HX.out.block _ (Array.getElem?_eq_some_iff.1 HM.out).1).trans HM.out)
 replace ey:=uh (ey.out.later HX.out)
 replace jm:=uh (jm.out.later HX.out)
 clear hG HX Iv;refine bt rfl 94 3 1 _ rfl BF.heap.size rfl _ rfl Tryz.bZ Tryz.bP (by decide) (by decide) #[.int .i64 5] (by kernel_rfl) ?_;refine bt rfl 44 9 1 _ rfl (BF.heap.size+1) (by simp) _ rfl Tryz.cF Tryz.bA (by decide) (by decide) #[.string {data:=#[110,111]}] (by kernel_rfl) ?_;refine cY rfl 96 _ rfl _ rfl #[.string {data:=#[118,111,108,117,109,101]},.slice (some ⟨BF.heap.size,0,none⟩) 1 1,.bool false,.slice (some ⟨BF.heap.size+1,0,none⟩) 1 1] (by kernel_rfl) ?_;simp only[Act.put,List.setIfInBounds_toArray,List.set_cons_zero,List.set_cons_succ];obtain⟨Bs,IE⟩:∃ x,x=(BF.alloc (.cells #[.int .i64 5] 3)).alloc (.cells #[.string {data:=#[110,111]}] 9):=⟨_,rfl⟩
 rw[← IE];have HX:Hid (Bel BF Bs):=by rw[IE];exact ae (ae zR _) _
 obtain⟨G,hG⟩:=HA.out.one ⟨{data:=#[118,111,108,117,109,101]},[5],false,[{data:=#[110,111]}]⟩ #[.int .i64 5] #[.string {data:=#[110,111]}] rfl rfl (by decide) (by decide) rfl;rw[← IE]at hG;replace HA:=uh hG
 replace HB:=uh (ah HB.out HX.out)
 replace HM:=uh ((HX.out.block _ (Array.getElem?_eq_some_iff.1 HM.out).1).trans HM.out)
 replace ey:=uh (ey.out.later HX.out)
 replace jm:=uh (jm.out.later HX.out)
 clear hG HX IE;refine bt rfl 94 3 3 _ rfl Bs.heap.size rfl _ rfl Tryz.bZ Tryz.bP (by decide) (by decide) #[.int .i64 1,.int .i64 1,.int .i64 1] (by kernel_rfl) ?_;refine bt rfl 44 9 3 _ rfl (Bs.heap.size+1) (by simp) _ rfl Tryz.cF Tryz.bA (by decide) (by decide) #[.string {data:=#[48]},.string {data:=#[48]},.string {data:=#[48]}] (by kernel_rfl) ?_;refine cY rfl 96 _ rfl _ rfl #[.string {data:=#[102,111,108,108,111,119]},.slice (some ⟨Bs.heap.size,0,none⟩) 3 3,.bool false,.slice (some ⟨Bs.heap.size+1,0,none⟩) 3 3] (by kernel_rfl) ?_;simp only[Act.put,List.setIfInBounds_toArray,List.set_cons_zero,List.set_cons_succ];obtain⟨BI,Ir⟩:∃ x,x=(Bs.alloc (.cells #[.int .i64 1,.int .i64 1,.int .i64 1] 3)).alloc (.cells #[.string {data:=#[48]},.string {data:=#[48]},.string {data:=#[48]}] 9):=⟨_,rfl⟩
 rw[← Ir];have HX:Hid (Bel Bs BI):=by rw[Ir];exact ae (ae zR _) _
 obtain⟨G,hG⟩:=HA.out.one ⟨{data:=#[102,111,108,108,111,119]},[1,1,1],false,[{data:=#[48]},{data:=#[48]},{data:=#[48]}]⟩ #[.int .i64 1,.int .i64 1,.int .i64 1] #[.string {data:=#[48]},.string {data:=#[48]},.string {data:=#[48]}] rfl rfl (by decide) (by decide) rfl;rw[← Ir]at hG;replace HA:=uh hG
 replace HB:=uh (ah HB.out HX.out)
 replace HM:=uh ((HX.out.block _ (Array.getElem?_eq_some_iff.1 HM.out).1).trans HM.out)
 replace ey:=uh (ey.out.later HX.out)
 replace jm:=uh (jm.out.later HX.out)
 clear hG HX Ir;refine bt rfl 94 3 3 _ rfl BI.heap.size rfl _ rfl Tryz.bZ Tryz.bP (by decide) (by decide) #[.int .i64 1,.int .i64 1,.int .i64 1] (by kernel_rfl) ?_;refine bt rfl 44 9 3 _ rfl (BI.heap.size+1) (by simp) _ rfl Tryz.cF Tryz.bA (by decide) (by decide) #[.string {data:=#[48]},.string {data:=#[48]},.string {data:=#[48]}] (by kernel_rfl) ?_;refine cY rfl 96 _ rfl _ rfl #[.string {data:=#[112,97,99,101]},.slice (some ⟨BI.heap.size,0,none⟩) 3 3,.bool false,.slice (some ⟨BI.heap.size+1,0,none⟩) 3 3] (by kernel_rfl) ?_;simp only[Act.put,List.setIfInBounds_toArray,List.set_cons_zero,List.set_cons_succ];obtain⟨M9,Io⟩:∃ x,x=(BI.alloc (.cells #[.int .i64 1,.int .i64 1,.int .i64 1] 3)).alloc (.cells #[.string {data:=#[48]},.string {data:=#[48]},.string {data:=#[48]}] 9):=⟨_,rfl⟩
 rw[← Io];have HX:Hid (Bel BI M9):=by rw[Io];exact ae (ae zR _) _
 obtain⟨G,hG⟩:=HA.out.one ⟨{data:=#[112,97,99,101]},[1,1,1],false,[{data:=#[48]},{data:=#[48]},{data:=#[48]}]⟩ #[.int .i64 1,.int .i64 1,.int .i64 1] #[.string {data:=#[48]},.string {data:=#[48]},.string {data:=#[48]}] rfl rfl (by decide) (by decide) rfl;rw[← Io]at hG;replace HA:=uh hG
 replace HB:=uh (ah HB.out HX.out)
 replace HM:=uh ((HX.out.block _ (Array.getElem?_eq_some_iff.1 HM.out).1).trans HM.out)
 replace ey:=uh (ey.out.later HX.out)
 replace jm:=uh (jm.out.later HX.out)
 clear hG HX Io;have HD:=uh (Kp.of (HA.out.done #[.string {data:=#[116,101,97,109]},.slice (some ⟨qv.heap.size,0,none⟩) 1 1,.bool false,.slice (some ⟨qv.heap.size+1,0,none⟩) 1 1,.string {data:=#[105,109,97,103,101]},.slice (some ⟨yu.heap.size,0,none⟩) 1 1,.bool false,.slice (some ⟨yu.heap.size+1,0,none⟩) 1 1,.string {data:=#[119,97,110,116]},.slice (some ⟨zJ.heap.size,0,none⟩) 1 1,.bool false,.slice (some ⟨zJ.heap.size+1,0,none⟩) 1 1,.string {data:=#[100,111,119,110]},.slice (some ⟨wV.heap.size,0,none⟩) 1 1,.bool false,.slice (some ⟨wV.heap.size+1,0,none⟩) 1 1,.string {data:=#[111,118,101,114]},.slice (some ⟨yD.heap.size,0,none⟩) 1 1,.bool false,.slice (some ⟨yD.heap.size+1,0,none⟩) 1 1,.string {data:=#[110,101,101,100,115]},.slice (some ⟨wH.heap.size,0,none⟩) 2 2,.bool false,.slice (some ⟨wH.heap.size+1,0,none⟩) 2 2,.string {data:=#[119,104,101,114,101]},.slice (some ⟨Bz.heap.size,0,none⟩) 1 1,.bool false,.slice (some ⟨Bz.heap.size+1,0,none⟩) 1 1,.string {data:=#[108,105,107,101]},.slice (some ⟨Jy.heap.size,0,none⟩) 2 2,.bool true,.slice none 0 0,.string {data:=#[97,112,97,114,116]},.slice (some ⟨BE.heap.size,0,none⟩) 1 1,.bool false,.slice (some ⟨BE.heap.size+1,0,none⟩) 1 1,.string {data:=#[118,111,108,117,109,101]},.slice (some ⟨BF.heap.size,0,none⟩) 1 1,.bool false,.slice (some ⟨BF.heap.size+1,0,none⟩) 1 1,.string {data:=#[102,111,108,108,111,119]},.slice (some ⟨Bs.heap.size,0,none⟩) 3 3,.bool false,.slice (some ⟨Bs.heap.size+1,0,none⟩) 3 3,.string {data:=#[112,97,99,101]},.slice (some ⟨BI.heap.size,0,none⟩) 3 3,.bool false,.slice (some ⟨BI.heap.size+1,0,none⟩) 3 3] rfl (by decide)));refine bt rfl 62 96 12 _ rfl M9.heap.size rfl _ rfl Tryz.eM Tryz.jP (by decide) (by decide) #[.string {data:=#[116,101,97,109]},.slice (some ⟨qv.heap.size,0,none⟩) 1 1,.bool false,.slice (some ⟨qv.heap.size+1,0,none⟩) 1 1,.string {data:=#[105,109,97,103,101]},.slice (some ⟨yu.heap.size,0,none⟩) 1 1,.bool false,.slice (some ⟨yu.heap.size+1,0,none⟩) 1 1,.string {data:=#[119,97,110,116]},.slice (some ⟨zJ.heap.size,0,none⟩) 1 1,.bool false,.slice (some ⟨zJ.heap.size+1,0,none⟩) 1 1,.string {data:=#[100,111,119,110]},.slice (some ⟨wV.heap.size,0,none⟩) 1 1,.bool false,.slice (some ⟨wV.heap.size+1,0,none⟩) 1 1,.string {data:=#[111,118,101,114]},.slice (some ⟨yD.heap.size,0,none⟩) 1 1,.bool false,.slice (some ⟨yD.heap.size+1,0,none⟩) 1 1,.string {data:=#[110,101,101,100,115]},.slice (some ⟨wH.heap.size,0,none⟩) 2 2,.bool false,.slice (some ⟨wH.heap.size+1,0,none⟩) 2 2,.string {data:=#[119,104,101,114,101]},.slice (some ⟨Bz.heap.size,0,none⟩) 1 1,.bool false,.slice (some ⟨Bz.heap.size+1,0,none⟩) 1 1,.string {data:=#[108,105,107,101]},.slice (some ⟨Jy.heap.size,0,none⟩) 2 2,.bool true,.slice none 0 0,.string {data:=#[97,112,97,114,116]},.slice (some ⟨BE.heap.size,0,none⟩) 1 1,.bool false,.slice (some ⟨BE.heap.size+1,0,none⟩) 1 1,.string {data:=#[118,111,108,117,109,101]},.slice (some ⟨BF.heap.size,0,none⟩) 1 1,.bool false,.slice (some ⟨BF.heap.size+1,0,none⟩) 1 1,.string {data:=#[102,111,108,108,111,119]},.slice (some ⟨Bs.heap.size,0,none⟩) 3 3,.bool false,.slice (some ⟨Bs.heap.size+1,0,none⟩) 3 3,.string {data:=#[112,97,99,101]},.slice (some ⟨BI.heap.size,0,none⟩) 3 3,.bool false,.slice (some ⟨BI.heap.size+1,0,none⟩) 3 3] (by kernel_rfl) ?_;refine cY rfl 64 _ rfl _ rfl #[.slice (some ⟨M9.heap.size,0,none⟩) 12 12] (by kernel_rfl) ?_;obtain⟨PQ,Ht⟩:∃ x,x=M9.alloc (.cells #[.string {data:=#[116,101,97,109]},.slice (some ⟨qv.heap.size,0,none⟩) 1 1,.bool false,.slice (some ⟨qv.heap.size+1,0,none⟩) 1 1,.string {data:=#[105,109,97,103,101]},.slice (some ⟨yu.heap.size,0,none⟩) 1 1,.bool false,.slice (some ⟨yu.heap.size+1,0,none⟩) 1 1,.string {data:=#[119,97,110,116]},.slice (some ⟨zJ.heap.size,0,none⟩) 1 1,.bool false,.slice (some ⟨zJ.heap.size+1,0,none⟩) 1 1,.string {data:=#[100,111,119,110]},.slice (some ⟨wV.heap.size,0,none⟩) 1 1,.bool false,.slice (some ⟨wV.heap.size+1,0,none⟩) 1 1,.string {data:=#[111,118,101,114]},.slice (some ⟨yD.heap.size,0,none⟩) 1 1,.bool false,.slice (some ⟨yD.heap.size+1,0,none⟩) 1 1,.string {data:=#[110,101,101,100,115]},.slice (some ⟨wH.heap.size,0,none⟩) 2 2,.bool false,.slice (some ⟨wH.heap.size+1,0,none⟩) 2 2,.string {data:=#[119,104,101,114,101]},.slice (some ⟨Bz.heap.size,0,none⟩) 1 1,.bool false,.slice (some ⟨Bz.heap.size+1,0,none⟩) 1 1,.string {data:=#[108,105,107,101]},.slice (some ⟨Jy.heap.size,0,none⟩) 2 2,.bool true,.slice none 0 0,.string {data:=#[97,112,97,114,116]},.slice (some ⟨BE.heap.size,0,none⟩) 1 1,.bool false,.slice (some ⟨BE.heap.size+1,0,none⟩) 1 1,.string {data:=#[118,111,108,117,109,101]},.slice (some ⟨BF.heap.size,0,none⟩) 1 1,.bool false,.slice (some ⟨BF.heap.size+1,0,none⟩) 1 1,.string {data:=#[102,111,108,108,111,119]},.slice (some ⟨Bs.heap.size,0,none⟩) 3 3,.bool false,.slice (some ⟨Bs.heap.size+1,0,none⟩) 3 3,.string {data:=#[112,97,99,101]},.slice (some ⟨BI.heap.size,0,none⟩) 3 3,.bool false,.slice (some ⟨BI.heap.size+1,0,none⟩) 3 3] 96):=⟨_,rfl⟩
 rw[← Ht];rw[← Ht]at HD;have HX:Hid (Bel M9 PQ):=by rw[Ht];exact ae zR _
 replace HB:=uh (ah HB.out HX.out)
 replace HM:=uh ((HX.out.block _ (Array.getElem?_eq_some_iff.1 HM.out).1).trans HM.out)
 replace ey:=uh (ey.out.later HX.out)
 replace jm:=uh (jm.out.later HX.out)
 obtain⟨v2,iI⟩:∃ x,x=Value.slice (some ⟨M9.heap.size,0,none⟩) 12 12:=⟨_,rfl⟩
 replace HD:Hid (Kp w0 Pl.fY v2 PQ):=by rw[iI];exact HD.out.mono HQ.out
 have tR:=HD;rw[← iI];simp only[Act.put,List.setIfInBounds_toArray,List.set_cons_zero,List.set_cons_succ];clear HX HD Ht iI HA HQ;have hi:=oZ HM.out ({data:=#[115,101,114,118,105,99,101]}) (.agg #[v2]) rfl;refine El rfl rfl (ir PQ w.heap.size (.map #[⟨.string {data:=#[116,101,97,109]},.agg #[v0],0⟩,⟨.string {data:=#[98,101,114,116,104]},.agg #[v1],1⟩,⟨.string {data:=#[115,101,114,118,105,99,101]},.agg #[v2],2⟩] 3)) (by simp[execOp,go_sem,hi]) ?_;obtain⟨Iq,yq⟩:∃ x,x=ir PQ w.heap.size (.map #[⟨.string {data:=#[116,101,97,109]},.agg #[v0],0⟩,⟨.string {data:=#[98,101,114,116,104]},.agg #[v1],1⟩,⟨.string {data:=#[115,101,114,118,105,99,101]},.agg #[v2],2⟩] 3):=⟨_,rfl⟩
 rw[← yq];have HP:Hid (Marks (fun b=>b=w.heap.size) PQ Iq):=by rw[yq];exact gl _ HM.out
 replace HB:=uh (HP.out.below (fun p e=>by omega) HB.out)
 replace ey:Hid (Kp w0 Pl.ju v0 Iq):=by rw[yq];exact ey.out.put _ HM.out (by have:=HZ.out;omega)
 replace jm:Hid (Kp w0 Pl.jd v1 Iq):=by rw[yq];exact jm.out.put _ HM.out (by have:=HZ.out;omega)
 replace tR:Hid (Kp w0 Pl.fY v2 Iq):=by rw[yq];exact tR.out.put _ HM.out (by have:=HZ.out;omega)
 replace HM:Hid (Iq.heap[w.heap.size]? =some (.map #[⟨.string {data:=#[116,101,97,109]},.agg #[v0],0⟩,⟨.string {data:=#[98,101,114,116,104]},.agg #[v1],1⟩,⟨.string {data:=#[115,101,114,118,105,99,101]},.agg #[v2],2⟩] 3)):=by rw[yq];exact nX _ (Array.getElem?_eq_some_iff.1 HM.out).1
 clear HP yq hi;have HA:Hid (Acc Iq Iq [] [] []):=Acc.nil Iq;have HQ:Hid (w0.heap.size≤Iq.heap.size):=by have:=(Array.getElem?_eq_some_iff.1 HM.out).1;have:=HZ.out;show _≤_;omega
 go_wp2;go_ret;exact⟨_,w0,v0,v1,v2,rfl,HM.out,by have:=HZ.out;omega,ey.out,jm.out,tR.out,HB.out⟩
theorem GR (w W:World) (hb:Bel w W):qC [.row 96 aF] (cQ []) w (.returned (.slice none 0 0)) W:=
 ⟨_,[],rfl,.emp _ _ none rfl .nil,List.nodup_nil,by simp,hb⟩
def il (kind:ByteArray) (vt vb vs:Value):Value:=
 if kind.toList==[116,101,97,109] then vt else if kind.toList==[98,101,114,116,104] then vb else if kind.toList==[115,101,114,118,105,99,101] then vs else .slice none 0 0
theorem fF (a:ByteArray) (x:List UInt8) (y:ByteArray) (h:y.toList=x):(a==y)=(a.toList==x):=by
 subst h;cases a with
 |mk a=>
  cases y with
  |mk y=>
   rw[Pl.tl,Pl.tl];show (a==y)=(a.toList==y.toList)
   rw[Bool.eq_iff_iff,beq_iff_eq,beq_iff_eq];exact⟨fun h=>by rw[h],fun h=>Array.toList_inj.1 h⟩
theorem AN {W:World} {mb:Nat} {vt vb vs:Value} (hb:W.heap[mb]? =some (.map #[⟨.string {data:=#[116,101,97,109]},.agg #[vt],0⟩,⟨.string {data:=#[98,101,114,116,104]},.agg #[vb],1⟩,⟨.string {data:=#[115,101,114,118,105,99,101]},.agg #[vs],2⟩] 3)) (kind:ByteArray):
  (Instr.lookup 60 (.map (some mb)) (.string kind) false).run Tryz.prog W=.ok (.agg #[il kind vt vb vs]) W:=by
 have hz:(zeroValue 64).run Tryz.prog W=.ok (.agg #[.slice none 0 0]) W:=by kernel_rfl
 have e1:=fF kind [116,101,97,109] {data:=#[116,101,97,109]} (by decide+kernel);have e2:=fF kind [98,101,114,116,104] {data:=#[98,101,114,116,104]} (by decide+kernel);have e3:=fF kind [115,101,114,118,105,99,101] {data:=#[115,101,114,118,105,99,101]} (by decide+kernel);obtain⟨r,hr,hv⟩:∃ r,Instr.findNow .string (.string kind) [⟨.string {data:=#[116,101,97,109]},.agg #[vt],0⟩,⟨.string {data:=#[98,101,114,116,104]},.agg #[vb],1⟩,⟨.string {data:=#[115,101,114,118,105,99,101]},.agg #[vs],2⟩] 0=some r∧(match r with|some (_,v)=>v|none=> .agg #[.slice none 0 0])=.agg #[il kind vt vb vs]:=by
  simp only[Instr.findNow,Instr.sameNow,e1,e2,e3,il];cases (kind.toList==[116,101,97,109])<;>cases (kind.toList==[98,101,114,116,104])<;>cases (kind.toList==[115,101,114,118,105,99,101])<;>exact⟨_,rfl,rfl⟩
 have hf:=ig W kind _ r hr;cases r with
 |none=>
  simp only at hv;simp[Instr.lookup,run_underlying Tryz.ik,MapKept.run_getObj_map hb,dC,hf,hz,Result.andThen,hv]
 |some p=>
  obtain⟨j,v⟩:=p;simp only at hv;subst hv;simp[Instr.lookup,run_underlying Tryz.ik,MapKept.run_getObj_map hb,dC,hf,Result.andThen]
theorem uL {w w0 W:World} {vt vb vs:Value} (kind:ByteArray) (h0:w.heap.size≤w0.heap.size) (ht:Kp w0 Pl.ju vt W) (hb:Kp w0 Pl.jd vb W) (hs:Kp w0 Pl.fY vs W) (hB:Bel w W):
  qC [.row 96 aF] (cQ (Pl.ai kind)) w (.returned (il kind vt vb vs)) W:=by
 unfold il Pl.ai;split
 ·exact ht.ans h0 hB
 ·split
  ·exact hb.ans h0 hB
  ·split
   ·exact hs.ans h0 hB
   ·exact GR w W hB
def bL (a b:ByteArray):Int:=if Pl.nH a b then -1 else if a.toList==b.toList then 0 else 1
def dz (a b:Int):Int:=if a<b then -1 else if b<a then 1 else 0
def ef:List Int→Int
 |[]=>0
 |x::l=>if x=0 then ef l else x
def fC (x y:Int):Int:=if x=0 then y else x
theorem tk (l:List Int) (k:Nat) (hk:k<l.length):ef (l.drop k)=if l.getD k 0=0 then ef (l.drop (k+1)) else l.getD k 0:=by
 have e:l.drop k=l[k]::l.drop (k+1):=List.drop_eq_getElem_cons hk;have e2:l.getD k 0=l[k]:=by simp[hk]
 rw[e,e2];rfl
theorem JY (a:ByteArray) (w:World):Calls Tryz.prog 70 #[.string a] w fun e w'=>e=.returned (.bool false)∧w=w':=by
 go_enter Tryz.func70,Tryz.ntmps70
 go_wp2;go_ret;exact⟨Pl.aq (by simp),rfl⟩
theorem xO (a:Int) (w:World):Calls Tryz.prog 96 #[.int .i64 a] w fun e w'=>e=.returned (.bool false)∧w=w':=by
 go_enter Tryz.func96,Tryz.ntmps96
 go_wp2;go_ret;exact⟨Pl.aq (by simp),rfl⟩
theorem Nh (a b:ByteArray) (w:World):Calls Tryz.prog 42 #[.string a,.string b] w fun e w'=>e=.returned (.int .i64 (bL a b))∧w=w':=by
 obtain⟨R,hR⟩:∃ R,R=bL a b:=⟨_,rfl⟩
 have HR:Hid (R=bL a b):=hR;rw[← hR];clear hR;go_enter Tryz.func42,Tryz.ntmps42
 cases h1:Op.bytesLess a.toList b.toList<;>cases h2:(a.toList==b.toList)
 all_goals
  have HE:Hid (R=if Op.bytesLess a.toList b.toList=true then (-1:Int) else if (a.toList==b.toList)=true then 0 else 1):=HR.out;have HE':Hid (Op.bytesLess a.toList b.toList=_∧(a.toList==b.toList)=_):=⟨h1,h2⟩
  go_wp2_with (go_at_call 70;refine(JY _ _).mono ?_;rintro e w' ⟨rfl,rfl⟩)
  go_ret;exact⟨Pl.cU (by rw[HE.out,HE'.out.1,HE'.out.2];rfl),rfl⟩
theorem QU (a b:Int) (w:World):Calls Tryz.prog 73 #[.int .i64 a,.int .i64 b] w fun e w'=>e=.returned (.int .i64 (dz a b))∧w=w':=by
 obtain⟨R,hR⟩:∃ R,R=dz a b:=⟨_,rfl⟩
 have HR:Hid (R=dz a b):=hR;rw[← hR];clear hR;go_enter Tryz.func73,Tryz.ntmps73
 by_cases h1:a<b
 ·have HE:Hid (R= -1):=by show R=_;rw[HR.out];unfold dz;rw[if_pos h1]
  go_wp2_with (go_at_call 96;refine(xO _ _).mono ?_;rintro e w' ⟨rfl,rfl⟩)
  go_ret;exact⟨Pl.cU HE.out.symm,rfl⟩
 ·by_cases h2:b<a
  ·have HE:Hid (R=1):=by show R=_;rw[HR.out];unfold dz;rw[if_neg h1,if_pos h2]
   go_wp2_with (go_at_call 96;refine(xO _ _).mono ?_;rintro e w' ⟨rfl,rfl⟩)
   go_ret;exact⟨Pl.cU HE.out.symm,rfl⟩
  ·have HE:Hid (R=0):=by show R=_;rw[HR.out];unfold dz;rw[if_neg h1,if_neg h2]
   go_wp2_with (go_at_call 96;refine(xO _ _).mono ?_;rintro e w' ⟨rfl,rfl⟩)
   go_ret;exact⟨Pl.cU HE.out.symm,rfl⟩
theorem Nk (g c:Nat) (l:List Int) (w:World) (hl:l.length≤1048576) (hc:∀ i,i<l.length→w.cell? ⟨g,i,none⟩=some (.int .i64 (l.getD i 0))):
  Calls Tryz.prog 41 #[.slice (some ⟨g,0,none⟩) l.length c] w fun e w'=>e=.returned (.int .i64 (ef l))∧w=w':=by
 obtain⟨R,hR⟩:∃ R,R=ef l:=⟨_,rfl⟩
 have HR:Hid (R=ef l):=hR;rw[← hR];clear hR;go_enter Tryz.func41,Tryz.ntmps41
 go_wp2;go_loop [8] (fun i=>∃ k:Nat,k≤l.length∧i=.int .i64 k∧R=ef (l.drop k)) (fun i=>l.length - (intOf i).toNat)
 case atStart=>exact⟨0,zN,rfl,HR.out⟩
 case round=>
  obtain⟨k,hk,rfl,hq⟩:=hrel;have HQ:Hid (R=ef (l.drop k)):=hq;clear hq;by_cases bd:k<l.length
  ·have JJ:=hc k bd;obtain⟨y,hy⟩:∃ y,y=l.getD k 0:=⟨_,rfl⟩
   rw[← hy]at JJ;have HY:Hid (R=if y=0 then ef (l.drop (k+1)) else y):=by show R=_;rw[HQ.out,tk l k bd,hy]
   clear hy hc;by_cases hz:y=0
   ·have HE:Hid (R=ef (l.drop (k+1))):=by show R=_;rw[HY.out,if_pos hz]
    go_wp2;go_round
    case rel=>exact⟨k+1,by omega,by go_num,HE.out⟩
    case measure=>simp[intOf];omega
   ·have HE:Hid (R=y):=by show R=_;rw[HY.out,if_neg hz]
    go_wp2;go_ret;exact⟨Pl.cU HE.out.symm,rfl⟩
  ·have HE:Hid (R=0):=by show R=_;rw[HQ.out,List.drop_eq_nil_of_le (by omega)];rfl
   go_wp2;go_ret;exact⟨Pl.cU HE.out.symm,rfl⟩
theorem nz2 (x y:Int):ef [x,y]=fC x y:=by
 unfold ef fC;split
 ·unfold ef;split
  ·rename_i h;rw[h];rfl
  ·rfl
 ·rfl
theorem CH (g c:Nat) (x y:Int) (w:World) (h0:w.cell? ⟨g,0,none⟩=some (.int .i64 x)) (h1:w.cell? ⟨g,1,none⟩=some (.int .i64 y)):
  Calls Tryz.prog 41 #[.slice (some ⟨g,0,none⟩) 2 c] w fun e w'=>e=.returned (.int .i64 (fC x y))∧w=w':=by
 have:=Nk g c [x,y] w (by simp) (fun i hi=>by
  match i,hi with
  |0,_=>exact h0
  |1,_=>exact h1
  |n+2,h=>simp at h;omega)
 rw[nz2]at this;exact this
theorem cT {P:Program} {id:Nat} {Q:Exit→Act→World→Prop} {a:Act} {w:World} {l:List Oper} (n:Nat) (hm:P.follows .mixedOrders=true) (hB:Region.lexTailB .any l.toArray n=true)
  (h:∀ W,W=w.drew→wpStill P l.toArray W (fun a'=>wpList P l.toArray Q (l.drop n) a' W) (l.take n) a):(Code.region id l.toArray true).wp P Q a w:=
 wp_region_still_tail n hm hB (h _ rfl)
theorem IT (a b:ByteArray) (w:World):Calls Tryz.prog 42 #[.string a,.string b] w fun e w'=>e=.returned (.int .i64 (bL a b))∧w'=w:=(Nh a b w).mono (fun _ _ h=>⟨h.1,h.2.symm⟩)
theorem fI (n:Int) (h0:0≤n) (h1:n≤9223372036854775807):IntKind.i64.wrap n=n:=by
 simp[IntKind.wrap,IntKind.bits,IntKind.signed];omega
def dm (x y:Pl.Bl):Int:=fC (bL x.kind y.kind) (bL x.name y.name)
theorem xb (k0 k1 j0 j1:ByteArray) (p2 q2:Value) (w:World):Calls Tryz.prog 23 #[.agg #[.string k0,.string k1,p2],.agg #[.string j0,.string j1,q2]] w fun e w'=>e=.returned (.int .i64 (fC (bL k0 j0) (bL k1 j1)))∧Bel w w':=by
 obtain⟨wa,aZ⟩:∃ wa,wa=(w.alloc (.cells #[.string k0,.string k1,p2] 41)).alloc (.cells #[.string j0,.string j1,q2] 41):=⟨_,rfl⟩
 have HB:Hid (Bel w wa.drew):=by show Below _ _ _;rw[aZ];exact Below.drew (ae (ae zR _) _)
 have x0:∀ j,wa.drew.cell? ⟨w.heap.size,j,none⟩=(#[.string k0,.string k1,p2]:Array Value)[j]? :=fun j=>by
  show wa.cell? _=_;rw[aZ];exact(World.cell?_alloc_past _ _ _ (by simp)).trans (World.cell?_alloc_at _ _ _ _ rfl)
 have x1:∀ j,wa.drew.cell? ⟨w.heap.size+1,j,none⟩=(#[.string j0,.string j1,q2]:Array Value)[j]? :=fun j=>by
  show wa.cell? _=_;rw[aZ];exact(World.cell?_alloc_at _ _ _ _ (by simp))
 have z:w.heap.size+1<wa.drew.heap.size:=by show _<wa.heap.size;rw[aZ];simp
 go_enter Tryz.func23,Tryz.ntmps23
 go_upto_region 1 with fail
 rw[← aZ];refine cT 10 (by kernel_rfl) (by kernel_rfl) ?_;intro W hW;rw[← hW]at HB x0 x1 z;simp only[List.take_succ_cons,List.take_zero,List.drop_succ_cons,List.drop_zero];have a0:=x0 0;have b0:=x1 0;have a1:=x0 1;have b1:=x1 1;simp at a0 b0 a1 b1;clear x0 x1 aZ hW;still_step
 still_step
 still_step
 still_step
 still_call (IT _ _ _)
 still_step
 still_step
 still_step
 still_step
 still_call (IT _ _ _)
 refine wpStill_nil ?_;go_wp2_with (go_at_call 41;refine(CH _ _ (bL k0 j0) (bL k1 j1) _ (by simp) (by simp)).mono ?_;rintro e w' ⟨rfl,rfl⟩)
 go_ret;exact⟨rfl,ae HB.out _⟩
def cG:List ByteArray→List ByteArray→Int
 |[],[]=>0
 |[],_::_=> -1
 |_::_,[]=>1
 |a::x,b::y=>if bL a b=0 then cG x y else bL a b
theorem GA {A B:List ByteArray} {k:Nat} (h1:k<A.length) (h2:k<B.length):cG (A.drop k) (B.drop k)=if bL (A.getD k Pl.aJ) (B.getD k Pl.aJ)=0 then cG (A.drop (k+1)) (B.drop (k+1)) else bL (A.getD k Pl.aJ) (B.getD k Pl.aJ):=by
 have e1:A.getD k Pl.aJ=A[k]:=by simp[h1]
 have e2:B.getD k Pl.aJ=B[k]:=by simp[h2]
 rw[List.drop_eq_getElem_cons h1,List.drop_eq_getElem_cons h2,cG,e1,e2]
theorem AH {A B:List ByteArray} {k:Nat} (h1:k<A.length) (h2:B.length≤k):cG (A.drop k) (B.drop k)=1:=by
 rw[List.drop_eq_getElem_cons h1,List.drop_of_length_le h2];rfl
theorem Ck {A B:List ByteArray} {k:Nat} (h1:A.length≤k) (h2:k<B.length):cG (A.drop k) (B.drop k)= -1:=by
 rw[List.drop_eq_getElem_cons h2,List.drop_of_length_le h1];rfl
theorem zU {A B:List ByteArray} {k:Nat} (h1:A.length≤k) (h2:B.length≤k):cG (A.drop k) (B.drop k)=0:=by
 rw[List.drop_of_length_le h2,List.drop_of_length_le h1];rfl
theorem J2 (A B:List ByteArray) (va vb:Value) (w:World) (hA:Raw w bB [.row A.length (txD A)] [va]) (hB:Raw w bB [.row B.length (txD B)] [vb]):
  Calls Tryz.prog 74 #[va,vb] w fun e w'=>e=.returned (.int .i64 (cG A B))∧w=w':=by
 obtain⟨a1,c1,rfl⟩:=hA.bm;obtain⟨a2,c2,rfl⟩:=hB.bm;obtain⟨R,hR⟩:∃ R,R=cG A B:=⟨_,rfl⟩
 have HR:Hid (R=cG A B):=hR;rw[← hR];have HA:=uh (dS hA);have HB:=uh (dS hB);obtain⟨n,hn⟩:∃ n,n=A.length:=⟨_,rfl⟩
 obtain⟨m,hm⟩:∃ m,m=B.length:=⟨_,rfl⟩
 rw[← hn]at HA;rw[← hm]at HB;rw[← hn,← hm];have HN:=uh (And.intro hn hm);have yj:n≤maxLen:=by
  rcases HA.out with h|⟨_,_,_,_,_,h,_⟩
  ·omega
  ·exact h
 unfold maxLen at yj;clear hR hA hB hn hm;go_enter Tryz.func74,Tryz.ntmps74
 go_wp2;go_loop [11] (fun i=>∃ k:Nat,k≤n∧k≤m∧i=.int .i64 k∧Hid (R=cG (A.drop k) (B.drop k))) (fun i=>n - (intOf i).toNat)
 case atStart=>exact⟨0,zN,zN,rfl,HR⟩
 case round=>
  obtain⟨k,hk,LY,rfl,HI⟩:=hrel;by_cases bd:k<n
  rotate_left
  ·obtain rfl:k=n:=by omega
   by_cases hlm:k<m
   ·have HE:Hid (R= -1):=by show R=_;rw[HI.out];exact Ck (by rw[← HN.out.1];exact zE) (by rw[← HN.out.2];exact hlm)
    go_wp2;go_ret;exact⟨Pl.cU HE.out.symm,rfl⟩
   ·have HE:Hid (R=0):=by show R=_;rw[HI.out];exact zU (by rw[← HN.out.1];exact zE) (by rw[← HN.out.2];omega)
    go_wp2;go_ret;exact⟨Pl.cU HE.out.symm,rfl⟩
  rcases HA.out with⟨e0,_⟩|⟨p,o,c,hv,hp,_,hc⟩
  ·omega
  injection hv with g1 _ g3
  subst g1;subst g3;have x0:=hc k bd;have ec:(0:Int)≤(k:Int):=by omega
  have dP:(k:Int)<(n:Int):=by omega
  by_cases hlm:k<m
  rotate_left
  ·have HE:Hid (R=1):=by show R=_;rw[HI.out];exact AH (by rw[← HN.out.1];exact bd) (by rw[← HN.out.2];omega)
   go_wp2;go_ret;exact⟨Pl.cU HE.out.symm,rfl⟩
  rcases HB.out with⟨e0,_⟩|⟨p2,o2,MO,iI,wQ,_,lQ⟩
  ·omega
  injection iI with k1 _ k3
  subst k1;subst k3;have y0:=lQ k hlm;have hkm2:(k:Int)<(m:Int):=by omega
  have HS:Hid _:=uh (GA (A:=A) (B:=B) (k:=k) (by rw[← HN.out.1];exact bd) (by rw[← HN.out.2];exact hlm));obtain⟨x,hx⟩:∃ x,x=A.getD k Pl.aJ:=⟨_,rfl⟩
  obtain⟨y,hy⟩:∃ y,y=B.getD k Pl.aJ:=⟨_,rfl⟩
  rw[← hx]at HS x0;rw[← hy]at HS y0;obtain⟨r,hr⟩:∃ r,r=bL x y:=⟨_,rfl⟩
  have HC:Hid (∀ W,Calls Tryz.prog 42 #[.string x,.string y] W fun e w'=>e=.returned (.int .i64 r)∧W=w'):=fun W=>by rw[hr];exact Nh x y W
  rw[← hr]at HS;clear hx hy hr hc lQ hp wQ;by_cases hz:r=0
  ·have HE:Hid (R=cG (A.drop (k+1)) (B.drop (k+1))):=by show R=_;rw[HI.out,HS.out,if_pos hz]
   subst hz;go_wp2_with (go_at_call 42;refine(HC.out _).mono ?_;rintro e w' ⟨rfl,rfl⟩)
   go_round
   case rel=>exact⟨k+1,by omega,by omega,by go_num,HE⟩
   case measure=>simp[intOf];omega
  ·have HE:Hid (R=r):=by show R=_;rw[HI.out,HS.out,if_neg hz]
   have hb:((r:Int) !=0)=true:=by simp[hz]
   go_wp2_with (go_at_call 42;refine(HC.out _).mono ?_;rintro e w' ⟨rfl,rfl⟩)
   go_ret;exact⟨Pl.cU HE.out.symm,rfl⟩
end Go.Proofs.YtopjjknojnfhmaaGreatDoor
