import Derived.Maps.Keyed
import Derived.StillTailTactics
import Derived.WalkSpells
import Derived.Test.YtgiglpnaekbegaaGreatDoorProg
import Derived.RowKit
import Derived.WalkKit
import Derived.WalkLawsBesides
import Derived.Test.YtgiglpnaekbegaaGreatDoorELc
namespace Go.Proofs.YtgiglpnaekbegaaGreatDoor
set_option maxRecDepth 8000
set_option maxHeartbeats 40000000
open Go.RowKit Go.Deep
theorem Ub {P:Program} {ops:Array Oper} {rest:List Oper} {o:Oper} {a:Act} {w:World} {Q:Exit→Act→World→Prop} (hg:o.guard=none) (k:Option Tmp) (hk:o.dst=k) (u:Value) (w':World) (hr:(execOp a.eval o).run P w=.ok (.value u) w')
  (h:wpList P ops Q rest (a.put k u) w'):wpList P ops Q (o::rest) a w:=by
 subst hk;refine wpList_plain hg fun K hK=> ?_;unfold Oper.wp;rw[hr,YU];exact hK _ _ h
theorem bM {P:Program} {ops:Array Oper} {rest:List Oper} {o:Oper} {a:Act} {w:World} {Q:Exit→Act→World→Prop} (hg:o.guard=none) (t e:TypeId) (n:Nat) (parts:Array (Nat×Operand)) (ho:o.op=.buildSlice t n parts) (N:Nat) (hN:w.heap.size=N) (k:Option Tmp) (hk:o.dst=k)
  (hu:P.underlying t=some (.slice e)) {z:Value} {m b:Nat} (hi:(P.info? e).map (fun i=>(i.zero,i.size,i.bytes))=some (some z,m,b)) (h1:¬ n*m>2 ^ 24) (h2:¬ n*m=0) (cells:Array Value)
  (hf:Instr.fill (fun i=>some (i*m,m)) ((Array.range (n*m)).map (z.cells[· % z.cells.size]!)) (parts.map fun (i,x)=>(i,a.eval x)).toList=some cells)
  (h:wpList P ops Q rest (a.put k (.slice (some ⟨N,0,none⟩) n n)) (w.alloc (.cells cells e))):wpList P ops Q (o::rest) a w:=by
 subst hN;subst hk;obtain⟨i0,iK,dp,eV,_⟩:=i6 hi;subst eV;exact wpList_buildSlice hg t e n parts ho cells i0 z hu iK dp h1 h2 hf h
theorem dY {P:Program} {ops:Array Oper} {rest:List Oper} {o:Oper} {a:Act} {w:World} {Q:Exit→Act→World→Prop} (hg:o.guard=none) (t:TypeId) (parts:Array (Nat×Operand)) (ho:o.op=.build t parts) (k:Option Tmp) (hk:o.dst=k) (cells:Array Value) (hf:P.built t (parts.map fun (i,x)=>(i,a.eval x)).toList=some cells)
  (h:wpList P ops Q rest (a.put k (.agg cells)) w):wpList P ops Q (o::rest) a w:=by
 subst hk;refine wpList_build hg t parts ho (by rw[hf];rfl) ?_;rw[hf];exact h
theorem H5 {P:Program} {ops:Array Oper} {rest:List Oper} {o:Oper} {a:Act} {w:World} {Q:Exit→Act→World→Prop} (hg:o.guard=none) (hd:o.dst=none) (w':World) (bC:(execOp a.eval o).run P w=.ok .skip w')
  (h:wpList P ops Q rest a w'):wpList P ops Q (o::rest) a w:=by
 refine wpList_plain hg fun K hK=> ?_;unfold Oper.wp;rw[bC];have e:a.put o.dst undef=a:=by rw[hd];rfl
 refine hK (a.put o.dst undef) _ ?_;rw[e];exact h
def jG (W:World) (mb:Nat) (o:Obj):World:={W with heap:=W.heap.setIfInBounds mb o}
theorem Cq (W:World) (mb:Nat) (o:Obj):(jG W mb o).heap.size=W.heap.size:=by simp[jG]
theorem p9 {W:World} {mb:Nat} (o:Obj) (h:mb<W.heap.size):(jG W mb o).heap[mb]? =some o:=by simp[jG,h]
theorem rO {W:World} {mb b:Nat} (o:Obj) (h:b≠mb):(jG W mb o).heap[b]? =W.heap[b]? :=by
 simp only[jG];rw[Array.getElem?_setIfInBounds,if_neg (fun e=>h e.symm)]
theorem iD {W:World} {mb:Nat} {es:Array MapEntry} {cl:Nat} (o:Obj) (h:W.heap[mb]? =some (.map es cl)):Marks (fun b=>b=mb) W (jG W mb o):=
 ⟨rfl,rfl,rfl,by rw[Cq];exact zE,fun p _ hn=>rO o hn,fun b t m hO=>by
  obtain⟨cs,e,hm⟩:=hO;have dr:b≠mb:=fun e'=>by subst e';rw[h]at e;cases e
  exact⟨cs,(rO o dr).trans e,hm⟩⟩
theorem Tryz.yg:Tryz.prog.underlying 9=some .string:=by kernel_rfl
theorem Tryz.jB:Tryz.prog.underlying 121=some (.map 9 141):=by kernel_rfl
theorem Tryz.cP:Tryz.prog.underlying 73=some (.slice 3):=by kernel_rfl
theorem Tryz.dt:Tryz.prog.underlying 38=some (.slice 9):=by kernel_rfl
theorem eA (W:World) (em:Bool) (k:ByteArray):(Instr.checkKey em 10000 9 (.string k)).run Tryz.prog W=.ok () W:=by
 show (Instr.checkKey em (9999+1) 9 (.string k)).run Tryz.prog W=.ok () W;rw[Instr.checkKey];simp[Sem.run_bind,run_underlying Tryz.yg,Result.andThen]
theorem jE (W:World) (k:ByteArray) (es:List MapEntry) (r:Option (Nat×Value)) (h:Instr.findNow .string (.string k) es 0=some r):
  (Instr.findKey 9 (.string k) es).run Tryz.prog W=.ok r W:=by
 simp[Instr.findKey,run_underlying Tryz.yg,h,Result.andThen]
theorem rQ {W:World} {mb:Nat} {es:Array MapEntry} {cl:Nat} (hb:W.heap[mb]? =some (.map es cl)) (k:ByteArray) (v:Value) (hf:Instr.findNow .string (.string k) es.toList 0=some none):
  (Instr.mapUpdate 121 (.map (some mb)) (.string k) v).run Tryz.prog W=.ok () (jG W mb (.map (es.push ⟨.string k,v,cl⟩) (cl+1))):=by
 simp[Instr.mapUpdate,run_underlying Tryz.jB,MapKept.run_getObj_map hb,eA,jE _ k es.toList none hf,MapKept.run_setObj_map _ hb,Result.andThen,jG]
theorem BK (W:World):∀ xs:List Int,Rep W false (bF xs.length [.i]) [] (xs.map .i) (xs.map (.int .i64))
 |[]=> .nil
 |x::xs=>by rw[Xm,dk];exact .i x (BK W xs)
theorem Fo (W:World):∀ xs:List ByteArray,Rep W false (bF xs.length [.s]) [] (txD xs) (xs.map .string)
 |[]=> .nil
 |x::xs=>by rw[Xm,dk];exact .s x (Fo W xs)
theorem yq (W:World) (xs:List Int) (ca:Array Value) (h:ca.toList=xs.map (.int .i64)) (hl:xs.length≤100):Rep (W.alloc (.cells ca 3)) false [.row 3 [.i]] [W.heap.size] [.row xs.length (xs.map .i)] [.slice (some ⟨W.heap.size,0,none⟩) xs.length xs.length]:=by
 refine Rep.row 3 [.i] W.heap.size 0 xs.length xs.length 3 xs.length (xs.map (.int .i64)) (xs.map .i) [] (aN.alloc W ca 3 _ (by rw[← Yk,h,XT])) (by simp) (by intro h;cases h) ⟨by unfold maxLen;omega,zE⟩ ?_ (BK _ xs) .nil;intro j v hv;rw[Xr];refine(World.cell?_alloc_at _ _ _ _ rfl).trans ?_;rw[← h]at hv;simpa using hv
theorem KQ (W:World) (xs:List ByteArray) (ca:Array Value) (h:ca.toList=xs.map .string) (hl:xs.length≤100):Rep (W.alloc (.cells ca 9)) false [.row 9 [.s]] [W.heap.size] [.row xs.length (txD xs)] [.slice (some ⟨W.heap.size,0,none⟩) xs.length xs.length]:=by
 refine Rep.row 9 [.s] W.heap.size 0 xs.length xs.length 9 xs.length (xs.map .string) (txD xs) [] (aN.alloc W ca 9 _ (by rw[← Yk,h,XT])) (by simp) (by intro h;cases h) ⟨by unfold maxLen;omega,zE⟩ ?_ (Fo _ xs) .nil;intro j v hv;rw[Xr];refine(World.cell?_alloc_at _ _ _ _ rfl).trans ?_;rw[← h]at hv;simpa using hv
theorem Acc.one {w W:World} {l:List Pl.Ru} {G:List Nat} {cs:List Value} (h:Acc w W l G cs) (r:Pl.Ru) (ca ct:Array Value) (h1:ca.toList=r.args.map (.int .i64)) (h3:ct.toList=r.dflt.map .string) (l1:r.args.length≤100) (l3:r.dflt.length≤100) (hm:r.many=false):
  ∃ F,Acc w ((W.alloc (.cells ca 3)).alloc (.cells ct 9)) (l++[r]) F (cs++[.string r.key,.slice (some ⟨W.heap.size,0,none⟩) r.args.length r.args.length,.bool false,.slice (some ⟨W.heap.size+1,0,none⟩) r.dflt.length r.dflt.length]):=by
 have k1:=(yq W r.args ca h1 l1).later (af zR (.cells ct 9));have k3:=KQ (W.alloc (.cells ca 3)) r.dflt ct h3 l3;have hz:(W.alloc (.cells ca 3)).heap.size=W.heap.size+1:=by simp
 rw[hz]at k3;have k:=fC r.key k1 r.many k3;rw[hm]at k;refine⟨_,h.push (F:=[W.heap.size]++([W.heap.size+1]++[])) (r:=r) ?_ ?_ ?_ (af (af zR _) _)⟩
 ·unfold ruD;rw[hm];exact k
 ·simp
 ·intro b hb;simp at hb;omega
theorem Acc.many {w W:World} {l:List Pl.Ru} {G:List Nat} {cs:List Value} (h:Acc w W l G cs) (r:Pl.Ru) (ca:Array Value) (h1:ca.toList=r.args.map (.int .i64)) (h3:r.dflt=[]) (l1:r.args.length≤100) (hm:r.many=true):
  ∃ F,Acc w (W.alloc (.cells ca 3)) (l++[r]) F (cs++[.string r.key,.slice (some ⟨W.heap.size,0,none⟩) r.args.length r.args.length,.bool true,.slice none 0 0]):=by
 have k1:=yq W r.args ca h1 l1;have k:=fC r.key k1 r.many (Rep.emp (w:=W.alloc (.cells ca 3)) (tt:=false) 9 [.s] none rfl .nil);rw[hm]at k;refine⟨_,h.push (F:=[W.heap.size]++([]++[])) (r:=r) ?_ ?_ ?_ (af zR _)⟩
 ·unfold ruD;rw[hm,h3];exact k
 ·simp
 ·intro b hb;simp at hb;omega
def Kp (w:World) (l:List Pl.Ru) (v:Value) (W:World):Prop:=∃ F,Rep W false [.row 75 aB] F [bV l] [v]∧F.Nodup∧∀ b∈F,w.heap.size≤b
theorem Kp.later {w W W':World} {l:List Pl.Ru} {v:Value} (h:Kp w l v W) (hb:Bel W W'):Kp w l v W':=by
 obtain⟨F,r,n,o⟩:=h;exact⟨F,r.later hb,n,o⟩
theorem Kp.mono {w w0 W:World} {l:List Pl.Ru} {v:Value} (h:Kp w l v W) (h0:w0.heap.size≤w.heap.size):Kp w0 l v W:=by
 obtain⟨F,r,n,o⟩:=h;exact⟨F,r,n,fun b hb=>Xg h0 (o b hb)⟩
theorem Kp.put {w W:World} {l:List Pl.Ru} {v:Value} {mb:Nat} {es:Array MapEntry} {cl:Nat} (h:Kp w l v W) (o:Obj) (hm:W.heap[mb]? =some (.map es cl)) (bq:mb<w.heap.size):Kp w l v (jG W mb o):=by
 obtain⟨F,r,n,q⟩:=h;exact⟨F,r.cO (iD o hm) (fun b hb e=>by have:=q b hb;omega),n,q⟩
theorem Kp.ans {w0 w W:World} {l:List Pl.Ru} {v:Value} (h:Kp w0 l v W) (h0:w.heap.size≤w0.heap.size) (hb:Bel w W):eT [.row 75 aB] (bV l) w (.returned v) W:=by
 obtain⟨F,r,n,q⟩:=h;exact⟨v,F,rfl,r,n,fun b gY=>Xg h0 (q b gY),hb⟩
theorem Kp.of {w:World} {l:List Pl.Ru} {v:Value} {W':World} (h:eT [.row 75 aB] (bV l) w (.returned v) W'):Kp w l v W':=by
 obtain⟨v',F,e,r,n,q,_⟩:=h;injection e with e
 subst e;exact⟨F,r,n,q⟩
def M9 (w:World) (e:Ending) (w':World):Prop:=∃ mb w0 vt vb vs,e=.returned (.map (some mb))∧w'.heap[mb]? =some (.map #[⟨.string {data:=#[116,101,97,109]},.agg #[vt],0⟩,⟨.string {data:=#[98,101,114,116,104]},.agg #[vb],1⟩,⟨.string {data:=#[115,101,114,118,105,99,101]},.agg #[vs],2⟩] 3)∧w.heap.size≤w0.heap.size∧Kp w0 Pl.kU vt w'∧Kp w0 Pl.j9 vb w'∧Kp w0 Pl.im vs w'∧Bel w w'
theorem kG (w:World):Calls Tryz.prog 64 #[] w (M9 w):=by
 have HB:=uh (Below.refl w.heap.size w);go_enter Tryz.func64,Tryz.ntmps64
 go_upto_region 1 with fail
 refine wp_region_lit ?_;refine Ub rfl _ rfl (.map (some w.heap.size)) (w.alloc (.map #[] 0)) (by simp[execOp,go_sem,run_makeMap]) ?_;simp only[Act.put,so,As,An];obtain⟨w0,iQ⟩:∃ x,x=w.alloc (.map #[] 0):=⟨_,rfl⟩
 rw[← iQ];have HM:Hid (w0.heap[w.heap.size]? =some (.map #[] 0)):=by rw[iQ];exact heap_alloc_new w _
 have HZ:Hid (w0.heap.size=w.heap.size+1):=by show _=_;rw[iQ];simp
 replace HB:Hid (Bel w w0):=by rw[iQ];exact af zR _
 have HA:Hid (Acc w0 w0 [] [] []):=Acc.nil w0;have HQ:Hid (w0.heap.size≤w0.heap.size):=zE;clear iQ;refine bM rfl 73 3 1 _ rfl w0.heap.size rfl _ rfl Tryz.cP Tryz.cA (by decide) (by decide) #[.int .i64 1] (by kernel_rfl) ?_;refine bM rfl 38 9 1 _ rfl (w0.heap.size+1) (by simp) _ rfl Tryz.dt Tryz.bI (by decide) (by decide) #[.string {data:=#[49,48,48]}] (by kernel_rfl) ?_;refine dY rfl 75 _ rfl _ rfl #[.string {data:=#[99,111,112,105,101,115]},.slice (some ⟨w0.heap.size,0,none⟩) 1 1,.bool false,.slice (some ⟨w0.heap.size+1,0,none⟩) 1 1] (by kernel_rfl) ?_;simp only[Act.put,so,As,An];obtain⟨w1,gB⟩:∃ x,x=(w0.alloc (.cells #[.int .i64 1] 3)).alloc (.cells #[.string {data:=#[49,48,48]}] 9):=⟨_,rfl⟩
 rw[← gB];have HX:Hid (Bel w0 w1):=by rw[gB];exact af (af zR _) _
 obtain⟨G,hG⟩:=HA.out.one ⟨{data:=#[99,111,112,105,101,115]},[1],false,[{data:=#[49,48,48]}]⟩ #[.int .i64 1] #[.string {data:=#[49,48,48]}] rfl rfl (by decide) (by decide) rfl;rw[← gB]at hG;replace HA:=uh hG
 replace HB:=uh (ae HB.out HX.out)
 replace HM:=uh ((HX.out.block _ (Xh.1 HM.out).1).trans HM.out)
 clear hG HX gB;refine bM rfl 73 3 1 _ rfl w1.heap.size rfl _ rfl Tryz.cP Tryz.cA (by decide) (by decide) #[.int .i64 1] (by kernel_rfl) ?_;refine bM rfl 38 9 1 _ rfl (w1.heap.size+1) (by simp) _ rfl Tryz.dt Tryz.bI (by decide) (by decide) #[.string {data:=#[49,48,48,48]}] (by kernel_rfl) ?_;refine dY rfl 75 _ rfl _ rfl #[.string {data:=#[114,111,111,109]},.slice (some ⟨w1.heap.size,0,none⟩) 1 1,.bool false,.slice (some ⟨w1.heap.size+1,0,none⟩) 1 1] (by kernel_rfl) ?_;simp only[Act.put,so,As,An];obtain⟨w2,fw⟩:∃ x,x=(w1.alloc (.cells #[.int .i64 1] 3)).alloc (.cells #[.string {data:=#[49,48,48,48]}] 9):=⟨_,rfl⟩
 rw[← fw];have HX:Hid (Bel w1 w2):=by rw[fw];exact af (af zR _) _
 obtain⟨G,hG⟩:=HA.out.one ⟨{data:=#[114,111,111,109]},[1],false,[{data:=#[49,48,48,48]}]⟩ #[.int .i64 1] #[.string {data:=#[49,48,48,48]}] rfl rfl (by decide) (by decide) rfl;rw[← fw]at hG;replace HA:=uh hG
 replace HB:=uh (ae HB.out HX.out)
 replace HM:=uh ((HX.out.block _ (Xh.1 HM.out).1).trans HM.out)
 clear hG HX fw;have HD:=uh (Kp.of (HA.out.done #[.string {data:=#[99,111,112,105,101,115]},.slice (some ⟨w0.heap.size,0,none⟩) 1 1,.bool false,.slice (some ⟨w0.heap.size+1,0,none⟩) 1 1,.string {data:=#[114,111,111,109]},.slice (some ⟨w1.heap.size,0,none⟩) 1 1,.bool false,.slice (some ⟨w1.heap.size+1,0,none⟩) 1 1] rfl (by decide)));refine bM rfl 71 75 2 _ rfl w2.heap.size rfl _ rfl Tryz.fM Tryz.lp (by decide) (by decide) #[.string {data:=#[99,111,112,105,101,115]},.slice (some ⟨w0.heap.size,0,none⟩) 1 1,.bool false,.slice (some ⟨w0.heap.size+1,0,none⟩) 1 1,.string {data:=#[114,111,111,109]},.slice (some ⟨w1.heap.size,0,none⟩) 1 1,.bool false,.slice (some ⟨w1.heap.size+1,0,none⟩) 1 1] (by kernel_rfl) ?_;refine dY rfl 141 _ rfl _ rfl #[.slice (some ⟨w2.heap.size,0,none⟩) 2 2] (by kernel_rfl) ?_;obtain⟨w3,kf⟩:∃ x,x=w2.alloc (.cells #[.string {data:=#[99,111,112,105,101,115]},.slice (some ⟨w0.heap.size,0,none⟩) 1 1,.bool false,.slice (some ⟨w0.heap.size+1,0,none⟩) 1 1,.string {data:=#[114,111,111,109]},.slice (some ⟨w1.heap.size,0,none⟩) 1 1,.bool false,.slice (some ⟨w1.heap.size+1,0,none⟩) 1 1] 75):=⟨_,rfl⟩
 rw[← kf];rw[← kf]at HD;have HX:Hid (Bel w2 w3):=by rw[kf];exact af zR _
 replace HB:=uh (ae HB.out HX.out)
 replace HM:=uh ((HX.out.block _ (Xh.1 HM.out).1).trans HM.out)
 obtain⟨v0,Mj⟩:∃ x,x=Value.slice (some ⟨w2.heap.size,0,none⟩) 2 2:=⟨_,rfl⟩
 replace HD:Hid (Kp w0 Pl.kU v0 w3):=by rw[Mj];exact HD.out.mono HQ.out
 have fe:=HD;rw[← Mj];simp only[Act.put,so,As,An];clear HX HD kf Mj HA HQ;have hi:=rQ HM.out ({data:=#[116,101,97,109]}) (.agg #[v0]) rfl;refine H5 rfl rfl (jG w3 w.heap.size (.map #[⟨.string {data:=#[116,101,97,109]},.agg #[v0],0⟩] 1)) (by simp[execOp,go_sem,hi]) ?_;obtain⟨w4,p4⟩:∃ x,x=jG w3 w.heap.size (.map #[⟨.string {data:=#[116,101,97,109]},.agg #[v0],0⟩] 1):=⟨_,rfl⟩
 rw[← p4];have HP:Hid (Marks (fun b=>b=w.heap.size) w3 w4):=by rw[p4];exact iD _ HM.out
 replace HB:=uh (HP.out.below (fun p e=>by omega) HB.out)
 replace fe:Hid (Kp w0 Pl.kU v0 w4):=by rw[p4];exact fe.out.put _ HM.out (by have:=HZ.out;omega)
 replace HM:Hid (w4.heap[w.heap.size]? =some (.map #[⟨.string {data:=#[116,101,97,109]},.agg #[v0],0⟩] 1)):=by rw[p4];exact p9 _ (Xh.1 HM.out).1
 clear HP p4 hi;have HA:Hid (Acc w4 w4 [] [] []):=Acc.nil w4;have HQ:Hid (w0.heap.size≤w4.heap.size):=by have:=(Xh.1 HM.out).1;have:=HZ.out;show _≤_;omega
 refine bM rfl 73 3 1 _ rfl w4.heap.size rfl _ rfl Tryz.cP Tryz.cA (by decide) (by decide) #[.int .i64 3] (by kernel_rfl) ?_;refine bM rfl 38 9 1 _ rfl (w4.heap.size+1) (by simp) _ rfl Tryz.dt Tryz.bI (by decide) (by decide) #[.string {data:=#[122]}] (by kernel_rfl) ?_;refine dY rfl 75 _ rfl _ rfl #[.string {data:=#[122,111,110,101]},.slice (some ⟨w4.heap.size,0,none⟩) 1 1,.bool false,.slice (some ⟨w4.heap.size+1,0,none⟩) 1 1] (by kernel_rfl) ?_;simp only[Act.put,so,As,An];obtain⟨w5,B5⟩:∃ x,x=(w4.alloc (.cells #[.int .i64 3] 3)).alloc (.cells #[.string {data:=#[122]}] 9):=⟨_,rfl⟩
 rw[← B5];have HX:Hid (Bel w4 w5):=by rw[B5];exact af (af zR _) _
 obtain⟨G,hG⟩:=HA.out.one ⟨{data:=#[122,111,110,101]},[3],false,[{data:=#[122]}]⟩ #[.int .i64 3] #[.string {data:=#[122]}] rfl rfl (by decide) (by decide) rfl;rw[← B5]at hG;replace HA:=uh hG
 replace HB:=uh (ae HB.out HX.out)
 replace HM:=uh ((HX.out.block _ (Xh.1 HM.out).1).trans HM.out)
 replace fe:=uh (fe.out.later HX.out)
 clear hG HX B5;refine bM rfl 73 3 1 _ rfl w5.heap.size rfl _ rfl Tryz.cP Tryz.cA (by decide) (by decide) #[.int .i64 1] (by kernel_rfl) ?_;refine bM rfl 38 9 1 _ rfl (w5.heap.size+1) (by simp) _ rfl Tryz.dt Tryz.bI (by decide) (by decide) #[.string {data:=#[49,48,48]}] (by kernel_rfl) ?_;refine dY rfl 75 _ rfl _ rfl #[.string {data:=#[114,111,111,109]},.slice (some ⟨w5.heap.size,0,none⟩) 1 1,.bool false,.slice (some ⟨w5.heap.size+1,0,none⟩) 1 1] (by kernel_rfl) ?_;simp only[Act.put,so,As,An];obtain⟨w6,nR⟩:∃ x,x=(w5.alloc (.cells #[.int .i64 1] 3)).alloc (.cells #[.string {data:=#[49,48,48]}] 9):=⟨_,rfl⟩
 rw[← nR];have HX:Hid (Bel w5 w6):=by rw[nR];exact af (af zR _) _
 obtain⟨G,hG⟩:=HA.out.one ⟨{data:=#[114,111,111,109]},[1],false,[{data:=#[49,48,48]}]⟩ #[.int .i64 1] #[.string {data:=#[49,48,48]}] rfl rfl (by decide) (by decide) rfl;rw[← nR]at hG;replace HA:=uh hG
 replace HB:=uh (ae HB.out HX.out)
 replace HM:=uh ((HX.out.block _ (Xh.1 HM.out).1).trans HM.out)
 replace fe:=uh (fe.out.later HX.out)
 clear hG HX nR;refine bM rfl 73 3 1 _ rfl w6.heap.size rfl _ rfl Tryz.cP Tryz.cA (by decide) (by decide) #[.int .i64 1] (by kernel_rfl) ?_;refine bM rfl 38 9 1 _ rfl (w6.heap.size+1) (by simp) _ rfl Tryz.dt Tryz.bI (by decide) (by decide) #[.string {data:=#[49,48,48]}] (by kernel_rfl) ?_;refine dY rfl 75 _ rfl _ rfl #[.string {data:=#[104,111,108,100]},.slice (some ⟨w6.heap.size,0,none⟩) 1 1,.bool false,.slice (some ⟨w6.heap.size+1,0,none⟩) 1 1] (by kernel_rfl) ?_;simp only[Act.put,so,As,An];obtain⟨w7,JF⟩:∃ x,x=(w6.alloc (.cells #[.int .i64 1] 3)).alloc (.cells #[.string {data:=#[49,48,48]}] 9):=⟨_,rfl⟩
 rw[← JF];have HX:Hid (Bel w6 w7):=by rw[JF];exact af (af zR _) _
 obtain⟨G,hG⟩:=HA.out.one ⟨{data:=#[104,111,108,100]},[1],false,[{data:=#[49,48,48]}]⟩ #[.int .i64 1] #[.string {data:=#[49,48,48]}] rfl rfl (by decide) (by decide) rfl;rw[← JF]at hG;replace HA:=uh hG
 replace HB:=uh (ae HB.out HX.out)
 replace HM:=uh ((HX.out.block _ (Xh.1 HM.out).1).trans HM.out)
 replace fe:=uh (fe.out.later HX.out)
 clear hG HX JF;refine bM rfl 73 3 1 _ rfl w7.heap.size rfl _ rfl Tryz.cP Tryz.cA (by decide) (by decide) #[.int .i64 3] (by kernel_rfl) ?_;refine dY rfl 75 _ rfl _ rfl #[.string {data:=#[109,97,114,107]},.slice (some ⟨w7.heap.size,0,none⟩) 1 1,.bool true,.slice none 0 0] (by kernel_rfl) ?_;simp only[Act.put,so,As,An];obtain⟨w8,En⟩:∃ x,x=w7.alloc (.cells #[.int .i64 3] 3):=⟨_,rfl⟩
 rw[← En];have HX:Hid (Bel w7 w8):=by rw[En];exact af zR _
 obtain⟨G,hG⟩:=HA.out.many ⟨{data:=#[109,97,114,107]},[3],true,[]⟩ #[.int .i64 3] rfl rfl (by decide) rfl;rw[← En]at hG;replace HA:=uh hG
 replace HB:=uh (ae HB.out HX.out)
 replace HM:=uh ((HX.out.block _ (Xh.1 HM.out).1).trans HM.out)
 replace fe:=uh (fe.out.later HX.out)
 clear hG HX En;have HD:=uh (Kp.of (HA.out.done #[.string {data:=#[122,111,110,101]},.slice (some ⟨w4.heap.size,0,none⟩) 1 1,.bool false,.slice (some ⟨w4.heap.size+1,0,none⟩) 1 1,.string {data:=#[114,111,111,109]},.slice (some ⟨w5.heap.size,0,none⟩) 1 1,.bool false,.slice (some ⟨w5.heap.size+1,0,none⟩) 1 1,.string {data:=#[104,111,108,100]},.slice (some ⟨w6.heap.size,0,none⟩) 1 1,.bool false,.slice (some ⟨w6.heap.size+1,0,none⟩) 1 1,.string {data:=#[109,97,114,107]},.slice (some ⟨w7.heap.size,0,none⟩) 1 1,.bool true,.slice none 0 0] rfl (by decide)));refine bM rfl 71 75 4 _ rfl w8.heap.size rfl _ rfl Tryz.fM Tryz.lp (by decide) (by decide) #[.string {data:=#[122,111,110,101]},.slice (some ⟨w4.heap.size,0,none⟩) 1 1,.bool false,.slice (some ⟨w4.heap.size+1,0,none⟩) 1 1,.string {data:=#[114,111,111,109]},.slice (some ⟨w5.heap.size,0,none⟩) 1 1,.bool false,.slice (some ⟨w5.heap.size+1,0,none⟩) 1 1,.string {data:=#[104,111,108,100]},.slice (some ⟨w6.heap.size,0,none⟩) 1 1,.bool false,.slice (some ⟨w6.heap.size+1,0,none⟩) 1 1,.string {data:=#[109,97,114,107]},.slice (some ⟨w7.heap.size,0,none⟩) 1 1,.bool true,.slice none 0 0] (by kernel_rfl) ?_;refine dY rfl 141 _ rfl _ rfl #[.slice (some ⟨w8.heap.size,0,none⟩) 4 4] (by kernel_rfl) ?_;obtain⟨w9,D8⟩:∃ x,x=w8.alloc (.cells #[.string {data:=#[122,111,110,101]},.slice (some ⟨w4.heap.size,0,none⟩) 1 1,.bool false,.slice (some ⟨w4.heap.size+1,0,none⟩) 1 1,.string {data:=#[114,111,111,109]},.slice (some ⟨w5.heap.size,0,none⟩) 1 1,.bool false,.slice (some ⟨w5.heap.size+1,0,none⟩) 1 1,.string {data:=#[104,111,108,100]},.slice (some ⟨w6.heap.size,0,none⟩) 1 1,.bool false,.slice (some ⟨w6.heap.size+1,0,none⟩) 1 1,.string {data:=#[109,97,114,107]},.slice (some ⟨w7.heap.size,0,none⟩) 1 1,.bool true,.slice none 0 0] 75):=⟨_,rfl⟩
 rw[← D8];rw[← D8]at HD;have HX:Hid (Bel w8 w9):=by rw[D8];exact af zR _
 replace HB:=uh (ae HB.out HX.out)
 replace HM:=uh ((HX.out.block _ (Xh.1 HM.out).1).trans HM.out)
 replace fe:=uh (fe.out.later HX.out)
 obtain⟨v1,h9⟩:∃ x,x=Value.slice (some ⟨w8.heap.size,0,none⟩) 4 4:=⟨_,rfl⟩
 replace HD:Hid (Kp w0 Pl.j9 v1 w9):=by rw[h9];exact HD.out.mono HQ.out
 have jL:=HD;rw[← h9];simp only[Act.put,so,As,An];clear HX HD D8 h9 HA HQ;have hi:=rQ HM.out ({data:=#[98,101,114,116,104]}) (.agg #[v1]) rfl;refine H5 rfl rfl (jG w9 w.heap.size (.map #[⟨.string {data:=#[116,101,97,109]},.agg #[v0],0⟩,⟨.string {data:=#[98,101,114,116,104]},.agg #[v1],1⟩] 2)) (by simp[execOp,go_sem,hi]) ?_;obtain⟨sR,Eg⟩:∃ x,x=jG w9 w.heap.size (.map #[⟨.string {data:=#[116,101,97,109]},.agg #[v0],0⟩,⟨.string {data:=#[98,101,114,116,104]},.agg #[v1],1⟩] 2):=⟨_,rfl⟩
 rw[← Eg];have HP:Hid (Marks (fun b=>b=w.heap.size) w9 sR):=by rw[Eg];exact iD _ HM.out
 replace HB:=uh (HP.out.below (fun p e=>by omega) HB.out)
 replace fe:Hid (Kp w0 Pl.kU v0 sR):=by rw[Eg];exact fe.out.put _ HM.out (by have:=HZ.out;omega)
 replace jL:Hid (Kp w0 Pl.j9 v1 sR):=by rw[Eg];exact jL.out.put _ HM.out (by have:=HZ.out;omega)
 replace HM:Hid (sR.heap[w.heap.size]? =some (.map #[⟨.string {data:=#[116,101,97,109]},.agg #[v0],0⟩,⟨.string {data:=#[98,101,114,116,104]},.agg #[v1],1⟩] 2)):=by rw[Eg];exact p9 _ (Xh.1 HM.out).1
 clear HP Eg hi;have HA:Hid (Acc sR sR [] [] []):=Acc.nil sR;have HQ:Hid (w0.heap.size≤sR.heap.size):=by have:=(Xh.1 HM.out).1;have:=HZ.out;show _≤_;omega
 refine bM rfl 73 3 1 _ rfl sR.heap.size rfl _ rfl Tryz.cP Tryz.cA (by decide) (by decide) #[.int .i64 3] (by kernel_rfl) ?_;refine bM rfl 38 9 1 _ rfl (sR.heap.size+1) (by simp) _ rfl Tryz.dt Tryz.bI (by decide) (by decide) #[.string {data:=#[99,111,114,101]}] (by kernel_rfl) ?_;refine dY rfl 75 _ rfl _ rfl #[.string {data:=#[116,101,97,109]},.slice (some ⟨sR.heap.size,0,none⟩) 1 1,.bool false,.slice (some ⟨sR.heap.size+1,0,none⟩) 1 1] (by kernel_rfl) ?_;simp only[Act.put,so,As,An];obtain⟨Bd,Ll⟩:∃ x,x=(sR.alloc (.cells #[.int .i64 3] 3)).alloc (.cells #[.string {data:=#[99,111,114,101]}] 9):=⟨_,rfl⟩
 rw[← Ll];have HX:Hid (Bel sR Bd):=by rw[Ll];exact af (af zR _) _
 obtain⟨G,hG⟩:=HA.out.one ⟨{data:=#[116,101,97,109]},[3],false,[{data:=#[99,111,114,101]}]⟩ #[.int .i64 3] #[.string {data:=#[99,111,114,101]}] rfl rfl (by decide) (by decide) rfl;rw[← Ll]at hG;replace HA:=uh hG
 replace HB:=uh (ae HB.out HX.out)
 replace HM:=uh ((HX.out.block _ (Xh.1 HM.out).1).trans HM.out)
 replace fe:=uh (fe.out.later HX.out)
 replace jL:=uh (jL.out.later HX.out)
 clear hG HX Ll;refine bM rfl 73 3 1 _ rfl Bd.heap.size rfl _ rfl Tryz.cP Tryz.cA (by decide) (by decide) #[.int .i64 1] (by kernel_rfl) ?_;refine bM rfl 38 9 1 _ rfl (Bd.heap.size+1) (by simp) _ rfl Tryz.dt Tryz.bI (by decide) (by decide) #[.string {data:=#[49]}] (by kernel_rfl) ?_;refine dY rfl 75 _ rfl _ rfl #[.string {data:=#[105,109,97,103,101]},.slice (some ⟨Bd.heap.size,0,none⟩) 1 1,.bool false,.slice (some ⟨Bd.heap.size+1,0,none⟩) 1 1] (by kernel_rfl) ?_;simp only[Act.put,so,As,An];obtain⟨sM,nM⟩:∃ x,x=(Bd.alloc (.cells #[.int .i64 1] 3)).alloc (.cells #[.string {data:=#[49]}] 9):=⟨_,rfl⟩
 rw[← nM];have HX:Hid (Bel Bd sM):=by rw[nM];exact af (af zR _) _
 obtain⟨G,hG⟩:=HA.out.one ⟨{data:=#[105,109,97,103,101]},[1],false,[{data:=#[49]}]⟩ #[.int .i64 1] #[.string {data:=#[49]}] rfl rfl (by decide) (by decide) rfl;rw[← nM]at hG;replace HA:=uh hG
 replace HB:=uh (ae HB.out HX.out)
 replace HM:=uh ((HX.out.block _ (Xh.1 HM.out).1).trans HM.out)
 replace fe:=uh (fe.out.later HX.out)
 replace jL:=uh (jL.out.later HX.out)
 clear hG HX nM;refine bM rfl 73 3 1 _ rfl sM.heap.size rfl _ rfl Tryz.cP Tryz.cA (by decide) (by decide) #[.int .i64 1] (by kernel_rfl) ?_;refine bM rfl 38 9 1 _ rfl (sM.heap.size+1) (by simp) _ rfl Tryz.dt Tryz.bI (by decide) (by decide) #[.string {data:=#[49]}] (by kernel_rfl) ?_;refine dY rfl 75 _ rfl _ rfl #[.string {data:=#[119,97,110,116]},.slice (some ⟨sM.heap.size,0,none⟩) 1 1,.bool false,.slice (some ⟨sM.heap.size+1,0,none⟩) 1 1] (by kernel_rfl) ?_;simp only[Act.put,so,As,An];obtain⟨sw,KZ⟩:∃ x,x=(sM.alloc (.cells #[.int .i64 1] 3)).alloc (.cells #[.string {data:=#[49]}] 9):=⟨_,rfl⟩
 rw[← KZ];have HX:Hid (Bel sM sw):=by rw[KZ];exact af (af zR _) _
 obtain⟨G,hG⟩:=HA.out.one ⟨{data:=#[119,97,110,116]},[1],false,[{data:=#[49]}]⟩ #[.int .i64 1] #[.string {data:=#[49]}] rfl rfl (by decide) (by decide) rfl;rw[← KZ]at hG;replace HA:=uh hG
 replace HB:=uh (ae HB.out HX.out)
 replace HM:=uh ((HX.out.block _ (Xh.1 HM.out).1).trans HM.out)
 replace fe:=uh (fe.out.later HX.out)
 replace jL:=uh (jL.out.later HX.out)
 clear hG HX KZ;refine bM rfl 73 3 1 _ rfl sw.heap.size rfl _ rfl Tryz.cP Tryz.cA (by decide) (by decide) #[.int .i64 1] (by kernel_rfl) ?_;refine bM rfl 38 9 1 _ rfl (sw.heap.size+1) (by simp) _ rfl Tryz.dt Tryz.bI (by decide) (by decide) #[.string {data:=#[49]}] (by kernel_rfl) ?_;refine dY rfl 75 _ rfl _ rfl #[.string {data:=#[100,111,119,110]},.slice (some ⟨sw.heap.size,0,none⟩) 1 1,.bool false,.slice (some ⟨sw.heap.size+1,0,none⟩) 1 1] (by kernel_rfl) ?_;simp only[Act.put,so,As,An];obtain⟨AI,LL⟩:∃ x,x=(sw.alloc (.cells #[.int .i64 1] 3)).alloc (.cells #[.string {data:=#[49]}] 9):=⟨_,rfl⟩
 rw[← LL];have HX:Hid (Bel sw AI):=by rw[LL];exact af (af zR _) _
 obtain⟨G,hG⟩:=HA.out.one ⟨{data:=#[100,111,119,110]},[1],false,[{data:=#[49]}]⟩ #[.int .i64 1] #[.string {data:=#[49]}] rfl rfl (by decide) (by decide) rfl;rw[← LL]at hG;replace HA:=uh hG
 replace HB:=uh (ae HB.out HX.out)
 replace HM:=uh ((HX.out.block _ (Xh.1 HM.out).1).trans HM.out)
 replace fe:=uh (fe.out.later HX.out)
 replace jL:=uh (jL.out.later HX.out)
 clear hG HX LL;refine bM rfl 73 3 1 _ rfl AI.heap.size rfl _ rfl Tryz.cP Tryz.cA (by decide) (by decide) #[.int .i64 1] (by kernel_rfl) ?_;refine bM rfl 38 9 1 _ rfl (AI.heap.size+1) (by simp) _ rfl Tryz.dt Tryz.bI (by decide) (by decide) #[.string {data:=#[48]}] (by kernel_rfl) ?_;refine dY rfl 75 _ rfl _ rfl #[.string {data:=#[111,118,101,114]},.slice (some ⟨AI.heap.size,0,none⟩) 1 1,.bool false,.slice (some ⟨AI.heap.size+1,0,none⟩) 1 1] (by kernel_rfl) ?_;simp only[Act.put,so,As,An];obtain⟨ze,LX⟩:∃ x,x=(AI.alloc (.cells #[.int .i64 1] 3)).alloc (.cells #[.string {data:=#[48]}] 9):=⟨_,rfl⟩
 rw[← LX];have HX:Hid (Bel AI ze):=by rw[LX];exact af (af zR _) _
 obtain⟨G,hG⟩:=HA.out.one ⟨{data:=#[111,118,101,114]},[1],false,[{data:=#[48]}]⟩ #[.int .i64 1] #[.string {data:=#[48]}] rfl rfl (by decide) (by decide) rfl;rw[← LX]at hG;replace HA:=uh hG
 replace HB:=uh (ae HB.out HX.out)
 replace HM:=uh ((HX.out.block _ (Xh.1 HM.out).1).trans HM.out)
 replace fe:=uh (fe.out.later HX.out)
 replace jL:=uh (jL.out.later HX.out)
 clear hG HX LX;refine bM rfl 73 3 2 _ rfl ze.heap.size rfl _ rfl Tryz.cP Tryz.cA (by decide) (by decide) #[.int .i64 1,.int .i64 1] (by kernel_rfl) ?_;refine bM rfl 38 9 2 _ rfl (ze.heap.size+1) (by simp) _ rfl Tryz.dt Tryz.bI (by decide) (by decide) #[.string {data:=#[49]},.string {data:=#[49]}] (by kernel_rfl) ?_;refine dY rfl 75 _ rfl _ rfl #[.string {data:=#[110,101,101,100,115]},.slice (some ⟨ze.heap.size,0,none⟩) 2 2,.bool false,.slice (some ⟨ze.heap.size+1,0,none⟩) 2 2] (by kernel_rfl) ?_;simp only[Act.put,so,As,An];obtain⟨D6,LD⟩:∃ x,x=(ze.alloc (.cells #[.int .i64 1,.int .i64 1] 3)).alloc (.cells #[.string {data:=#[49]},.string {data:=#[49]}] 9):=⟨_,rfl⟩
 rw[← LD];have HX:Hid (Bel ze D6):=by rw[LD];exact af (af zR _) _
 obtain⟨G,hG⟩:=HA.out.one ⟨{data:=#[110,101,101,100,115]},[1,1],false,[{data:=#[49]},{data:=#[49]}]⟩ #[.int .i64 1,.int .i64 1] #[.string {data:=#[49]},.string {data:=#[49]}] rfl rfl (by decide) (by decide) rfl;rw[← LD]at hG;replace HA:=uh hG
 replace HB:=uh (ae HB.out HX.out)
 replace HM:=uh ((HX.out.block _ (Xh.1 HM.out).1).trans HM.out)
 replace fe:=uh (fe.out.later HX.out)
 replace jL:=uh (jL.out.later HX.out)
 clear hG HX LD;refine bM rfl 73 3 1 _ rfl D6.heap.size rfl _ rfl Tryz.cP Tryz.cA (by decide) (by decide) #[.int .i64 4] (by kernel_rfl) ?_;refine bM rfl 38 9 1 _ rfl (D6.heap.size+1) (by simp) _ rfl Tryz.dt Tryz.bI (by decide) (by decide) #[.string {data:=#[]}] (by kernel_rfl) ?_;refine dY rfl 75 _ rfl _ rfl #[.string {data:=#[119,104,101,114,101]},.slice (some ⟨D6.heap.size,0,none⟩) 1 1,.bool false,.slice (some ⟨D6.heap.size+1,0,none⟩) 1 1] (by kernel_rfl) ?_;simp only[Act.put,so,As,An];obtain⟨Mu,Lm⟩:∃ x,x=(D6.alloc (.cells #[.int .i64 4] 3)).alloc (.cells #[.string {data:=#[]}] 9):=⟨_,rfl⟩
 rw[← Lm];have HX:Hid (Bel D6 Mu):=by rw[Lm];exact af (af zR _) _
 obtain⟨G,hG⟩:=HA.out.one ⟨{data:=#[119,104,101,114,101]},[4],false,[{data:=#[]}]⟩ #[.int .i64 4] #[.string {data:=#[]}] rfl rfl (by decide) (by decide) rfl;rw[← Lm]at hG;replace HA:=uh hG
 replace HB:=uh (ae HB.out HX.out)
 replace HM:=uh ((HX.out.block _ (Xh.1 HM.out).1).trans HM.out)
 replace fe:=uh (fe.out.later HX.out)
 replace jL:=uh (jL.out.later HX.out)
 clear hG HX Lm;refine bM rfl 73 3 2 _ rfl Mu.heap.size rfl _ rfl Tryz.cP Tryz.cA (by decide) (by decide) #[.int .i64 4,.int .i64 2] (by kernel_rfl) ?_;refine dY rfl 75 _ rfl _ rfl #[.string {data:=#[108,105,107,101]},.slice (some ⟨Mu.heap.size,0,none⟩) 2 2,.bool true,.slice none 0 0] (by kernel_rfl) ?_;simp only[Act.put,so,As,An];obtain⟨D9,LR⟩:∃ x,x=Mu.alloc (.cells #[.int .i64 4,.int .i64 2] 3):=⟨_,rfl⟩
 rw[← LR];have HX:Hid (Bel Mu D9):=by rw[LR];exact af zR _
 obtain⟨G,hG⟩:=HA.out.many ⟨{data:=#[108,105,107,101]},[4,2],true,[]⟩ #[.int .i64 4,.int .i64 2] rfl rfl (by decide) rfl;rw[← LR]at hG;replace HA:=uh hG
 replace HB:=uh (ae HB.out HX.out)
 replace HM:=uh ((HX.out.block _ (Xh.1 HM.out).1).trans HM.out)
 replace fe:=uh (fe.out.later HX.out)
 replace jL:=uh (jL.out.later HX.out)
 clear hG HX LR;refine bM rfl 73 3 1 _ rfl D9.heap.size rfl _ rfl Tryz.cP Tryz.cA (by decide) (by decide) #[.int .i64 6] (by kernel_rfl) ?_;refine bM rfl 38 9 1 _ rfl (D9.heap.size+1) (by simp) _ rfl Tryz.dt Tryz.bI (by decide) (by decide) #[.string {data:=#[110,111,110,101]}] (by kernel_rfl) ?_;refine dY rfl 75 _ rfl _ rfl #[.string {data:=#[97,112,97,114,116]},.slice (some ⟨D9.heap.size,0,none⟩) 1 1,.bool false,.slice (some ⟨D9.heap.size+1,0,none⟩) 1 1] (by kernel_rfl) ?_;simp only[Act.put,so,As,An];obtain⟨DZ,LJ⟩:∃ x,x=(D9.alloc (.cells #[.int .i64 6] 3)).alloc (.cells #[.string {data:=#[110,111,110,101]}] 9):=⟨_,rfl⟩
 rw[← LJ];have HX:Hid (Bel D9 DZ):=by rw[LJ];exact af (af zR _) _
 obtain⟨G,hG⟩:=HA.out.one ⟨{data:=#[97,112,97,114,116]},[6],false,[{data:=#[110,111,110,101]}]⟩ #[.int .i64 6] #[.string {data:=#[110,111,110,101]}] rfl rfl (by decide) (by decide) rfl;rw[← LJ]at hG;replace HA:=uh hG
 replace HB:=uh (ae HB.out HX.out)
 replace HM:=uh ((HX.out.block _ (Xh.1 HM.out).1).trans HM.out)
 replace fe:=uh (fe.out.later HX.out)
 replace jL:=uh (jL.out.later HX.out)
 clear hG HX LJ;refine bM rfl 73 3 1 _ rfl DZ.heap.size rfl _ rfl Tryz.cP Tryz.cA (by decide) (by decide) #[.int .i64 5] (by kernel_rfl) ?_;refine bM rfl 38 9 1 _ rfl (DZ.heap.size+1) (by simp) _ rfl Tryz.dt Tryz.bI (by decide) (by decide) #[.string {data:=#[110,111]}] (by kernel_rfl) ?_;refine dY rfl 75 _ rfl _ rfl #[.string {data:=#[118,111,108,117,109,101]},.slice (some ⟨DZ.heap.size,0,none⟩) 1 1,.bool false,.slice (some ⟨DZ.heap.size+1,0,none⟩) 1 1] (by kernel_rfl) ?_;simp only[Act.put,so,As,An];obtain⟨DQ,Lh⟩:∃ x,x=(DZ.alloc (.cells #[.int .i64 5] 3)).alloc (.cells #[.string {data:=#[110,111]}] 9):=⟨_,rfl⟩
 rw[← Lh];have HX:Hid (Bel DZ DQ):=by rw[Lh];exact af (af zR _) _
 obtain⟨G,hG⟩:=HA.out.one ⟨{data:=#[118,111,108,117,109,101]},[5],false,[{data:=#[110,111]}]⟩ #[.int .i64 5] #[.string {data:=#[110,111]}] rfl rfl (by decide) (by decide) rfl;rw[← Lh]at hG;replace HA:=uh hG
 replace HB:=uh (ae HB.out HX.out)
 replace HM:=uh ((HX.out.block _ (Xh.1 HM.out).1).trans HM.out)
 replace fe:=uh (fe.out.later HX.out)
 replace jL:=uh (jL.out.later HX.out)
 clear hG HX Lh;refine bM rfl 73 3 3 _ rfl DQ.heap.size rfl _ rfl Tryz.cP Tryz.cA (by decide) (by decide) #[.int .i64 1,.int .i64 1,.int .i64 1] (by kernel_rfl) ?_;refine bM rfl 38 9 3 _ rfl (DQ.heap.size+1) (by simp) _ rfl Tryz.dt Tryz.bI (by decide) (by decide) #[.string {data:=#[48]},.string {data:=#[48]},.string {data:=#[48]}] (by kernel_rfl) ?_;refine dY rfl 75 _ rfl _ rfl #[.string {data:=#[102,111,108,108,111,119]},.slice (some ⟨DQ.heap.size,0,none⟩) 3 3,.bool false,.slice (some ⟨DQ.heap.size+1,0,none⟩) 3 3] (by kernel_rfl) ?_;simp only[Act.put,so,As,An];obtain⟨DP,Lc⟩:∃ x,x=(DQ.alloc (.cells #[.int .i64 1,.int .i64 1,.int .i64 1] 3)).alloc (.cells #[.string {data:=#[48]},.string {data:=#[48]},.string {data:=#[48]}] 9):=⟨_,rfl⟩
 rw[← Lc];have HX:Hid (Bel DQ DP):=by rw[Lc];exact af (af zR _) _
 obtain⟨G,hG⟩:=HA.out.one ⟨{data:=#[102,111,108,108,111,119]},[1,1,1],false,[{data:=#[48]},{data:=#[48]},{data:=#[48]}]⟩ #[.int .i64 1,.int .i64 1,.int .i64 1] #[.string {data:=#[48]},.string {data:=#[48]},.string {data:=#[48]}] rfl rfl (by decide) (by decide) rfl;rw[← Lc]at hG;replace HA:=uh hG
 replace HB:=uh (ae HB.out HX.out)
 replace HM:=uh ((HX.out.block _ (Xh.1 HM.out).1).trans HM.out)
 replace fe:=uh (fe.out.later HX.out)
 replace jL:=uh (jL.out.later HX.out)
 clear hG HX Lc;refine bM rfl 73 3 3 _ rfl DP.heap.size rfl _ rfl Tryz.cP Tryz.cA (by decide) (by decide) #[.int .i64 1,.int .i64 1,.int .i64 1] (by kernel_rfl) ?_;refine bM rfl 38 9 3 _ rfl (DP.heap.size+1) (by simp) _ rfl Tryz.dt Tryz.bI (by decide) (by decide) #[.string {data:=#[48]},.string {data:=#[48]},.string {data:=#[48]}] (by kernel_rfl) ?_;refine dY rfl 75 _ rfl _ rfl #[.string {data:=#[112,97,99,101]},.slice (some ⟨DP.heap.size,0,none⟩) 3 3,.bool false,.slice (some ⟨DP.heap.size+1,0,none⟩) 3 3] (by kernel_rfl) ?_;simp only[Act.put,so,As,An];obtain⟨Qd,Lx⟩:∃ x,x=(DP.alloc (.cells #[.int .i64 1,.int .i64 1,.int .i64 1] 3)).alloc (.cells #[.string {data:=#[48]},.string {data:=#[48]},.string {data:=#[48]}] 9):=⟨_,rfl⟩
 rw[← Lx];have HX:Hid (Bel DP Qd):=by rw[Lx];exact af (af zR _) _
 obtain⟨G,hG⟩:=HA.out.one ⟨{data:=#[112,97,99,101]},[1,1,1],false,[{data:=#[48]},{data:=#[48]},{data:=#[48]}]⟩ #[.int .i64 1,.int .i64 1,.int .i64 1] #[.string {data:=#[48]},.string {data:=#[48]},.string {data:=#[48]}] rfl rfl (by decide) (by decide) rfl;rw[← Lx]at hG;replace HA:=uh hG
 replace HB:=uh (ae HB.out HX.out)
 replace HM:=uh ((HX.out.block _ (Xh.1 HM.out).1).trans HM.out)
 replace fe:=uh (fe.out.later HX.out)
 replace jL:=uh (jL.out.later HX.out)
 clear hG HX Lx;have HD:=uh (Kp.of (HA.out.done #[.string {data:=#[116,101,97,109]},.slice (some ⟨sR.heap.size,0,none⟩) 1 1,.bool false,.slice (some ⟨sR.heap.size+1,0,none⟩) 1 1,.string {data:=#[105,109,97,103,101]},.slice (some ⟨Bd.heap.size,0,none⟩) 1 1,.bool false,.slice (some ⟨Bd.heap.size+1,0,none⟩) 1 1,.string {data:=#[119,97,110,116]},.slice (some ⟨sM.heap.size,0,none⟩) 1 1,.bool false,.slice (some ⟨sM.heap.size+1,0,none⟩) 1 1,.string {data:=#[100,111,119,110]},.slice (some ⟨sw.heap.size,0,none⟩) 1 1,.bool false,.slice (some ⟨sw.heap.size+1,0,none⟩) 1 1,.string {data:=#[111,118,101,114]},.slice (some ⟨AI.heap.size,0,none⟩) 1 1,.bool false,.slice (some ⟨AI.heap.size+1,0,none⟩) 1 1,.string {data:=#[110,101,101,100,115]},.slice (some ⟨ze.heap.size,0,none⟩) 2 2,.bool false,.slice (some ⟨ze.heap.size+1,0,none⟩) 2 2,.string {data:=#[119,104,101,114,101]},.slice (some ⟨D6.heap.size,0,none⟩) 1 1,.bool false,.slice (some ⟨D6.heap.size+1,0,none⟩) 1 1,.string {data:=#[108,105,107,101]},.slice (some ⟨Mu.heap.size,0,none⟩) 2 2,.bool true,.slice none 0 0,.string {data:=#[97,112,97,114,116]},.slice (some ⟨D9.heap.size,0,none⟩) 1 1,.bool false,.slice (some ⟨D9.heap.size+1,0,none⟩) 1 1,.string {data:=#[118,111,108,117,109,101]},.slice (some ⟨DZ.heap.size,0,none⟩) 1 1,.bool false,.slice (some ⟨DZ.heap.size+1,0,none⟩) 1 1,.string {data:=#[102,111,108,108,111,119]},.slice (some ⟨DQ.heap.size,0,none⟩) 3 3,.bool false,.slice (some ⟨DQ.heap.size+1,0,none⟩) 3 3,.string {data:=#[112,97,99,101]},.slice (some ⟨DP.heap.size,0,none⟩) 3 3,.bool false,.slice (some ⟨DP.heap.size+1,0,none⟩) 3 3] rfl (by decide)));refine bM rfl 71 75 12 _ rfl Qd.heap.size rfl _ rfl Tryz.fM Tryz.lp (by decide) (by decide) #[.string {data:=#[116,101,97,109]},.slice (some ⟨sR.heap.size,0,none⟩) 1 1,.bool false,.slice (some ⟨sR.heap.size+1,0,none⟩) 1 1,.string {data:=#[105,109,97,103,101]},.slice (some ⟨Bd.heap.size,0,none⟩) 1 1,.bool false,.slice (some ⟨Bd.heap.size+1,0,none⟩) 1 1,.string {data:=#[119,97,110,116]},.slice (some ⟨sM.heap.size,0,none⟩) 1 1,.bool false,.slice (some ⟨sM.heap.size+1,0,none⟩) 1 1,.string {data:=#[100,111,119,110]},.slice (some ⟨sw.heap.size,0,none⟩) 1 1,.bool false,.slice (some ⟨sw.heap.size+1,0,none⟩) 1 1,.string {data:=#[111,118,101,114]},.slice (some ⟨AI.heap.size,0,none⟩) 1 1,.bool false,.slice (some ⟨AI.heap.size+1,0,none⟩) 1 1,.string {data:=#[110,101,101,100,115]},.slice (some ⟨ze.heap.size,0,none⟩) 2 2,.bool false,.slice (some ⟨ze.heap.size+1,0,none⟩) 2 2,.string {data:=#[119,104,101,114,101]},.slice (some ⟨D6.heap.size,0,none⟩) 1 1,.bool false,.slice (some ⟨D6.heap.size+1,0,none⟩) 1 1,.string {data:=#[108,105,107,101]},.slice (some ⟨Mu.heap.size,0,none⟩) 2 2,.bool true,.slice none 0 0,.string {data:=#[97,112,97,114,116]},.slice (some ⟨D9.heap.size,0,none⟩) 1 1,.bool false,.slice (some ⟨D9.heap.size+1,0,none⟩) 1 1,.string {data:=#[118,111,108,117,109,101]},.slice (some ⟨DZ.heap.size,0,none⟩) 1 1,.bool false,.slice (some ⟨DZ.heap.size+1,0,none⟩) 1 1,.string {data:=#[102,111,108,108,111,119]},.slice (some ⟨DQ.heap.size,0,none⟩) 3 3,.bool false,.slice (some ⟨DQ.heap.size+1,0,none⟩) 3 3,.string {data:=#[112,97,99,101]},.slice (some ⟨DP.heap.size,0,none⟩) 3 3,.bool false,.slice (some ⟨DP.heap.size+1,0,none⟩) 3 3] (by kernel_rfl) ?_;refine dY rfl 141 _ rfl _ rfl #[.slice (some ⟨Qd.heap.size,0,none⟩) 12 12] (by kernel_rfl) ?_;obtain⟨Rd,Lz⟩:∃ x,x=Qd.alloc (.cells #[.string {data:=#[116,101,97,109]},.slice (some ⟨sR.heap.size,0,none⟩) 1 1,.bool false,.slice (some ⟨sR.heap.size+1,0,none⟩) 1 1,.string {data:=#[105,109,97,103,101]},.slice (some ⟨Bd.heap.size,0,none⟩) 1 1,.bool false,.slice (some ⟨Bd.heap.size+1,0,none⟩) 1 1,.string {data:=#[119,97,110,116]},.slice (some ⟨sM.heap.size,0,none⟩) 1 1,.bool false,.slice (some ⟨sM.heap.size+1,0,none⟩) 1 1,.string {data:=#[100,111,119,110]},.slice (some ⟨sw.heap.size,0,none⟩) 1 1,.bool false,.slice (some ⟨sw.heap.size+1,0,none⟩) 1 1,.string {data:=#[111,118,101,114]},.slice (some ⟨AI.heap.size,0,none⟩) 1 1,.bool false,.slice (some ⟨AI.heap.size+1,0,none⟩) 1 1,.string {data:=#[110,101,101,100,115]},.slice (some ⟨ze.heap.size,0,none⟩) 2 2,.bool false,.slice (some ⟨ze.heap.size+1,0,none⟩) 2 2,.string {data:=#[119,104,101,114,101]},.slice (some ⟨D6.heap.size,0,none⟩) 1 1,.bool false,.slice (some ⟨D6.heap.size+1,0,none⟩) 1 1,.string {data:=#[108,105,107,101]},.slice (some ⟨Mu.heap.size,0,none⟩) 2 2,.bool true,.slice none 0 0,.string {data:=#[97,112,97,114,116]},.slice (some ⟨D9.heap.size,0,none⟩) 1 1,.bool false,.slice (some ⟨D9.heap.size+1,0,none⟩) 1 1,.string {data:=#[118,111,108,117,109,101]},.slice (some ⟨DZ.heap.size,0,none⟩) 1 1,.bool false,.slice (some ⟨DZ.heap.size+1,0,none⟩) 1 1,.string {data:=#[102,111,108,108,111,119]},.slice (some ⟨DQ.heap.size,0,none⟩) 3 3,.bool false,.slice (some ⟨DQ.heap.size+1,0,none⟩) 3 3,.string {data:=#[112,97,99,101]},.slice (some ⟨DP.heap.size,0,none⟩) 3 3,.bool false,.slice (some ⟨DP.heap.size+1,0,none⟩) 3 3] 75):=⟨_,rfl⟩
 rw[← Lz];rw[← Lz]at HD;have HX:Hid (Bel Qd Rd):=by rw[Lz];exact af zR _
 replace HB:=uh (ae HB.out HX.out)
 replace HM:=uh ((HX.out.block _ (Xh.1 HM.out).1).trans HM.out)
 replace fe:=uh (fe.out.later HX.out)
 replace jL:=uh (jL.out.later HX.out)
 obtain⟨v2,iH⟩:∃ x,x=Value.slice (some ⟨Qd.heap.size,0,none⟩) 12 12:=⟨_,rfl⟩
 replace HD:Hid (Kp w0 Pl.im v2 Rd):=by rw[iH];exact HD.out.mono HQ.out
 have sP:=HD;rw[← iH];simp only[Act.put,so,As,An];clear HX HD Lz iH HA HQ;have hi:=rQ HM.out ({data:=#[115,101,114,118,105,99,101]}) (.agg #[v2]) rfl;refine H5 rfl rfl (jG Rd w.heap.size (.map #[⟨.string {data:=#[116,101,97,109]},.agg #[v0],0⟩,⟨.string {data:=#[98,101,114,116,104]},.agg #[v1],1⟩,⟨.string {data:=#[115,101,114,118,105,99,101]},.agg #[v2],2⟩] 3)) (by simp[execOp,go_sem,hi]) ?_;obtain⟨LU,AS⟩:∃ x,x=jG Rd w.heap.size (.map #[⟨.string {data:=#[116,101,97,109]},.agg #[v0],0⟩,⟨.string {data:=#[98,101,114,116,104]},.agg #[v1],1⟩,⟨.string {data:=#[115,101,114,118,105,99,101]},.agg #[v2],2⟩] 3):=⟨_,rfl⟩
 rw[← AS];have HP:Hid (Marks (fun b=>b=w.heap.size) Rd LU):=by rw[AS];exact iD _ HM.out
 replace HB:=uh (HP.out.below (fun p e=>by omega) HB.out)
 replace fe:Hid (Kp w0 Pl.kU v0 LU):=by rw[AS];exact fe.out.put _ HM.out (by have:=HZ.out;omega)
 replace jL:Hid (Kp w0 Pl.j9 v1 LU):=by rw[AS];exact jL.out.put _ HM.out (by have:=HZ.out;omega)
 replace sP:Hid (Kp w0 Pl.im v2 LU):=by rw[AS];exact sP.out.put _ HM.out (by have:=HZ.out;omega)
 replace HM:Hid (LU.heap[w.heap.size]? =some (.map #[⟨.string {data:=#[116,101,97,109]},.agg #[v0],0⟩,⟨.string {data:=#[98,101,114,116,104]},.agg #[v1],1⟩,⟨.string {data:=#[115,101,114,118,105,99,101]},.agg #[v2],2⟩] 3)):=by rw[AS];exact p9 _ (Xh.1 HM.out).1
 clear HP AS hi;have HA:Hid (Acc LU LU [] [] []):=Acc.nil LU;have HQ:Hid (w0.heap.size≤LU.heap.size):=by have:=(Xh.1 HM.out).1;have:=HZ.out;show _≤_;omega
 go_wp2;go_ret;exact⟨_,w0,v0,v1,v2,rfl,HM.out,by have:=HZ.out;omega,fe.out,jL.out,sP.out,HB.out⟩
theorem KN (w W:World) (hb:Bel w W):eT [.row 75 aB] (bV []) w (.returned (.slice none 0 0)) W:=
 ⟨_,[],rfl,.emp _ _ none rfl .nil,XL,by simp,hb⟩
def iT (kind:ByteArray) (vt vb vs:Value):Value:=
 if kind.toList==[116,101,97,109] then vt else if kind.toList==[98,101,114,116,104] then vb else if kind.toList==[115,101,114,118,105,99,101] then vs else .slice none 0 0
theorem gN (a:ByteArray) (x:List UInt8) (y:ByteArray) (h:y.toList=x):(a==y)=(a.toList==x):=by
 subst h;cases a with
 |mk a=>
  cases y with
  |mk y=>
   rw[Pl.tl,Pl.tl];show (a==y)=(a.toList==y.toList)
   rw[XB,beq_iff_eq,beq_iff_eq];exact⟨fun h=>by rw[h],fun h=>Array.toList_inj.1 h⟩
theorem oT {W:World} {mb:Nat} {vt vb vs:Value} (hb:W.heap[mb]? =some (.map #[⟨.string {data:=#[116,101,97,109]},.agg #[vt],0⟩,⟨.string {data:=#[98,101,114,116,104]},.agg #[vb],1⟩,⟨.string {data:=#[115,101,114,118,105,99,101]},.agg #[vs],2⟩] 3)) (kind:ByteArray):
  (Instr.lookup 121 (.map (some mb)) (.string kind) false).run Tryz.prog W=.ok (.agg #[iT kind vt vb vs]) W:=by
 have hz:(zeroValue 141).run Tryz.prog W=.ok (.agg #[.slice none 0 0]) W:=by kernel_rfl
 have e1:=gN kind [116,101,97,109] {data:=#[116,101,97,109]} (by decide+kernel);have e2:=gN kind [98,101,114,116,104] {data:=#[98,101,114,116,104]} (by decide+kernel);have e3:=gN kind [115,101,114,118,105,99,101] {data:=#[115,101,114,118,105,99,101]} (by decide+kernel);obtain⟨r,hr,hv⟩:∃ r,Instr.findNow .string (.string kind) [⟨.string {data:=#[116,101,97,109]},.agg #[vt],0⟩,⟨.string {data:=#[98,101,114,116,104]},.agg #[vb],1⟩,⟨.string {data:=#[115,101,114,118,105,99,101]},.agg #[vs],2⟩] 0=some r∧(match r with|some (_,v)=>v|none=> .agg #[.slice none 0 0])=.agg #[iT kind vt vb vs]:=by
  simp only[Instr.findNow,Instr.sameNow,e1,e2,e3,iT];cases (kind.toList==[116,101,97,109])<;>cases (kind.toList==[98,101,114,116,104])<;>cases (kind.toList==[115,101,114,118,105,99,101])<;>exact⟨_,rfl,rfl⟩
 have hf:=jE W kind _ r hr;cases r with
 |none=>
  simp only at hv;simp[Instr.lookup,run_underlying Tryz.jB,MapKept.run_getObj_map hb,eA,hf,hz,Result.andThen,hv]
 |some p=>
  obtain⟨j,v⟩:=p;simp only at hv;subst hv;simp[Instr.lookup,run_underlying Tryz.jB,MapKept.run_getObj_map hb,eA,hf,Result.andThen]
theorem qH {w w0 W:World} {vt vb vs:Value} (kind:ByteArray) (h0:w.heap.size≤w0.heap.size) (ht:Kp w0 Pl.kU vt W) (hb:Kp w0 Pl.j9 vb W) (hs:Kp w0 Pl.im vs W) (hB:Bel w W):
  eT [.row 75 aB] (bV (Pl.ah kind)) w (.returned (iT kind vt vb vs)) W:=by
 unfold iT Pl.ah;split
 ·exact ht.ans h0 hB
 ·split
  ·exact hb.ans h0 hB
  ·split
   ·exact hs.ans h0 hB
   ·exact KN w W hB
def cj (a b:ByteArray):Int:=if Pl.pM a b then -1 else if a.toList==b.toList then 0 else 1
def eo (a b:Int):Int:=if a<b then -1 else if b<a then 1 else 0
def fj:List Int→Int
 |[]=>0
 |x::l=>if x=0 then fj l else x
def fR (x y:Int):Int:=if x=0 then y else x
theorem vI (l:List Int) (k:Nat) (hk:k<l.length):fj (l.drop k)=if l.getD k 0=0 then fj (l.drop (k+1)) else l.getD k 0:=by
 have e:l.drop k=l[k]::l.drop (k+1):=XA hk;have e2:l.getD k 0=l[k]:=by simp[hk]
 rw[e,e2];rfl
theorem Ns (a:ByteArray) (w:World):Calls Tryz.prog 123 #[.string a] w fun e w'=>e=.returned (.bool false)∧w=w':=by
 go_enter Tryz.func123,Tryz.ntmps123
 go_wp2;go_ret;exact⟨Pl.ar (by simp),rfl⟩
theorem zF (a:Int) (w:World):Calls Tryz.prog 151 #[.int .i64 a] w fun e w'=>e=.returned (.bool false)∧w=w':=by
 go_enter Tryz.func151,Tryz.ntmps151
 go_wp2;go_ret;exact⟨Pl.ar (by simp),rfl⟩
theorem Qw (a b:ByteArray) (w:World):Calls Tryz.prog 93 #[.string a,.string b] w fun e w'=>e=.returned (.int .i64 (cj a b))∧w=w':=by
 obtain⟨R,hR⟩:∃ R,R=cj a b:=⟨_,rfl⟩
 have HR:Hid (R=cj a b):=hR;rw[← hR];clear hR;go_enter Tryz.func93,Tryz.ntmps93
 cases h1:Op.bytesLess a.toList b.toList<;>cases h2:(a.toList==b.toList)
 all_goals
  have HE:Hid (R=if Op.bytesLess a.toList b.toList=true then (-1:Int) else if (a.toList==b.toList)=true then 0 else 1):=HR.out;have HE':Hid (Op.bytesLess a.toList b.toList=_∧(a.toList==b.toList)=_):=⟨h1,h2⟩
  go_wp2_with (go_at_call 123;refine(Ns _ _).mono ?_;rintro e w' ⟨rfl,rfl⟩)
  go_ret;exact⟨Pl.dj (by rw[HE.out,HE'.out.1,HE'.out.2];rfl),rfl⟩
theorem TX (a b:Int) (w:World):Calls Tryz.prog 126 #[.int .i64 a,.int .i64 b] w fun e w'=>e=.returned (.int .i64 (eo a b))∧w=w':=by
 obtain⟨R,hR⟩:∃ R,R=eo a b:=⟨_,rfl⟩
 have HR:Hid (R=eo a b):=hR;rw[← hR];clear hR;go_enter Tryz.func126,Tryz.ntmps126
 by_cases h1:a<b
 ·have HE:Hid (R= -1):=by show R=_;rw[HR.out];unfold eo;rw[if_pos h1]
  go_wp2_with (go_at_call 151;refine(zF _ _).mono ?_;rintro e w' ⟨rfl,rfl⟩)
  go_ret;exact⟨Pl.dj HE.out.symm,rfl⟩
 ·by_cases h2:b<a
  ·have HE:Hid (R=1):=by show R=_;rw[HR.out];unfold eo;rw[if_neg h1,if_pos h2]
   go_wp2_with (go_at_call 151;refine(zF _ _).mono ?_;rintro e w' ⟨rfl,rfl⟩)
   go_ret;exact⟨Pl.dj HE.out.symm,rfl⟩
  ·have HE:Hid (R=0):=by show R=_;rw[HR.out];unfold eo;rw[if_neg h1,if_neg h2]
   go_wp2_with (go_at_call 151;refine(zF _ _).mono ?_;rintro e w' ⟨rfl,rfl⟩)
   go_ret;exact⟨Pl.dj HE.out.symm,rfl⟩
theorem Qy (g c:Nat) (l:List Int) (w:World) (hl:l.length≤1048576) (hc:∀ i,i<l.length→w.cell? ⟨g,i,none⟩=some (.int .i64 (l.getD i 0))):
  Calls Tryz.prog 92 #[.slice (some ⟨g,0,none⟩) l.length c] w fun e w'=>e=.returned (.int .i64 (fj l))∧w=w':=by
 obtain⟨R,hR⟩:∃ R,R=fj l:=⟨_,rfl⟩
 have HR:Hid (R=fj l):=hR;rw[← hR];clear hR;go_enter Tryz.func92,Tryz.ntmps92
 go_wp2;go_loop [8] (fun i=>∃ k:Nat,k≤l.length∧i=.int .i64 k∧R=fj (l.drop k)) (fun i=>l.length - (intOf i).toNat)
 case atStart=>exact⟨0,zN,rfl,HR.out⟩
 case round=>
  obtain⟨k,hk,rfl,hq⟩:=hrel;have HQ:Hid (R=fj (l.drop k)):=hq;clear hq;by_cases bq:k<l.length
  ·have MR:=hc k bq;obtain⟨y,hy⟩:∃ y,y=l.getD k 0:=⟨_,rfl⟩
   rw[← hy]at MR;have HY:Hid (R=if y=0 then fj (l.drop (k+1)) else y):=by show R=_;rw[HQ.out,vI l k bq,hy]
   clear hy hc;by_cases hz:y=0
   ·have HE:Hid (R=fj (l.drop (k+1))):=by show R=_;rw[HY.out,if_pos hz]
    go_wp2;go_round
    case rel=>exact⟨k+1,by omega,by go_num,HE.out⟩
    case measure=>simp[intOf];omega
   ·have HE:Hid (R=y):=by show R=_;rw[HY.out,if_neg hz]
    go_wp2;go_ret;exact⟨Pl.dj HE.out.symm,rfl⟩
  ·have HE:Hid (R=0):=by show R=_;rw[HQ.out,List.drop_eq_nil_of_le (by omega)];rfl
   go_wp2;go_ret;exact⟨Pl.dj HE.out.symm,rfl⟩
theorem nz2 (x y:Int):fj [x,y]=fR x y:=by
 unfold fj fR;split
 ·unfold fj;split
  ·rename_i h;rw[h];rfl
  ·rfl
 ·rfl
theorem Ga (g c:Nat) (x y:Int) (w:World) (h0:w.cell? ⟨g,0,none⟩=some (.int .i64 x)) (h1:w.cell? ⟨g,1,none⟩=some (.int .i64 y)):
  Calls Tryz.prog 92 #[.slice (some ⟨g,0,none⟩) 2 c] w fun e w'=>e=.returned (.int .i64 (fR x y))∧w=w':=by
 have:=Qy g c [x,y] w (by simp) (fun i hi=>by
  match i,hi with
  |0,_=>exact h0
  |1,_=>exact h1
  |n+2,h=>simp at h;omega)
 rw[nz2]at this;exact this
theorem dS {P:Program} {id:Nat} {Q:Exit→Act→World→Prop} {a:Act} {w:World} {l:List Oper} (n:Nat) (hm:P.follows .mixedOrders=true) (hB:Region.lexTailB .any l.toArray n=true)
  (h:∀ W,W=w.drew→wpStill P l.toArray W (fun a'=>wpList P l.toArray Q (l.drop n) a' W) (l.take n) a):(Code.region id l.toArray true).wp P Q a w:=
 wp_region_still_tail n hm hB (h _ rfl)
theorem Ma (a b:ByteArray) (w:World):Calls Tryz.prog 93 #[.string a,.string b] w fun e w'=>e=.returned (.int .i64 (cj a b))∧w'=w:=(Qw a b w).mono (fun _ _ h=>⟨h.1,h.2.symm⟩)
theorem gJ (n:Int) (h0:0≤n) (h1:n≤9223372036854775807):IntKind.i64.wrap n=n:=by
 simp[IntKind.wrap,IntKind.bits,IntKind.signed];omega
def eE (x y:Pl.Bl):Int:=fR (cj x.kind y.kind) (cj x.name y.name)
theorem Ao (k0 k1 j0 j1:ByteArray) (p2 q2:Value) (w:World):Calls Tryz.prog 72 #[.agg #[.string k0,.string k1,p2],.agg #[.string j0,.string j1,q2]] w fun e w'=>e=.returned (.int .i64 (fR (cj k0 j0) (cj k1 j1)))∧Bel w w':=by
 obtain⟨wa,aP⟩:∃ wa,wa=(w.alloc (.cells #[.string k0,.string k1,p2] 58)).alloc (.cells #[.string j0,.string j1,q2] 58):=⟨_,rfl⟩
 have HB:Hid (Bel w wa.drew):=by show Below _ _ _;rw[aP];exact XF (af (af zR _) _)
 have x0:∀ j,wa.drew.cell? ⟨w.heap.size,j,none⟩=(#[.string k0,.string k1,p2]:Array Value)[j]? :=fun j=>by
  show wa.cell? _=_;rw[aP];exact(World.cell?_alloc_past _ _ _ (by simp)).trans (World.cell?_alloc_at _ _ _ _ rfl)
 have x1:∀ j,wa.drew.cell? ⟨w.heap.size+1,j,none⟩=(#[.string j0,.string j1,q2]:Array Value)[j]? :=fun j=>by
  show wa.cell? _=_;rw[aP];exact(World.cell?_alloc_at _ _ _ _ (by simp))
 have z:w.heap.size+1<wa.drew.heap.size:=by show _<wa.heap.size;rw[aP];simp
 go_enter Tryz.func72,Tryz.ntmps72
 go_upto_region 1 with fail
 rw[← aP];refine dS 10 (by kernel_rfl) (by kernel_rfl) ?_;intro W hW;rw[← hW]at HB x0 x1 z;simp only[Ye,YL,Yq,Ya];have a0:=x0 0;have b0:=x1 0;have a1:=x0 1;have b1:=x1 1;simp at a0 b0 a1 b1;clear x0 x1 aP hW;still_step
 still_step
 still_step
 still_step
 still_call (Ma _ _ _)
 still_step
 still_step
 still_step
 still_step
 still_call (Ma _ _ _)
 refine wpStill_nil ?_;go_wp2_with (go_at_call 92;refine(Ga _ _ (cj k0 j0) (cj k1 j1) _ (by simp) (by simp)).mono ?_;rintro e w' ⟨rfl,rfl⟩)
 go_ret;exact⟨rfl,af HB.out _⟩
def db:List ByteArray→List ByteArray→Int
 |[],[]=>0
 |[],_::_=> -1
 |_::_,[]=>1
 |a::x,b::y=>if cj a b=0 then db x y else cj a b
theorem Kz {A B:List ByteArray} {k:Nat} (h1:k<A.length) (h2:k<B.length):db (A.drop k) (B.drop k)=if cj (A.getD k Pl.aJ) (B.getD k Pl.aJ)=0 then db (A.drop (k+1)) (B.drop (k+1)) else cj (A.getD k Pl.aJ) (B.getD k Pl.aJ):=by
 have e1:A.getD k Pl.aJ=A[k]:=by simp[h1]
 have e2:B.getD k Pl.aJ=B[k]:=by simp[h2]
 rw[XA h1,XA h2,db,e1,e2]
theorem C0 {A B:List ByteArray} {k:Nat} (h1:k<A.length) (h2:B.length≤k):db (A.drop k) (B.drop k)=1:=by
 rw[XA h1,Xz h2];rfl
theorem H7 {A B:List ByteArray} {k:Nat} (h1:A.length≤k) (h2:k<B.length):db (A.drop k) (B.drop k)= -1:=by
 rw[XA h2,Xz h1];rfl
theorem Cw {A B:List ByteArray} {k:Nat} (h1:A.length≤k) (h2:B.length≤k):db (A.drop k) (B.drop k)=0:=by
 rw[Xz h2,Xz h1];rfl
theorem Nu (A B:List ByteArray) (va vb:Value) (w:World) (hA:Raw w bm [.row A.length (txD A)] [va]) (hB:Raw w bm [.row B.length (txD B)] [vb]):
  Calls Tryz.prog 127 #[va,vb] w fun e w'=>e=.returned (.int .i64 (db A B))∧w=w':=by
 obtain⟨a1,c1,rfl⟩:=hA.aT;obtain⟨a2,c2,rfl⟩:=hB.aT;obtain⟨R,hR⟩:∃ R,R=db A B:=⟨_,rfl⟩
 have HR:Hid (R=db A B):=hR;rw[← hR];have HA:=uh (dK hA);have HB:=uh (dK hB);obtain⟨n,hn⟩:∃ n,n=A.length:=⟨_,rfl⟩
 obtain⟨m,hm⟩:∃ m,m=B.length:=⟨_,rfl⟩
 rw[← hn]at HA;rw[← hm]at HB;rw[← hn,← hm];have HN:=uh (Xt hn hm);have uS:n≤maxLen:=by
  rcases HA.out with h|⟨_,_,_,_,_,h,_⟩
  ·omega
  ·exact h
 unfold maxLen at uS;clear hR hA hB hn hm;go_enter Tryz.func127,Tryz.ntmps127
 go_wp2;go_loop [11] (fun i=>∃ k:Nat,k≤n∧k≤m∧i=.int .i64 k∧Hid (R=db (A.drop k) (B.drop k))) (fun i=>n - (intOf i).toNat)
 case atStart=>exact⟨0,zN,zN,rfl,HR⟩
 case round=>
  obtain⟨k,hk,OU,rfl,HI⟩:=hrel;by_cases bq:k<n
  rotate_left
  ·obtain rfl:k=n:=by omega
   by_cases hlm:k<m
   ·have HE:Hid (R= -1):=by show R=_;rw[HI.out];exact H7 (by rw[← HN.out.1];exact zE) (by rw[← HN.out.2];exact hlm)
    go_wp2;go_ret;exact⟨Pl.dj HE.out.symm,rfl⟩
   ·have HE:Hid (R=0):=by show R=_;rw[HI.out];exact Cw (by rw[← HN.out.1];exact zE) (by rw[← HN.out.2];omega)
    go_wp2;go_ret;exact⟨Pl.dj HE.out.symm,rfl⟩
  rcases HA.out with⟨e0,_⟩|⟨p,o,c,hv,hp,_,hc⟩
  ·omega
  injection hv with g1 _ g3
  subst g1;subst g3;have x0:=hc k bq;have cZ:(0:Int)≤(k:Int):=by omega
  have dy:(k:Int)<(n:Int):=by omega
  by_cases hlm:k<m
  rotate_left
  ·have HE:Hid (R=1):=by show R=_;rw[HI.out];exact C0 (by rw[← HN.out.1];exact bq) (by rw[← HN.out.2];omega)
   go_wp2;go_ret;exact⟨Pl.dj HE.out.symm,rfl⟩
  rcases HB.out with⟨e0,_⟩|⟨p2,o2,WL,iH,tA,_,B9⟩
  ·omega
  injection iH with k1 _ k3
  subst k1;subst k3;have y0:=B9 k hlm;have hkm2:(k:Int)<(m:Int):=by omega
  have HS:Hid _:=uh (Kz (A:=A) (B:=B) (k:=k) (by rw[← HN.out.1];exact bq) (by rw[← HN.out.2];exact hlm));obtain⟨x,hx⟩:∃ x,x=A.getD k Pl.aJ:=⟨_,rfl⟩
  obtain⟨y,hy⟩:∃ y,y=B.getD k Pl.aJ:=⟨_,rfl⟩
  rw[← hx]at HS x0;rw[← hy]at HS y0;obtain⟨r,hr⟩:∃ r,r=cj x y:=⟨_,rfl⟩
  have HC:Hid (∀ W,Calls Tryz.prog 93 #[.string x,.string y] W fun e w'=>e=.returned (.int .i64 r)∧W=w'):=fun W=>by rw[hr];exact Qw x y W
  rw[← hr]at HS;clear hx hy hr hc B9 hp tA;by_cases hz:r=0
  ·have HE:Hid (R=db (A.drop (k+1)) (B.drop (k+1))):=by show R=_;rw[HI.out,HS.out,if_pos hz]
   subst hz;go_wp2_with (go_at_call 93;refine(HC.out _).mono ?_;rintro e w' ⟨rfl,rfl⟩)
   go_round
   case rel=>exact⟨k+1,by omega,by omega,by go_num,HE⟩
   case measure=>simp[intOf];omega
  ·have HE:Hid (R=r):=by show R=_;rw[HI.out,HS.out,if_neg hz]
   have hb:((r:Int) !=0)=true:=by simp[hz]
   go_wp2_with (go_at_call 93;refine(HC.out _).mono ?_;rintro e w' ⟨rfl,rfl⟩)
   go_ret;exact⟨Pl.dj HE.out.symm,rfl⟩
end Go.Proofs.YtgiglpnaekbegaaGreatDoor
namespace Go.Proofs.YtgiglpnaekbegaaGreatDoor
set_option maxHeartbeats 40000000
open Go.RowKit
theorem td (s:ByteArray) (w:World) (hs:s.size≤maxLen):
  Calls Tryz.prog 95 #[.string s] w fun e w'=>e=.returned (.bool (Pl.nameBytes s))∧w=w':=by
 unfold maxLen at hs;go_enter Tryz.func95,Tryz.ntmps95
 go_wp2;go_loop [7] (fun i=>∃ k:Nat,k≤s.size∧i=.int .i64 k∧(s.data.toList.take k).all Pl.cM=true) (fun i=>s.size - (intOf i).toNat)
 case atStart=>exact⟨0,zN,rfl,rfl⟩
 case round=>
  obtain⟨k,hk,rfl,bA⟩:=hrel;have HA:Hid ((s.data.toList.take k).all Pl.cM=true):=bA;clear bA;by_cases bq:k<s.size
  ·go_wp2
   all_goals simp only[Bool.not_eq_eq_eq_not,Bool.not_true,Bool.not_false,beq_iff_eq,beq_eq_false_iff_ne,decide_eq_true_eq,decide_eq_false_iff_not]at*
   all_goals first
    |(go_ret
      have hn:Pl.cM s[k]=false:=by rw[Yl];simp[Pl.cM];omega
      exact⟨Pl.ar (Pl.all_false _ s k bq hn).symm,rfl⟩)
    |(have hn:Pl.cM s[k]=true:=by simp[Pl.cM];omega
      go_round
      case rel=>exact⟨k+1,by omega,by go_num,by rw[Pl.jI _ _ _ bq,HA.out,hn];rfl⟩
      case measure=>simp[intOf];omega)
  ·have HF:Hid (Pl.nameBytes s=true):=by
    show Pl.nameBytes s=true;have:=Pl.oy Pl.cM s k (by omega);simp only[Pl.nameBytes,← this,HA.out]
   go_wp2;go_ret;exact⟨Pl.ar HF.out.symm,rfl⟩
theorem mX {a b:Int} {c d:Bool} (h:a=b) (g:c=d):Ending.returned (.tuple #[.int .i64 a,.bool c])=.returned (.tuple #[.int .i64 b,.bool d]):=by rw[h,g]
def jg (s:ByteArray):Int:=if Pl.eQ s then Pl.bx s.data.toList else 0
theorem vk (s:ByteArray) (w:World) (h1:1≤s.size) (h7:s.size≤7) (hl:Pl.lead s=false):
  Calls Tryz.prog 162 #[.string s] w fun e w'=>e=.returned (.tuple #[.int .i64 (jg s),.bool (Pl.eQ s)])∧w=w':=by
 have Q8:=Pl.gK s h1;have HN:Hid (Pl.lead s=false):=hl;have HB:Hid ((s[0].toNat:Int)=48→(s.toList==[48])=true):=by
  intro h0;rw[Pl.BO s (by omega),Pl.rE]at hl;have dr:¬ 1<s.size:=by
   intro h2;simp[h2]at hl;omega
  refine Pl.EL s (by omega) 48 ?_;rw[Pl.p7 s (by omega)];have:s[0].toNat=48:=by omega
  exact YP.1 (by simpa using this)
 clear hl;have hd7:decide ((7:Int)<(s.size:Int))=false:=by simp;omega
 have H0:Hid ((((s[0].toNat:Int)==48)=true∧(s.toList==[48])=true)∨((s[0].toNat:Int)==48)=false):=by
  by_cases h0:(s[0].toNat:Int)=48
  ·exact No ⟨by simp[h0],HB.out h0⟩
  ·exact Xk (by simp[h0])
 clear HB;rcases H0.out with⟨h0b,hb⟩|h0b
 all_goals
  clear H0;go_enter Tryz.func162,Tryz.ntmps162
  go_wp2;go_loop [4,24] (fun n i=>∃ k:Nat,k≤s.size∧i=.int .i64 k∧n=.int .i64 (Pl.bx (s.data.toList.take k))∧(s.data.toList.take k).all Pl.digit=true) (fun _ i=>s.size - (intOf i).toNat)
  case atStart=>exact⟨0,zN,rfl,rfl,rfl⟩
  case round=>
   obtain⟨k,hk,rfl,rfl,bA⟩:=hrel;have nU:=Pl.nF s k hk (by omega) bA;obtain⟨b1,b2⟩:=nU;have HA:Hid ((s.data.toList.take k).all Pl.digit=true):=bA;clear bA;by_cases bq:k<s.size
   ·have HS:Hid (Pl.bx (s.data.toList.take (k+1))=Pl.bx (s.data.toList.take k)*10+((s[k].toNat:Int) - 48)):=Pl.kW s k bq;by_cases hd:48≤(s[k].toNat:Int)∧(s[k].toNat:Int)≤57
    ·obtain⟨d1,d2⟩:=hd;go_wp2;go_round
     case rel=>exact⟨k+1,by omega,by go_num,by rw[HS.out],by rw[Pl.jI _ _ _ bq,HA.out];simp[Pl.digit];omega⟩
     case measure=>simp[intOf];omega
    ·have HF:Hid (Pl.eQ s=false):=by
      show Pl.eQ s=false;have:s.data.toList.all Pl.digit=false:=Pl.all_false _ s k bq (by rw[Yl];simp[Pl.digit];omega);simp[Pl.eQ,this]
     by_cases Uh:48≤(s[k].toNat:Int)
     all_goals
      go_wp2;go_ret2;exact⟨mX (by simp[jg,HF.out]) HF.out.symm,rfl⟩
   ·have HF:Hid (Pl.eQ s=true∧Pl.bx s.data.toList=Pl.bx (s.data.toList.take k)):=by
     show Pl.eQ s=true∧Pl.bx s.data.toList=Pl.bx (s.data.toList.take k);have e:s.data.toList.take k=s.data.toList:=Xp (by simp;omega);have ha:=HA.out;rw[e]at ha ⊢;refine⟨?_,rfl⟩;simp[Pl.eQ,ha,HN.out];omega
    go_wp2;go_ret2;exact⟨mX (by simp[jg,HF.out.1,HF.out.2]) HF.out.1.symm,rfl⟩
theorem xQ (s:ByteArray) (w:World) (hs:s.size≤maxLen):
  Calls Tryz.prog 162 #[.string s] w fun e w'=>e=.returned (.tuple #[.int .i64 (jg s),.bool (Pl.eQ s)])∧w=w':=by
 unfold maxLen at hs;by_cases h1:1≤s.size
 ·have Q8:=Pl.gK s h1;by_cases h7:s.size≤7
  ·cases hl:Pl.lead s
   ·exact vk s w h1 h7 hl
   ·have HF:Hid (Pl.eQ s=false):=by show _=_;simp[Pl.eQ,hl]
    have hd7:decide ((7:Int)<(s.size:Int))=false:=by simp;omega
    rw[Pl.BO s (by omega),Pl.rE]at hl;simp only[Xj,decide_eq_true_eq]at hl;obtain⟨h2,h0⟩:=hl;have h0':((s[0].toNat:Int)==48)=true:=h0;have hb:=Pl.zZ s h2 48;clear h0;go_enter Tryz.func162,Tryz.ntmps162
    go_wp2;go_ret2;exact⟨mX (by simp[jg,HF.out]) HF.out.symm,rfl⟩
  ·have HF:Hid (Pl.eQ s=false):=by show _=_;simp[Pl.eQ,h7]
   have hd7:decide ((7:Int)<(s.size:Int))=true:=by simp;omega
   go_enter Tryz.func162,Tryz.ntmps162
   go_wp2;go_ret2;exact⟨mX (by simp[jg,HF.out]) HF.out.symm,rfl⟩
 ·have HF:Hid (Pl.eQ s=false):=by show _=_;simp[Pl.eQ,h1]
  have Q8:=Pl.gz s h1;go_enter Tryz.func162,Tryz.ntmps162
  go_wp2;go_ret2;exact⟨mX (by simp[jg,HF.out]) HF.out.symm,rfl⟩
end Go.Proofs.YtgiglpnaekbegaaGreatDoor
namespace Go.Proofs.YtgiglpnaekbegaaGreatDoor
set_option maxRecDepth 8000
set_option maxHeartbeats 40000000
open Go.RowKit Go.Deep
theorem yD (n lo hi:Int) (w:World):
  Calls Tryz.prog 94 #[.int .i64 n,.int .i64 lo,.int .i64 hi] w fun e w'=>e=.returned (.bool (decide (lo≤n)&&decide (n≤hi)))∧w=w':=by
 by_cases h:lo≤n
 all_goals
  go_enter Tryz.func94,Tryz.ntmps94
  go_wp2;go_ret;exact⟨Pl.ar (by rw[XB];simp;try omega),rfl⟩
theorem kJ (s:ByteArray) (w:World) (hs:s.size≤maxLen):
  Calls Tryz.prog 149 #[.string s] w fun e w'=>e=.returned (.bool (Pl.ep s))∧w=w':=by
 have HC:=uh (xQ s w hs);have HN:Hid (Pl.ep s=(Pl.eQ s&&decide (jg s≤1000000))):=by
  show _=_;unfold Pl.ep jg;cases Pl.eQ s<;>simp
 obtain⟨d,hd⟩:∃ d,d=jg s:=⟨_,rfl⟩
 obtain⟨b,hb⟩:∃ b,b=Pl.eQ s:=⟨_,rfl⟩
 rw[← hd,← hb]at HC HN;clear hd hb;go_enter Tryz.func149,Tryz.ntmps149
 cases b
 all_goals go_wp2_with (go_at_call 162;refine HC.out.mono ?_;rintro e w' ⟨rfl,rfl⟩)
 all_goals go_ret
 all_goals exact⟨Pl.ar (by rw[HN.out];simp),rfl⟩
theorem jV (s:ByteArray) (w:World) (hs:s.size≤maxLen):
  Calls Tryz.prog 73 #[.string s] w fun e w'=>e=.returned (.bool (Pl.bE s))∧w=w':=by
 have HC:=uh (td s w hs);have HG:=uh (yD s.size 1 20 w);have HN:Hid (Pl.bE s=((decide ((1:Int)≤(s.size:Int))&&decide ((s.size:Int)≤20))&&Pl.nameBytes s)):=by
  show _=_;unfold Pl.bE;congr 1;rw[XB];simp;omega
 obtain⟨b,hb⟩:∃ b,b=(decide ((1:Int)≤(s.size:Int))&&decide ((s.size:Int)≤20)):=⟨_,rfl⟩
 rw[← hb]at HG HN;clear hb;unfold maxLen at hs;go_enter Tryz.func73,Tryz.ntmps73
 cases b
 all_goals go_wp2_with (first|(go_at_call 94;refine HG.out.mono ?_;rintro e w' ⟨rfl,rfl⟩)|(go_at_call 95;refine HC.out.mono ?_;rintro e w' ⟨rfl,rfl⟩))
 all_goals go_ret
 all_goals exact⟨Pl.ar (by rw[HN.out];simp),rfl⟩
def Pl.minus (s:ByteArray):Bool:=decide (1≤s.size)&&(s.data.toList.headD 0==45)
theorem Pl.EJ (s:ByteArray) (h:¬ 1≤s.size):Pl.minus s=false:=by unfold Pl.minus;simp[h]
theorem Pl.E4 (s:ByteArray) (h:1≤s.size):((s.extract 0 1).toList==[45])=Pl.minus s:=by
 unfold Pl.minus;rw[Pl.tl];have e:(s.extract 0 1).data.toList=s.data.toList.take 1:=by simp[ByteArray.data_extract]
 rw[e];cases hl:s.data.toList with
 |nil=>
  have:=Pl.aD s;rw[hl]at this;simp at this;omega
 |cons c l=>simp[h]
theorem DA (s:ByteArray) (w:World) (hs:s.size≤maxLen):
  Calls Tryz.prog 180 #[.string s,.string {data:=#[45]}] w fun e w'=>e=.returned (.bool (Pl.minus s))∧w=w':=by
 unfold maxLen at hs;by_cases h1:1≤s.size
 ·have HE:=uh (Pl.E4 s h1);have h2:decide ((1:Int)≤(s.size:Int))=true:=by simp;omega
  go_enter Tryz.func180,Tryz.ntmps180
  go_wp2;go_ret;exact⟨Pl.ar HE.out,rfl⟩
 ·have HE:=uh (Pl.EJ s h1);have h2:decide ((1:Int)≤(s.size:Int))=false:=by simp;omega
  go_enter Tryz.func180,Tryz.ntmps180
  go_wp2;go_ret;exact⟨Pl.ar HE.out.symm,rfl⟩
theorem Pl.rY {s:ByteArray} (h:Pl.minus s=true):1≤s.size:=by
 unfold Pl.minus at h;simp at h;exact h.1
def Pl.rest (s:ByteArray):ByteArray:=if Pl.minus s then s.extract 1 s.size else s
theorem CM (s:ByteArray) (w:World) (hs:s.size≤maxLen):
  Calls Tryz.prog 175 #[.string s,.string {data:=#[45]}] w fun e w'=>e=.returned (.tuple #[.string (Pl.rest s),.bool (Pl.minus s)])∧w=w':=by
 have HC:=uh (DA s w hs);unfold maxLen at hs;cases hm:Pl.minus s
 ·rw[hm]at HC;have HR:Hid (Pl.rest s=s):=by show _=_;unfold Pl.rest;rw[hm];rfl
  go_enter Tryz.func175,Tryz.ntmps175
  go_wp2_with (go_at_call 180;refine HC.out.mono ?_;rintro e w' ⟨rfl,rfl⟩)
  go_ret2;rw[HR.out];exact⟨rfl,rfl⟩
 ·have h1:=Pl.rY hm;rw[hm]at HC;have HR:Hid (Pl.rest s=s.extract 1 s.size):=by show _=_;unfold Pl.rest;rw[hm];rfl
  go_enter Tryz.func175,Tryz.ntmps175
  go_wp2_with (go_at_call 180;refine HC.out.mono ?_;rintro e w' ⟨rfl,rfl⟩)
  go_ret2;rw[HR.out];exact⟨rfl,rfl⟩
theorem CX (s:ByteArray) (w:World) (hs:s.size≤maxLen):
  Calls Tryz.prog 163 #[.string s,.string {data:=#[45]}] w fun e w'=>e=.returned (.tuple #[.string (Pl.rest s),.bool (Pl.minus s)])∧w=w':=by
 have HC:=uh (CM s w hs);go_enter Tryz.func163,Tryz.ntmps163
 go_wp2_with (go_at_call 175;refine HC.out.mono ?_;rintro e w' ⟨rfl,rfl⟩)
 go_ret2;exact⟨rfl,rfl⟩
theorem Pl.Nw (s:ByteArray):Pl.tK s=(Pl.ep (Pl.rest s)&& !(Pl.minus s&&((Pl.rest s).toList==[48]))):=by
 unfold Pl.tK Pl.rest;cases hm:Pl.minus s
 ·have:(decide (1<s.size)&&(s.data.toList.headD 0==45))=false:=by
   unfold Pl.minus at hm;rw[Yl]at hm ⊢;intro h;apply hm;simp only[Xj,decide_eq_true_eq]at h ⊢;exact⟨by omega,h.2⟩
  rw[this];simp
 ·have h1:=Pl.rY hm;have Pq:(s.data.toList.headD 0==45)=true:=by unfold Pl.minus at hm;rw[Xj]at hm;exact hm.2
  have hn:Pl.ep s=false:=by
   unfold Pl.ep Pl.eQ;have:s.data.toList.all Pl.digit=false:=by
    cases hl:s.data.toList with
    |nil=>have:=Pl.aD s;rw[hl]at this;simp at this;omega
    |cons c l=>
     rw[hl]at Pq;simp at Pq;rw[Pq];rfl
   simp[this]
  rw[hn,Pq];by_cases h2:1<s.size
  ·simp[h2,Bool.and_comm]
  ·have e0:(s.extract 1 s.size).size=0:=by simp[ByteArray.size_extract];omega
   have hr:Pl.ep (s.extract 1 s.size)=false:=by unfold Pl.ep Pl.eQ;rw[e0];simp
   simp[h2,hr]
theorem rH (s:ByteArray) (w:World) (hs:s.size≤maxLen):
  Calls Tryz.prog 150 #[.string s] w fun e w'=>e=.returned (.bool (Pl.tK s))∧w=w':=by
 have HC:=uh (CX s w hs);have hr:(Pl.rest s).size≤maxLen:=by
  unfold Pl.rest;split
  ·simp[ByteArray.size_extract];omega
  ·exact hs
 have HN:=uh (kJ (Pl.rest s) w hr);have HE:=uh (Pl.Nw s);obtain⟨r,SK⟩:∃ r,r=Pl.rest s:=⟨_,rfl⟩
 obtain⟨m,hm⟩:∃ m,m=Pl.minus s:=⟨_,rfl⟩
 obtain⟨b,hb⟩:∃ b,b=Pl.ep r:=⟨_,rfl⟩
 rw[← SK,← hm]at HC HE;rw[← SK,← hb]at HN;rw[← hb]at HE;clear SK hm hb hr;go_enter Tryz.func150,Tryz.ntmps150
 cases b<;>cases m
 all_goals go_wp2_with (first|(go_at_call 163;refine HC.out.mono ?_;rintro e w' ⟨rfl,rfl⟩)|(go_at_call 149;refine HN.out.mono ?_;rintro e w' ⟨rfl,rfl⟩))
 all_goals go_ret
 all_goals exact⟨Pl.ar (by rw[HE.out];simp),rfl⟩
theorem qY (t:Int) (s:ByteArray) (w:World) (hs:s.size≤maxLen) (ht:1≤t∧t≤6):
  Calls Tryz.prog 125 #[.int .i64 t,.string s] w fun e w'=>e=.returned (.bool (Pl.fA t s))∧w=w':=by
 have H1:=uh (kJ s w hs);have H2:=uh (rH s w hs);have H3:=uh (jV s w hs);unfold maxLen at hs;have hc:t=1∨t=2∨t=3∨t=4∨t=5∨t=6:=by omega
 clear ht;rcases hc with rfl|rfl|rfl|rfl|rfl|rfl
 ·go_enter Tryz.func125,Tryz.ntmps125
  go_wp2_with (go_at_call 149;refine H1.out.mono ?_;rintro e w' ⟨rfl,rfl⟩)
  go_ret;exact⟨rfl,rfl⟩
 ·go_enter Tryz.func125,Tryz.ntmps125
  go_wp2_with (go_at_call 150;refine H2.out.mono ?_;rintro e w' ⟨rfl,rfl⟩)
  go_ret;exact⟨rfl,rfl⟩
 ·go_enter Tryz.func125,Tryz.ntmps125
  go_wp2_with (go_at_call 73;refine H3.out.mono ?_;rintro e w' ⟨rfl,rfl⟩)
  go_ret;exact⟨rfl,rfl⟩
 ·go_enter Tryz.func125,Tryz.ntmps125
  go_wp2;go_ret;exact⟨Pl.ar (by show _=decide (s.size≤200);rw[XB];simp;omega),rfl⟩
 ·have HF:Hid (Pl.fA 5 s=((s.toList==[121,101,115])||(s.toList==[110,111]))):=rfl;cases h1:(s.toList==[121,101,115])
  all_goals
   rw[h1]at HF;go_enter Tryz.func125,Tryz.ntmps125
   go_wp2;go_ret;exact⟨Pl.ar (by rw[HF.out];simp),rfl⟩
 ·have HF:Hid (Pl.fA 6 s=((s.toList==[110,111,110,101])||(s.toList==[98,101,114,116,104])||(s.toList==[122,111,110,101]))):=rfl;cases h1:(s.toList==[110,111,110,101])<;>cases h2:(s.toList==[98,101,114,116,104])
  all_goals
   rw[h1,h2]at HF;go_enter Tryz.func125,Tryz.ntmps125
   go_wp2;go_ret;exact⟨Pl.ar (by rw[HF.out];simp),rfl⟩
theorem Pl.rq (kind:ByteArray):∀ r∈Pl.ah kind,∀ z∈r.args,1≤z∧z≤6:=by
 unfold Pl.ah;split
 ·decide
 ·split
  ·decide
  ·split
   ·decide
   ·intro r hr;cases hr
theorem Pl.ey (kind:ByteArray):(Pl.ah kind).length≤100:=by
 unfold Pl.ah;split
 ·decide
 ·split
  ·decide
  ·split<;>decide
theorem NG (x key:ByteArray) (v1 v3:Value) (m:Bool) (B:Nat) (w:World) (hB:w.cell? ⟨B,0,none⟩=some (.string key)) (bq:B<w.heap.size):
  Calls Tryz.prog 148 #[.agg #[.string x,v1,.bool m,v3],.pointer (some ⟨B,0,none⟩)] w fun e w'=>e=.returned (.bool (x.toList==key.toList))∧Bel w w':=by
 have dr:B≠w.heap.size:=by omega
 go_enter Tryz.func148,Tryz.ntmps148
 go_wp2;go_ret;refine⟨rfl, ?_⟩;repeat(first|exact zR|refine af ?_ _|refine XF ?_)
theorem KL (l:List Pl.Ru) (va:Option Addr) (vc:Nat) (key:ByteArray) (B:Nat) (w:World) (hl:l.length≤100) (h:Raw w [.row 75 aB] [bV l] [.slice va l.length vc]) (hB:w.cell? ⟨B,0,none⟩=some (.string key)) (Ld:B<w.heap.size):
  Calls Tryz.prog 147 #[.slice va l.length vc,.func (.func 148) #[] #[.pointer (some ⟨B,0,none⟩)]] w fun e w'=>e=.returned (.int .i64 (Pl.ixI (Pl.bP l key)))∧Bel w w':=by
 have HR:=uh h;have HK:=uh (Xt hB Ld);clear h hB Ld;go_enter Tryz.func147,Tryz.ntmps147
 go_wp2;go_loopw [8] (fun i wr=>∃ k:Nat,k≤l.length∧i=.int .i64 k∧Pl.bP l key=Pl.fp key (l.drop k) k∧Bel w wr) (fun i _=>l.length - (intOf i).toNat)
 case atStart=>exact⟨0,zN,rfl,rfl,zR⟩
 case round=>
  obtain⟨k,hk,rfl,hI,hW⟩:=hrel;have HI:=uh hI;have HW:=uh hW;clear hI hW;by_cases bq:k<l.length
  ·obtain⟨p,o,c,a1,c1,v3,hv,hp,hg,_,_⟩:=gD (HR.out.later HW.out) bq;injection hv with e1 _ e3
   subst e1;subst e3;have y0:wr.cell? ⟨p,o+k*4,none⟩=some (.string (l.getD k Pl.bu).key):=aF hg 0 _ rfl;have y1:=aF hg 1 _ rfl;have y2:=aF hg 2 _ rfl;have y3:=aF hg 3 _ rfl;have cZ:(0:Int)≤(k:Int):=by omega
   have dy:(k:Int)<(l.length:Int):=by omega
   have HM:=uh (fun h=>Pl.ui bq HI.out h);have HH:=uh (fun h=>Pl.yC bq HI.out h);obtain⟨x,hx⟩:∃ x,x=(l.getD k Pl.bu).key:=⟨_,rfl⟩
   obtain⟨m,hm⟩:∃ m,m=(l.getD k Pl.bu).many:=⟨_,rfl⟩
   obtain⟨n1,il⟩:∃ n1,n1=(l.getD k Pl.bu).args.length:=⟨_,rfl⟩
   rw[← hx]at y0 HM HH;rw[← il]at y1;rw[← hm]at y2;have HC:=uh (NG x key (.slice a1 n1 c1) v3 m B wr ((HW.out.cell (p:=⟨B,0,none⟩) HK.out.2).trans HK.out.1) (zL HK.out.2 HW.out.size));clear hx hm il hg;cases hq:(x.toList==key.toList)
   ·have HX:=uh (HM.out hq);rw[hq]at HC;clear hq;go_wp2_with fail
    refine HC.out.mono ?_;rintro e w1 ⟨rfl,hb⟩;go_wp2;go_roundw
    case rel=>exact⟨k+1,by omega,by go_num,HX.out,ae HW.out hb⟩
    case measure=>simp[intOf];omega
   ·have HX:Hid ((k:Int)=Pl.ixI (Pl.bP l key)):=by show _=_;rw[HH.out hq];rfl
    rw[hq]at HC;clear hq;go_wp2_with fail
    refine HC.out.mono ?_;rintro e w1 ⟨rfl,hb⟩;go_wp2;go_ret;exact⟨Pl.dj HX.out,ae HW.out hb⟩
  ·obtain rfl:k=l.length:=by omega
   have HX:Hid (-1=Pl.ixI (Pl.bP l key)):=by show _=_;rw[Pl.yf HI.out];rfl
   go_wp2;go_ret;exact⟨Pl.dj HX.out,HW.out⟩
theorem ph (x:ByteArray) (m:Bool) (ag:List Int) (a1:Option Addr) (c1:Nat) (v3:Value) (ws:List ByteArray) (wv:Value) (w:World) (hA:Raw w [.row 3 [.i]] [.row ag.length (ag.map .i)] [.slice a1 ag.length c1]) (hw:Raw w [.row 9 [.s]] [.row ws.length (txD ws)] [wv]) (hz:∀ z∈ag,1≤z∧z≤6) (hs:∀ x∈ws,x.size≤maxLen):
  Calls Tryz.prog 97 #[.agg #[.string x,.slice a1 ag.length c1,.bool m,v3],wv] w fun e w'=>e=.returned (.bool (Pl.jH ag ws))∧Bel w w':=by
 obtain⟨Pm,JO,Wr⟩:=hw.aT;subst Wr;have jQ:=uh hs;have HZ:=uh hz;by_cases hlen:ag.length=ws.length
 rotate_left
 ·have dr:((ws.length:Int) !=(ag.length:Int))=true:=by simp;omega
  have HX:Hid (Pl.jH ag ws=false):=by show _=_;rw[Pl.jH];simp[hlen]
  clear hlen hA hw;go_enter Tryz.func97,Tryz.ntmps97
  go_wp2;go_ret;rw[HX.out];exact⟨rfl,af zR _⟩
 have HX:Hid (Pl.jH ag ws=Pl.gO ag ws):=by show _=_;rw[Pl.jH];simp[hlen]
 rw[hlen]at hA ⊢;obtain⟨n,hn⟩:∃ n,n=ws.length:=⟨_,rfl⟩
 rw[← hn]at hA hw hlen ⊢;have kC:Hid (ag.length=n∧ws.length=n):=⟨hlen,hn.symm⟩
 have HA:=uh hA;have wD:=uh hw;have dr:((n:Int) !=(n:Int))=false:=by simp
 clear hn hlen hA hw hz hs;go_enter Tryz.func97,Tryz.ntmps97
 go_wp2;go_loop [16] (fun i=>∃ k:Nat,k≤n∧i=.int .i64 k∧Hid (Pl.gO ag ws=Pl.gO (ag.drop k) (ws.drop k))) (fun i=>n - (intOf i).toNat)
 case atStart=>exact⟨0,zN,rfl,rfl⟩
 case round=>
  obtain⟨k,hk,rfl,HI⟩:=hrel;by_cases bq:k<n
  rotate_left
  ·obtain rfl:k=n:=by omega
   have HE:Hid (Pl.jH ag ws=true):=by
    show _=_;rw[HX.out,HI.out,Xz (by have:=kC.out.1;omega),Pl.gO];intro _ _ _ _ h;cases h
   go_wp2;go_ret;rw[HE.out];exact⟨rfl,af zR _⟩
  have HS:=uh (@Pl.wU ag ws k (by have:=kC.out.1;omega) (by have:=kC.out.2;omega));obtain⟨z,hz⟩:∃ z,z=ag.getD k 0:=⟨_,rfl⟩
  obtain⟨y,hy⟩:∃ y,y=ws.getD k ⟨#[]⟩:=⟨_,rfl⟩
  have P4:y.size≤maxLen:=by
   have Ew:k<ws.length:=by have:=kC.out.2;omega
   have e:ws.getD k ⟨#[]⟩=ws[k]:=by simp[Ew]
   rw[hy,e];exact jQ.out _ (Xq Ew)
  have Om:1≤z∧z≤6:=by
   have Ew:k<ag.length:=by have:=kC.out.1;omega
   have e:ag.getD k 0=ag[k]:=by simp[Ew]
   rw[hz,e];exact HZ.out _ (Xq Ew)
  have nN:=uh (fun W=>qY z y W P4 Om);rcases HA.out.slice with⟨e0,_⟩|⟨p1,o1,c1',h9,P9,_,vs1,jO,Lk⟩
  ·omega
  rcases wD.out.slice with⟨e0,_⟩|⟨p2,o2,WL,iH,tA,dR,vs2,k4,mR⟩
  ·omega
  have Eh:=dR.1;unfold maxLen at Eh;clear dR;injection h9 with g1 _ g3
  injection iH with k1 _ k3
  subst g1;subst g3;subst k1;subst k3;obtain⟨ve1,Re,iu⟩:=Lk.el bq jO;obtain⟨ve2,yT,pV⟩:=mR.el bq k4;have IE:el 1 k (ag.map Dt.i)=[.i z]:=by rw[hz];exact nI 0 Dt.i ag k (by have:=kC.out.1;omega)
  have Iw:el 1 k (txD ws)=[.s y]:=by rw[hy];exact nI ⟨#[]⟩ Dt.s ws k (by have:=kC.out.2;omega)
  have Ih:Raw w [.i] [.i z] ve1:=by rw[← IE];exact Re
  have IB:Raw w [.s] [.s y] ve2:=by rw[← Iw];exact yT
  obtain rfl:=L8 Ih;obtain rfl:=EX IB;have y1:w.cell? ⟨p1,o1+k,none⟩=some (.int .i64 z):=by have:=aF iu 0 _ rfl;simpa using this
  have y2:w.cell? ⟨p2,o2+k,none⟩=some (.string y):=by have:=aF pV 0 _ rfl;simpa using this
  have z1:(w.alloc (.cells #[.string x,.slice (some ⟨p1,o1,none⟩) n c1,.bool m,v3] 75)).cell? ⟨p1,o1+k,none⟩=some (.int .i64 z):=((af zR _).cell (p:=⟨p1,o1+k,none⟩) P9).trans y1;have z2:(w.alloc (.cells #[.string x,.slice (some ⟨p1,o1,none⟩) n c1,.bool m,v3] 75)).cell? ⟨p2,o2+k,none⟩=some (.string y):=((af zR _).cell (p:=⟨p2,o2+k,none⟩) tA).trans y2;clear y1 y2;rw[← hz,← hy]at HS;obtain⟨b,dG⟩:∃ b,b=Pl.fA z y:=⟨_,rfl⟩
  rw[← dG]at HS;have HC:Hid (∀ W,Calls Tryz.prog 125 #[.int .i64 z,.string y] W fun e w'=>e=.returned (.bool b)∧W=w'):=by rw[dG];exact nN.out
  have cZ:(0:Int)≤(k:Int):=by omega
  have dy:(k:Int)<(n:Int):=by omega
  clear Lk mR jO k4 Re yT Ih IB IE Iw iu pV hz hy dG nN P9 tA P4 Om;cases b
  ·have HE:Hid (Pl.jH ag ws=false):=by show _=_;rw[HX.out,HI.out,HS.out];rfl
   go_wp2_with (go_at_call 125;refine(HC.out _).mono ?_;rintro e w' ⟨rfl,rfl⟩)
   go_ret;rw[HE.out];exact⟨rfl,af zR _⟩
  ·have HN:Hid (Pl.gO ag ws=Pl.gO (ag.drop (k+1)) (ws.drop (k+1))):=by show _=_;rw[HI.out,HS.out];rfl
   go_wp2_with (go_at_call 125;refine(HC.out _).mono ?_;rintro e w' ⟨rfl,rfl⟩)
   go_round
   case rel=>exact⟨k+1,by omega,by go_num,HN⟩
   case measure=>simp[intOf];omega
theorem zX (l:List Pl.Ru) (va:Option Addr) (vc:Nat) (key:ByteArray) (w:World) (hl:l.length≤100) (h:Raw w [.row 75 aB] [bV l] [.slice va l.length vc]):
  Calls Tryz.prog 124 #[.agg #[.slice va l.length vc],.string key] w fun e w'=>e=.returned (.int .i64 (Pl.ixI (Pl.bP l key)))∧Bel w w':=by
 obtain⟨wa,aP⟩:∃ wa,wa=(w.alloc (.cells #[.slice va l.length vc] 141)).alloc (.cells #[.string key] 9):=⟨_,rfl⟩
 have HB:Hid (Bel w wa):=by show Below _ _ _;rw[aP];exact af (af zR _) _
 have x0:wa.cell? ⟨w.heap.size,0,none⟩=some (.slice va l.length vc):=by rw[aP];exact((au.new w #[.slice va l.length vc] 141 _ rfl).eO _).get 0 _ rfl
 have HK:au wa (w.heap.size+1) [.string key]:=by rw[aP];exact au.new _ #[.string key] _ _ (by simp)
 have HC:=uh (KL l va vc key (w.heap.size+1) wa hl (h.later HB.out) (HK.get 0 _ rfl) HK.lt);have z:w.heap.size<wa.heap.size:=by rw[aP];simp;omega
 clear h HK;go_enter Tryz.func124,Tryz.ntmps124
 go_upto_region 1 with fail
 rw[← aP];clear aP;go_wp2_with (go_at_call 147;refine HC.out.mono ?_;rintro e w' ⟨rfl,hb⟩)
 go_ret;exact⟨rfl,ae HB.out hb⟩
def nE (l:List Pl.Ru) (key:ByteArray) (W:World) (e:Ending):Prop:=match Pl.bP l key with
 |none=>e=.returned (.tuple #[.agg #[.string ⟨#[]⟩,.slice none 0 0,.bool false,.slice none 0 0],.bool false])
 |some j=>∃ a1 c1 a3 c3,e=.returned (.tuple #[.agg #[.string (l.getD j Pl.bu).key,.slice a1 (l.getD j Pl.bu).args.length c1,.bool (l.getD j Pl.bu).many,.slice a3 (l.getD j Pl.bu).dflt.length c3],.bool true])∧
   Raw W [.row 3 [.i]] [.row (l.getD j Pl.bu).args.length ((l.getD j Pl.bu).args.map .i)] [.slice a1 (l.getD j Pl.bu).args.length c1]∧
   Raw W [.row 9 [.s]] [.row (l.getD j Pl.bu).dflt.length (txD (l.getD j Pl.bu).dflt)] [.slice a3 (l.getD j Pl.bu).dflt.length c3]
theorem L3 (l:List Pl.Ru) (va:Option Addr) (vc:Nat) (key:ByteArray) (w0 w:World) (iQ:Bel w0 w) (hl:l.length≤100) (h:Raw w0 [.row 75 aB] [bV l] [.slice va l.length vc]):
  Calls Tryz.prog 96 #[.agg #[.slice va l.length vc],.string key] w fun e w'=>nE l key w0 e∧Bel w w':=by
 obtain⟨wa,aP⟩:∃ wa,wa=(w.alloc (.cells #[.slice va l.length vc] 141)).alloc (.cells #[.string ⟨#[]⟩,.slice none 0 0,.bool false,.slice none 0 0] 75):=⟨_,rfl⟩
 have HB:Hid (Bel w wa):=by show Below _ _ _;rw[aP];exact af (af zR _) _
 have HK:au wa w.heap.size [.slice va l.length vc]:=by rw[aP];exact(au.new w #[.slice va l.length vc] 141 _ rfl).eO _
 have wO:Hid (aA wa (w.heap.size+1) 75 [.string ⟨#[]⟩,.slice none 0 0,.bool false,.slice none 0 0]):=by show aA _ _ _ _;rw[aP];exact aA.new (w.alloc (.cells #[.slice va l.length vc] 141)) [.string ⟨#[]⟩,.slice none 0 0,.bool false,.slice none 0 0] 75 _ (by simp)
 have HC:=uh (zX l va vc key wa hl (h.later (ae iQ HB.out)));have HR:=uh h;have oX:=uh iQ;have Ts:=uh HK;have x0:=HK.get 0 _ rfl;have xl:=HK.lt;obtain⟨b0,aU⟩:∃ b0,b0=w.heap.size:=⟨_,rfl⟩
 have fZ:=uh aU;clear h HK iQ;go_enter Tryz.func96,Tryz.ntmps96
 go_upto_region 1 with fail
 rw[← aP];clear aP;rw[← aU]at wO Ts x0 xl;rw[← aU];clear aU;go_wp2_with fail
 refine HC.out.mono ?_;rintro e w1 ⟨rfl,hb⟩;have x1:=(Ts.out.later hb).get 0 _ rfl;have xl1:=(Ts.out.later hb).lt;have sQ:=uh (wO.out.later hb);have lS:Hid (Bel w w1):=ae HB.out hb;clear hb HC wO Ts x0 xl;cases lE:Pl.bP l key with
 |none=>
  have Ck:Pl.ixI none= -1:=rfl;rw[Ck];clear Ck;have HX:Hid (∀ e,e=.returned (.tuple #[.agg #[.string ⟨#[]⟩,.slice none 0 0,.bool false,.slice none 0 0],.bool false])→nE l key w0 e):=fun e he=>by unfold nE;rw[lE];exact he
  have iI:w1.there (b0+1) 0 (#[.string ⟨#[]⟩,.slice none 0 0,.bool false,.slice none 0 0]:Array Value).size:=aX (sQ.out).own _ _ (by simp);obtain⟨tj,AB⟩:∃ tj,tj=w1.setCells (b0+1) 0 [.string ⟨#[]⟩,.slice none 0 0,.bool false,.slice none 0 0]:=⟨_,rfl⟩
  have gZ:=uh AB;have jO:tj.rangeAt (b0+1) 0 [.string ⟨#[]⟩,.slice none 0 0,.bool false,.slice none 0 0]:=by rw[AB];exact World.rangeAt_setCells_same _ _ _ _ iI
  clear AB lE;go_wp2_with (refine wpList_store_mid rfl 75 _ _ rfl (b0+1) 0 #[.string ⟨#[]⟩,.slice none 0 0,.bool false,.slice none 0 0] rfl rfl iI (by kernel_rfl) (by simp[Value.oneCell']) ?_;first|rw[← gZ.out]|(simp only[Xi];rw[← gZ.out]))
  try simp only[Act.put,so,As,An]
  refine bodyPost_ret (v:=.tuple #[.agg #[.string ⟨#[]⟩,.slice none 0 0,.bool false,.slice none 0 0],.bool false]) (by simp[results,Tryz.results96,asAddr,run_loadVar_mid (P:=Tryz.prog) _ _ _ 75 [.string ⟨#[]⟩,.slice none 0 0,.bool false,.slice none 0 0] _ jO Tryz.underlying75 rfl (by kernel_rfl)]) rfl ?_;rw[gZ.out];exact⟨HX.out _ rfl,bW (by have:=fZ.out;omega) _ _ _ lS.out⟩
 |some j=>
  have hj:=Pl.iV lE;have Ck:Pl.ixI (some j)=(j:Int):=rfl;rw[Ck];clear Ck;have DW:(0:Int)≤(j:Int):=by omega
  have lR:(j:Int)<(l.length:Int):=by omega
  obtain⟨p,o,c,a1,c1,v3,hv,hp,hg,hA,hD⟩:=gD HR.out hj;injection hv with e1 _ e3
  subst e1;subst e3;obtain⟨a3,c3,e5⟩:=hD.aT;subst e5;have HX:Hid (∀ e,e=.returned (.tuple #[.agg #[.string (l.getD j Pl.bu).key,.slice a1 (l.getD j Pl.bu).args.length c1,.bool (l.getD j Pl.bu).many,.slice a3 (l.getD j Pl.bu).dflt.length c3],.bool true])→nE l key w0 e):=fun e he=>by unfold nE;rw[lE];exact⟨_,_,_,_,he,hA,hD⟩
  have HG:=uh (aj hg hp (ae oX.out lS.out));clear hg hA hD lE;obtain⟨r0,h0⟩:∃ r0,r0=(l.getD j Pl.bu).key:=⟨_,rfl⟩
  obtain⟨n1,h1⟩:∃ n1,n1=(l.getD j Pl.bu).args.length:=⟨_,rfl⟩
  obtain⟨m,h2⟩:∃ m,m=(l.getD j Pl.bu).many:=⟨_,rfl⟩
  obtain⟨n3,h3⟩:∃ n3,n3=(l.getD j Pl.bu).dflt.length:=⟨_,rfl⟩
  rw[← h0,← h1,← h2,← h3]at HX HG;clear h0 h1 h2 h3;have iI:w1.there (b0+1) 0 (#[.string r0,.slice a1 n1 c1,.bool m,.slice a3 n3 c3]:Array Value).size:=aX (sQ.out).own _ _ (by simp);obtain⟨tj,AB⟩:∃ tj,tj=w1.setCells (b0+1) 0 [.string r0,.slice a1 n1 c1,.bool m,.slice a3 n3 c3]:=⟨_,rfl⟩
  have gZ:=uh AB;have jO:tj.rangeAt (b0+1) 0 [.string r0,.slice a1 n1 c1,.bool m,.slice a3 n3 c3]:=by rw[AB];exact World.rangeAt_setCells_same _ _ _ _ iI
  clear AB;go_wp2_with (first|(refine wpList_load_mid rfl 75 _ rfl p (o+j*4) rfl [.string r0,.slice a1 n1 c1,.bool m,.slice a3 n3 c3] _ HG.out Tryz.underlying75 rfl (by kernel_rfl) ?_)|(refine wpList_store_mid rfl 75 _ _ rfl (b0+1) 0 #[.string r0,.slice a1 n1 c1,.bool m,.slice a3 n3 c3] rfl rfl iI (by kernel_rfl) (by simp[Value.oneCell']) ?_;first|rw[← gZ.out]|(simp only[Xi];rw[← gZ.out])))
  try simp only[Act.put,so,As,An]
  refine bodyPost_ret (v:=.tuple #[.agg #[.string r0,.slice a1 n1 c1,.bool m,.slice a3 n3 c3],.bool true]) (by simp[results,Tryz.results96,asAddr,run_loadVar_mid (P:=Tryz.prog) _ _ _ 75 [.string r0,.slice a1 n1 c1,.bool m,.slice a3 n3 c3] _ jO Tryz.underlying75 rfl (by kernel_rfl)]) rfl ?_;rw[gZ.out];exact⟨HX.out _ rfl,bW (by have:=fZ.out;omega) _ _ _ lS.out⟩
def cQ (l:List Pl.Ru) (x y:Pl.Ln):Int:=fR (eo (Pl.ixI (Pl.bP l x.key)) (Pl.ixI (Pl.bP l y.key))) (db x.ws y.ws)
def Nc (b0:Nat) (vc:Nat) (c1:Nat) (c2:Nat) (va:Option Addr) (a1:Option Addr) (a2:Option Addr) (l:List Pl.Ru) (x:Pl.Ln) (y:Pl.Ln):Nat→Value→World→Prop
 |0,vv,_|4,vv,_=>vv=.agg #[.slice va l.length vc]
 |1,vv,_=>vv=.pointer (some ⟨(b0+1),0,none⟩)
 |2,vv,_=>vv=.string x.key
 |3,vv,_=>vv=.int .i64 (Pl.ixI (Pl.bP l x.key))
 |5,vv,_=>vv=.pointer (some ⟨(b0+2),0,none⟩)
 |6,vv,_=>vv=.string y.key
 |7,vv,_=>vv=.int .i64 (Pl.ixI (Pl.bP l y.key))
 |8,vv,_=>vv=.int .i64 (eo (Pl.ixI (Pl.bP l x.key)) (Pl.ixI (Pl.bP l y.key)))
 |9,vv,_=>vv=.pointer (some ⟨(b0+1),1,none⟩)
 |10,vv,_=>vv=.slice a1 x.ws.length c1
 |11,vv,_=>vv=.pointer (some ⟨(b0+2),1,none⟩)
 |12,vv,_=>vv=.slice a2 y.ws.length c2
 |13,vv,_=>vv=.int .i64 (db x.ws y.ws)
 |14,vv,W=>∃ g,vv=.slice (some ⟨g,0,none⟩) 2 2∧W.cell? ⟨g,0,none⟩=some (.int .i64 (eo (Pl.ixI (Pl.bP l x.key)) (Pl.ixI (Pl.bP l y.key))))∧W.cell? ⟨g,1,none⟩=some (.int .i64 (db x.ws y.ws))∧g<W.heap.size
 |15,vv,_|16,vv,_=>vv=.int .i64 (cQ l x y)
 |_,_,_=>True
theorem CB (b0:Nat) (vc:Nat) (c1:Nat) (c2:Nat) (va:Option Addr) (a1:Option Addr) (a2:Option Addr) (l:List Pl.Ru) (x:Pl.Ln) (y:Pl.Ln):∀ jj vv W W',Bel W W'→Nc b0 vc c1 c2 va a1 a2 l x y jj vv W→Nc b0 vc c1 c2 va a1 a2 l x y jj vv W':=by
 intro jj vv W W' hb h;match jj with
 |0|1|2|3|4|5|6|7|8|9|10|11|12|13|15|16=>exact h
 |14=>
  obtain⟨g,h1,h2,h3,h4⟩:=h;exact⟨g,h1,(hb.cell (p:=⟨g,0,none⟩) h4).trans h2,(hb.cell (p:=⟨g,1,none⟩) h4).trans h3,zL h4 hb.size⟩
 |n+17=>exact trivial
theorem uV (l:List Pl.Ru) (va:Option Addr) (vc:Nat) (x y:Pl.Ln) (a1 a2:Option Addr) (c1 c2:Nat) (w:World) (hl:l.length≤100) (h:Raw w [.row 75 aB] [bV l] [.slice va l.length vc]) (hx:Raw w bm [.row x.ws.length (txD x.ws)] [.slice a1 x.ws.length c1]) (hy:Raw w bm [.row y.ws.length (txD y.ws)] [.slice a2 y.ws.length c2]):
  Calls Tryz.prog 100 #[.agg #[.slice va l.length vc],.agg #[.string x.key,.slice a1 x.ws.length c1],.agg #[.string y.key,.slice a2 y.ws.length c2]] w fun e w'=>e=.returned (.int .i64 (cQ l x y))∧Bel w w':=by
 obtain⟨wa,aP⟩:∃ wa,wa=((w.alloc (.cells #[.slice va l.length vc] 141)).alloc (.cells #[.string x.key,.slice a1 x.ws.length c1] 41)).alloc (.cells #[.string y.key,.slice a2 y.ws.length c2] 41):=⟨_,rfl⟩
 obtain⟨b0,aU⟩:∃ b0,b0=w.heap.size:=⟨_,rfl⟩
 have HB:Hid (Bel w wa):=by show Below _ _ _;rw[aP];exact af (af (af zR _) _) _
 have fe:Hid (au wa b0 [.slice va l.length vc]):=by show au _ _ _;rw[aP,aU];exact((au.new w #[.slice va l.length vc] _ _ rfl).eO _).eO _
 have jL:Hid (au wa (b0+1) [.string x.key,.slice a1 x.ws.length c1]):=by show au _ _ _;rw[aP,aU];exact(au.new (w.alloc (.cells #[.slice va l.length vc] 141)) #[.string x.key,.slice a1 x.ws.length c1] _ _ (by simp)).eO _
 have sP:Hid (au wa (b0+2) [.string y.key,.slice a2 y.ws.length c2]):=by show au _ _ _;rw[aP,aU];exact au.new ((w.alloc (.cells #[.slice va l.length vc] 141)).alloc (.cells #[.string x.key,.slice a1 x.ws.length c1] 41)) #[.string y.key,.slice a2 y.ws.length c2] _ _ (by simp)
 have Cf:=uh (h.later HB.out);have wG:=uh (hx.later HB.out);have HYW:=uh (hy.later HB.out);have HL:=uh hl;clear h hx hy hl;go_enter Tryz.func100,Tryz.ntmps100
 go_upto_region 1 with fail
 rw[← aP,← aU];clear aP aU;refine RY.bs wa zR (Nc b0 vc c1 c2 va a1 a2 l x y) (CB _ _ _ _ _ _ _ _ _ _) (by kernel_rfl) (by kernel_rfl) (by kernel_rfl) (by kernel_rfl) ?_ ?_
 ·intro ii o' ho a X hX hk hd;have zb0:=fe.out.later hX;have zb0l:=zb0.lt;have z_b0___1_:=jL.out.later hX;have z_b0___1_l:=z_b0___1_.lt;have z_b0___2_:=sP.out.later hX;have z_b0___2_l:=z_b0___2_.lt;match ii,ho with
  |0,rfl|4,rfl=>
   have v3:a.eval (.tmp 3)=.pointer (some ⟨b0,0,none⟩):=(hk 3 (by kernel_rfl)).trans rfl;exact No ⟨_,X,ak 141 _ rfl b0 0 v3 [.slice va l.length vc] _ zb0.at_ Tryz.underlying141 rfl (by kernel_rfl),zR,rfl⟩
  |1,rfl=>
   exact RY.p (.pointer (some ⟨(b0+1),0,none⟩)) (by simp[execOp,go_sem,RY.K hk 4 (.pointer (some ⟨(b0+1),0,none⟩))])
  |2,rfl=>
   have e8:=RY.E hd 1 8;have ycl_:=z_b0___1_.get 0 _ rfl;exact RY.p (.string x.key) (by simp[execOp,go_sem,e8,ycl_])
  |3,rfl=>
   have e7:=RY.E hd 0 7;have e9:=RY.E hd 2 9;refine Xk ⟨124,#[.agg #[.slice va l.length vc],.string x.key],by simp[go_sem,e7,e9],(zX l va vc x.key X HL.out (Cf.out.later hX)).mono ?_⟩;rintro e W' ⟨rfl,hb⟩;exact⟨_,rfl,hb,rfl⟩
  |5,rfl=>
   exact RY.p (.pointer (some ⟨(b0+2),0,none⟩)) (by simp[execOp,go_sem,RY.K hk 5 (.pointer (some ⟨(b0+2),0,none⟩))])
  |6,rfl=>
   have e12:=RY.E hd 5 12;have ycl_:=z_b0___2_.get 0 _ rfl;exact RY.p (.string y.key) (by simp[execOp,go_sem,e12,ycl_])
  |7,rfl=>
   have e11:=RY.E hd 4 11;have e13:=RY.E hd 6 13;refine Xk ⟨124,#[.agg #[.slice va l.length vc],.string y.key],by simp[go_sem,e11,e13],(zX l va vc y.key X HL.out (Cf.out.later hX)).mono ?_⟩;rintro e W' ⟨rfl,hb⟩;exact⟨_,rfl,hb,rfl⟩
  |8,rfl=>
   have e10:=RY.E hd 3 10;have e14:=RY.E hd 7 14;refine Xk ⟨126,#[.int .i64 (Pl.ixI (Pl.bP l x.key)),.int .i64 (Pl.ixI (Pl.bP l y.key))],by simp[go_sem,e10,e14],(TX (Pl.ixI (Pl.bP l x.key)) (Pl.ixI (Pl.bP l y.key)) X).mono ?_⟩;rintro e W' ⟨rfl,rfl⟩;exact⟨_,rfl,zR,rfl⟩
  |9,rfl=>
   exact RY.p (.pointer (some ⟨(b0+1),1,none⟩)) (by simp[execOp,go_sem,RY.K hk 4 (.pointer (some ⟨(b0+1),0,none⟩))])
  |10,rfl=>
   have e16:=RY.E hd 9 16;have ycl_:=z_b0___1_.get 1 _ rfl;exact RY.p (.slice a1 x.ws.length c1) (by simp[execOp,go_sem,e16,ycl_])
  |11,rfl=>
   exact RY.p (.pointer (some ⟨(b0+2),1,none⟩)) (by simp[execOp,go_sem,RY.K hk 5 (.pointer (some ⟨(b0+2),0,none⟩))])
  |12,rfl=>
   have e18:=RY.E hd 11 18;have ycl_:=z_b0___2_.get 1 _ rfl;exact RY.p (.slice a2 y.ws.length c2) (by simp[execOp,go_sem,e18,ycl_])
  |13,rfl=>
   have e17:=RY.E hd 10 17;have e19:=RY.E hd 12 19;refine Xk ⟨127,#[.slice a1 x.ws.length c1,.slice a2 y.ws.length c2],by simp[go_sem,e17,e19],(Nu x.ws y.ws _ _ X (wG.out.later hX) (HYW.out.later hX)).mono ?_⟩;rintro e W' ⟨rfl,rfl⟩;exact⟨_,rfl,zR,rfl⟩
  |14,rfl=>
   exact No ⟨.slice (some ⟨X.heap.size,0,none⟩) 2 2,X.alloc (.cells #[.int .i64 (eo (Pl.ixI (Pl.bP l x.key)) (Pl.ixI (Pl.bP l y.key))),.int .i64 (db x.ws y.ws)] 3),by simp[execOp,go_sem,RY.E hd 8 15,RY.E hd 13 20],af zR _,X.heap.size,rfl,World.cell?_alloc_at _ _ _ _ rfl,World.cell?_alloc_at _ _ _ _ rfl,by simp⟩
  |15,rfl=>
   obtain⟨g21,q21,qa21,qb21,_⟩:=hd 14 _ 21 rfl rfl ⟨⟨14,.data⟩,by simp,rfl,rfl⟩;have e21:a.tmps[21]?.getD undef=.slice (some ⟨g21,0,none⟩) 2 2:=(RY.ai a 21).trans q21;refine Xk ⟨92,#[.slice (some ⟨g21,0,none⟩) 2 2],by simp[go_sem,e21],(Ga g21 2 (eo (Pl.ixI (Pl.bP l x.key)) (Pl.ixI (Pl.bP l y.key))) (db x.ws y.ws) X qa21 qb21).mono ?_⟩;rintro e W' ⟨rfl,rfl⟩;exact⟨_,rfl,zR,rfl⟩
  |16,rfl=>
   exact RY.p (.int .i64 (cQ l x y)) (by simp[execOp,go_sem,RY.E hd 15 22])
  |n+17,ho=>simp at ho
 intro X vs hX bn;have q6:vs 6=_:=bn 16 _ 6 rfl rfl;simp only[RY.aC,Act.put,so,As,An];rw[q6];generalize vs 7=s7,vs 8=s8,vs 9=s9,vs 10=s10,vs 11=s11,vs 12=s12,vs 13=s13,vs 14=s14,vs 15=s15,vs 16=s16,vs 17=s17,vs 18=s18,vs 19=s19,vs 20=s20,vs 21=s21,vs 22=s22;clear bn q6;go_wp2;go_ret;exact⟨rfl,ae HB.out hX⟩
def uA (l:List Pl.Ru) (L:List Pl.Ln):Bool:=(List.range (L.length - 1)).all fun i=>decide (cQ l (L.getD i Pl.aK) (L.getD (i+1) Pl.aK)<0)
theorem NK (l:List Pl.Ru) (va:Option Addr) (vc:Nat) (wL:l.length≤100) (L:List Pl.Ln) (v:Value) (w:World) (sO:Raw w [.row 75 aB] [bV l] [.slice va l.length vc]) (h:Raw w aV [bD L] [v]):
  Calls Tryz.prog 99 #[v,.func (.func 100) #[.agg #[.slice va l.length vc]] #[]] w fun e w'=>e=.returned (.bool (uA l L))∧Bel w w':=by
 have HH:=uh h;have jm:=uh sO;obtain⟨a,c,ev⟩:=h.aT;subst ev;have hl:L.length≤maxLen:=by
  rcases bO h with⟨e,_⟩|⟨_,_,_,_,_,e,_⟩
  ·omega
  ·exact e
 unfold maxLen at hl;obtain⟨R,hR⟩:∃ R,R=uA l L:=⟨_,rfl⟩
 have HR:Hid (R=uA l L):=hR;rw[← hR];clear h hR sO;go_enter Tryz.func99,Tryz.ntmps99
 go_wp2;go_loopw [5] (fun i wr=>∃ j:Nat,j≤L.length - 1∧i=.int .i64 ((j+1:Nat):Int)∧(List.range j).all (fun i=>decide (cQ l (L.getD i Pl.aK) (L.getD (i+1) Pl.aK)<0))=true∧Bel w wr) (fun i _=>L.length - (intOf i).toNat)
 case atStart=>exact⟨0,zN,rfl,rfl,zR⟩
 case round=>
  obtain⟨j,hj,rfl,hq,hW⟩:=hrel;have HQ:=uh hq;clear hq;by_cases bq:j+1<L.length
  ·obtain⟨x,hx⟩:∃ x,x=L.getD j Pl.aK:=⟨_,rfl⟩
   obtain⟨y,hy⟩:∃ y,y=L.getD (j+1) Pl.aK:=⟨_,rfl⟩
   have sH:=uh hW.drew;rcases bO (HH.out.later hW.drew) with⟨e0,_⟩|⟨p,o,c',hv,hp,_,aE⟩
   ·omega
   injection hv with g1 _ g3
   subst g1;subst g3;obtain⟨ax,cx,dm,dH⟩:=aE j (by omega);obtain⟨ay,cy,ji,lQ⟩:=aE (j+1) bq;rw[← hx]at dm dH;rw[← hy]at ji lQ;have x0:wr.drew.cell? ⟨p,o+j*2,none⟩=some (.string x.key):=aF dm 0 _ rfl;have x1:wr.drew.cell? ⟨p,o+j*2+1,none⟩=some (.slice ax x.ws.length cx):=aF dm 1 _ rfl;have y0:wr.drew.cell? ⟨p,o+(j+1)*2,none⟩=some (.string y.key):=aF ji 0 _ rfl;have y1:wr.drew.cell? ⟨p,o+(j+1)*2+1,none⟩=some (.slice ay y.ws.length cy):=aF ji 1 _ rfl;clear hW aE dm ji;obtain⟨r,hr⟩:∃ r,r=cQ l x y:=⟨_,rfl⟩
   have nJ:Hid (∀ W,Bel w W→Below wr.drew.heap.size wr.drew W→Calls Tryz.prog 100 #[.agg #[.slice va l.length vc],.agg #[.string x.key,.slice ax x.ws.length cx],.agg #[.string y.key,.slice ay y.ws.length cy]] W fun e w'=>e=.returned (.int .i64 r)∧Bel W w'):=fun W hb=>by
    rw[hr];exact fun h2=>uV l va vc x y ax ay cx cy W wL (jm.out.later hb) (dH.later h2) (lQ.later h2)
   have HP:Hid ((fun i=>decide (cQ l (L.getD i Pl.aK) (L.getD (i+1) Pl.aK)<0)) j=decide (r<0)):=by show _=_;rw[hr,hx,hy]
   clear hr hx hy dH lQ;by_cases hz:r<0
   ·have HE:=uh (Pl.fO HQ.out (HP.out.trans (decide_eq_true hz)));go_wp2_with fail
    refine dS 10 (by kernel_rfl) (by kernel_rfl) ?_;intro W pW;rw[← pW]at hp sH x0 x1 y0 y1;simp only[Ye,YL,Yq,Ya];have Pa:Hid (W=wr.drew):=pW;clear pW;have DW:(0:Int)≤(j:Int):=by omega
    have OE:(j:Int)<(L.length:Int):=by omega
    have Mr:(0:Int)≤(j:Int)+1:=by omega
    have Q7:(j:Int)+1<(L.length:Int):=by omega
    have Wm:IntKind.i64.wrap (j:Int)=(j:Int):=gJ _ (by omega) (by omega);have HX:=uh (nJ.out W sH.out (by rw[Pa.out];exact zR));repeat still_step
    refine wpStill_nil ?_;go_wp2_with (go_at_call 100;refine HX.out.mono ?_;rintro e w2 ⟨rfl,dD⟩)
    go_roundw
    case rel=>exact⟨j+1,by omega,by go_num,HE.out,ae sH.out dD⟩
    case measure=>simp[intOf];omega
   ·have HE:Hid (R=false):=by show _=_;rw[HR.out];exact Pl.gA (k:=j) (by omega) (HP.out.trans (decide_eq_false hz))
    go_wp2_with fail
    refine dS 10 (by kernel_rfl) (by kernel_rfl) ?_;intro W pW;rw[← pW]at hp sH x0 x1 y0 y1;simp only[Ye,YL,Yq,Ya];have Pa:Hid (W=wr.drew):=pW;clear pW;have DW:(0:Int)≤(j:Int):=by omega
    have OE:(j:Int)<(L.length:Int):=by omega
    have Mr:(0:Int)≤(j:Int)+1:=by omega
    have Q7:(j:Int)+1<(L.length:Int):=by omega
    have Wm:IntKind.i64.wrap (j:Int)=(j:Int):=gJ _ (by omega) (by omega);have HX:=uh (nJ.out W sH.out (by rw[Pa.out];exact zR));repeat still_step
    refine wpStill_nil ?_;go_wp2_with (go_at_call 100;refine HX.out.mono ?_;rintro e w2 ⟨rfl,dD⟩)
    go_ret;exact⟨Pl.ar HE.out.symm,ae sH.out dD⟩
  ·have HE:Hid (R=true):=by
    show R=true;rw[HR.out];have:j=L.length - 1:=by omega
    rw[this]at HQ;exact HQ.out
   go_wp2;go_ret;exact⟨Pl.ar HE.out.symm,hW⟩
def po  (L:List Pl.Bl):Bool:=(List.range (L.length - 1)).all fun i=>decide (eE (L.getD i Pl.aG) (L.getD (i+1) Pl.aG)<0)
theorem Nh  (L:List Pl.Bl) (v:Value) (w:World) (h:Raw w bL [cq L] [v]):
  Calls Tryz.prog 71 #[v,.func (.func 72) #[] #[]] w fun e w'=>e=.returned (.bool (po L))∧Bel w w':=by
 have HH:=uh h;obtain⟨a,c,ev⟩:=h.aT;subst ev;have hl:L.length≤maxLen:=by
  rcases cN h with⟨e,_⟩|⟨_,_,_,_,_,e,_⟩
  ·omega
  ·exact e
 unfold maxLen at hl;obtain⟨R,hR⟩:∃ R,R=po L:=⟨_,rfl⟩
 have HR:Hid (R=po L):=hR;rw[← hR];clear h hR;go_enter Tryz.func71,Tryz.ntmps71
 go_wp2;go_loopw [5] (fun i wr=>∃ j:Nat,j≤L.length - 1∧i=.int .i64 ((j+1:Nat):Int)∧(List.range j).all (fun i=>decide (eE (L.getD i Pl.aG) (L.getD (i+1) Pl.aG)<0))=true∧Bel w wr) (fun i _=>L.length - (intOf i).toNat)
 case atStart=>exact⟨0,zN,rfl,rfl,zR⟩
 case round=>
  obtain⟨j,hj,rfl,hq,hW⟩:=hrel;have HQ:=uh hq;clear hq;by_cases bq:j+1<L.length
  ·obtain⟨x,hx⟩:∃ x,x=L.getD j Pl.aG:=⟨_,rfl⟩
   obtain⟨y,hy⟩:∃ y,y=L.getD (j+1) Pl.aG:=⟨_,rfl⟩
   have sH:=uh hW.drew;rcases cN (HH.out.later hW.drew) with⟨e0,_⟩|⟨p,o,c',hv,hp,_,aE⟩
   ·omega
   injection hv with g1 _ g3
   subst g1;subst g3;obtain⟨ax,cx,dm,dH⟩:=aE j (by omega);obtain⟨ay,cy,ji,lQ⟩:=aE (j+1) bq;rw[← hx]at dm dH;rw[← hy]at ji lQ;have x0:wr.drew.cell? ⟨p,o+j*3,none⟩=some (.string x.kind):=aF dm 0 _ rfl;have x1:wr.drew.cell? ⟨p,o+j*3+1,none⟩=some (.string x.name):=aF dm 1 _ rfl;have x2:wr.drew.cell? ⟨p,o+j*3+2,none⟩=some (.slice ax x.lines.length cx):=aF dm 2 _ rfl;have y0:wr.drew.cell? ⟨p,o+(j+1)*3,none⟩=some (.string y.kind):=aF ji 0 _ rfl;have y1:wr.drew.cell? ⟨p,o+(j+1)*3+1,none⟩=some (.string y.name):=aF ji 1 _ rfl;have y2:wr.drew.cell? ⟨p,o+(j+1)*3+2,none⟩=some (.slice ay y.lines.length cy):=aF ji 2 _ rfl;clear hW aE dm ji;obtain⟨r,hr⟩:∃ r,r=eE x y:=⟨_,rfl⟩
   have nJ:Hid (∀ W,Bel w W→Calls Tryz.prog 72 #[.agg #[.string x.kind,.string x.name,.slice ax x.lines.length cx],.agg #[.string y.kind,.string y.name,.slice ay y.lines.length cy]] W fun e w'=>e=.returned (.int .i64 r)∧Bel W w'):=fun W _=>by rw[hr];exact Ao _ _ _ _ _ _ W
   have HP:Hid ((fun i=>decide (eE (L.getD i Pl.aG) (L.getD (i+1) Pl.aG)<0)) j=decide (r<0)):=by show _=_;rw[hr,hx,hy]
   clear hr hx hy dH lQ;by_cases hz:r<0
   ·have HE:=uh (Pl.fO HQ.out (HP.out.trans (decide_eq_true hz)));go_wp2_with fail
    refine dS 10 (by kernel_rfl) (by kernel_rfl) ?_;intro W pW;rw[← pW]at hp sH x0 x1 x2 y0 y1 y2;simp only[Ye,YL,Yq,Ya];clear pW;have DW:(0:Int)≤(j:Int):=by omega
    have OE:(j:Int)<(L.length:Int):=by omega
    have Mr:(0:Int)≤(j:Int)+1:=by omega
    have Q7:(j:Int)+1<(L.length:Int):=by omega
    have Wm:IntKind.i64.wrap (j:Int)=(j:Int):=gJ _ (by omega) (by omega);have HX:=uh (nJ.out W sH.out);repeat still_step
    refine wpStill_nil ?_;go_wp2_with (go_at_call 72;refine HX.out.mono ?_;rintro e w2 ⟨rfl,dD⟩)
    go_roundw
    case rel=>exact⟨j+1,by omega,by go_num,HE.out,ae sH.out dD⟩
    case measure=>simp[intOf];omega
   ·have HE:Hid (R=false):=by show _=_;rw[HR.out];exact Pl.gA (k:=j) (by omega) (HP.out.trans (decide_eq_false hz))
    go_wp2_with fail
    refine dS 10 (by kernel_rfl) (by kernel_rfl) ?_;intro W pW;rw[← pW]at hp sH x0 x1 x2 y0 y1 y2;simp only[Ye,YL,Yq,Ya];clear pW;have DW:(0:Int)≤(j:Int):=by omega
    have OE:(j:Int)<(L.length:Int):=by omega
    have Mr:(0:Int)≤(j:Int)+1:=by omega
    have Q7:(j:Int)+1<(L.length:Int):=by omega
    have Wm:IntKind.i64.wrap (j:Int)=(j:Int):=gJ _ (by omega) (by omega);have HX:=uh (nJ.out W sH.out);repeat still_step
    refine wpStill_nil ?_;go_wp2_with (go_at_call 72;refine HX.out.mono ?_;rintro e w2 ⟨rfl,dD⟩)
    go_ret;exact⟨Pl.ar HE.out.symm,ae sH.out dD⟩
  ·have HE:Hid (R=true):=by
    show R=true;rw[HR.out];have:j=L.length - 1:=by omega
    rw[this]at HQ;exact HQ.out
   go_wp2;go_ret;exact⟨Pl.ar HE.out.symm,hW⟩
def cmE (p:ByteArray×Int×Nat):MapEntry:=⟨.string p.1,.int .i64 p.2.1,p.2.2⟩
def iz (x:ByteArray):List (ByteArray×Int×Nat)→Nat→Option (Nat×Int)
 |[],_=>none
 |p::M,i=>if x.toList==p.1.toList then some (i,p.2.1) else iz x M (i+1)
def iX (x:ByteArray):List (ByteArray×Int×Nat)→Int
 |[]=>0
 |p::M=>if x.toList==p.1.toList then p.2.1 else iX x M
def iW (x:ByteArray) (v:Int) (cl:Nat):List (ByteArray×Int×Nat)→List (ByteArray×Int×Nat)
 |[]=> [(x,v,cl)]
 |p::M=>if x.toList==p.1.toList then (x,v,p.2.2)::M else p::iW x v cl M
theorem zO (x:ByteArray):∀ (M:List (ByteArray×Int×Nat)) (i:Nat),Instr.findNow .string (.string x) (M.map cmE) i=some ((iz x M i).map fun q=>(q.1,.int .i64 q.2))
 |[],_=>rfl
 |p::M,i=>by
  have e:=gN x p.1.toList p.1 rfl;rw[XS];unfold cmE iz;rw[Instr.findNow];simp only[Instr.sameNow,e];cases x.toList==p.1.toList
  ·exact zO x M (i+1)
  ·rfl
theorem EV (x:ByteArray):∀ (M:List (ByteArray×Int×Nat)) (i:Nat),iX x M=match iz x M i with
   |none=>0
   |some q=>q.2
 |[],_=>rfl
 |p::M,i=>by
  unfold iX iz;cases x.toList==p.1.toList
  ·exact EV x M (i+1)
  ·rfl
theorem fv {a b:ByteArray} (h:(a.toList==b.toList)=true):a=b:=by
 have h:=beq_iff_eq.1 h;cases a with
 |mk a=>
  cases b with
  |mk b=>
   rw[Pl.tl,Pl.tl]at h;exact congrArg ByteArray.mk (Array.toList_inj.1 h)
theorem tT (x:ByteArray) (v:Int) (cl:Nat):∀ (M:List (ByteArray×Int×Nat)) (i:Nat),iz x M i=none→M.map cmE++[⟨.string x,.int .i64 v,cl⟩]=(iW x v cl M).map cmE
 |[],_,_=>rfl
 |p::M,i,h=>by
  unfold iz at h;unfold iW;cases hq:x.toList==p.1.toList
  ·rw[hq]at h;simp only[Yo,if_false]at h ⊢;rw[XS,XS,Yj,tT x v cl M (i+1) h]
  ·rw[hq]at h;simp at h
theorem tI (x:ByteArray) (v:Int) (cl:Nat):∀ (M:List (ByteArray×Int×Nat)) (i j:Nat) (u:Int),iz x M i=some (j,u)→i≤j∧((M.map cmE)[j - i]?).map (·.key)=some (.string x)∧(M.map cmE).modify (j - i) (fun e=>{e with key:=.string x,val:=.int .i64 v})=(iW x v cl M).map cmE
 |[],_,_,_,h=>by cases h
 |p::M,i,j,u,h=>by
  unfold iz at h;unfold iW;cases hq:x.toList==p.1.toList
  ·rw[hq]at h;simp only[Yo,if_false]at h ⊢;obtain⟨h1,h2,h3⟩:=tI x v cl M (i+1) j u h;obtain⟨d,hd⟩:∃ d,j - i=d+1:=⟨j - i - 1,by omega⟩
   have hd':j - (i+1)=d:=by omega
   rw[hd']at h2 h3;refine⟨by omega, ?_, ?_⟩
   ·rw[hd];simpa using h2
   ·rw[hd,XS,XS,← h3];rfl
  ·rw[hq]at h;simp only[if_true]at h;injection h with h
   injection h with e1 e2
   subst e1;have:=fv hq;refine⟨zE, ?_, ?_⟩
   ·rw[Nat.sub_self,XS,this];rfl
   ·rw[Nat.sub_self,if_pos rfl,XS,XS];rfl
theorem mh (x y:ByteArray) (v:Int) (cl:Nat):∀ M:List (ByteArray×Int×Nat),iX y (iW x v cl M)=if y.toList==x.toList then v else iX y M
 |[]=>by unfold iW iX iX;rfl
 |p::M=>by
  unfold iW;cases hq:x.toList==p.1.toList
  ·simp only[Yo,if_false];unfold iX;rw[mh x y v cl M];cases hy:y.toList==p.1.toList
   ·rfl
   ·have:(y.toList==x.toList)=false:=by
     have e:=beq_iff_eq.1 hy;rw[e,beq_eq_false_iff_ne];intro h;rw[h]at hq;simp at hq
    rw[this];rfl
  ·simp only[if_true];have e:=fv hq;unfold iX;rw[← e];cases y.toList==x.toList<;>rfl
theorem Tryz.qk:Tryz.prog.underlying 175=some (.map 9 3):=by kernel_rfl
theorem Bn {W:World} {mb cl:Nat} {M:List (ByteArray×Int×Nat)} (hb:W.heap[mb]? =some (.map (M.map cmE).toArray cl)) (x:ByteArray):
  (Instr.lookup 175 (.map (some mb)) (.string x) false).run Tryz.prog W=.ok (.int .i64 (iX x M)) W:=by
 have hz:(zeroValue 3).run Tryz.prog W=.ok (.int .i64 0) W:=by kernel_rfl
 have hf:=jE W x (M.map cmE) _ (zO x M 0);rw[EV x M 0];cases hc:iz x M 0 with
 |none=>
  rw[hc]at hf;simp[Instr.lookup,run_underlying Tryz.qk,MapKept.run_getObj_map hb,eA,hf,hz,Result.andThen]
 |some q=>
  rw[hc]at hf;simp[Instr.lookup,run_underlying Tryz.qk,MapKept.run_getObj_map hb,eA,hf,Result.andThen]
theorem zY (W:World) (x:ByteArray):(Instr.keyThatStays (.string x) (.string x)).run Tryz.prog W=.ok (.string x) W:=by
 have:Instr.sameBits 10000 (.string x) (.string x)=true:=by
  show (x==x)=true;exact(gN x x.toList x rfl).trans (by simp)
 simp[Instr.keyThatStays,this]
theorem NV {W:World} {mb cl:Nat} {M:List (ByteArray×Int×Nat)} (hb:W.heap[mb]? =some (.map (M.map cmE).toArray cl)) (x:ByteArray) (v:Int):
  ∃ Tb,(Instr.mapUpdate 175 (.map (some mb)) (.string x) (.int .i64 v)).run Tryz.prog W=.ok () (jG W mb (.map ((iW x v cl M).map cmE).toArray Tb)):=by
 have hf:=jE W x (M.map cmE) _ (zO x M 0);cases hc:iz x M 0 with
 |none=>
  rw[hc]at hf;have e:=tT x v cl M 0 hc;refine⟨cl+1, ?_⟩;rw[← e];simp[Instr.mapUpdate,run_underlying Tryz.qk,MapKept.run_getObj_map hb,eA,hf,MapKept.run_setObj_map _ hb,Result.andThen,jG]
 |some q=>
  obtain⟨j,u⟩:=q;rw[hc]at hf;obtain⟨_,h2,h3⟩:=tI x v cl M 0 j u hc;rw[Nat.sub_zero]at h2 h3;refine⟨cl, ?_⟩;rw[← h3];have hs:=zY W x;have VX:(Option.map (fun e=>e.key) (M.map cmE)[j]?)=some (.string x):=h2;have h4:Option.map ((fun x=>x.key) ∘ cmE) M[j]? =some (.string x):=by rw[← VX];simp
  simp[Instr.mapUpdate,run_underlying Tryz.qk,MapKept.run_getObj_map hb,eA,hf,MapKept.run_setObj_map _ hb,Result.andThen,jG,h4,hs]
theorem z8 (c0:ByteArray) (m:Bool) (v1 v3:Value) (w:World):
  Calls Tryz.prog 98 #[.agg #[.string c0,v1,.bool m,v3]] w fun e w'=>e=.returned (.int .i64 (if m then 10 else 1))∧Bel w w':=by
 cases m
 all_goals
  go_enter Tryz.func98,Tryz.ntmps98
  go_wp2;go_ret;exact⟨rfl,af zR _⟩
namespace Pl
def js (l:List Ru) (key:ByteArray) (ws:List ByteArray):Bool:=match bP l key with
 |none=>false
 |some j=>jH (l.getD j bu).args ws
def iB (l:List Ru) (key:ByteArray):Bool:=match bP l key with
 |none=>false
 |some j=>(l.getD j bu).many
def ib (l:List Ru) (L:List Ln) (i:Nat):Bool:=js l (L.getD i aK).key (L.getD i aK).ws&& !decide ((if iB l (L.getD i aK).key then (10:Int) else 1)<(aR (L.take (i+1)) (L.getD i aK).key:Nat))
end Pl
def jf (l:List Pl.Ru) (L:List Pl.Ln):Bool:=(List.range L.length).all (Pl.ib l L)&&uA l L
theorem zJ {l:List Pl.Ru} {key:ByteArray} {W:World} {e:Ending} (h:nE l key W e) (har:∀ r∈l,∀ z∈r.args,1≤z∧z≤6):
  ∃ c0 a1 n1 c1 a3 n3 c3 kn,e=.returned (.tuple #[.agg #[.string c0,.slice a1 n1 c1,.bool (Pl.iB l key),.slice a3 n3 c3],.bool kn])∧(kn=false→∀ ws,Pl.js l key ws=false)∧
   (kn=true→∀ (X:World),Bel W X→∀ (ws:List ByteArray) (wv:Value),Raw X [.row 9 [.s]] [.row ws.length (txD ws)] [wv]→(∀ y∈ws,y.size≤maxLen)→Calls Tryz.prog 97 #[.agg #[.string c0,.slice a1 n1 c1,.bool (Pl.iB l key),.slice a3 n3 c3],wv] X fun e w'=>e=.returned (.bool (Pl.js l key ws))∧Bel X w'):=by
 unfold nE at h;unfold Pl.iB Pl.js;cases lE:Pl.bP l key with
 |none=>
  rw[lE]at h;simp only at h ⊢;exact⟨_,_,_,_,_,_,_,false,h,by simp,(fun h=>by cases h)⟩
 |some j=>
  rw[lE]at h;simp only at h ⊢;have hj:=Pl.iV lE;obtain⟨a1,c1,a3,c3,he,hA,hD⟩:=h;refine⟨_,_,_,_,_,_,_,true,he,(fun h=>by cases h),fun _ X hX ws wv hw hs=>ph _ _ _ a1 c1 _ ws wv X (hA.later hX) hw ?_ hs⟩;have e:l.getD j Pl.bu=l[j]:=by simp[hj]
  rw[e];exact har _ (Xq hj)
theorem Pl.yA (L:List Pl.Ln) (k:Nat) (hk:k<L.length) (y:ByteArray):Pl.aR (L.take (k+1)) y=if y.toList==(L.getD k Pl.aK).key.toList then Pl.aR (L.take k) (L.getD k Pl.aK).key+1 else Pl.aR (L.take k) y:=by
 have e:L.getD k Pl.aK=L[k]:=by simp[hk]
 unfold Pl.aR;rw[e,XI hk,YT];have c:List.countP (fun x=>Pl.eZ x.key y) [L[k]]=if Pl.eZ L[k].key y then 1 else 0:=by
  rw[List.countP_cons,List.countP_nil];simp
 rw[c];unfold Pl.eZ;cases hy:y.toList==L[k].key.toList
 ·have:(L[k].key.toList==y.toList)=false:=by
   rw[beq_eq_false_iff_ne]at hy ⊢;exact fun h=>hy h.symm
  rw[this];rfl
 ·have:=fv hy;subst this;simp
def VHA :Nat→Value→World→Prop
 |0,vv,_=>vv=.bool false
 |1,vv,_|2,vv,_|8,vv,_|9,vv,_|17,vv,_=>vv=.bool true
 |3,vv,_|4,vv,_|5,vv,_|6,vv,_|7,vv,_|10,vv,_|11,vv,_|12,vv,_|13,vv,_|14,vv,_|15,vv,_|16,vv,_=>vv=undef
 |_,_,_=>True
theorem Gu :∀ jj vv W W',Bel W W'→VHA  jj vv W→VHA  jj vv W':=by
 intro jj vv W W' hb h;match jj with
 |0|1|2|3|4|5|6|7|8|9|10|11|12|13|14|15|16|17=>exact h
 |n+18=>exact trivial
def VHB (bl:Nat) (n1:Nat) (c1:Nat) (n3:Nat) (c3:Nat) (cx:Nat) (ax:Option Addr) (a1:Option Addr) (a3:Option Addr) (m:Bool) (c0:ByteArray) (x:Pl.Ln):Nat→Value→World→Prop
 |0,vv,_|7,vv,_|8,vv,_|9,vv,_|17,vv,_=>vv=.bool true
 |1,vv,_|2,vv,_|6,vv,_=>vv=.bool false
 |3,vv,_=>vv=.agg #[.string c0,.slice a1 n1 c1,.bool m,.slice a3 n3 c3]
 |4,vv,_=>vv=.pointer (some ⟨bl,1,none⟩)
 |5,vv,_=>vv=.slice ax x.ws.length cx
 |10,vv,_|11,vv,_|12,vv,_|13,vv,_|14,vv,_|15,vv,_|16,vv,_=>vv=undef
 |_,_,_=>True
theorem GX (bl:Nat) (n1:Nat) (c1:Nat) (n3:Nat) (c3:Nat) (cx:Nat) (ax:Option Addr) (a1:Option Addr) (a3:Option Addr) (m:Bool) (c0:ByteArray) (x:Pl.Ln):∀ jj vv W W',Bel W W'→VHB bl n1 c1 n3 c3 cx ax a1 a3 m c0 x jj vv W→VHB bl n1 c1 n3 c3 cx ax a1 a3 m c0 x jj vv W':=by
 intro jj vv W W' hb h;match jj with
 |0|1|2|3|4|5|6|7|8|9|10|11|12|13|14|15|16|17=>exact h
 |n+18=>exact trivial
def VHC (b0:Nat) (bl:Nat) (n1:Nat) (c1:Nat) (n3:Nat) (c3:Nat) (cx:Nat) (nn:Nat) (mo:Int) (ax:Option Addr) (a1:Option Addr) (a3:Option Addr) (m:Bool) (c0:ByteArray) (x:Pl.Ln):Nat→Value→World→Prop
 |0,vv,_|6,vv,_=>vv=.bool true
 |1,vv,_|2,vv,_|7,vv,_|8,vv,_|9,vv,_=>vv=.bool false
 |3,vv,_|14,vv,_=>vv=.agg #[.string c0,.slice a1 n1 c1,.bool m,.slice a3 n3 c3]
 |4,vv,_=>vv=.pointer (some ⟨bl,1,none⟩)
 |5,vv,_=>vv=.slice ax x.ws.length cx
 |10,vv,_=>vv=.map (some (b0+1))
 |11,vv,_=>vv=.pointer (some ⟨bl,0,none⟩)
 |12,vv,_=>vv=.string x.key
 |13,vv,_=>vv=.int .i64 ((nn+1:Nat):Int)
 |15,vv,_=>vv=.int .i64 mo
 |16,vv,_|17,vv,_=>vv=.bool (decide (mo<((nn+1:Nat):Int)))
 |_,_,_=>True
theorem GK (b0:Nat) (bl:Nat) (n1:Nat) (c1:Nat) (n3:Nat) (c3:Nat) (cx:Nat) (nn:Nat) (mo:Int) (ax:Option Addr) (a1:Option Addr) (a3:Option Addr) (m:Bool) (c0:ByteArray) (x:Pl.Ln):∀ jj vv W W',Bel W W'→VHC b0 bl n1 c1 n3 c3 cx nn mo ax a1 a3 m c0 x jj vv W→VHC b0 bl n1 c1 n3 c3 cx nn mo ax a1 a3 m c0 x jj vv W':=by
 intro jj vv W W' hb h;match jj with
 |0|1|2|3|4|5|6|7|8|9|10|11|12|13|14|15|16|17=>exact h
 |n+18=>exact trivial
theorem M4 (l:List Pl.Ru) (va:Option Addr) (vc:Nat) (L:List Pl.Ln) (v:Value) (w:World) (hl:l.length≤100) (har:∀ r∈l,∀ z∈r.args,1≤z∧z≤6) (sO:Raw w [.row 75 aB] [bV l] [.slice va l.length vc]) (h:Raw w aV [bD L] [v]) (hz:∀ x∈L,∀ y∈x.ws,y.size≤maxLen):
  Calls Tryz.prog 74 #[.agg #[.slice va l.length vc],v] w fun e w'=>e=.returned (.bool (jf l L))∧Bel w w':=by
 obtain⟨a,c,ev⟩:=h.aT;subst ev;have hlen:L.length≤maxLen:=by
  rcases bO h with⟨e,_⟩|⟨_,_,_,_,_,e,_⟩
  ·omega
  ·exact e
 unfold maxLen at hlen;obtain⟨R,hR⟩:∃ R,R=jf l L:=⟨_,rfl⟩
 have HR:Hid (R=jf l L):=hR;rw[← hR];have HH:=uh h;have jm:=uh sO;have HZ:=uh hz;have HL:=uh hl;have RV:=uh har;clear h sO hR hz hl har;obtain⟨wa,aP⟩:∃ wa,wa=(w.alloc (.cells #[.slice va l.length vc] 141)).alloc (.map #[] 0):=⟨_,rfl⟩
 obtain⟨b0,aU⟩:∃ b0,b0=w.heap.size:=⟨_,rfl⟩
 have fZ:=uh aU;have HB:Hid (Bel w wa):=by show Below _ _ _;rw[aP];exact af (af zR _) _
 have fe:Hid (au wa b0 [.slice va l.length vc]):=by show au _ _ _;rw[aP,aU];exact(au.new w #[.slice va l.length vc] _ _ rfl).eO _
 have HM0:Hid (wa.heap[b0+1]? =some (.map (([]:List (ByteArray×Int×Nat)).map cmE).toArray 0)):=by
  show _=_;have q:=(MapKept.heap_alloc (w.alloc (.cells #[.slice va l.length vc] 141)) (.map #[] 0)).1;have Om:(w.alloc (.cells #[.slice va l.length vc] 141)).heap.size=w.heap.size+1:=by simp
  rw[Om]at q;rw[aP,aU];exact q
 go_enter Tryz.func74,Tryz.ntmps74
 have pJ:∀ W:World,(Instr.makeMap 175 none).run Tryz.prog W=.ok (.map (some W.heap.size)) (W.alloc (.map #[] 0)):=fun W=>by kernel_rfl
 go_upto_region 3 with fail
 rw[← aP,← aU];clear aP aU pJ;go_loopw [13] (fun i wr=>∃ (k:Nat) (M:List (ByteArray×Int×Nat)) (cl:Nat),k≤L.length∧i=.int .i64 k∧(List.range k).all (Pl.ib l L)=true∧au wr b0 [.slice va l.length vc]∧wr.heap[b0+1]? =some (.map (M.map cmE).toArray cl)∧(∀ y,iX y M=(Pl.aR (L.take k) y:Nat))∧Bel w wr) (fun i _=>L.length - (intOf i).toNat)
 case atStart=>exact⟨0,[],0,zN,rfl,rfl,fe.out,HM0.out,fun y=>rfl,HB.out⟩
 case round=>
  obtain⟨k,M,cl,hk,rfl,bA,hK,hM,hG,hW⟩:=hrel;have HK:=uh hK;have HM:=uh hM;have HG:=uh hG;have tp:=uh bA;have HW:=uh hW;have zk:=hK.get 0 _ rfl;have zl:=hK.lt;clear hK hM hG bA hW;by_cases bq:k<L.length
  rotate_left
  ·obtain rfl:k=L.length:=by omega
   have Ey:=uh (NK l va vc HL.out L (.slice a L.length c) wr (jm.out.later HW.out) (HH.out.later HW.out));have HE:Hid (R=uA l L):=by show R=_;rw[HR.out,jf,tp.out,Bool.true_and]
   go_wp2_with (go_at_call 99;refine Ey.out.mono ?_;rintro e w2 ⟨rfl,dD⟩)
   go_ret;exact⟨Pl.ar HE.out.symm,ae HW.out dD⟩
  rcases bO HH.out with⟨e0,_⟩|⟨p,o,c',hv,hp,_,aE⟩
  ·omega
  injection hv with g1 _ g3
  subst g1;subst g3;obtain⟨ax,cx,hg,dH⟩:=aE k bq;obtain⟨x,hx⟩:∃ x,x=L.getD k Pl.aK:=⟨_,rfl⟩
  rw[← hx]at hg dH;have x0:wr.cell? ⟨p,o+k*2,none⟩=some (.string x.key):=aF (aj hg hp HW.out) 0 _ rfl;have x1:wr.cell? ⟨p,o+k*2+1,none⟩=some (.slice ax x.ws.length cx):=aF (aj hg hp HW.out) 1 _ rfl;have TK:p<wr.heap.size:=zL hp HW.out.size;have cZ:(0:Int)≤(k:Int):=by omega
  have dy:(k:Int)<(L.length:Int):=by omega
  have jQ:Hid (∀ y∈x.ws,y.size≤maxLen):=by
   have e:L.getD k Pl.aK=L[k]:=by simp[bq]
   rw[hx,e];exact HZ.out _ (Xq bq)
  have wG:=uh dH;obtain⟨nn,gF⟩:∃ nn,nn=Pl.aR (L.take k) x.key:=⟨_,rfl⟩
  have P5:nn≤k:=by
   rw[gF];unfold Pl.aR;exact Xg Yd (by rw[Xo];omega)
  have nL:Hid (∀ y,Pl.aR (L.take (k+1)) y=if y.toList==x.key.toList then nn+1 else Pl.aR (L.take k) y):=fun y=>by rw[gF,hx];exact Pl.yA L k bq y
  have DX:Hid (Pl.ib l L k=(Pl.js l x.key x.ws&& !decide ((if Pl.iB l x.key then (10:Int) else 1)<((nn+1:Nat):Int)))):=by
   show _=_;unfold Pl.ib;rw[← hx,nL.out x.key];simp
  have cU:Hid (iX x.key M=(nn:Nat)):=by show _=_;rw[HG.out,gF]
  clear aE hg dH hx gF;obtain⟨bl,jo⟩:∃ bl,bl=wr.heap.size:=⟨_,rfl⟩
  obtain⟨wb,fa⟩:∃ wb,wb=wr.alloc (.cells #[.string x.key,.slice ax x.ws.length cx] 41):=⟨_,rfl⟩
  have JH:Hid (Bel wr wb):=by show Below _ _ _;rw[fa];exact af zR _
  have Oc:Hid (au wb bl [.string x.key,.slice ax x.ws.length cx]):=by show au _ _ _;rw[fa,jo];exact au.new wr #[.string x.key,.slice ax x.ws.length cx] _ _ rfl
  have Iq:=uh (HK.out.later JH.out);have zkb:=Iq.out.get 0 _ rfl;have zlb:=Iq.out.lt;have UG:=uh jo;have zb0:=Oc.out.get 0 _ rfl;have zb1:=Oc.out.lt;have HC:=uh (L3 l va vc x.key w wb (ae HW.out JH.out) HL.out jm.out);go_upto_region 5 with fail
  rw[← fa,← jo];clear fa jo x0 x1;go_wp2_with fail
  refine HC.out.mono ?_;rintro e w1 ⟨SD,cr⟩;obtain⟨c0,a1,n1,c1,a3,n3,c3,kn,he,K5,I8⟩:=zJ SD RV.out;subst he;have lP:=uh K5;have DR:=uh I8;clear K5 I8 SD HC;obtain⟨m,hm⟩:∃ m,m=Pl.iB l x.key:=⟨_,rfl⟩
  rw[← hm]at DR DX ⊢;clear hm;obtain⟨br,PM⟩:∃ br,br=w1.heap.size:=⟨_,rfl⟩
  obtain⟨w2,fw⟩:∃ w2,w2=w1.alloc (.cells #[.string c0,.slice a1 n1 c1,.bool m,.slice a3 n3 c3] 75):=⟨_,rfl⟩
  have K7:Hid (Bel w1 w2):=by show Below _ _ _;rw[fw];exact af zR _
  have Ss:Hid (Bel wr w2):=ae JH.out (ae cr K7.out);have UN:Hid (au w2 br [.string c0,.slice a1 n1 c1,.bool m,.slice a3 n3 c3]):=by show au _ _ _;rw[fw,PM];exact au.new w1 #[.string c0,.slice a1 n1 c1,.bool m,.slice a3 n3 c3] _ _ rfl
  have Od:=uh ((Oc.out.later cr).later K7.out);have sP:=uh ((Iq.out.later cr).later K7.out);have eV:w1.heap.size≤w2.heap.size:=K7.out.size;have dp:wr.heap.size≤w1.heap.size:=Xg JH.out.size cr.size;have hz9:b0+1<wr.heap.size:=by
   by_cases q:b0+1<wr.heap.size
   ·exact q
   ·have:=HM.out;rw[XW (by omega)]at this;cases this
  have gT:Hid (w2.heap[b0+1]? =some (.map (M.map cmE).toArray cl)):=(Ss.out.block _ hz9).trans HM.out;have HWB1:=uh cr;have uI:=Bn gT.out x.key;rw[cU.out]at uI;obtain⟨Tb,sN⟩:=NV gT.out x.key ((nn+1:Nat):Int);have y8:IntKind.i64.wrap ((nn:Int)+1)=(nn:Int)+1:=gJ _ (by omega) (by omega);have y0:=Od.out.get 0 _ rfl;have yl:=Od.out.lt;obtain⟨wm,B4⟩:∃ wm,wm=jG w2 (b0+1) (.map ((iW x.key ((nn+1:Nat):Int) cl M).map cmE).toArray Tb):=⟨_,rfl⟩
  rw[← B4,show ((nn+1:Nat):Int)=(nn:Int)+1 by omega]at sN;have jK:Hid (Marks (fun b=>b=b0+1) w2 wm):=by show Marks _ _ _;rw[B4];exact iD _ gT.out
  have HMM:Hid (wm.heap[b0+1]? =some (.map ((iW x.key ((nn+1:Nat):Int) cl M).map cmE).toArray Tb)):=by show _=_;rw[B4];exact p9 _ (by omega)
  go_upto_region 6 with fail
  rw[← fw,← PM];clear fw B4 zk zl zkb zlb zb0 zb1;have HBRZ:=uh PM;have zbl:=UG.out;have R4:br≠b0+1:=by omega
  have SM:bl≠b0+1:=by omega
  have RZ:b0≠b0+1:=by omega
  have HKM:=uh (sP.out.mks jK.out RZ);have tq:=uh (Od.out.mks jK.out SM);have wO:=uh (UN.out.mks jK.out R4);have Mm:Hid (Bel w wm):=jK.out.below (fun b e=>by have:=fZ.out;omega) (ae HW.out Ss.out);have HB1M:Hid (Bel wr wm→True):=fun _=>trivial;have HMP:Hid (∀ X,Bel wm X→X.heap[b0+1]? =some (.map ((iW x.key ((nn+1:Nat):Int) cl M).map cmE).toArray Tb)):=fun X hX=>(hX.block _ (by have:=jK.out.size;omega)).trans HMM.out;have HGT:Hid (iX x.key (iW x.key ((nn+1:Nat):Int) cl M)=((nn+1:Nat):Int)):=by show _=_;rw[mh];simp
  have TM:Hid (∀ y,iX y (iW x.key ((nn+1:Nat):Int) cl M)=(Pl.aR (L.take (k+1)) y:Nat)):=fun y=>by
   rw[mh,nL.out y,HG.out y];cases y.toList==x.key.toList<;>rfl
  clear zbl PM R4 SM RZ;go_upto_region 7 with fail
  obtain⟨mo,MP⟩:∃ mo:Int,mo=if m then 10 else 1:=⟨_,rfl⟩
  rw[← MP]at DX;have HMO:Hid (∀ X,Calls Tryz.prog 98 #[.agg #[.string c0,.slice a1 n1 c1,.bool m,.slice a3 n3 c3]] X fun e w'=>e=.returned (.int .i64 mo)∧Bel X w'):=fun X=>by rw[MP];exact z8 _ _ _ _ X
  clear MP uI sN y8 y0 yl;have Ii:Hid (Pl.ib l L k=false→R=false):=fun hq=>by rw[HR.out,jf,Pl.gA bq hq];rfl
  cases kn
  ·have wu:Hid (True→R=false):=fun _=>Ii.out (by rw[DX.out,lP.out rfl];rfl);refine RY.aM wm zR (VHA) (Gu) (by kernel_rfl) (by kernel_rfl) (by kernel_rfl) (by kernel_rfl) ?_ ?_
   ·intro ii o' ho a X hX hk hd;have zbl:=tq.out.later hX;have zbll:=zbl.lt;have zbr:=wO.out.later hX;have zbrl:=zbr.lt;match ii,ho with
    |0,rfl=>
     exact RY.n (RY.p (.bool false) (by simp[execOp,go_sem,RY.K hk 9 (.bool false)]))
    |1,rfl=>
     exact RY.n (RY.p (.bool true) (by simp[execOp,go_sem,RY.E hd 0 29]))
    |2,rfl=>
     exact RY.n (RY.p (.bool true) (by simp[execOp,go_sem,RY.E hd 1 30]))
    |3,rfl|4,rfl|5,rfl|6,rfl|7,rfl=>
     exact RY.off hd 2 31
    |8,rfl=>
     exact RY.n (RY.p (.bool true) (by simp[execOp,go_sem,RY.E hd 2 31,RY.E hd 7 36]))
    |9,rfl=>
     exact RY.n (RY.p (.bool true) (by simp[execOp,go_sem,RY.E hd 8 37]))
    |10,rfl|11,rfl|12,rfl|13,rfl|14,rfl|15,rfl|16,rfl=>
     exact RY.off hd 9 38
    |17,rfl=>
     exact RY.n (RY.p (.bool true) (by simp[execOp,go_sem,RY.E hd 9 38,RY.E hd 16 45]))
    |n+18,ho=>simp at ho
   intro X vs hX bn;have q46:vs 46=_:=bn 17 _ 46 rfl rfl;simp only[RY.aC,Act.put,so,As,An];rw[q46];generalize vs 29=s29,vs 30=s30,vs 31=sL,vs 32=pS,vs 33=pY,vs 34=qo,vs 35=nP,vs 36=mU,vs 37=nS,vs 38=mT,vs 39=nW,vs 40=s40,vs 41=s41,vs 42=s42,vs 43=s43,vs 44=s44,vs 45=s45;clear bn q46;go_wp2;go_ret;exact⟨Pl.ar (wu.out trivial).symm,ae Mm.out hX⟩
  ·cases pX:Pl.js l x.key x.ws
   ·have kc:Hid (∀ X,Bel wm X→Calls Tryz.prog 97 #[.agg #[.string c0,.slice a1 n1 c1,.bool m,.slice a3 n3 c3],.slice ax x.ws.length cx] X fun e w'=>e=.returned (.bool false)∧Bel X w'):=fun X hX=>by
     have q:=DR.out rfl X (ae Mm.out hX) x.ws _ (wG.out.later (ae Mm.out hX)) jQ.out;rw[pX]at q;exact q
    have wu:Hid (True→R=false):=fun _=>Ii.out (by rw[DX.out,pX];rfl);clear pX;refine RY.aM wm zR (VHB bl n1 c1 n3 c3 cx ax a1 a3 m c0 x) (GX _ _ _ _ _ _ _ _ _ _ _ _) (by kernel_rfl) (by kernel_rfl) (by kernel_rfl) (by kernel_rfl) ?_ ?_
    ·intro ii o' ho a X hX hk hd;have zbl:=tq.out.later hX;have zbll:=zbl.lt;have zbr:=wO.out.later hX;have zbrl:=zbr.lt;match ii,ho with
     |0,rfl=>
      exact RY.n (RY.p (.bool true) (by simp[execOp,go_sem,RY.K hk 9 (.bool true)]))
     |1,rfl=>
      exact RY.n (RY.p (.bool false) (by simp[execOp,go_sem,RY.E hd 0 29]))
     |2,rfl=>
      exact RY.n (RY.p (.bool false) (by simp[execOp,go_sem,RY.E hd 1 30]))
     |3,rfl=>
      have gd:=hd 2 _ 31 rfl rfl ⟨⟨2,.guard⟩,by simp,rfl,rfl⟩;have v8:a.eval (.tmp 8)=.pointer (some ⟨br,0,none⟩):=(hk 8 (by kernel_rfl)).trans rfl;exact No ⟨(RY.bg rfl rfl rfl gd).trans rfl,No ⟨_,X,ak 75 _ rfl br 0 v8 [.string c0,.slice a1 n1 c1,.bool m,.slice a3 n3 c3] _ zbr.at_ Tryz.underlying75 rfl (by kernel_rfl),zR,rfl⟩⟩
     |4,rfl=>
      exact RY.on hd 2 31 (RY.p (.pointer (some ⟨bl,1,none⟩)) (by simp[execOp,go_sem,RY.K hk 7 (.pointer (some ⟨bl,0,none⟩))]))
     |5,rfl=>
      have e33:=RY.E hd 4 33;have ycl_:=zbl.get 1 _ rfl;exact RY.on hd 2 31 (RY.p (.slice ax x.ws.length cx) (by simp[execOp,go_sem,e33,ycl_]))
     |6,rfl=>
      have e32:=RY.E hd 3 32;have e34:=RY.E hd 5 34;refine RY.on hd 2 31 (.inr ⟨97,#[.agg #[.string c0,.slice a1 n1 c1,.bool m,.slice a3 n3 c3],.slice ax x.ws.length cx],by simp[go_sem,e32,e34],(kc.out X hX).mono ?_⟩);rintro e W' ⟨rfl,hb⟩;exact⟨_,rfl,hb,rfl⟩
     |7,rfl=>
      exact RY.on hd 2 31 (RY.p (.bool true) (by simp[execOp,go_sem,RY.E hd 6 35]))
     |8,rfl=>
      exact RY.n (RY.p (.bool true) (by simp[execOp,go_sem,RY.E hd 2 31,RY.E hd 7 36]))
     |9,rfl=>
      exact RY.n (RY.p (.bool true) (by simp[execOp,go_sem,RY.E hd 8 37]))
     |10,rfl|11,rfl|12,rfl|13,rfl|14,rfl|15,rfl|16,rfl=>
      exact RY.off hd 9 38
     |17,rfl=>
      exact RY.n (RY.p (.bool true) (by simp[execOp,go_sem,RY.E hd 9 38,RY.E hd 16 45]))
     |n+18,ho=>simp at ho
    intro X vs hX bn;have q46:vs 46=_:=bn 17 _ 46 rfl rfl;simp only[RY.aC,Act.put,so,As,An];rw[q46];generalize vs 29=s29,vs 30=s30,vs 31=sL,vs 32=pS,vs 33=pY,vs 34=qo,vs 35=nP,vs 36=mU,vs 37=nS,vs 38=mT,vs 39=nW,vs 40=s40,vs 41=s41,vs 42=s42,vs 43=s43,vs 44=s44,vs 45=s45;clear bn q46;go_wp2;go_ret;exact⟨Pl.ar (wu.out trivial).symm,ae Mm.out hX⟩
   ·have kc:Hid (∀ X,Bel wm X→Calls Tryz.prog 97 #[.agg #[.string c0,.slice a1 n1 c1,.bool m,.slice a3 n3 c3],.slice ax x.ws.length cx] X fun e w'=>e=.returned (.bool true)∧Bel X w'):=fun X hX=>by
     have q:=DR.out rfl X (ae Mm.out hX) x.ws _ (wG.out.later (ae Mm.out hX)) jQ.out;rw[pX]at q;exact q
    have wu:Hid (mo<((nn+1:Nat):Int)→R=false):=fun hq=>Ii.out (by rw[DX.out,pX,decide_eq_true hq];rfl);have IU:Hid (¬ mo<((nn+1:Nat):Int)→(List.range (k+1)).all (Pl.ib l L)=true):=fun hq=>Pl.fO tp.out (by rw[DX.out,pX,decide_eq_false hq];rfl);clear pX;refine RY.aM wm zR (VHC b0 bl n1 c1 n3 c3 cx nn mo ax a1 a3 m c0 x) (GK _ _ _ _ _ _ _ _ _ _ _ _ _ _ _) (by kernel_rfl) (by kernel_rfl) (by kernel_rfl) (by kernel_rfl) ?_ ?_
    ·intro ii o' ho a X hX hk hd;have zbl:=tq.out.later hX;have zbll:=zbl.lt;have zbr:=wO.out.later hX;have zbrl:=zbr.lt;match ii,ho with
     |0,rfl=>
      exact RY.n (RY.p (.bool true) (by simp[execOp,go_sem,RY.K hk 9 (.bool true)]))
     |1,rfl=>
      exact RY.n (RY.p (.bool false) (by simp[execOp,go_sem,RY.E hd 0 29]))
     |2,rfl=>
      exact RY.n (RY.p (.bool false) (by simp[execOp,go_sem,RY.E hd 1 30]))
     |3,rfl=>
      have gd:=hd 2 _ 31 rfl rfl ⟨⟨2,.guard⟩,by simp,rfl,rfl⟩;have v8:a.eval (.tmp 8)=.pointer (some ⟨br,0,none⟩):=(hk 8 (by kernel_rfl)).trans rfl;exact No ⟨(RY.bg rfl rfl rfl gd).trans rfl,No ⟨_,X,ak 75 _ rfl br 0 v8 [.string c0,.slice a1 n1 c1,.bool m,.slice a3 n3 c3] _ zbr.at_ Tryz.underlying75 rfl (by kernel_rfl),zR,rfl⟩⟩
     |4,rfl=>
      exact RY.on hd 2 31 (RY.p (.pointer (some ⟨bl,1,none⟩)) (by simp[execOp,go_sem,RY.K hk 7 (.pointer (some ⟨bl,0,none⟩))]))
     |5,rfl=>
      have e33:=RY.E hd 4 33;have ycl_:=zbl.get 1 _ rfl;exact RY.on hd 2 31 (RY.p (.slice ax x.ws.length cx) (by simp[execOp,go_sem,e33,ycl_]))
     |6,rfl=>
      have e32:=RY.E hd 3 32;have e34:=RY.E hd 5 34;refine RY.on hd 2 31 (.inr ⟨97,#[.agg #[.string c0,.slice a1 n1 c1,.bool m,.slice a3 n3 c3],.slice ax x.ws.length cx],by simp[go_sem,e32,e34],(kc.out X hX).mono ?_⟩);rintro e W' ⟨rfl,hb⟩;exact⟨_,rfl,hb,rfl⟩
     |7,rfl=>
      exact RY.on hd 2 31 (RY.p (.bool false) (by simp[execOp,go_sem,RY.E hd 6 35]))
     |8,rfl=>
      exact RY.n (RY.p (.bool false) (by simp[execOp,go_sem,RY.E hd 2 31,RY.E hd 7 36]))
     |9,rfl=>
      exact RY.n (RY.p (.bool false) (by simp[execOp,go_sem,RY.E hd 8 37]))
     |10,rfl=>
      exact RY.on hd 9 38 (RY.p (.map (some (b0+1))) (by simp[execOp,go_sem,RY.K hk 5 (.map (some (b0+1)))]))
     |11,rfl=>
      exact RY.on hd 9 38 (RY.p (.pointer (some ⟨bl,0,none⟩)) (by simp[execOp,go_sem,RY.K hk 7 (.pointer (some ⟨bl,0,none⟩))]))
     |12,rfl=>
      have e40:=RY.E hd 11 40;have ycl_:=zbl.get 0 _ rfl;exact RY.on hd 9 38 (RY.p (.string x.key) (by simp[execOp,go_sem,e40,ycl_]))
     |13,rfl=>
      have gd:=hd 9 _ 38 rfl rfl ⟨⟨9,.guard⟩,by simp,rfl,rfl⟩;have e39:=RY.E hd 10 39;have e41:=RY.E hd 12 41;have uI:=Bn (HMP.out X hX) x.key;rw[HGT.out]at uI;exact No ⟨(RY.bg rfl rfl rfl gd).trans rfl,No ⟨_,X,by simp[execOp,go_sem,e39,e41,uI],zR,rfl⟩⟩
     |14,rfl=>
      have gd:=hd 9 _ 38 rfl rfl ⟨⟨9,.guard⟩,by simp,rfl,rfl⟩;have v8:a.eval (.tmp 8)=.pointer (some ⟨br,0,none⟩):=(hk 8 (by kernel_rfl)).trans rfl;exact No ⟨(RY.bg rfl rfl rfl gd).trans rfl,No ⟨_,X,ak 75 _ rfl br 0 v8 [.string c0,.slice a1 n1 c1,.bool m,.slice a3 n3 c3] _ zbr.at_ Tryz.underlying75 rfl (by kernel_rfl),zR,rfl⟩⟩
     |15,rfl=>
      have e43:=RY.E hd 14 43;refine RY.on hd 9 38 (.inr ⟨98,#[.agg #[.string c0,.slice a1 n1 c1,.bool m,.slice a3 n3 c3]],by simp[go_sem,e43],(HMO.out X).mono ?_⟩);rintro e W' ⟨rfl,hb⟩;exact⟨_,rfl,hb,rfl⟩
     |16,rfl=>
      exact RY.on hd 9 38 (RY.p (.bool (decide (mo<((nn+1:Nat):Int)))) (by simp[execOp,go_sem,RY.E hd 13 42,RY.E hd 15 44]))
     |17,rfl=>
      exact RY.n (RY.p (.bool (decide (mo<((nn+1:Nat):Int)))) (by simp[execOp,go_sem,RY.E hd 9 38,RY.E hd 16 45]))
     |n+18,ho=>simp at ho
    intro X vs hX bn;have q46:vs 46=_:=bn 17 _ 46 rfl rfl;simp only[RY.aC,Act.put,so,As,An];rw[q46];generalize vs 29=s29,vs 30=s30,vs 31=sL,vs 32=pS,vs 33=pY,vs 34=qo,vs 35=nP,vs 36=mU,vs 37=nS,vs 38=mT,vs 39=nW,vs 40=s40,vs 41=s41,vs 42=s42,vs 43=s43,vs 44=s44,vs 45=s45;clear bn q46;by_cases MP:mo<((nn+1:Nat):Int)
    ·have d0:decide (mo<((nn+1:Nat):Int))=true:=decide_eq_true MP;rw[d0];clear d0;go_wp2;go_ret;exact⟨Pl.ar (wu.out MP).symm,ae Mm.out hX⟩
    ·have d0:decide (mo<((nn+1:Nat):Int))=false:=decide_eq_false MP;rw[d0];clear d0;have jl:=uh (IU.out MP);go_wp2;go_roundw
     case rel=>exact⟨k+1,_,_,by omega,by go_num,jl.out,HKM.out.later hX,HMP.out X hX,TM.out,ae Mm.out hX⟩
     case measure=>simp[intOf];omega
theorem uC:∀ l:List UInt8,Op.bytesLess l l=false
 |[]=>rfl
 |a::x=>by unfold Op.bytesLess;rw[uC x];simp
theorem lV {a b:ByteArray} (h:Pl.eZ a b=true):a=b:=fv h
theorem tX (a:ByteArray):Pl.pM a a=false:=uC _
theorem j4 (a b:ByteArray):cj a b<0↔Pl.pM a b=true:=by
 unfold cj;cases Pl.pM a b
 ·cases a.toList==b.toList<;>simp
 ·simp
theorem bG (a b:ByteArray):cj a b=0↔Pl.eZ a b=true:=by
 unfold cj;cases h:Pl.eZ a b
 ·have h':(a.toList==b.toList)=false:=h;rw[h'];cases Pl.pM a b<;>simp
 ·have:=lV h;subst this;rw[tX];simp
theorem gM:∀ A B:List ByteArray,db A B<0↔Pl.du A B=true
 |[],[]=>by unfold db Pl.du<;>simp
 |[],_::_=>by unfold db Pl.du<;>simp
 |_::_,[]=>by unfold db Pl.du<;>simp
 |a::x,b::y=>by
  unfold db Pl.du;cases h:Pl.eZ a b
  ·have h0:¬ cj a b=0:=fun e=>by rw[(bG a b).1 e]at h;cases h
   rw[if_neg h0];simp only[Yo,if_false];exact j4 a b
  ·rw[if_pos ((bG a b).2 h)];simp only[if_true];exact gM x y
theorem rI (a b:Int):eo a b<0↔a<b:=by unfold eo;split<;>(try split)<;>simp_all
theorem cH (a b:Int):eo a b=0↔a=b:=by unfold eo;split<;>(try split)<;>constructor<;>intro h<;>omega
theorem ur (x y:Pl.Bl):decide (eE x y<0)=Pl.ahead x y:=by
 unfold eE fR Pl.ahead;by_cases h:cj x.kind y.kind=0
 ·rw[if_pos h];have e:=(bG _ _).1 h;have e2:=lV e;rw[e,e2,tX,Bool.false_or,Bool.true_and];rw[XB,decide_eq_true_iff];exact j4 _ _
 ·rw[if_neg h];have e:Pl.eZ x.kind y.kind=false:=by
   cases q:Pl.eZ x.kind y.kind
   ·rfl
   ·exact absurd ((bG _ _).2 q) h
  rw[e,Bool.false_and,Bool.or_false];rw[XB,decide_eq_true_iff];exact j4 _ _
theorem ud (kind:ByteArray) (x y:Pl.Ln):decide (cQ (Pl.ah kind) x y<0)=Pl.aL kind x y:=by
 have hu:cQ (Pl.ah kind) x y=fR (eo (Pl.ez kind x.key) (Pl.ez kind y.key)) (db x.ws y.ws):=rfl;rw[hu];unfold fR Pl.aL;by_cases h:eo (Pl.ez kind x.key) (Pl.ez kind y.key)=0
 ·rw[if_pos h];have e:=(cH _ _).1 h;rw[e];have:decide (Pl.ez kind y.key<Pl.ez kind y.key)=false:=decide_eq_false (by omega);rw[this];simp only[Bool.false_or,BEq.rfl,Bool.true_and];rw[XB,decide_eq_true_iff];exact gM _ _
 ·rw[if_neg h];have e:(Pl.ez kind x.key==Pl.ez kind y.key)=false:=by
   rw[beq_eq_false_iff_ne];exact fun q=>h ((cH _ _).2 q)
  rw[e,Bool.false_and,Bool.or_false];rw[XB,decide_eq_true_iff,decide_eq_true_iff];exact rI _ _
theorem tW (n:Nat) (f:Nat→Bool) (g:Nat→Nat→Bool):(List.range n).all (fun i=>f i&&(decide (i=0)||g (i - 1) i))=((List.range n).all f&&(List.range (n - 1)).all (fun i=>g i (i+1))):=by
 rw[XB];simp only[Xj,Xu,XV,YR,decide_eq_true_iff];constructor
 ·intro h;refine⟨fun i hi=>(h i hi).1,fun i hi=> ?_⟩;rcases(h (i+1) (by omega)).2 with e|e
  ·omega
  ·exact e
 ·rintro⟨h1,h2⟩ i hi;refine⟨h1 i hi, ?_⟩;cases i with
  |zero=>exact No rfl
  |succ i=>exact Xk (h2 i (by omega))
theorem Nz (m:Bool) (n:Nat):(!decide ((if m then (10:Int) else 1)<(n:Nat)))=Pl.kh m n:=by
 unfold Pl.kh;cases m
 ·rw[XB];simp;omega
 ·rw[XB];simp;omega
theorem Ff (kind:ByteArray) (L:List Pl.Ln):jf (Pl.ah kind) L=Pl.dA kind L:=by
 unfold jf Pl.dA uA;have e1:Pl.eG kind L=fun i=>(Pl.ib (Pl.ah kind) L i)&&(decide (i=0)||Pl.aL kind (L.getD (i - 1) Pl.aK) (L.getD i Pl.aK)):=by
  funext i
  unfold Pl.eG Pl.ib;rw[Nz];have a1:Pl.bH kind (L.getD i Pl.aK).key (L.getD i Pl.aK).ws=Pl.js (Pl.ah kind) (L.getD i Pl.aK).key (L.getD i Pl.aK).ws:=rfl;have a2:Pl.jW kind (L.getD i Pl.aK).key=Pl.iB (Pl.ah kind) (L.getD i Pl.aK).key:=rfl;rw[a1,a2,Bool.and_assoc,Bool.and_assoc];congr 1;exact Bool.and_comm _ _
 rw[e1,tW L.length (Pl.ib (Pl.ah kind) L) (fun i j=>Pl.aL kind (L.getD i Pl.aK) (L.getD j Pl.aK))];congr 1;congr 1;funext i
 exact ud kind _ _
def pK (b:Pl.Bl):Bool:= !decide ((Pl.ah b.kind).length=0)&&Pl.bE b.name&&jf (Pl.ah b.kind) b.lines
theorem GA (s:List Pl.Bl):Pl.bw s=(decide (s.length≤60)&&(po s&&(List.range s.length).all fun i=>pK (s.getD i Pl.aG))):=by
 unfold Pl.bw;congr 1;have e1:Pl.dQ s=fun i=>pK (s.getD i Pl.aG)&&(decide (i=0)||Pl.ahead (s.getD (i - 1) Pl.aG) (s.getD i Pl.aG)):=by
  funext i
  unfold Pl.dQ pK;rw[Ff]
 rw[e1,tW s.length (fun i=>pK (s.getD i Pl.aG)) (fun i j=>Pl.ahead (s.getD i Pl.aG) (s.getD j Pl.aG)),Bool.and_comm];congr 1;unfold po;congr 1;funext i
 exact(ur _ _).symm
theorem rL {W:World} {mb:Nat} {vt vb vs:Value} (hb:W.heap[mb]? =some (.map #[⟨.string {data:=#[116,101,97,109]},.agg #[vt],0⟩,⟨.string {data:=#[98,101,114,116,104]},.agg #[vb],1⟩,⟨.string {data:=#[115,101,114,118,105,99,101]},.agg #[vs],2⟩] 3)) (kind:ByteArray):
  (Instr.lookup 121 (.map (some mb)) (.string kind) true).run Tryz.prog W=.ok (.tuple #[.agg #[iT kind vt vb vs],.bool (!decide ((Pl.ah kind).length=0))]) W:=by
 have hz:(zeroValue 141).run Tryz.prog W=.ok (.agg #[.slice none 0 0]) W:=by kernel_rfl
 have e1:=gN kind [116,101,97,109] {data:=#[116,101,97,109]} (by decide+kernel);have e2:=gN kind [98,101,114,116,104] {data:=#[98,101,114,116,104]} (by decide+kernel);have e3:=gN kind [115,101,114,118,105,99,101] {data:=#[115,101,114,118,105,99,101]} (by decide+kernel);obtain⟨r,hr,hv,hk⟩:∃ r,Instr.findNow .string (.string kind) [⟨.string {data:=#[116,101,97,109]},.agg #[vt],0⟩,⟨.string {data:=#[98,101,114,116,104]},.agg #[vb],1⟩,⟨.string {data:=#[115,101,114,118,105,99,101]},.agg #[vs],2⟩] 0=some r∧(match r with|some (_,v)=>v|none=> .agg #[.slice none 0 0])=.agg #[iT kind vt vb vs]∧r.isSome= !decide ((Pl.ah kind).length=0):=by
  unfold Pl.ah;simp only[Instr.findNow,Instr.sameNow,e1,e2,e3,iT];cases (kind.toList==[116,101,97,109])<;>cases (kind.toList==[98,101,114,116,104])<;>cases (kind.toList==[115,101,114,118,105,99,101])<;>exact⟨_,rfl,rfl,by first|rfl|(simp only[Option.isSome];decide+kernel)⟩
 have hf:=jE W kind _ r hr;rw[← hk];cases r with
 |none=>
  simp only at hv;simp[Instr.lookup,run_underlying Tryz.jB,MapKept.run_getObj_map hb,eA,hf,hz,Result.andThen,hv]
 |some p=>
  obtain⟨j,v⟩:=p;simp only at hv;subst hv;simp[Instr.lookup,run_underlying Tryz.jB,MapKept.run_getObj_map hb,eA,hf,Result.andThen]
theorem kE (s:List Pl.Bl) (v:Value) (w:World) (h:Raw w bL [cq s] [v]) (hz:oi s):
  Calls Tryz.prog 52 #[.agg #[v]] w fun e w'=>e=.returned (.bool (Pl.bw s))∧Bel w w':=by
 have HL:=uh h;have HZ:=uh hz;obtain⟨va,vc,ev⟩:=h.aT;subst ev;obtain⟨R,hR⟩:∃ R,R=Pl.bw s:=⟨_,rfl⟩
 have HR:Hid (R=(decide (s.length≤60)&&(po s&&(List.range s.length).all fun i=>pK (s.getD i Pl.aG)))):=hR.trans (GA s);rw[← hR];clear h hz hR;obtain⟨wa,aP⟩:∃ wa,wa=w.alloc (.cells #[.slice va s.length vc] 26):=⟨_,rfl⟩
 obtain⟨b0,aU⟩:∃ b0,b0=w.heap.size:=⟨_,rfl⟩
 have HB:Hid (Bel w wa):=by show Below _ _ _;rw[aP];exact af zR _
 have fe:Hid (au wa b0 [.slice va s.length vc]):=by show au _ _ _;rw[aP,aU];exact au.new w #[.slice va s.length vc] _ _ rfl
 have z0:=fe.out.get 0 _ rfl;have zl:=fe.out.lt;have Ey:=uh (Nh s (.slice va s.length vc) wa (HL.out.later HB.out));go_enter Tryz.func52,Tryz.ntmps52
 go_upto_region 1 with fail
 rw[← aP,← aU];clear aP aU;by_cases Li:s.length≤60
 rotate_left
 ·have d0:((60:Int)<(s.length:Int)):=by omega
  have HE:Hid (R=false):=by show R=_;rw[HR.out,decide_eq_false Li];rfl
  go_wp2;go_ret;exact⟨Pl.ar HE.out.symm,HB.out⟩
 have d0:¬ ((60:Int)<(s.length:Int)):=by omega
 replace HR:Hid (R=(po s&&(List.range s.length).all fun i=>pK (s.getD i Pl.aG))):=by show R=_;rw[HR.out,decide_eq_true Li,Bool.true_and]
 obtain⟨ab,TT⟩:∃ ab,ab=po s:=⟨_,rfl⟩
 rw[← TT]at Ey HR;clear TT;cases ab
 ·have HE:Hid (R=false):=HR.out;go_wp2_with (go_at_call 71;refine Ey.out.mono ?_;rintro e w2 ⟨rfl,dD⟩)
  go_ret;exact⟨Pl.ar HE.out.symm,ae HB.out dD⟩
 replace HR:Hid (R=(List.range s.length).all fun i=>pK (s.getD i Pl.aG)):=HR.out
 have HC:=uh (fun W:World=>kG W);go_wp2_with fail
 refine Ey.out.mono ?_;rintro e w2 ⟨rfl,dD⟩;replace HB:=uh (ae HB.out dD)
 replace fe:=uh (fe.out.later dD)
 clear z0 zl dD Ey;go_wp2_with fail
 refine(HC.out _).mono ?_;rintro e w1 ⟨mb,w0,vt,vb,vs,rfl,hm,h0,k1,k2,k3,hb⟩;have Pp:Hid (∀ kind,∃ ra rc,iT kind vt vb vs=.slice ra (Pl.ah kind).length rc∧Raw w1 [.row 75 aB] [bV (Pl.ah kind)] [.slice ra (Pl.ah kind).length rc]):=fun kind=>by
  obtain⟨v,F,he,gC,_⟩:=qH (w:=w2) kind h0 k1 k2 k3 hb;injection he with he
  obtain⟨ra,rc,hv⟩:=gC.raw.aT;subst hv;exact⟨ra,rc,he,gC.raw⟩
 have HM:=uh hm;have dR:mb<w1.heap.size:=by
  by_cases q:mb<w1.heap.size
  ·exact q
  ·rw[XW (by omega)]at hm;cases hm
 have qt:=uh dR;replace HB:=uh (ae HB.out hb)
 replace fe:=uh (fe.out.later hb)
 have z0:=fe.out.get 0 _ rfl;have zl:=fe.out.lt;clear hm h0 k1 k2 k3 hb dR HC;go_wp2_with fail
 go_loopw [22] (fun i wr=>∃ k:Nat,k≤s.length∧i=.int .i64 k∧(List.range k).all (fun i=>pK (s.getD i Pl.aG))=true∧Bel w1 wr) (fun i _=>s.length - (intOf i).toNat)
 case atStart=>exact⟨0,zN,rfl,rfl,zR⟩
 case round=>
  obtain⟨k,hk,rfl,bA,hW⟩:=hrel;have tp:=uh bA;have HW:=uh hW;have PV:=uh (ae HB.out hW);clear bA hW z0 zl;by_cases bq:k<s.length
  rotate_left
  ·obtain rfl:k=s.length:=by omega
   have HE:Hid (R=true):=by show R=_;rw[HR.out];exact tp.out
   go_wp2;go_ret;exact⟨Pl.ar HE.out.symm,PV.out⟩
  rcases cN (HL.out.later PV.out) with⟨e0,_⟩|⟨p,o,c',hv,hp,_,aE⟩
  ·omega
  injection hv with g1 _ g3
  subst g1;subst g3;obtain⟨ax,cx,hg,dH⟩:=aE k bq;obtain⟨x,hx⟩:∃ x,x=s.getD k Pl.aG:=⟨_,rfl⟩
  rw[← hx]at hg dH;have x0:wr.cell? ⟨p,o+k*3,none⟩=some (.string x.kind):=aF hg 0 _ rfl;have x1:wr.cell? ⟨p,o+k*3+1,none⟩=some (.string x.name):=aF hg 1 _ rfl;have x2:wr.cell? ⟨p,o+k*3+2,none⟩=some (.slice ax x.lines.length cx):=aF hg 2 _ rfl;have cZ:(0:Int)≤(k:Int):=by omega
  have dy:(k:Int)<(s.length:Int):=by omega
  have jQ:Hid (x.name.size≤maxLen∧∀ y∈x.lines,∀ t∈y.ws,t.size≤maxLen):=by
   have e:s.getD k Pl.aG=s[k]:=by simp[bq]
   rw[hx,e];exact HZ.out _ (Xq bq)
  have Wv:=uh dH;have wu:Hid (pK x=false→R=false):=fun hq=>by rw[HR.out];exact Pl.gA bq (by rw[← hx];exact hq)
  have IU:Hid (pK x=true→(List.range (k+1)).all (fun i=>pK (s.getD i Pl.aG))=true):=fun hq=>Pl.fO tp.out (by rw[← hx];exact hq);have Mz:Hid (pK x=(!decide ((Pl.ah x.kind).length=0)&&Pl.bE x.name&&jf (Pl.ah x.kind) x.lines)):=rfl;clear aE hg dH hx;obtain⟨ra,rc,LB,D7⟩:=Pp.out x.kind;have nV:=uh (D7.later HW.out);clear D7;obtain⟨wb,fa⟩:∃ wb,wb=wr.alloc (.cells #[.string x.kind,.string x.name,.slice ax x.lines.length cx] 58):=⟨_,rfl⟩
  obtain⟨bl,jo⟩:∃ bl,bl=wr.heap.size:=⟨_,rfl⟩
  have JH:Hid (Bel wr wb):=by show Below _ _ _;rw[fa];exact af zR _
  have tq:Hid (au wb bl [.string x.kind,.string x.name,.slice ax x.lines.length cx]):=by show au _ _ _;rw[fa,jo];exact au.new wr #[.string x.kind,.string x.name,.slice ax x.lines.length cx] _ _ rfl
  go_upto_region 7 with fail
  rw[← fa,← jo];clear fa jo x0 x1 x2;have y0:=tq.out.get 0 _ rfl;have yl:=tq.out.lt;have uI:=rL (((JH.out.block _ (zL qt.out HW.out.size)).trans (HW.out.block _ qt.out)).trans HM.out) x.kind;rw[LB]at uI;obtain⟨l,wL⟩:∃ l,l=Pl.ah x.kind:=⟨_,rfl⟩
  have kC:Hid (l.length≤100):=by rw[wL];exact Pl.ey _
  have RV:Hid (∀ r∈l,∀ z∈r.args,1≤z∧z≤6):=by rw[wL];exact Pl.rq _
  rw[← wL]at uI nV Mz;obtain⟨kn,RE⟩:∃ kn,kn= !decide (l.length=0):=⟨_,rfl⟩
  rw[← RE]at uI Mz;clear wL LB RE;obtain⟨w3,kf⟩:∃ w3,w3=wb.alloc (.cells #[.slice ra l.length rc] 141):=⟨_,rfl⟩
  obtain⟨bk,PI⟩:∃ bk,bk=wb.heap.size:=⟨_,rfl⟩
  have pG:Hid (Bel wb w3):=by show Below _ _ _;rw[kf];exact af zR _
  have Iq:Hid (au w3 bk [.slice ra l.length rc]):=by show au _ _ _;rw[kf,PI];exact au.new wb #[.slice ra l.length rc] _ _ rfl
  have Lg:=uh (ae JH.out pG.out);have OP:=uh (tq.out.later pG.out);go_upto_region 8 with fail
  rw[← kf,← PI];clear kf PI y0 yl uI;have y1:=OP.out.get 1 _ rfl;have y2:=OP.out.get 2 _ rfl;have yl:=OP.out.lt;have q0:=Iq.out.get 0 _ rfl;have ql:=Iq.out.lt;have Pa:Hid (Bel w w3):=ae PV.out Lg.out;have JE:=uh (fun W=>jV x.name W jQ.out.1);have Wa:=uh (M4 l ra rc x.lines (.slice ax x.lines.length cx) w3 kC.out RV.out (nV.out.later Lg.out) (Wv.out.later Lg.out) jQ.out.2);obtain⟨nm,uS⟩:∃ nm,nm=Pl.bE x.name:=⟨_,rfl⟩
  rw[← uS]at JE Mz;obtain⟨ho,hho⟩:∃ ho,ho=jf l x.lines:=⟨_,rfl⟩
  rw[← hho]at Wa Mz;clear uS hho;cases kn
  ·have HE:Hid (R=false):=wu.out Mz.out;go_wp2;go_ret;exact⟨Pl.ar HE.out.symm,Pa.out⟩
  ·cases nm
   ·have HE:Hid (R=false):=wu.out Mz.out;go_wp2_with (go_at_call 73;refine(JE.out _).mono ?_;rintro e w' ⟨rfl,rfl⟩)
    go_ret;exact⟨Pl.ar HE.out.symm,Pa.out⟩
   ·cases ho
    ·have HE:Hid (R=false):=wu.out Mz.out;go_wp2_with (first|(go_at_call 73;refine(JE.out _).mono ?_;rintro e w' ⟨rfl,rfl⟩)|(go_at_call 74;refine Wa.out.mono ?_;rintro e w' ⟨rfl,hU⟩))
     go_ret;exact⟨Pl.ar HE.out.symm,ae Pa.out hU⟩
    ·have HE:=uh (IU.out Mz.out);go_wp2_with (first|(go_at_call 73;refine(JE.out _).mono ?_;rintro e w' ⟨rfl,rfl⟩)|(go_at_call 74;refine Wa.out.mono ?_;rintro e w' ⟨rfl,hU⟩))
     go_roundw
     case rel=>exact⟨k+1,by omega,by go_num,HE.out,ae HW.out (ae Lg.out hU)⟩
     case measure=>simp[intOf];omega
end Go.Proofs.YtgiglpnaekbegaaGreatDoor
