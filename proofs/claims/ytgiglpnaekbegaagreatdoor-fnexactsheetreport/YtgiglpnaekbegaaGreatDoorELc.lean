import Derived.Great.BuildSlice
import Derived.Laws.IdiomStrings
import Derived.Lib.ItoaLen
import Derived.Deep.DeepCutAuto
import Derived.BigFrame
import Derived.Test.YtgiglpnaekbegaaGreatDoorERo
import Derived.Test.YtgiglpnaekbegaaGreatDoorEWb
import Derived.Test.YtgiglpnaekbegaaGreatDoorESd
namespace Go.Proofs.YtgiglpnaekbegaaGreatDoor
set_option maxRecDepth 8000
set_option maxHeartbeats 40000000
open Go.RowKit Go.Deep
theorem Tryz.fM:Tryz.prog.underlying 71=some (.slice 75):=by kernel_rfl
theorem Tryz.lp:(Tryz.prog.info? 75).map (fun i=>(i.zero,i.size,i.bytes))=some (some (.agg #[.string {data:=#[]},.slice none 0 0,.bool false,.slice none 0 0]),4,72):=by kernel_rfl
def ruD (r:Pl.Ru):List Dt:=[.s r.key,.row r.args.length (r.args.map .i),.b r.many,.row r.dflt.length (txD r.dflt)]
def bV (l:List Pl.Ru):Dt:=.row l.length (l.flatMap ruD)
theorem Bs (W:World):∀ xs:List Int,Raw W (bF xs.length [.i]) (xs.map .i) (xs.map (.int .i64))
 |[]=> .nil
 |x::xs=>by rw[Xm,dk];exact .i x (Bs W xs)
theorem Bi (W:World) (xs:List Int) (cs:Array Value) (jn:cs.toList=xs.map (.int .i64)) (hl:xs.length≤100):Raw (W.alloc (.cells cs 3)) [.row 3 [.i]] [.row xs.length (xs.map .i)] [.slice (some ⟨W.heap.size,0,none⟩) xs.length xs.length]:=by
 refine .row _ _ W.heap.size 0 xs.length xs.length (xs.map (.int .i64)) (xs.map .i) (by simp) (by unfold maxLen;omega) ?_ (Bs _ xs) .nil;intro j v hv;rw[Xr];refine(World.cell?_alloc_at _ _ _ _ rfl).trans ?_;rw[← jn]at hv;simpa using hv
def NJ (r:Pl.Ru) (W:World) (e:Ending) (W':World):Prop:=∃ a1 c1 a3 n3 c3 F,e=.returned (.agg #[.string r.key,.slice a1 r.args.length c1,.bool r.many,.slice a3 n3 c3])∧Rep W' false aB F (ruD r) [.string r.key,.slice a1 r.args.length c1,.bool r.many,.slice a3 n3 c3]∧F.Nodup∧(∀ b∈F,W.heap.size≤b)∧Bel W W'
theorem Bv {r:Pl.Ru} {W:World} {o:Obj} {e:Ending} {W':World} (h:Ans aB (ruD r) (W.alloc o) e W'):NJ r W e W':=by
 obtain⟨c,F,he,hr,nd,lo,hb⟩:=h;obtain⟨F1,v1,F3,v3,hF,hc,r1,r3⟩:=nA hr;subst hc;obtain⟨a1,c1,h1⟩:=r1.raw.aT;obtain⟨a3,c3,h3⟩:=r3.raw.aT;subst h1;subst h3;exact⟨a1,c1,a3,_,c3,F,he,hr,nd,fun b gY=>by have:=lo b gY;simp at this;omega,ae (af zR _) hb⟩
theorem lI (r:Pl.Ru) (s:ByteArray) (cs:Array Value) (jn:cs.toList=r.args.map (.int .i64)) (W:World) (hs:s.size≤1048576) (hn:r.args.length≤100) (hm:r.many=false) (hd:Pl.gj s=r.dflt):
  Calls Tryz.prog 46 #[.string r.key,.string s,.slice (some ⟨W.heap.size,0,none⟩) r.args.length r.args.length] (W.alloc (.cells cs 3)) (NJ r W):=by
 refine(Ke r.key s (some ⟨W.heap.size,0,none⟩) r.args.length r.args.length (r.args.map .i) _ hs (Bi W r.args cs jn hn) (by omega)).mono ?_;intro e w' h;refine Bv ?_ (o:=.cells cs 3);unfold ruD;rw[hm,← hd];exact h
theorem Mb (r:Pl.Ru) (cs:Array Value) (jn:cs.toList=r.args.map (.int .i64)) (W:World) (hn:r.args.length≤100) (hm:r.many=true) (hd:r.dflt=[]):
  Calls Tryz.prog 47 #[.string r.key,.slice (some ⟨W.heap.size,0,none⟩) r.args.length r.args.length] (W.alloc (.cells cs 3)) (NJ r W):=by
 refine(GM r.key (some ⟨W.heap.size,0,none⟩) r.args.length r.args.length (r.args.map .i) _ (Bi W r.args cs jn hn) (by omega)).mono ?_;intro e w' h;refine Bv ?_ (o:=.cells cs 3);unfold ruD;rw[hm,hd];exact h
structure Acc (w W:World) (l:List Pl.Ru) (G:List Nat) (cs:List Value):Prop where
 rep:Rep W false (bF l.length aB) G (l.flatMap ruD) cs
 nd:G.Nodup
 lo:∀ b∈G,w.heap.size≤b
 bel:Bel w W
theorem Acc.push {w W W':World} {l:List Pl.Ru} {G F:List Nat} {cs c:List Value} {r:Pl.Ru} (h:Acc w W l G cs) (hr:Rep W' false aB F (ruD r) c) (nd:F.Nodup) (lo:∀ b∈F,W.heap.size≤b) (hb:Bel W W'):Acc w W' (l++[r]) (G++F) (cs++c):=by
 refine⟨?_,Bp h.nd nd (fun b hb=>h.rep.lt b hb) lo,J3 h.lo fun b hb=>Xg h.bel.size (lo b hb),ae h.bel hb⟩;rw[At,XN,gx,Xv,XE];exact(h.rep.later hb).app hr
theorem Acc.done {w W:World} {l:List Pl.Ru} {G:List Nat} {cs:List Value} (h:Acc w W l G cs) (ca:Array Value) (hca:ca.toList=cs) (hl:l.length≤100):eT [.row 75 aB] (bV l) w (.returned (.slice (some ⟨W.heap.size,0,none⟩) l.length l.length)) (W.alloc (.cells ca 75)):=by
 have hb:Bel W (W.alloc (.cells ca 75)):=af zR _;have fT:cs.length=l.length*4:=by rw[h.rep.len,bU];rfl
 refine⟨_,W.heap.size::(G++[]),rfl,.row 75 aB W.heap.size 0 l.length l.length 75 (l.length*4) cs (l.flatMap ruD) G ?_ ?_ ?_ ?_ ?_ (h.rep.later hb) .nil, ?_, ?_,ae h.bel hb⟩
 ·exact aN.alloc W ca 75 _ (by rw[← Yk,hca,fT])
 ·show 0+l.length*4≤l.length*4;omega
 ·intro h;cases h
 ·exact⟨by unfold maxLen;omega,zE⟩
 ·intro j v hv;rw[Xr];refine(World.cell?_alloc_at _ _ _ _ rfl).trans ?_;rw[← hca]at hv;simpa using hv
 ·rw[Xl,Yi];exact⟨fun e=>by have:=h.rep.lt _ e;omega,h.nd⟩
 ·intro b gY;rw[Xl]at gY;rcases XD.1 gY with rfl|q
  ·exact h.bel.size
  ·exact h.lo b q
theorem Acc.nil (w:World):Acc w w [] [] []:=⟨.nil,XL,by simp,zR⟩
theorem dW (s:ByteArray) (w:World):
  Calls Tryz.prog 25 #[.string s] w (eT [.row 75 aB] (bV (Pl.ah s)) w):=by
 obtain⟨i0,iK,dp,eV,kD⟩:=i6 Tryz.lp;have A0:=uh (Acc.nil w);cases hteam:(s.toList==[116,101,97,109])
 rotate_left
 ·have HR:Hid (Pl.ah s=Pl.kU):=by show _=_;unfold Pl.ah;rw[if_pos hteam]
  go_enter Tryz.func25,Tryz.ntmps25
  go_upto_region 3 with fail
  clear hteam;go_wp2_with fail
  refine(lI ⟨{data:=#[99,111,112,105,101,115]},[1],false,[{data:=#[49,48,48]}]⟩ ({data:=#[49,48,48]}) #[.int .i64 1] rfl w (by decide) (by decide) rfl Pl.pL).mono ?_;rintro e w1 ⟨a0,b0,c0,m0,d0,F0,rfl,r,nd,lo,hb⟩;have A1:=uh (A0.out.push r nd lo hb);clear r nd lo hb A0;go_wp2_with fail
  refine(lI ⟨{data:=#[114,111,111,109]},[1],false,[{data:=#[49,48,48,48]}]⟩ ({data:=#[49,48,48,48]}) #[.int .i64 1] rfl w1 (by decide) (by decide) rfl Pl.sZ).mono ?_;rintro e w2 ⟨a1,b1,c1,m1,d1,F1,rfl,r,nd,lo,hb⟩;have A2:=uh (A1.out.push r nd lo hb);clear r nd lo hb A1;have HD:=uh (A2.out.done #[.string ({data:=#[99,111,112,105,101,115]}),.slice a0 1 b0,.bool false,.slice c0 m0 d0,.string ({data:=#[114,111,111,109]}),.slice a1 1 b1,.bool false,.slice c1 m1 d1] rfl (by decide));go_wp2_with (refine wpList_buildSlice rfl 71 75 2 _ rfl #[.string ({data:=#[99,111,112,105,101,115]}),.slice a0 1 b0,.bool false,.slice c0 m0 d0,.string ({data:=#[114,111,111,109]}),.slice a1 1 b1,.bool false,.slice c1 m1 d1] i0 _ Tryz.fM iK dp (by rw[eV];decide) (by rw[eV];decide) (by rw[eV];kernel_rfl) ?_)
  go_ret;rw[HR.out];exact HD.out
 cases hberth:(s.toList==[98,101,114,116,104])
 rotate_left
 ·have HR:Hid (Pl.ah s=Pl.j9):=by show _=_;unfold Pl.ah;rw[if_neg (by rw[hteam];decide),if_pos hberth]
  go_enter Tryz.func25,Tryz.ntmps25
  go_upto_region 5 with fail
  clear hteam hberth;go_wp2_with fail
  refine(lI ⟨{data:=#[122,111,110,101]},[3],false,[{data:=#[122]}]⟩ ({data:=#[122]}) #[.int .i64 3] rfl w (by decide) (by decide) rfl Pl.rW).mono ?_;rintro e w1 ⟨a0,b0,c0,m0,d0,F0,rfl,r,nd,lo,hb⟩;have A1:=uh (A0.out.push r nd lo hb);clear r nd lo hb A0;go_wp2_with fail
  refine(lI ⟨{data:=#[114,111,111,109]},[1],false,[{data:=#[49,48,48]}]⟩ ({data:=#[49,48,48]}) #[.int .i64 1] rfl w1 (by decide) (by decide) rfl Pl.qI).mono ?_;rintro e w2 ⟨a1,b1,c1,m1,d1,F1,rfl,r,nd,lo,hb⟩;have A2:=uh (A1.out.push r nd lo hb);clear r nd lo hb A1;go_wp2_with fail
  refine(lI ⟨{data:=#[104,111,108,100]},[1],false,[{data:=#[49,48,48]}]⟩ ({data:=#[49,48,48]}) #[.int .i64 1] rfl w2 (by decide) (by decide) rfl Pl.r7).mono ?_;rintro e w3 ⟨a2,b2,c2,m2,d2,F2,rfl,r,nd,lo,hb⟩;have A3:=uh (A2.out.push r nd lo hb);clear r nd lo hb A2;go_wp2_with fail
  refine(Mb ⟨{data:=#[109,97,114,107]},[3],true,[]⟩ #[.int .i64 3] rfl w3 (by decide) rfl rfl).mono ?_;rintro e w4 ⟨a3,b3,c3,m3,d3,F3,rfl,r,nd,lo,hb⟩;have A4:=uh (A3.out.push r nd lo hb);clear r nd lo hb A3;have HD:=uh (A4.out.done #[.string ({data:=#[122,111,110,101]}),.slice a0 1 b0,.bool false,.slice c0 m0 d0,.string ({data:=#[114,111,111,109]}),.slice a1 1 b1,.bool false,.slice c1 m1 d1,.string ({data:=#[104,111,108,100]}),.slice a2 1 b2,.bool false,.slice c2 m2 d2,.string ({data:=#[109,97,114,107]}),.slice a3 1 b3,.bool true,.slice c3 m3 d3] rfl (by decide));go_wp2_with (refine wpList_buildSlice rfl 71 75 4 _ rfl #[.string ({data:=#[122,111,110,101]}),.slice a0 1 b0,.bool false,.slice c0 m0 d0,.string ({data:=#[114,111,111,109]}),.slice a1 1 b1,.bool false,.slice c1 m1 d1,.string ({data:=#[104,111,108,100]}),.slice a2 1 b2,.bool false,.slice c2 m2 d2,.string ({data:=#[109,97,114,107]}),.slice a3 1 b3,.bool true,.slice c3 m3 d3] i0 _ Tryz.fM iK dp (by rw[eV];decide) (by rw[eV];decide) (by rw[eV];kernel_rfl) ?_)
  go_ret;rw[HR.out];exact HD.out
 cases hservice:(s.toList==[115,101,114,118,105,99,101])
 rotate_left
 ·have HR:Hid (Pl.ah s=Pl.im):=by show _=_;unfold Pl.ah;rw[if_neg (by rw[hteam];decide),if_neg (by rw[hberth];decide),if_pos hservice]
  go_enter Tryz.func25,Tryz.ntmps25
  go_upto_region 7 with fail
  clear hteam hberth hservice;go_wp2_with fail
  refine(lI ⟨{data:=#[116,101,97,109]},[3],false,[{data:=#[99,111,114,101]}]⟩ ({data:=#[99,111,114,101]}) #[.int .i64 3] rfl w (by decide) (by decide) rfl Pl.oe).mono ?_;rintro e w1 ⟨a0,b0,c0,m0,d0,F0,rfl,r,nd,lo,hb⟩;have A1:=uh (A0.out.push r nd lo hb);clear r nd lo hb A0;go_wp2_with fail
  refine(lI ⟨{data:=#[105,109,97,103,101]},[1],false,[{data:=#[49]}]⟩ ({data:=#[49]}) #[.int .i64 1] rfl w1 (by decide) (by decide) rfl Pl.nD).mono ?_;rintro e w2 ⟨a1,b1,c1,m1,d1,F1,rfl,r,nd,lo,hb⟩;have A2:=uh (A1.out.push r nd lo hb);clear r nd lo hb A1;go_wp2_with fail
  refine(lI ⟨{data:=#[119,97,110,116]},[1],false,[{data:=#[49]}]⟩ ({data:=#[49]}) #[.int .i64 1] rfl w2 (by decide) (by decide) rfl Pl.ou).mono ?_;rintro e w3 ⟨a2,b2,c2,m2,d2,F2,rfl,r,nd,lo,hb⟩;have A3:=uh (A2.out.push r nd lo hb);clear r nd lo hb A2;go_wp2_with fail
  refine(lI ⟨{data:=#[100,111,119,110]},[1],false,[{data:=#[49]}]⟩ ({data:=#[49]}) #[.int .i64 1] rfl w3 (by decide) (by decide) rfl Pl.oh).mono ?_;rintro e w4 ⟨a3,b3,c3,m3,d3,F3,rfl,r,nd,lo,hb⟩;have A4:=uh (A3.out.push r nd lo hb);clear r nd lo hb A3;go_wp2_with fail
  refine(lI ⟨{data:=#[111,118,101,114]},[1],false,[{data:=#[48]}]⟩ ({data:=#[48]}) #[.int .i64 1] rfl w4 (by decide) (by decide) rfl Pl.oa).mono ?_;rintro e w5 ⟨a4,b4,c4,m4,d4,F4,rfl,r,nd,lo,hb⟩;have A5:=uh (A4.out.push r nd lo hb);clear r nd lo hb A4;go_wp2_with fail
  refine(lI ⟨{data:=#[110,101,101,100,115]},[1,1],false,[{data:=#[49]},{data:=#[49]}]⟩ ({data:=#[49,32,49]}) #[.int .i64 1,.int .i64 1] rfl w5 (by decide) (by decide) rfl Pl.nu).mono ?_;rintro e w6 ⟨a5,b5,c5,m5,d5,F5,rfl,r,nd,lo,hb⟩;have A6:=uh (A5.out.push r nd lo hb);clear r nd lo hb A5;go_wp2_with fail
  refine(lI ⟨{data:=#[119,104,101,114,101]},[4],false,[{data:=#[]}]⟩ ({data:=#[]}) #[.int .i64 4] rfl w6 (by decide) (by decide) rfl Pl.nk).mono ?_;rintro e w7 ⟨a6,b6,c6,m6,d6,F6,rfl,r,nd,lo,hb⟩;have A7:=uh (A6.out.push r nd lo hb);clear r nd lo hb A6;go_wp2_with fail
  refine(Mb ⟨{data:=#[108,105,107,101]},[4,2],true,[]⟩ #[.int .i64 4,.int .i64 2] rfl w7 (by decide) rfl rfl).mono ?_;rintro e w8 ⟨a7,b7,c7,m7,d7,F7,rfl,r,nd,lo,hb⟩;have A8:=uh (A7.out.push r nd lo hb);clear r nd lo hb A7;go_wp2_with fail
  refine(lI ⟨{data:=#[97,112,97,114,116]},[6],false,[{data:=#[110,111,110,101]}]⟩ ({data:=#[110,111,110,101]}) #[.int .i64 6] rfl w8 (by decide) (by decide) rfl Pl.nf).mono ?_;rintro e w9 ⟨a8,b8,c8,m8,d8,F8,rfl,r,nd,lo,hb⟩;have A9:=uh (A8.out.push r nd lo hb);clear r nd lo hb A8;go_wp2_with fail
  refine(lI ⟨{data:=#[118,111,108,117,109,101]},[5],false,[{data:=#[110,111]}]⟩ ({data:=#[110,111]}) #[.int .i64 5] rfl w9 (by decide) (by decide) rfl Pl.mr).mono ?_;rintro e sR ⟨a9,b9,c9,m9,d9,F9,rfl,r,nd,lo,hb⟩;have A10:=uh (A9.out.push r nd lo hb);clear r nd lo hb A9;go_wp2_with fail
  refine(lI ⟨{data:=#[102,111,108,108,111,119]},[1,1,1],false,[{data:=#[48]},{data:=#[48]},{data:=#[48]}]⟩ ({data:=#[48,32,48,32,48]}) #[.int .i64 1,.int .i64 1,.int .i64 1] rfl sR (by decide) (by decide) rfl Pl.mF).mono ?_;rintro e Bd ⟨a10,b10,c10,m10,d10,F10,rfl,r,nd,lo,hb⟩;have A11:=uh (A10.out.push r nd lo hb);clear r nd lo hb A10;go_wp2_with fail
  refine(lI ⟨{data:=#[112,97,99,101]},[1,1,1],false,[{data:=#[48]},{data:=#[48]},{data:=#[48]}]⟩ ({data:=#[48,32,48,32,48]}) #[.int .i64 1,.int .i64 1,.int .i64 1] rfl Bd (by decide) (by decide) rfl Pl.oM).mono ?_;rintro e sM ⟨a11,b11,c11,m11,d11,F11,rfl,r,nd,lo,hb⟩;have A12:=uh (A11.out.push r nd lo hb);clear r nd lo hb A11;have HD:=uh (A12.out.done #[.string ({data:=#[116,101,97,109]}),.slice a0 1 b0,.bool false,.slice c0 m0 d0,.string ({data:=#[105,109,97,103,101]}),.slice a1 1 b1,.bool false,.slice c1 m1 d1,.string ({data:=#[119,97,110,116]}),.slice a2 1 b2,.bool false,.slice c2 m2 d2,.string ({data:=#[100,111,119,110]}),.slice a3 1 b3,.bool false,.slice c3 m3 d3,.string ({data:=#[111,118,101,114]}),.slice a4 1 b4,.bool false,.slice c4 m4 d4,.string ({data:=#[110,101,101,100,115]}),.slice a5 2 b5,.bool false,.slice c5 m5 d5,.string ({data:=#[119,104,101,114,101]}),.slice a6 1 b6,.bool false,.slice c6 m6 d6,.string ({data:=#[108,105,107,101]}),.slice a7 2 b7,.bool true,.slice c7 m7 d7,.string ({data:=#[97,112,97,114,116]}),.slice a8 1 b8,.bool false,.slice c8 m8 d8,.string ({data:=#[118,111,108,117,109,101]}),.slice a9 1 b9,.bool false,.slice c9 m9 d9,.string ({data:=#[102,111,108,108,111,119]}),.slice a10 3 b10,.bool false,.slice c10 m10 d10,.string ({data:=#[112,97,99,101]}),.slice a11 3 b11,.bool false,.slice c11 m11 d11] rfl (by decide));go_wp2_with (refine wpList_buildSlice rfl 71 75 12 _ rfl #[.string ({data:=#[116,101,97,109]}),.slice a0 1 b0,.bool false,.slice c0 m0 d0,.string ({data:=#[105,109,97,103,101]}),.slice a1 1 b1,.bool false,.slice c1 m1 d1,.string ({data:=#[119,97,110,116]}),.slice a2 1 b2,.bool false,.slice c2 m2 d2,.string ({data:=#[100,111,119,110]}),.slice a3 1 b3,.bool false,.slice c3 m3 d3,.string ({data:=#[111,118,101,114]}),.slice a4 1 b4,.bool false,.slice c4 m4 d4,.string ({data:=#[110,101,101,100,115]}),.slice a5 2 b5,.bool false,.slice c5 m5 d5,.string ({data:=#[119,104,101,114,101]}),.slice a6 1 b6,.bool false,.slice c6 m6 d6,.string ({data:=#[108,105,107,101]}),.slice a7 2 b7,.bool true,.slice c7 m7 d7,.string ({data:=#[97,112,97,114,116]}),.slice a8 1 b8,.bool false,.slice c8 m8 d8,.string ({data:=#[118,111,108,117,109,101]}),.slice a9 1 b9,.bool false,.slice c9 m9 d9,.string ({data:=#[102,111,108,108,111,119]}),.slice a10 3 b10,.bool false,.slice c10 m10 d10,.string ({data:=#[112,97,99,101]}),.slice a11 3 b11,.bool false,.slice c11 m11 d11] i0 _ Tryz.fM iK dp (by rw[eV];decide) (by rw[eV];decide) (by rw[eV];kernel_rfl) ?_)
  go_ret;rw[HR.out];exact HD.out
 have HR:Hid (Pl.ah s=[]):=by show _=_;unfold Pl.ah;rw[if_neg (by rw[hteam];decide),if_neg (by rw[hberth];decide),if_neg (by rw[hservice];decide)]
 go_enter Tryz.func25,Tryz.ntmps25
 go_wp2;go_ret;rw[HR.out];exact A0.out.done #[] rfl (by decide)
theorem Tryz.sX:Tryz.prog.underlying 43=some (.slice 5):=by kernel_rfl
theorem jF (W:World) (B:Nat) (d:Nat) (hd:d<10) (z:Int) (hz:z=48+(d:Int)) (hc:W.cell? ⟨B,0,none⟩=some (.int .u8 z)):
  (convert 43 9 (.slice (some ⟨B,0,none⟩) 1 1)).run Tryz.prog W=.ok (.string ⟨[UInt8.ofNat (48+d)].toArray⟩) W:=by
 have e:(UInt8.ofNat (48+d)).toNat=48+d:=by rw[UInt8.toNat_ofNat'];omega
 refine run_convert_bytes_back (P:=Tryz.prog) W 43 9 5 ⟨B,0,none⟩ 1 [UInt8.ofNat (48+d)] Tryz.sX Tryz.underlying5 Tryz.underlying9 fun j hj=> ?_;obtain rfl:j=0:=by simpa using hj
 rw[show (Addr.add ⟨B,0,none⟩ 0)=⟨B,0,none⟩ from rfl,hc,hz];simp only[YF,e];rfl
theorem wrap_small (z:Int) (h0: -9223372036854775808≤z) (h1:z≤9223372036854775807):IntKind.i64.wrap z=z:=IntWalk.i64_in z ⟨h0,h1⟩
theorem BL (q:Nat) (h:q≤1000000000):(Lib.decDigits q).length≤21:=by
 have:=Lib.itoa_length_le (q:Int) (by omega) (by omega);rw[Lib.itoa_nonneg]at this;exact this
theorem Fi (a b:List UInt8):(⟨(a++b).toArray⟩:ByteArray)=⟨a.toArray⟩++⟨b.toArray⟩:=by
 apply ByteArray.ext;simp[ByteArray.data_append]
theorem Hm {a b:List UInt8} (h:a=b):Ending.returned (.string ⟨a.toArray⟩)=.returned (.string ⟨b.toArray⟩):=by rw[h]
theorem vR (n:Nat) (w:World) (h:n<10):
  Calls Tryz.prog 20 #[.int .i64 (n:Nat)] w fun e w'=>e=.returned (.string ⟨(Lib.decDigits n).toArray⟩)∧Bel w w':=by
 have HE:Hid (Lib.decDigits n=[UInt8.ofNat (48+n)]):=Lib.decDigits_one h;have Tl:=jF (w.alloc (.cells #[.int .u8 (48+(n:Int))] 5)) w.heap.size n h _ rfl (by simp);go_enter Tryz.func20,Tryz.ntmps20
 go_wp2;go_ret;exact⟨Hm (by rw[HE.out];simp),af zR _⟩
theorem zB (n:Nat) (w:World) (h:¬ n<10) (hb:n≤1000000000) (ih:∀ W:World,Calls Tryz.prog 20 #[.int .i64 ((n / 10:Nat):Int)] W fun e w'=>e=.returned (.string ⟨(Lib.decDigits (n / 10)).toArray⟩)∧Bel W w'):
  Calls Tryz.prog 20 #[.int .i64 (n:Nat)] w fun e w'=>e=.returned (.string ⟨(Lib.decDigits n).toArray⟩)∧Bel w w':=by
 have HE:Hid (Lib.decDigits n=Lib.decDigits (n / 10)++[UInt8.ofNat (48+n % 10)]):=by show _=_;rw[Lib.decDigits,dif_neg h]
 have HI:Hid (∀ W:World,Calls Tryz.prog 20 #[.int .i64 ((n / 10:Nat):Int)] W fun e w'=>e=.returned (.string ⟨(Lib.decDigits (n / 10)).toArray⟩)∧Bel W w'):=ih;have HCV:Hid (∀ (W:World) (B:Nat) (z:Int),z=48+((n % 10:Nat):Int)→W.cell? ⟨B,0,none⟩=some (.int .u8 z)→(convert 43 9 (.slice (some ⟨B,0,none⟩) 1 1)).run Tryz.prog W=.ok (.string ⟨[UInt8.ofNat (48+n % 10)].toArray⟩) W):=fun W B z hz hc=>jF W B (n % 10) (Nat.mod_lt _ (by decide)) z hz hc;obtain⟨q,hq⟩:∃ q,q=n / 10:=⟨_,rfl⟩
 obtain⟨m,hm⟩:∃ m,m=n % 10:=⟨_,rfl⟩
 rw[← hq]at HI HE;rw[← hm]at HCV HE;have PF:m<10:=by omega
 have TP:q≤1000000000:=by omega
 have e1:IntKind.i64.wrap ((n:Int) / 10)=(q:Int):=by rw[wrap_small _ (by omega) (by omega)];omega
 have e2:(n:Int).tmod 10=(m:Int):=by rw[Int.tmod_eq_emod_of_nonneg (by omega)];omega
 have e3:IntKind.i64.wrap (48+(m:Int))=48+m:=wrap_small _ (by omega) (by omega);have e4:IntKind.u8.wrap (48+(m:Int))=48+m:=oz _ (by omega) (by omega);clear ih hq hm;go_enter Tryz.func20,Tryz.ntmps20
 go_wp2_with fail
 have hlen:¬ (9223372036854775807<(Lib.decDigits q).length+1):=by have:=BL q TP;omega
 have Js:Hid (∀ W w6:World,Bel W w6→(W.cell? ⟨w.heap.size,0,none⟩=some (.int .u8 (48+(m:Int)))∧w.heap.size<W.heap.size)→(convert 43 9 (.slice (some ⟨w.heap.size,0,none⟩) 1 1)).run Tryz.prog w6=.ok (.string ⟨[UInt8.ofNat (48+m)].toArray⟩) w6):=
  fun W w6 hb hc=>jF w6 w.heap.size m PF _ rfl ((hb.cell (p:=⟨w.heap.size,0,none⟩) hc.2).trans hc.1)
 have hcA:=jF ((w.alloc (.cells #[.int .u8 (48+(m:Int))] 5)).drew) w.heap.size m PF _ rfl (by simp);go_region_with (first|(go_at_call 20;refine(HI.out _).mono ?_;rintro e w6 ⟨rfl,lM⟩;have hc6:=jF (w6.alloc (.cells #[.int .u8 (48+(m:Int))] 5)) w6.heap.size m PF _ rfl (by simp);have hc7:=Js.out _ _ lM;try (simp at hc7)))
 all_goals
  go_wp2;go_ret;refine⟨?_, ?_⟩
  ·show Ending.returned (.string (⟨(Lib.decDigits q).toArray⟩++⟨#[48+UInt8.ofNat m]⟩))=_;rw[HE.out,Fi];simp
  ·repeat(first|exact zR|exact ae (by repeat(first|exact zR|refine XF ?_|refine af ?_ _)) lM|refine XF ?_|refine af ?_ _)
theorem Fu (n:Nat) (hb:n≤1000000000) (w:World):
  Calls Tryz.prog 20 #[.int .i64 (n:Nat)] w fun e w'=>e=.returned (.string ⟨(Lib.decDigits n).toArray⟩)∧Bel w w':=by
 induction n using Nat.strongRecOn generalizing w with
 |_ n ih=>
  by_cases h:n<10
  ·exact vR n w h
  ·exact zB n w h hb fun W=>ih (n / 10) (by omega) (by omega) W
theorem mC (s:ByteArray) (w:World) (hs:s.size≤maxLen):
  Calls Tryz.prog 42 #[.string s] w fun e w'=>e=.returned (.bool (Pl.bE s))∧w=w':=by
 unfold maxLen at hs;by_cases iN:1≤s.size∧s.size≤20
 ·obtain⟨h1,h2⟩:=iN;have hb:(decide ((1:Int)≤(s.size:Int))&&decide ((s.size:Int)≤20))=true:=by simp;omega
  go_enter Tryz.func42,Tryz.ntmps42
  go_wp2_with (go_at_call 61;refine(lh _ _ _ _).mono ?_;rintro e w' ⟨rfl,rfl⟩)
  go_loop [3] (fun i=>∃ k:Nat,k≤s.size∧i=.int .i64 k∧(s.data.toList.take k).all Pl.cM=true) (fun i=>s.size - (intOf i).toNat)
  case atStart=>exact⟨0,zN,rfl,rfl⟩
  case round=>
   obtain⟨k,hk,rfl,bA⟩:=hrel;have HA:Hid ((s.data.toList.take k).all Pl.cM=true):=bA;clear bA;by_cases bq:k<s.size
   ·have Rm:Hid ((s.data.toList.take (k+1)).all Pl.cM=Pl.cM s[k]):=by show _=_;rw[Pl.jI _ _ _ bq,HA.out];rfl
    have TH:Hid (Pl.cM s[k]=false→Pl.bE s=false):=fun h=>by simp[Pl.bE,Pl.nameBytes,Pl.all_false _ s k bq h]
    obtain⟨b,gY⟩:∃ b,b=s[k]:=⟨_,rfl⟩
    have lE:s[k]=b:=gY.symm;clear gY;rw[lE]at Rm TH;go_wp2
    all_goals simp only[Bool.not_eq_eq_eq_not,Bool.not_true,Bool.not_false,beq_iff_eq,beq_eq_false_iff_ne,decide_eq_true_eq,decide_eq_false_iff_not]at*
    all_goals first
     |(have hn:Pl.cM b=false:=by rw[Yl];simp[Pl.cM];omega
       go_ret;exact⟨Pl.ar (TH.out hn).symm,rfl⟩)
     |(have hn:Pl.cM b=true:=by simp[Pl.cM];omega
       go_round
       case rel=>exact⟨k+1,by omega,by go_num,by rw[Rm.out,hn]⟩
       case measure=>simp[intOf];omega)
   ·have HF:Hid (Pl.bE s=true):=by
     show Pl.bE s=true;have:=Pl.oy Pl.cM s k (by omega);simp only[Pl.bE,Pl.nameBytes,← this,HA.out];simp;omega
    go_wp2;go_ret;exact⟨Pl.ar HF.out.symm,rfl⟩
 ·have HF:Hid (Pl.bE s=false):=by
   show Pl.bE s=false;have:(decide (1≤s.size)&&decide (s.size≤20))=false:=by
    rw[Yl];simp;omega
   simp[Pl.bE,this]
  have hb:(decide ((1:Int)≤(s.size:Int))&&decide ((s.size:Int)≤20))=false:=by
   rw[Yl];simp;omega
  clear iN;go_enter Tryz.func42,Tryz.ntmps42
  go_wp2_with (go_at_call 61;refine(lh _ _ _ _).mono ?_;rintro e w' ⟨rfl,rfl⟩)
  go_ret;exact⟨Pl.ar HF.out.symm,rfl⟩
theorem j8 (s:ByteArray) (w:World) (hs:s.size≤maxLen):
  Calls Tryz.prog 82 #[.string s] w fun e w'=>e=.returned (.bool (Pl.ep s))∧Bel w w':=by
 unfold maxLen at hs;by_cases iN:1≤s.size∧s.size≤7
 ·obtain⟨h1,h7⟩:=iN;have hb:(decide ((1:Int)≤(s.size:Int))&&decide ((s.size:Int)≤7))=true:=by simp;omega
  go_enter Tryz.func82,Tryz.ntmps82
  go_wp2_with (go_at_call 61;refine(lh _ _ _ _).mono ?_;rintro e w' ⟨rfl,rfl⟩)
  go_loop [3,4] (fun n i=>∃ k:Nat,k≤s.size∧i=.int .i64 k∧n=.int .i64 (Pl.bx (s.data.toList.take k))∧(s.data.toList.take k).all Pl.digit=true) (fun _ i=>s.size - (intOf i).toNat)
  case atStart=>exact⟨0,zN,rfl,rfl,rfl⟩
  case round=>
   obtain⟨k,hk,rfl,rfl,bA⟩:=hrel;have nU:=Pl.nF s k hk (by omega) bA;obtain⟨b1,b2⟩:=nU;have HA:Hid ((s.data.toList.take k).all Pl.digit=true):=bA;clear bA;by_cases bq:k<s.size
   ·have HS:Hid (Pl.bx (s.data.toList.take (k+1))=Pl.bx (s.data.toList.take k)*10+((s[k].toNat:Int) - 48)):=Pl.kW s k bq;by_cases hd:48≤(s[k].toNat:Int)∧(s[k].toNat:Int)≤57
    ·obtain⟨d1,d2⟩:=hd;have d3:¬ (s[k].toNat:Int)<48:=by omega
     have d4:¬ (57:Int)<(s[k].toNat:Int):=by omega
     go_wp2;go_round
     case rel=>exact⟨k+1,by omega,by go_num,by first|(rw[HS.out];go_num)|rw[HS.out],by rw[Pl.jI _ _ _ bq,HA.out];simp[Pl.digit];omega⟩
     case measure=>simp[intOf];omega
    ·have HF:Hid (Pl.ep s=false):=by
      show Pl.ep s=false;have:s.data.toList.all Pl.digit=false:=Pl.all_false _ s k bq (by rw[Yl];simp[Pl.digit];omega);simp[Pl.ep,Pl.eQ,this]
     by_cases Uh:(s[k].toNat:Int)<48
     ·go_wp2;go_ret;exact⟨Pl.ar HF.out.symm,zR⟩
     ·have hd2:(57:Int)<(s[k].toNat:Int):=by omega
      go_wp2;go_ret;exact⟨Pl.ar HF.out.symm,zR⟩
   ·have e:s.data.toList.take k=s.data.toList:=Xp (by simp;omega);rw[e]at HA b1 b2;rw[e];have To:=uh (Pl.NM s h1 HA.out);have jl:Hid (Pl.ep s=((!Pl.lead s)&&decide (Pl.bx s.data.toList≤1000000))):=by
     show _=_;simp[Pl.ep,Pl.eQ,HA.out,h1,h7]
    obtain⟨v,hv⟩:∃ v,v=(Pl.bx s.data.toList).toNat:=⟨_,rfl⟩
    have Px:Pl.bx s.data.toList=(v:Int):=by omega
    rw[Px]at jl To;rw[Px];have iH:v≤1000000000:=by omega
    have HC:=uh (fun W=>Fu v iH W);obtain⟨L,hL⟩:∃ L,L=Pl.lead s:=⟨_,rfl⟩
    rw[← hL]at jl To;have hT:((⟨(Lib.decDigits v).toArray⟩:ByteArray).toList==s.toList)= !L:=by
     rw[Pl.tl,Pl.tl];simpa using To.out
    obtain⟨D,hD⟩:∃ D:ByteArray,D=⟨(Lib.decDigits v).toArray⟩:=⟨_,rfl⟩
    rw[← hD]at HC hT;clear hD hL Px hv e b1 b2 HA To;cases L
    ·have KW:(D.toList==s.toList)=true:=hT;clear hT;go_wp2_with (go_at_call 20;refine(HC.out _).mono ?_;rintro e w' ⟨rfl,jo⟩)
     go_ret;exact⟨Pl.ar (by rw[jl.out];simp),jo⟩
    ·have KW:(D.toList==s.toList)=false:=hT;clear hT;have HF:Hid (Pl.ep s=false):=by show _=_;rw[jl.out];rfl
     go_wp2_with (go_at_call 20;refine(HC.out _).mono ?_;rintro e w' ⟨rfl,jo⟩)
     go_ret;exact⟨Pl.ar HF.out.symm,jo⟩
 ·have HF:Hid (Pl.ep s=false):=by
   show Pl.ep s=false;have:(decide (1≤s.size)&&decide (s.size≤7))=false:=by
    rw[Yl];simp;omega
   simp[Pl.ep,Pl.eQ,this]
  have hb:(decide ((1:Int)≤(s.size:Int))&&decide ((s.size:Int)≤7))=false:=by
   rw[Yl];simp;omega
  clear iN;go_enter Tryz.func82,Tryz.ntmps82
  go_wp2_with (go_at_call 61;refine(lh _ _ _ _).mono ?_;rintro e w' ⟨rfl,rfl⟩)
  go_ret;exact⟨Pl.ar HF.out.symm,zR⟩
theorem NI (s:ByteArray) (h:0<s.size):(s.data.toList.headD 0==45)=((s[0].toNat:Int)==45):=by
 rw[Pl.p7 s h,Pl.rE];rfl
theorem Cr (s:ByteArray) (w:World) (hs:s.size≤maxLen):
  Calls Tryz.prog 59 #[.int .i64 2,.string s] w fun e w'=>e=.returned (.bool (Pl.fA 2 s))∧Bel w w':=by
 have HF:Hid (Pl.fA 2 s=Pl.tK s):=by show _=_;unfold Pl.fA;rw[if_neg (by decide),if_pos rfl]
 have ld:=uh (fun W=>j8 s W hs);have LV:(s.extract 1 s.size).size≤maxLen:=by rw[Yb];omega
 have kY:=uh (fun W=>j8 (s.extract 1 s.size) W LV);have D1:Hid (Pl.tK s=(Pl.ep s||(decide (1<s.size)&&(s.data.toList.headD 0==45)&& !((s.extract 1 s.size).toList==[48])&&Pl.ep (s.extract 1 s.size)))):=rfl;unfold maxLen at hs;obtain⟨n1,il⟩:∃ n,n=Pl.ep s:=⟨_,rfl⟩
 obtain⟨n2,y9⟩:∃ n,n=Pl.ep (s.extract 1 s.size):=⟨_,rfl⟩
 rw[← il]at ld D1;rw[← y9]at kY D1;clear il y9 LV;cases n1
 rotate_left
 ·go_enter Tryz.func59,Tryz.ntmps59
  go_wp2_with (go_at_call 82;refine(ld.out _).mono ?_;rintro e w' ⟨rfl,hb⟩)
  go_ret;exact⟨Pl.ar (by rw[HF.out,D1.out];rfl),hb⟩
 by_cases h1:1<s.size
 rotate_left
 ·go_enter Tryz.func59,Tryz.ntmps59
  go_wp2_with (go_at_call 82;refine(ld.out _).mono ?_;rintro e w' ⟨rfl,hb⟩)
  go_ret;exact⟨Pl.ar (by rw[HF.out,D1.out];simp[h1]),hb⟩
 have HH:=uh (NI s (by omega));obtain⟨X,hX⟩:∃ X,X=s.extract 1 s.size:=⟨_,rfl⟩
 have hXx:s.extract 1 s.size=X:=hX.symm;rw[hXx]at kY D1;clear hX;cases Pq:((s[0].toNat:Int)==45)
 ·go_enter Tryz.func59,Tryz.ntmps59
  go_wp2_with (go_at_call 82;refine(ld.out _).mono ?_;rintro e w' ⟨rfl,hb⟩)
  go_ret;exact⟨Pl.ar (by rw[HF.out,D1.out,HH.out,Pq];simp),hb⟩
 cases h0:(X.toList==[48])
 rotate_left
 ·have h0':(X.toList !=[48])=false:=by rw[bne,h0];rfl
  go_enter Tryz.func59,Tryz.ntmps59
  go_wp2_with (go_at_call 82;refine(ld.out _).mono ?_;rintro e w' ⟨rfl,hb⟩)
  go_ret;exact⟨Pl.ar (by rw[HF.out,D1.out,h0];simp),hb⟩
 have h0':(X.toList !=[48])=true:=by rw[bne,h0];rfl
 go_enter Tryz.func59,Tryz.ntmps59
 go_wp2_with fail
 refine(ld.out _).mono ?_;rintro e w1 ⟨rfl,cr⟩;go_wp2_with fail
 refine(kY.out _).mono ?_;rintro e w2 ⟨rfl,dD⟩;go_wp2;go_ret;exact⟨Pl.ar (by rw[HF.out,D1.out,HH.out,Pq,h0];simp[h1]),ae cr dD⟩
theorem Gg (t:Int) (s:ByteArray) (w:World) (hs:s.size≤maxLen):
  Calls Tryz.prog 59 #[.int .i64 t,.string s] w fun e w'=>e=.returned (.bool (Pl.fA t s))∧Bel w w':=by
 by_cases t2:t=2
 ·subst t2;exact Cr s w hs
 have e2:(t==2)=false:=by simpa using t2
 by_cases t1:t=1
 ·subst t1;have HF:Hid (Pl.ep s=Pl.fA 1 s):=by show _=_;unfold Pl.fA;rw[if_pos rfl]
  clear e2;go_enter Tryz.func59,Tryz.ntmps59
  go_wp2_with (go_at_call 82;refine(j8 _ _ hs).mono ?_;rintro e w' ⟨rfl,hb⟩)
  go_ret;exact⟨Pl.ar HF.out,hb⟩
 have e1:(t==1)=false:=by simpa using t1
 by_cases t3:t=3
 ·subst t3;have HF:Hid (Pl.bE s=Pl.fA 3 s):=by show _=_;unfold Pl.fA;rw[if_neg (by decide),if_neg (by decide),if_pos rfl]
  clear e1 e2;go_enter Tryz.func59,Tryz.ntmps59
  go_wp2_with (go_at_call 42;refine(mC _ _ hs).mono ?_;rintro e w' ⟨rfl,rfl⟩)
  go_ret;exact⟨Pl.ar HF.out,zR⟩
 have e3:(t==3)=false:=by simpa using t3
 by_cases t5:t=5
 ·subst t5;have HF:Hid (((s.toList==[121,101,115])||(s.toList==[110,111]))=Pl.fA 5 s):=by show _=_;unfold Pl.fA;rw[if_neg (by decide),if_neg (by decide),if_neg (by decide),if_pos rfl]
  clear e1 e2 e3;cases y:(s.toList==[121,101,115])
  all_goals
   rw[y]at HF;go_enter Tryz.func59,Tryz.ntmps59
   go_wp2;go_ret;exact⟨Pl.ar (by first|exact HF.out|(rw[← HF.out];simp)),zR⟩
 have e5:(t==5)=false:=by simpa using t5
 by_cases t6:t=6
 ·subst t6;have HF:Hid (((s.toList==[110,111,110,101])||(s.toList==[98,101,114,116,104])||(s.toList==[122,111,110,101]))=Pl.fA 6 s):=by show _=_;unfold Pl.fA;rw[if_neg (by decide),if_neg (by decide),if_neg (by decide),if_neg (by decide),if_pos rfl]
  clear e1 e2 e3 e5;cases y1:(s.toList==[110,111,110,101])
  all_goals cases y2:(s.toList==[98,101,114,116,104])
  all_goals
   rw[y1,y2]at HF;go_enter Tryz.func59,Tryz.ntmps59
   go_wp2;go_ret;exact⟨Pl.ar (by first|exact HF.out|(rw[← HF.out];simp)),zR⟩
 have e6:(t==6)=false:=by simpa using t6
 have HF:Hid (decide (s.size≤200)=Pl.fA t s):=by show _=_;unfold Pl.fA;rw[if_neg t1,if_neg t2,if_neg t3,if_neg t5,if_neg t6]
 unfold maxLen at hs;clear t1 t2 t3 t5 t6;go_enter Tryz.func59,Tryz.ntmps59
 go_wp2;go_ret;exact⟨Pl.ar (by rw[← HF.out,XB];simp<;>omega),zR⟩
theorem BP (r:Pl.Ru):(ruD r).length=4:=rfl
theorem gD {W:World} {l:List Pl.Ru} {v:Value} (h:Raw W [.row 75 aB] [bV l] [v]) {k:Nat} (hk:k<l.length):∃ p o c a1 c1 v3,v=.slice (some ⟨p,o,none⟩) l.length c∧p<W.heap.size∧W.rangeAt p (o+k*4) [.string (l.getD k Pl.bu).key,.slice a1 (l.getD k Pl.bu).args.length c1,.bool (l.getD k Pl.bu).many,v3]∧Raw W [.row 3 [.i]] [.row (l.getD k Pl.bu).args.length ((l.getD k Pl.bu).args.map .i)] [.slice a1 (l.getD k Pl.bu).args.length c1]∧Raw W [.row 9 [.s]] [.row (l.getD k Pl.bu).dflt.length (txD (l.getD k Pl.bu).dflt)] [v3]:=by
 rcases h.slice with⟨e0,_⟩|⟨p,o,c,hv,hp,_,vs,hr,hR⟩
 ·omega
 ·obtain⟨ve,hE,hg⟩:=hR.el hk hr;have e:el aB.length k (l.flatMap ruD)=ruD (l.getD k Pl.bu):=jT Pl.bu ruD 4 BP l k hk;rw[e]at hE;obtain⟨v1,v3,hc,r1,r3⟩:=uU hE;subst hc;obtain⟨a1,c1,h1⟩:=r1.aT;subst h1;exact⟨p,o,c,a1,c1,v3,hv,hp,hg,r1,r3⟩
theorem kT (kind key:ByteArray) (w:World):
  Calls Tryz.prog 39 #[.string kind,.string key] w fun e w'=>e=.returned (.int .i64 (Pl.ixI (Pl.bP (Pl.ah kind) key)))∧Bel w w':=by
 have HC:=uh (fun W=>dW kind W);obtain⟨l,hl⟩:∃ l,l=Pl.ah kind:=⟨_,rfl⟩
 have Is:l.length≤100:=by
  rw[hl];unfold Pl.ah;split
  ·decide
  ·split
   ·decide
   ·split<;>decide
 rw[← hl]at HC ⊢;clear hl;go_enter Tryz.func39,Tryz.ntmps39
 go_wp2_with fail
 refine(HC.out _).mono ?_;rintro e w1 ⟨v,F,rfl,hr,nd,lo,hb⟩;have HR:=uh hr.raw;have HB:=uh hb;obtain⟨va,vc,hv⟩:=hr.raw.aT;subst hv;clear hr nd lo hb HC;go_wp2;go_loop [6] (fun i=>∃ k:Nat,k≤l.length∧i=.int .i64 k∧Pl.bP l key=Pl.fp key (l.drop k) k) (fun i=>l.length - (intOf i).toNat)
 case atStart=>exact⟨0,zN,rfl,rfl⟩
 case round=>
  obtain⟨k,hk,rfl,hI⟩:=hrel;have HI:=uh hI;clear hI;by_cases bq:k<l.length
  ·obtain⟨p,o,c,a1,c1,v3,hv,hp,hg,_,_⟩:=gD HR.out bq;injection hv with e1 _ e3
   subst e1;subst e3;have y0:w1.cell? ⟨p,o+k*4,none⟩=some (.string (l.getD k Pl.bu).key):=aF hg 0 _ rfl;have cZ:(0:Int)≤(k:Int):=by omega
   have dy:(k:Int)<(l.length:Int):=by omega
   have HM:=uh (fun h=>Pl.ui bq HI.out h);have HH:=uh (fun h=>Pl.yC bq HI.out h);obtain⟨x,hx⟩:∃ x,x=(l.getD k Pl.bu).key:=⟨_,rfl⟩
   rw[← hx]at y0 HM HH;clear hx hg;cases hq:(x.toList==key.toList)
   ·have HX:=uh (HM.out hq);go_wp2;go_round
    case rel=>exact⟨k+1,by omega,by go_num,HX.out⟩
    case measure=>simp[intOf];omega
   ·have HX:Hid ((k:Int)=Pl.ixI (Pl.bP l key)):=by show _=_;rw[HH.out hq];rfl
    go_wp2;go_ret;exact⟨Pl.dj HX.out,HB.out⟩
  ·obtain rfl:k=l.length:=by omega
   have HX:Hid (-1=Pl.ixI (Pl.bP l key)):=by show _=_;rw[Pl.yf HI.out];rfl
   go_wp2;go_ret;exact⟨Pl.dj HX.out,HB.out⟩
def VFi (va vb:Value) (p1 o1 p2 o2 k:Nat) (z:Int) (x:ByteArray) (b:Bool) (jj:Nat) (u:Value) (_:World):Prop:=match jj with
 |0=>u=va
 |1|5=>u=.int .i64 (k:Int)
 |2=>u=.pointer (some ⟨p1,o1+k,none⟩)
 |3=>u=.int .i64 z
 |4=>u=vb
 |6=>u=.pointer (some ⟨p2,o2+k,none⟩)
 |7=>u=.string x
 |8=>u=.bool b
 |9=>u=.bool (!b)
 |_=>True
theorem Hs (va vb:Value) (p1 o1 p2 o2 k:Nat) (z:Int) (x:ByteArray) (b:Bool):∀ j u W W',Bel W W'→VFi va vb p1 o1 p2 o2 k z x b j u W→VFi va vb p1 o1 p2 o2 k z x b j u W':=by
 intro j u W W' hb h;match j with
 |0|1|2|3|4|5|6|7|8|9=>exact h
 |n+10=>exact trivial
theorem qL (kind key:ByteArray) (ws:List ByteArray) (wv:Value) (w:World) (hw:Raw w [.row 9 [.s]] [.row ws.length (txD ws)] [wv]) (hs:∀ x∈ws,x.size≤maxLen):
  Calls Tryz.prog 40 #[.string kind,.string key,wv] w fun e w'=>e=.returned (.bool (Pl.bH kind key ws))∧Bel w w':=by
 have HW:=uh hw;have jQ:=uh hs;obtain⟨Pm,JO,Wr⟩:=hw.aT;subst Wr;have lH:=uh (fun W=>kT kind key W);have HC:=uh (fun W=>dW kind W);have HF:Hid (Pl.bH kind key ws=match Pl.bP (Pl.ah kind) key with
   |none=>false
   |some j=>Pl.jH ((Pl.ah kind).getD j Pl.bu).args ws):=rfl
 obtain⟨l,hl⟩:∃ l,l=Pl.ah kind:=⟨_,rfl⟩
 rw[← hl]at HC lH HF;clear hl hw hs;cases lE:Pl.bP l key with
 |none=>
  rw[lE]at lH HF;have hm:Pl.ixI none= -1:=rfl;rw[hm]at lH;clear hm;go_enter Tryz.func40,Tryz.ntmps40
  go_wp2_with (go_at_call 39;refine(lH.out _).mono ?_;rintro e w1 ⟨rfl,hb⟩)
  go_ret;exact⟨Pl.ar HF.out.symm,hb⟩
 |some j=>
  have hj:=Pl.iV lE;rw[lE]at lH HF;have hm:Pl.ixI (some j)=(j:Int):=rfl;rw[hm]at lH;clear hm lE;have DW:¬ (j:Int)<0:=by omega
  have OE:(0:Int)≤(j:Int):=by omega
  have lR:(j:Int)<(l.length:Int):=by omega
  go_enter Tryz.func40,Tryz.ntmps40
  go_wp2_with fail
  refine(lH.out _).mono ?_;rintro e w1 ⟨rfl,cr⟩;go_wp2_with fail
  refine(HC.out _).mono ?_;rintro e w2 ⟨v,F,rfl,hr,nd,lo,dD⟩;obtain⟨p,o,c,a1,c1,v3,hv,hp,hg,hA,_⟩:=gD hr.raw hj;subst hv;have y1:w2.cell? ⟨p,o+j*4+1,none⟩=some (.slice a1 (l.getD j Pl.bu).args.length c1):=aF hg 1 _ rfl;have HA:=uh hA;have HB:Hid (Bel w w2):=ae cr dD;obtain⟨ag,has⟩:∃ ag,ag=(l.getD j Pl.bu).args:=⟨_,rfl⟩
  have PR:Hid (Pl.bH kind key ws=Pl.jH ag ws):=by show _=_;rw[HF.out,has]
  rw[← has]at y1 HA;clear has hr nd lo cr dD hg hA HC lH HF;by_cases hlen:ag.length=ws.length
  rotate_left
  ·have dr:((ag.length:Int) !=(ws.length:Int))=true:=by simp;omega
   have HX:Hid (Pl.bH kind key ws=false):=by show _=_;rw[PR.out,Pl.jH];simp[hlen]
   clear hlen;go_wp2;go_ret;exact⟨Pl.ar HX.out.symm,HB.out⟩
  have HX:Hid (Pl.bH kind key ws=Pl.gO ag ws):=by show _=_;rw[PR.out,Pl.jH];simp[hlen]
  rw[hlen]at y1 HA;obtain⟨n,hn⟩:∃ n,n=ws.length:=⟨_,rfl⟩
  have wD:Hid (Raw w2 [.row 9 [.s]] [.row n (txD ws)] [.slice Pm n JO]):=by show Raw _ _ _ _;rw[hn];exact HW.out.later HB.out
  rw[← hn]at y1 HA hlen ⊢;have kC:Hid (ag.length=n∧ws.length=n):=⟨hlen,hn.symm⟩
  have dr:((n:Int) !=(n:Int))=false:=by simp
  clear hn hlen PR HW;go_wp2;go_loopw [9] (fun i wr=>∃ k:Nat,k≤n∧i=.int .i64 k∧Bel w2 wr∧Pl.gO ag ws=Pl.gO (ag.drop k) (ws.drop k)) (fun i _=>n - (intOf i).toNat)
  case atStart=>exact⟨0,zN,rfl,zR,rfl⟩
  case round=>
   obtain⟨k,hk,rfl,PM,hI⟩:=hrel;have KV:=uh PM;have HI:=uh hI;clear PM hI y1;by_cases bq:k<n
   rotate_left
   ·obtain rfl:k=n:=by omega
    have HE:Hid (Pl.bH kind key ws=true):=by
     show _=_;rw[HX.out,HI.out,Xz (by have:=kC.out.1;omega),Pl.gO];intro _ _ _ _ h;cases h
    go_wp2;go_ret;exact⟨Pl.ar HE.out.symm,ae HB.out KV.out⟩
   have HS:=uh (@Pl.wU ag ws k (by have:=kC.out.1;omega) (by have:=kC.out.2;omega));obtain⟨z,hz⟩:∃ z,z=ag.getD k 0:=⟨_,rfl⟩
   obtain⟨x,hx⟩:∃ x,x=ws.getD k ⟨#[]⟩:=⟨_,rfl⟩
   have LV:x.size≤maxLen:=by
    have Ew:k<ws.length:=by have:=kC.out.2;omega
    have e:ws.getD k ⟨#[]⟩=ws[k]:=by simp[Ew]
    rw[hx,e];exact jQ.out _ (Xq Ew)
   have nN:=uh (fun W=>Gg z x W LV);rcases(HA.out.later KV.out).slice with⟨e0,_⟩|⟨p1,o1,c1',h9,P9,_,vs1,jO,Lk⟩
   ·omega
   rcases(wD.out.later KV.out).slice with⟨e0,_⟩|⟨p2,o2,WL,iH,tA,dR,vs2,k4,mR⟩
   ·omega
   have Eh:=dR.1;unfold maxLen at Eh;clear dR;injection h9 with g1 _ g3
   injection iH with k1 _ k3
   subst g1;subst g3;subst k1;subst k3;obtain⟨ve1,Re,iu⟩:=Lk.el bq jO;obtain⟨ve2,yT,pV⟩:=mR.el bq k4;have IE:el 1 k (ag.map Dt.i)=[.i z]:=by rw[hz];exact nI 0 Dt.i ag k (by have:=kC.out.1;omega)
   have Iw:el 1 k (txD ws)=[.s x]:=by rw[hx];exact nI ⟨#[]⟩ Dt.s ws k (by have:=kC.out.2;omega)
   have Ih:Raw wr [.i] [.i z] ve1:=by rw[← IE];exact Re
   have IB:Raw wr [.s] [.s x] ve2:=by rw[← Iw];exact yT
   obtain rfl:=L8 Ih;obtain rfl:=EX IB;have y1:wr.cell? ⟨p1,o1+k,none⟩=some (.int .i64 z):=by have:=aF iu 0 _ rfl;simpa using this
   have y2:wr.cell? ⟨p2,o2+k,none⟩=some (.string x):=by have:=aF pV 0 _ rfl;simpa using this
   have HK:Hid (wr.cell? ⟨p1,o1+k,none⟩=some (.int .i64 z)∧wr.cell? ⟨p2,o2+k,none⟩=some (.string x)∧p1<wr.heap.size∧p2<wr.heap.size):=⟨y1,y2,P9,tA⟩
   rw[← hz,← hx]at HS;obtain⟨b,dG⟩:∃ b,b=Pl.fA z x:=⟨_,rfl⟩
   rw[← dG]at HS;have HC:Hid (∀ W,Calls Tryz.prog 59 #[.int .i64 z,.string x] W fun e w'=>e=.returned (.bool b)∧Bel W w'):=by rw[dG];exact nN.out
   have cZ:(0:Int)≤(k:Int):=by omega
   have dy:(k:Int)<(n:Int):=by omega
   clear Lk mR jO k4 Re yT Ih IB IE Iw iu pV hz hx dG nN y1 y2 P9 tA LV;go_upto_region 10 with fail
   refine RY.bs wr zR (VFi (.slice (some ⟨p1,o1,none⟩) n c1) (.slice (some ⟨p2,o2,none⟩) n JO) p1 o1 p2 o2 k z x b) (Hs _ _ _ _ _ _ _ _ _ _) (by kernel_rfl) (by kernel_rfl) (by kernel_rfl) (by kernel_rfl) ?_ ?_
   ·intro i o' ho a X hX hk hd;have ya:X.cell? ⟨p1,o1+k,none⟩=some (.int .i64 z):=(hX.cell (p:=⟨p1,o1+k,none⟩) HK.out.2.2.1).trans HK.out.1;have yb:X.cell? ⟨p2,o2+k,none⟩=some (.string x):=(hX.cell (p:=⟨p2,o2+k,none⟩) HK.out.2.2.2).trans HK.out.2.1;match i,ho with
    |0,rfl=>
     exact RY.p (.slice (some ⟨p1,o1,none⟩) n c1) (by simp[execOp,go_sem,RY.K hk 8 (.slice (some ⟨p1,o1,none⟩) n c1)])
    |1,rfl|5,rfl=>
     exact RY.p (.int .i64 (k:Int)) (by simp[execOp,go_sem,RY.K hk 9 (.int .i64 (k:Int))])
    |2,rfl=>
     exact RY.p (.pointer (some ⟨p1,o1+k,none⟩)) (by simp[execOp,go_sem,RY.E hd 0 32,RY.E hd 1 33,cZ,dy])
    |3,rfl=>
     exact RY.p (.int .i64 z) (by simp[execOp,go_sem,RY.E hd 2 34,ya])
    |4,rfl=>
     exact RY.p (.slice (some ⟨p2,o2,none⟩) n JO) (by simp[execOp,go_sem,RY.K hk 2 (.slice (some ⟨p2,o2,none⟩) n JO)])
    |6,rfl=>
     exact RY.p (.pointer (some ⟨p2,o2+k,none⟩)) (by simp[execOp,go_sem,RY.E hd 4 36,RY.E hd 5 37,cZ,dy])
    |7,rfl=>
     exact RY.p (.string x) (by simp[execOp,go_sem,RY.E hd 6 38,yb])
    |8,rfl=>
     have e35:=RY.E hd 3 35;have e39:=RY.E hd 7 39;refine Xk ⟨59,#[.int .i64 z,.string x],by simp[go_sem,e35,e39],(HC.out X).mono ?_⟩;rintro e W' ⟨rfl,hb⟩;exact⟨_,rfl,hb,rfl⟩
    |9,rfl=>
     exact RY.p (.bool (!b)) (by simp[execOp,go_sem,RY.E hd 8 40])
    |n+10,ho=>simp at ho
   intro X vs hX bn;have q41:vs 41=_:=bn 9 _ 41 rfl rfl;simp only[RY.aC,Act.put,so,As,An];rw[q41];generalize vs 32=pS,vs 33=pY,vs 34=qo,vs 35=nP,vs 36=mU,vs 37=nS,vs 38=mT,vs 39=nW,vs 40=s40;clear bn q41;replace KV:=uh (ae KV.out hX)
   clear hX HK;cases b
   ·have HE:Hid (Pl.bH kind key ws=false):=by show _=_;rw[HX.out,HI.out,HS.out];rfl
    go_wp2;go_ret;exact⟨Pl.ar HE.out.symm,ae HB.out KV.out⟩
   ·have HN:Hid (Pl.gO ag ws=Pl.gO (ag.drop (k+1)) (ws.drop (k+1))):=by show _=_;rw[HI.out,HS.out];rfl
    go_wp2;go_roundw
    case rel=>exact⟨k+1,by omega,by go_num,KV.out,HN.out⟩
    case measure=>simp[intOf];omega
namespace RY
def Bz (l:List Oper) (n:Nat):Bool:=l.all fun o=>match o.dst with
 |some k=>decide (k<n)
 |none=>true
theorem rm {l:List Oper} {n:Nat} (h:Bz l n=true) {i:Nat} {o:Oper} (hi:l[i]? =some o):∀ k,o.dst=some k→k<n:=by
 unfold Bz at h;rw[Xu]at h;have:=h o (Xx hi);intro k hk;rw[hk]at this;simpa using this
theorem mz.stepG {l:List Oper} {a0:Act} {C:Array Bool→World→Prop} {V:Nat→Value→World→Prop} {L:Array Bool} {a:Act} {W:World} (h:mz l a0 C V L a W) (hap:ek l=true) (eH:Bz l a0.tmps.size=true) {i:Nat} {o:Oper} {u:Value} {W':World} (ho:l[i]? =some o) (hi:L.getD i true=false) (hC:C (L.setIfInBounds i true) W') (hm:∀ j v,V j v W→V j v W') (hV:o.dst.isSome=true→V i u W'):
  mz l a0 C V (L.setIfInBounds i true) (a.put o.dst u) W':=by
 cases hd:o.dst with
 |none=>
  refine⟨by simp[h.len],hC,h.df,h.sz,fun k hk=>h.old k fun j o' hj hj'=> ?_,fun j o' k hj hj' hl=> ?_⟩
  ·have:=hk j o' hj hj';cases e:L.getD j false
   ·rfl
   ·rw[eI e]at this;cases this
  ·rcases mZ hl with rfl|hl
   ·rw[ho]at hj;injection hj with hj;subst hj;rw[hd]at hj';cases hj'
   ·exact hm _ _ (h.new j o' k hj hj' hl)
 |some q=>
  have hq:q<a.tmps.size:=by rw[h.sz];exact rm eH ho q hd
  refine⟨by simp[h.len],hC,h.df,by rw[nG];exact h.sz,fun k hk=> ?_,fun j o' k hj hj' hl=> ?_⟩
  ·have dr:q≠k:=by
    intro e;subst e;have:=hk i o ho hd;rw[r8 hi]at this;cases this
   rw[jv _ _ _ _ dr];refine h.old k fun j o' hj hj'=> ?_;have:=hk j o' hj hj';cases e:L.getD j false
   ·rfl
   ·rw[eI e]at this;cases this
  ·by_cases e:q=k
   ·subst e;obtain rfl:=apart_spec hap ho hj hd hj';rw[ny _ _ _ hq];exact hV (by rw[hd];rfl)
   ·rw[jv _ _ _ _ e];rcases mZ hl with rfl|hl
    ·rw[ho]at hj;injection hj with hj;subst hj;rw[hd]at hj';injection hj' with hj';exact absurd hj' e
    ·exact hm _ _ (h.new j o' k hj hj' hl)
theorem bg {l:List Oper} {a:Act} {o oj:Oper} {j k:Nat} {b p:Bool} (hg:o.guard=some (j,p)) (hj:l[j]? =some oj) (hd:oj.dst=some k) (hv:a.eval (.tmp k)=.bool b):Region.wanted o (yielded l.toArray a.tmps)=(b==p):=by
 have ht:a.tmps[k]? =some (.bool b):=by
  have h1:a.tmps[k]?.getD undef=.bool b:=by simpa [Act.eval]using hv
  cases e:a.tmps[k]? with
  |none=>rw[e]at h1;cases h1
  |some v=>rw[e]at h1;exact congrArg some h1
 have hy:yielded l.toArray a.tmps j=some b:=by
  unfold yielded;rw[List.getElem?_toArray,hj];simp[hd,ht]
 unfold Region.wanted;rw[hg];simp only[hy];cases b<;>cases p<;>rfl
theorem DE {l:List Oper} {a:Act} {o oj:Oper} {j k:Nat} {p:Bool} (hg:o.guard=some (j,p)) (hj:l[j]? =some oj) (hd:oj.dst=some k) (hv:a.eval (.tmp k)=undef):Region.wanted o (yielded l.toArray a.tmps)=false:=by
 have hy:yielded l.toArray a.tmps j=none:=by
  unfold yielded;rw[List.getElem?_toArray,hj];have h1:a.tmps[k]?.getD undef=undef:=by simpa [Act.eval]using hv
  cases e:a.tmps[k]? with
  |none=>simp[hd,e]
  |some v=>rw[e]at h1;simp only[Option.getD_some]at h1;subst h1;simp[hd,e,undef]
 unfold Region.wanted;rw[hg];simp only[hy];cases p<;>rfl
theorem cG {o:Oper} {y:Nat→Option Bool} (hg:o.guard=none):Region.wanted o y=true:=by
 unfold Region.wanted;rw[hg]
theorem wZ {P:Program} {ops:Array Oper} {Q:Exit→Act→World→Prop} {i:Nat} {K:Act→World→Prop} {a:Act} {w w':World} {o:Oper} {v:Value} (ho:ops[i]? =some o) (hw:Region.wanted o (yielded ops a.tmps)=true)
  (hr:(execOp a.eval o).run P w=.ok (.value v) w') (hk:K (a.put o.dst v) w'):wpOp P ops Q i K a w:=by
 simp only[wpOp,ho,hw,if_true];left;simp only[Oper.wp,hr,Oper.upon];exact hk
theorem xV {P:Program} {ops:Array Oper} {Q:Exit→Act→World→Prop} {i:Nat} {K:Act→World→Prop} {a:Act} {w:World} {o:Oper} {f:FuncId} {args:Array Value} (ho:ops[i]? =some o) (hw:Region.wanted o (yielded ops a.tmps)=true)
  (hr:(execOp a.eval o).run P w=.ok (.enter f args) w) (hk:Calls P f args w fun e w'=>∃ u,e=.returned u∧K (a.put o.dst u) w'):wpOp P ops Q i K a w:=by
 simp only[wpOp,ho,hw,if_true];left;simp only[Oper.wp,hr,Oper.upon];refine hk.mono ?_;rintro e w' ⟨u,rfl,h⟩;exact h
theorem off {V:Nat→Value→World→Prop} {l:List Oper} {o:Oper} {a:Act} {W:World} (hd:∀ (j:Nat) (o':Oper) (k:Nat),l[j]? =some o'→o'.dst=some k→(∃ e∈o.after,e.on=j∧Region.binds .any e=true)→V j (a.eval (.tmp k)) W)
  (j k:Nat) {o':Oper} {b p:Bool} {A B:Prop} (h1:l[j]? =some o':=by exact rfl) (h2:o'.dst=some k:=by exact rfl) (h3:∃ e∈o.after,e.on=j∧Region.binds .any e=true:=by decide) (hg:o.guard=some (j,p):=by exact rfl) (hv:V j (a.eval (.tmp k)) W=(a.eval (.tmp k)=.bool b):=by exact rfl) (hb:(b==p)=false:=by exact rfl) (hB:B:=by exact rfl):(Region.wanted o (yielded l.toArray a.tmps)=true∧A)∨(Region.wanted o (yielded l.toArray a.tmps)=false∧B):=
 .inr ⟨(bg hg h1 h2 (hv ▸ hd j o' k h1 h2 h3)).trans hb,hB⟩
theorem Ks {V:Nat→Value→World→Prop} {l:List Oper} {o:Oper} {a:Act} {W:World} (hd:∀ (j:Nat) (o':Oper) (k:Nat),l[j]? =some o'→o'.dst=some k→(∃ e∈o.after,e.on=j∧Region.binds .any e=true)→V j (a.eval (.tmp k)) W)
  (j k:Nat) {o':Oper} {p:Bool} {A B:Prop} (h1:l[j]? =some o':=by exact rfl) (h2:o'.dst=some k:=by exact rfl) (h3:∃ e∈o.after,e.on=j∧Region.binds .any e=true:=by decide) (hg:o.guard=some (j,p):=by exact rfl) (hv:V j (a.eval (.tmp k)) W=(a.eval (.tmp k)=undef):=by exact rfl) (hB:B:=by exact rfl):(Region.wanted o (yielded l.toArray a.tmps)=true∧A)∨(Region.wanted o (yielded l.toArray a.tmps)=false∧B):=
 .inr ⟨DE hg h1 h2 (hv ▸ hd j o' k h1 h2 h3),hB⟩
theorem on {V:Nat→Value→World→Prop} {l:List Oper} {o:Oper} {a:Act} {W:World} (hd:∀ (j:Nat) (o':Oper) (k:Nat),l[j]? =some o'→o'.dst=some k→(∃ e∈o.after,e.on=j∧Region.binds .any e=true)→V j (a.eval (.tmp k)) W)
  (j k:Nat) {o':Oper} {b p:Bool} {A B:Prop} (hA:A) (h1:l[j]? =some o':=by exact rfl) (h2:o'.dst=some k:=by exact rfl) (h3:∃ e∈o.after,e.on=j∧Region.binds .any e=true:=by decide) (hg:o.guard=some (j,p):=by exact rfl) (hv:V j (a.eval (.tmp k)) W=(a.eval (.tmp k)=.bool b):=by exact rfl) (hb:(b==p)=true:=by exact rfl):(Region.wanted o (yielded l.toArray a.tmps)=true∧A)∨B:=
 .inl ⟨(bg hg h1 h2 (hv ▸ hd j o' k h1 h2 h3)).trans hb,hA⟩
theorem aM {P:Program} {id:Nat} {Q:Exit→Act→World→Prop} {a0:Act} {w:World} {l:List Oper} (v:World) (hv:Bel v w) (V:Nat→Value→World→Prop) (hVm:∀ j u W W',Bel W W'→V j u W→V j u W') (hm:P.follows .mixedOrders=true)
  (hasc:asc .any l.toArray=true) (hap:ek l=true) (eH:Bz l a0.tmps.size=true)
  (ij:∀ (i:Nat) (o:Oper),l[i]? =some o→∀ (a:Act) (W:World),Bel v W→(∀ k,ew l k=true→a.eval (.tmp k)=a0.eval (.tmp k))→
   (∀ (j:Nat) (o':Oper) (k:Nat),l[j]? =some o'→o'.dst=some k→(∃ e∈o.after,e.on=j∧Region.binds .any e=true)→V j (a.eval (.tmp k)) W)→
   (Region.wanted o (yielded l.toArray a.tmps)=true∧OpR P V i o a W)∨(Region.wanted o (yielded l.toArray a.tmps)=false∧V i undef W))
  (hend:∀ (W:World) (vs:Nat→Value),Bel v W→(∀ (i:Nat) (o:Oper) (k:Nat),l[i]? =some o→o.dst=some k→V i (vs k) W)→Q .normal (aC l a0 vs) W):
  (Code.region id l.toArray true).wp P Q a0 w:=by
 refine wp_region_any hm ?_;refine iq (mz l a0 (fun _ W=>Bel v W) V) ?_ ?_ _ _ _ _ ?_ (gv.none _ (eh _)) ?_
 ·intro L a W i h hc hi;obtain⟨gS,o,wM,bA⟩:=mem_ready.1 hi;have ho:l[i]? =some o:=by simpa using wM
  rcases ij i o ho a W h.cw (fun k hk=>h.cO hk) (fun j o' k hj hk ⟨e,he,nT,hb⟩=>h.new j o' k hj hk (by rw[← nT];exact bA e he hb)) with⟨hw,hr⟩|⟨hw,hV⟩
  ·rcases hr with⟨u,W',hr,hb,hV⟩|⟨f,args,hr,hk⟩
   ·exact wZ wM hw hr (h.stepG hap eH ho gS (ae h.cw hb) (fun j x hx=>hVm j x W W' hb hx) (fun _=>hV))
   ·refine xV wM hw hr (hk.mono ?_);rintro e W' ⟨u,rfl,hb,hV⟩;exact⟨u,rfl,h.stepG hap eH ho gS (ae h.cw hb) (fun j x hx=>hVm j x W W' hb hx) (fun _=>hV)⟩
  ·simp only[wpOp,wM,hw,Yo,if_false];exact h.stepG hap eH ho gS h.cw (fun _ _ hx=>hx) (fun _=>hV)
 ·intro L a W h hr;have bA:∀ i,i<l.length→L.getD i false=true:=fun i hi=>rT hr hasc (by simpa using h.len) i (by simpa using hi);have e:a=aC l a0 (fun k=>a.eval (.tmp k)):=by
   have hs:∀ o∈l,∀ q,o.dst=some q→q<a0.tmps.size:=fun o ho q hq=>by
    obtain⟨i,hi⟩:=YQ ho;exact rm eH hi q hq
   refine nc (by rw[eK];exact h.df) (by rw[fP];exact h.sz) fun k=> ?_;rw[eX l a0 _ k hs];by_cases hk:∃ o∈l,o.dst=some k
   ·rw[if_pos hk]
   ·rw[if_neg hk];refine h.old k fun i o hi hd=>absurd ⟨o,Xx hi,hd⟩ hk
  have:=hend W (fun k=>a.eval (.tmp k)) h.cw (fun i o k hi hd=>h.new i o k hi hd (bA i (Xn.1 hi).1));rw[← e]at this;exact this
 ·refine⟨by simp,XF hv,rfl,rfl,fun _ _=>rfl,fun i o k hi _ hl=> ?_⟩;rw[eh]at hl;cases hl
 ·unfold left;exact Xg Yd (by simp)
end RY
theorem rX (A B:List ByteArray) (va vb:Value) (w:World) (hA:Raw w bm [.row A.length (txD A)] [va]) (hB:Raw w bm [.row B.length (txD B)] [vb]):
  Calls Tryz.prog 62 #[va,vb] w fun e w'=>e=.returned (.bool (Pl.du A B))∧Bel w w':=by
 have HA:=uh hA;have HB:=uh hB;obtain⟨aa,ca,ea⟩:=hA.aT;obtain⟨ab,cb,eb⟩:=hB.aT;subst ea;subst eb;clear hA hB;go_enter Tryz.func62,Tryz.ntmps62
 go_wp2;go_loopw [5] (fun i wr=>∃ k:Nat,k≤A.length∧k≤B.length∧i=.int .i64 k∧Bel w wr∧Pl.du A B=Pl.du (A.drop k) (B.drop k)) (fun i _=>A.length - (intOf i).toNat)
 case atStart=>exact⟨0,zN,zN,rfl,zR,rfl⟩
 case round=>
  obtain⟨k,D0,Aw,rfl,hW,hI⟩:=hrel;have HW:=uh hW;have HI:=uh hI;clear hW hI;by_cases h1:k<A.length
  rotate_left
  ·have HE:Hid (Pl.du A B=decide (A.length<B.length)):=by show _=_;rw[HI.out,Pl.tJ D0 Aw (No (by omega))]
   go_wp2;go_ret;exact⟨Pl.ar (by first|exact HE.out.symm|(rw[HE.out,XB];simp)),HW.out⟩
  by_cases h2:k<B.length
  rotate_left
  ·have HE:Hid (Pl.du A B=decide (A.length<B.length)):=by show _=_;rw[HI.out,Pl.tJ D0 Aw (Xk (by omega))]
   go_wp2;go_ret;exact⟨Pl.ar (by first|exact HE.out.symm|(rw[HE.out,XB];simp)),HW.out⟩
  rcases dK (HA.out.later HW.out) with⟨e0,_⟩|⟨p1,o1,c1,h9,P9,lO,AV⟩
  ·omega
  rcases dK (HB.out.later HW.out) with⟨e0,_⟩|⟨p2,o2,c2,iH,tA,Pd,B9⟩
  ·omega
  injection h9 with g1 _ g3
  injection iH with k1 _ k3
  subst g1;subst g3;subst k1;subst k3;have y1:=AV k h1;have y2:=B9 k h2;unfold maxLen at lO;have HS:=uh (Pl.EY h1 h2);obtain⟨x,hx⟩:∃ x,x=A.getD k Pl.aJ:=⟨_,rfl⟩
  obtain⟨y,hy⟩:∃ y,y=B.getD k Pl.aJ:=⟨_,rfl⟩
  rw[← hx]at y1 HS;rw[← hy]at y2 HS;have cZ:(0:Int)≤(k:Int):=by omega
  have hka:(k:Int)<(A.length:Int):=by omega
  have jP:(k:Int)<(B.length:Int):=by omega
  clear hx hy AV B9;cases hh:(x.toList==y.toList)
  ·have HE:Hid (Pl.du A B=Op.bytesLess x.toList y.toList):=by show _=_;rw[HI.out,HS.out,Pl.eZ,hh];rfl
   go_wp2_with fail
   go_quiet (fail)
   go_wp2;go_quiet (fail)
   go_wp2;go_ret;exact⟨Pl.ar HE.out.symm,gy (gy HW.out _) _⟩
  ·have HE:Hid (Pl.du A B=Pl.du (A.drop (k+1)) (B.drop (k+1))):=by show _=_;rw[HI.out,HS.out,Pl.eZ,hh];rfl
   go_wp2_with fail
   go_quiet (fail)
   go_wp2;go_roundw
   case rel=>exact⟨k+1,by omega,by omega,by go_num,gy HW.out _,HE.out⟩
   case measure=>simp[intOf];omega
theorem uz (A B:List ByteArray) (va vb:Value) (w:World) (hA:Raw w bm [.row A.length (txD A)] [va]) (hB:Raw w bm [.row B.length (txD B)] [vb]):
  Calls Tryz.prog 60 #[va,vb] w fun e w'=>e=.returned (.bool (Pl.cL A B))∧Bel w w':=by
 have HA:=uh hA;have HB:=uh hB;obtain⟨aa,ca,ea⟩:=hA.aT;obtain⟨ab,cb,eb⟩:=hB.aT;subst ea;subst eb;have HC:=uh (rX A B _ _ w hA hB);have HR:Hid (Pl.cL A B=(!Pl.du A B&& !Pl.du B A)):=rfl;clear hA hB;obtain⟨l1,h1⟩:∃ l,l=Pl.du A B:=⟨_,rfl⟩
 rw[← h1]at HC HR;clear h1;go_enter Tryz.func60,Tryz.ntmps60
 go_wp2_with fail
 refine HC.out.mono ?_;rintro e w1 ⟨rfl,cr⟩;cases l1
 rotate_left
 ·go_wp2;go_ret;exact⟨Pl.ar (by rw[HR.out];rfl),cr⟩
 have kY:=uh (rX B A _ _ w1 (HB.out.later cr) (HA.out.later cr));go_wp2_with fail
 refine kY.out.mono ?_;rintro e w2 ⟨rfl,dD⟩;go_wp2;go_ret;exact⟨Pl.ar (by rw[HR.out];simp),ae cr dD⟩
theorem jY (kind:ByteArray) (x y:Pl.Ln) (a1 a2:Option Addr) (c1 c2:Nat) (w:World) (hA:Raw w bm [.row x.ws.length (txD x.ws)] [.slice a1 x.ws.length c1]) (hB:Raw w bm [.row y.ws.length (txD y.ws)] [.slice a2 y.ws.length c2]):
  Calls Tryz.prog 48 #[.string kind,.agg #[.string x.key,.slice a1 x.ws.length c1],.agg #[.string y.key,.slice a2 y.ws.length c2]] w fun e w'=>e=.returned (.bool (Pl.aL kind x y))∧Bel w w':=by
 obtain⟨wa,aP⟩:∃ wa,wa=(w.alloc (.cells #[.string x.key,.slice a1 x.ws.length c1] 41)).alloc (.cells #[.string y.key,.slice a2 y.ws.length c2] 41):=⟨_,rfl⟩
 have dX:Hid (Bel w wa):=by show Below _ _ _;rw[aP];exact af (af zR _) _
 have HX:Hid (au wa w.heap.size [.string x.key,.slice a1 x.ws.length c1]):=by show au _ _ _;rw[aP];exact(au.new w #[.string x.key,.slice a1 x.ws.length c1] _ _ rfl).eO _
 have HY:Hid (au wa (w.heap.size+1) [.string y.key,.slice a2 y.ws.length c2]):=by show au _ _ _;rw[aP];exact au.new (w.alloc (.cells #[.string x.key,.slice a1 x.ws.length c1] 41)) #[.string y.key,.slice a2 y.ws.length c2] _ _ (by simp)
 have HA:=uh hA;have fm:=uh hB;have lH:=uh (fun (k:ByteArray) W=>kT kind k W);have HR:Hid (Pl.aL kind x y=(decide (Pl.ez kind x.key<Pl.ez kind y.key)||((Pl.ez kind x.key==Pl.ez kind y.key)&&Pl.du x.ws y.ws))):=rfl;clear hA hB;go_enter Tryz.func48,Tryz.ntmps48
 go_upto_region 1 with fail
 rw[← aP];clear aP;have x0:=HX.out.get 0 _ rfl;have xl:=HX.out.lt;go_wp2_with fail
 refine(lH.out x.key wa).mono ?_;rintro e w1 ⟨rfl,cr⟩;have y0:=(HY.out.later cr).get 0 _ rfl;have yl:=(HY.out.later cr).lt;clear x0 xl;go_wp2_with fail
 refine(lH.out y.key w1).mono ?_;rintro e w2 ⟨rfl,dD⟩;have eM:Hid (Bel wa w2):=ae cr dD;clear cr dD y0 yl lH;change Hid (_=(decide (Pl.ixI (Pl.bP (Pl.ah kind) x.key)<Pl.ixI (Pl.bP (Pl.ah kind) y.key))||((Pl.ixI (Pl.bP (Pl.ah kind) x.key)==Pl.ixI (Pl.bP (Pl.ah kind) y.key))&&_))) at HR
 obtain⟨i1,gS⟩:∃ i,i=Pl.ixI (Pl.bP (Pl.ah kind) x.key):=⟨_,rfl⟩
 obtain⟨i2,hi2⟩:∃ i,i=Pl.ixI (Pl.bP (Pl.ah kind) y.key):=⟨_,rfl⟩
 rw[← gS,← hi2]at HR ⊢;clear gS hi2;by_cases bq:i1<i2
 ·go_wp2;go_ret;exact⟨Pl.ar (by rw[HR.out];simp[bq]),ae dX.out eM.out⟩
 cases heq:(i1==i2)
 ·go_wp2;go_ret;exact⟨Pl.ar (by rw[HR.out,heq];simp),ae dX.out eM.out⟩
 have x1:=(HX.out.later eM.out).get 1 _ rfl;have xl:=(HX.out.later eM.out).lt;have y1:=(HY.out.later eM.out).get 1 _ rfl;have yl:=(HY.out.later eM.out).lt;have HC:=uh (rX x.ws y.ws _ _ w2 (HA.out.later (ae dX.out eM.out)) (fm.out.later (ae dX.out eM.out)));go_wp2_with fail
 refine HC.out.mono ?_;rintro e w3 ⟨rfl,ku⟩;go_wp2;go_ret;exact⟨Pl.ar (by rw[HR.out,heq];simp),ae (ae dX.out eM.out) ku⟩
theorem KI {kind key:ByteArray} {ws:List ByteArray} (h:Pl.bH kind key ws=true):∃ j,Pl.bP (Pl.ah kind) key=some j∧j<(Pl.ah kind).length:=by
 unfold Pl.bH at h;cases e:Pl.bP (Pl.ah kind) key with
 |none=>rw[e]at h;cases h
 |some j=>exact⟨j,rfl,Pl.iV e⟩
theorem lC {W X:World} {L:List Pl.Ln} {p o:Nat} (h:∀ k,k<L.length→∃ a c',W.rangeAt p (o+k*2) [.string (L.getD k Pl.aK).key,.slice a (L.getD k Pl.aK).ws.length c']∧Raw W bm [.row (L.getD k Pl.aK).ws.length (txD (L.getD k Pl.aK).ws)] [.slice a (L.getD k Pl.aK).ws.length c']) (hp:p<W.heap.size) (hX:Bel W X):
  ∀ k,k<L.length→∃ a c',X.rangeAt p (o+k*2) [.string (L.getD k Pl.aK).key,.slice a (L.getD k Pl.aK).ws.length c']∧Raw X bm [.row (L.getD k Pl.aK).ws.length (txD (L.getD k Pl.aK).ws)] [.slice a (L.getD k Pl.aK).ws.length c']:=fun k hk=>by
 obtain⟨a,c',h1,h2⟩:=h k hk;exact⟨a,c',aj h1 hp hX,h2.later hX⟩
theorem xo {L:List Pl.Ln} {i:Nat} (h:i<L.length) (key:ByteArray):Pl.aR (L.take (i+1)) key=Pl.aR (L.take i) key+if Pl.eZ (L.getD i Pl.aK).key key then 1 else 0:=by
 have e:L.getD i Pl.aK=L[i]:=by simp[h]
 unfold Pl.aR;rw[XI h,YT,← e];simp[List.countP_cons]
def VLf (kd:ByteArray) (x:Pl.Ln) (ax:Option Addr) (cx:Nat) (p:Nat) (o:Nat) (n:Nat) (vc:Nat) (k:Nat) (jj:Nat) (u:Value) (_:World):Prop:=match jj with
 |0=>u=.string kd
 |1|6=>u=.slice (some ⟨p,o,none⟩) n vc
 |2|7=>u=.int .i64 (k:Int)
 |3|4|8=>u=.pointer (some ⟨p,o+k*2,none⟩)
 |5=>u=.string x.key
 |9=>u=.pointer (some ⟨p,o+k*2+1,none⟩)
 |10=>u=.slice ax x.ws.length cx
 |11=>u=.bool false
 |12|13|30=>u=.bool true
 |14|15|16|17|18|19|20|21|22|23|24|25|26|27|28|29=>u=undef
 |_=>True
theorem Gt (kd:ByteArray) (x:Pl.Ln) (ax:Option Addr) (cx:Nat) (p:Nat) (o:Nat) (n:Nat) (vc:Nat) (k:Nat):∀ jj u W W',Bel W W'→VLf kd x ax cx p o n vc k jj u W→VLf kd x ax cx p o n vc k jj u W':=fun _ _ _ _ _ h=>h
def VLz (kd:ByteArray) (x:Pl.Ln) (ax:Option Addr) (cx:Nat) (p:Nat) (o:Nat) (n:Nat) (vc:Nat) (k:Nat) (jj:Nat) (u:Value) (_:World):Prop:=match jj with
 |0=>u=.string kd
 |1|6=>u=.slice (some ⟨p,o,none⟩) n vc
 |2|7|14=>u=.int .i64 (k:Int)
 |3|4|8=>u=.pointer (some ⟨p,o+k*2,none⟩)
 |5=>u=.string x.key
 |9=>u=.pointer (some ⟨p,o+k*2+1,none⟩)
 |10=>u=.slice ax x.ws.length cx
 |11=>u=.bool true
 |12|13|15|16|29|30=>u=.bool false
 |17|18|19|20|21|22|23|24|25|26|27|28=>u=undef
 |_=>True
theorem GU (kd:ByteArray) (x:Pl.Ln) (ax:Option Addr) (cx:Nat) (p:Nat) (o:Nat) (n:Nat) (vc:Nat) (k:Nat):∀ jj u W W',Bel W W'→VLz kd x ax cx p o n vc k jj u W→VLz kd x ax cx p o n vc k jj u W':=fun _ _ _ _ _ h=>h
def VLp (kd:ByteArray) (x:Pl.Ln) (y:Pl.Ln) (ax:Option Addr) (ay:Option Addr) (cx:Nat) (cy:Nat) (p:Nat) (o:Nat) (n:Nat) (vc:Nat) (k:Nat) (b:Bool) (jj:Nat) (u:Value) (_:World):Prop:=match jj with
 |0|17=>u=.string kd
 |1|6|18|23=>u=.slice (some ⟨p,o,none⟩) n vc
 |2|7|14|19|24=>u=.int .i64 (k:Int)
 |3|4|8|25=>u=.pointer (some ⟨p,o+k*2,none⟩)
 |5=>u=.string x.key
 |9=>u=.pointer (some ⟨p,o+k*2+1,none⟩)
 |10=>u=.slice ax x.ws.length cx
 |11|15|16=>u=.bool true
 |12|13=>u=.bool false
 |20=>u=.int .i64 ((k:Int) - 1)
 |21=>u=.pointer (some ⟨p,o+(k - 1)*2,none⟩)
 |22=>u=.agg #[.string y.key,.slice ay y.ws.length cy]
 |26=>u=.agg #[.string x.key,.slice ax x.ws.length cx]
 |27=>u=.bool b
 |28|29|30=>u=.bool (!b)
 |_=>True
theorem GC (kd:ByteArray) (x:Pl.Ln) (y:Pl.Ln) (ax:Option Addr) (ay:Option Addr) (cx:Nat) (cy:Nat) (p:Nat) (o:Nat) (n:Nat) (vc:Nat) (k:Nat) (b:Bool):∀ jj u W W',Bel W W'→VLp kd x y ax ay cx cy p o n vc k b jj u W→VLp kd x y ax ay cx cy p o n vc k b jj u W':=fun _ _ _ _ _ h=>h
def VLm (kd:ByteArray) (x:Pl.Ln) (p:Nat) (o:Nat) (n:Nat) (vc:Nat) (k:Nat) (j:Nat) (m:Nat) (mn:Bool) (jj:Nat) (u:Value) (W:World):Prop:=match jj with
 |0|2=>u=.string kd
 |1=>∃ q oo cc,u=.slice (some ⟨q,oo,none⟩) m cc∧q<W.heap.size∧W.cell? ⟨q,oo+j*4+2,none⟩=some (.bool mn)
 |3=>u=.slice (some ⟨p,o,none⟩) n vc
 |4=>u=.int .i64 (k:Int)
 |5|6=>u=.pointer (some ⟨p,o+k*2,none⟩)
 |7=>u=.string x.key
 |8=>u=.int .i64 (j:Int)
 |9=>∃ q oo,u=.pointer (some ⟨q,oo+j*4,none⟩)∧q<W.heap.size∧W.cell? ⟨q,oo+j*4+2,none⟩=some (.bool mn)
 |10=>∃ q oo,u=.pointer (some ⟨q,oo+j*4+2,none⟩)∧q<W.heap.size∧W.cell? ⟨q,oo+j*4+2,none⟩=some (.bool mn)
 |11|12=>u=.bool mn
 |_=>True
theorem x6 (kd:ByteArray) (x:Pl.Ln) (p:Nat) (o:Nat) (n:Nat) (vc:Nat) (k:Nat) (j:Nat) (m:Nat) (mn:Bool):∀ jj u W W',Bel W W'→VLm kd x p o n vc k j m mn jj u W→VLm kd x p o n vc k j m mn jj u W':=by
 intro jj u W W' hb h;match jj with
 |0|2|3|4|5|6|7|8|11|12=>exact h
 |1=>
  obtain⟨q,oo,cc,e,hq,hc⟩:=h;exact⟨q,oo,cc,e,zL hq hb.size,(hb.cell (p:=⟨q,oo+j*4+2,none⟩) hq).trans hc⟩
 |9|10=>
  obtain⟨q,oo,e,hq,hc⟩:=h;exact⟨q,oo,e,zL hq hb.size,(hb.cell (p:=⟨q,oo+j*4+2,none⟩) hq).trans hc⟩
 |n+13=>exact trivial
theorem yh (kd:ByteArray) (L:List Pl.Ln) (v:Value) (w:World) (h:Raw w aV [bD L] [v]) (hz:∀ x∈L,∀ s∈x.ws,s.size≤maxLen):
  Calls Tryz.prog 44 #[.string kd,v] w fun e w'=>e=.returned (.bool (Pl.dA kd L))∧Bel w w':=by
 have HL:=uh h;have HZ:=uh hz;obtain⟨va,vc,ev⟩:=h.aT;subst ev;have HR:Hid (Pl.dA kd L=(List.range L.length).all (Pl.eG kd L)):=rfl;clear h hz;obtain⟨n,hn⟩:∃ n,n=L.length:=⟨_,rfl⟩
 have HN:=uh hn;rw[← hn]at HR;have gF:L.length=n:=hn.symm;clear hn;rw[gF];go_enter Tryz.func44,Tryz.ntmps44
 clear gF;go_wp2;go_loopw [5] (fun i wr=>∃ k:Nat,k≤n∧i=.int .i64 k∧Bel w wr∧(List.range k).all (Pl.eG kd L)=true) (fun i _=>n - (intOf i).toNat)
 case atStart=>exact⟨0,zN,rfl,zR,rfl⟩
 case round=>
  obtain⟨k,hk,rfl,hW,hI⟩:=hrel;have HW:=uh hW;have HI:=uh hI;clear hW hI;by_cases bq:k<n
  rotate_left
  ·obtain rfl:k=n:=by omega
   go_wp2;go_ret;exact⟨Pl.ar (by rw[HR.out,HI.out]),HW.out⟩
  have eB:k<L.length:=by have:=HN.out;omega
  rcases bO (HL.out.later HW.out) with⟨e0,_⟩|⟨p,o,c,hv,hp,dR,aE⟩
  ·omega
  rw[← HN.out]at hv dR;injection hv with g1 _ g3
  subst g1;subst g3;unfold maxLen at dR;obtain⟨ax,cx,dm,dH⟩:=aE k eB;have uG:=uh aE;have lP:=uh (fun h=>(HR.out.trans (Pl.gA bq h)));have jl:Hid (Pl.eG kd L k=(Pl.bH kd (L.getD k Pl.aK).key (L.getD k Pl.aK).ws&&(decide (k=0)||Pl.aL kd (L.getD (k - 1) Pl.aK) (L.getD k Pl.aK))&&Pl.kh (Pl.jW kd (L.getD k Pl.aK).key) (Pl.aR (L.take (k+1)) (L.getD k Pl.aK).key))):=rfl;obtain⟨x,hx⟩:∃ x,x=L.getD k Pl.aK:=⟨_,rfl⟩
  have So:∀ s∈x.ws,s.size≤maxLen:=by
   have e:L.getD k Pl.aK=L[k]:=by simp[eB]
   rw[hx,e];exact HZ.out _ (Xq eB)
  rw[← hx]at dm dH jl;have cU:=uh dm;have qn:=uh dH;have HP:=uh hp;have WD:=uh hx;have cZ:(0:Int)≤(k:Int):=by omega
  have dy:(k:Int)<(n:Int):=by omega
  have Lq:=uh (fun (X:World) (hX:Bel wr X)=>qL kd x.key x.ws (.slice ax x.ws.length cx) X (qn.out.later hX) So);have Eu:=uh (fun h=> @KI kd x.key x.ws h);obtain⟨fit,pX⟩:∃ f,f=Pl.bH kd x.key x.ws:=⟨_,rfl⟩
  rw[← pX]at Lq jl Eu;clear pX So hx dm dH aE;cases fit
  ·have nN:Hid (∀ X:World,Bel wr X→Calls Tryz.prog 40 #[.string kd,.string x.key,.slice ax x.ws.length cx] X fun e w'=>e=.returned (.bool false)∧Bel X w'):=Lq.out;have jN:Hid (∀ X:World,Bel wr X→True):=fun _ _=>trivial;obtain⟨y,ay,cy,b⟩:Pl.Ln×Option Addr×Nat×Bool:=⟨Pl.aK,none,0,false⟩
   have yJ:Hid (Pl.dA kd L=false):=lP.out (by rw[jl.out];rfl);go_upto_region 4 with fail
   refine RY.aM wr zR (VLf kd x ax cx p o n vc k) (Gt _ _ _ _ _ _ _ _ _) (by kernel_rfl) (by kernel_rfl) (by kernel_rfl) (by kernel_rfl) ?_ ?_
   ·intro i o' ho a X hX hk hd;have yx0:X.cell? ⟨p,o+k*2,none⟩=some (.string x.key):=(hX.cell (p:=⟨p,o+k*2,none⟩) HP.out).trans (aF cU.out 0 _ rfl);have yx1:X.cell? ⟨p,o+k*2+1,none⟩=some (.slice ax x.ws.length cx):=(hX.cell (p:=⟨p,o+k*2+1,none⟩) HP.out).trans (aF cU.out 1 _ rfl);have rx:=aj cU.out HP.out hX;match i,ho with
    |0,rfl=>
     exact RY.n (RY.p (.string kd) (by simp[execOp,go_sem,RY.K hk 0 (.string kd)]))
    |1,rfl|6,rfl=>
     exact RY.n (RY.p (.slice (some ⟨p,o,none⟩) n vc) (by simp[execOp,go_sem,RY.K hk 1 (.slice (some ⟨p,o,none⟩) n vc)]))
    |2,rfl|7,rfl=>
     exact RY.n (RY.p (.int .i64 (k:Int)) (by simp[execOp,go_sem,RY.K hk 5 (.int .i64 (k:Int))]))
    |3,rfl=>
     exact RY.n (RY.p (.pointer (some ⟨p,o+k*2,none⟩)) (by simp[execOp,go_sem,RY.E hd 1 16,RY.E hd 2 17,cZ,dy]))
    |4,rfl=>
     exact RY.n (RY.p (.pointer (some ⟨p,o+k*2,none⟩)) (by simp[execOp,go_sem,RY.E hd 3 18]))
    |5,rfl=>
     exact RY.n (RY.p (.string x.key) (by simp[execOp,go_sem,RY.E hd 4 19,yx0]))
    |8,rfl=>
     exact RY.n (RY.p (.pointer (some ⟨p,o+k*2,none⟩)) (by simp[execOp,go_sem,RY.E hd 6 21,RY.E hd 7 22,cZ,dy]))
    |9,rfl=>
     exact RY.n (RY.p (.pointer (some ⟨p,o+k*2+1,none⟩)) (by simp[execOp,go_sem,RY.E hd 8 23]))
    |10,rfl=>
     exact RY.n (RY.p (.slice ax x.ws.length cx) (by simp[execOp,go_sem,RY.E hd 9 24,yx1]))
    |11,rfl=>
     have e15:=RY.E hd 0 15;have e20:=RY.E hd 5 20;have e25:=RY.E hd 10 25;refine No ⟨RY.cG rfl,Xk ⟨40,#[.string kd,.string x.key,.slice ax x.ws.length cx],by simp[go_sem,e15,e20,e25],(nN.out X hX).mono ?_⟩⟩;rintro e W' ⟨rfl,hb⟩;exact⟨_,rfl,hb,rfl⟩
    |12,rfl=>
     exact RY.n (RY.p (.bool true) (by simp[execOp,go_sem,RY.E hd 11 26]))
    |13,rfl=>
     exact RY.n (RY.p (.bool true) (by simp[execOp,go_sem,RY.E hd 12 27]))
    |14,rfl|15,rfl|16,rfl|29,rfl=>
     exact RY.off hd 13 28
    |17,rfl|18,rfl|19,rfl|20,rfl|21,rfl|22,rfl|23,rfl|24,rfl|25,rfl|26,rfl|27,rfl|28,rfl=>
     exact RY.Ks hd 16 31
    |30,rfl=>
     exact RY.n (RY.p (.bool true) (by simp[execOp,go_sem,RY.E hd 13 28,RY.E hd 29 44]))
    |n+31,ho=>simp at ho
   intro X vs hX bn;have q45:vs 45=_:=bn 30 _ 45 rfl rfl;simp only[RY.aC,Act.put,so,As,An];rw[q45];generalize vs 15=s15,vs 16=s16,vs 17=s17,vs 18=s18,vs 19=s19,vs 20=s20,vs 21=s21,vs 22=s22,vs 23=s23,vs 24=s24,vs 25=s25,vs 26=s26,vs 27=s27,vs 28=s28,vs 29=s29,vs 30=s30,vs 31=sL,vs 32=pS,vs 33=pY,vs 34=qo,vs 35=nP,vs 36=mU,vs 37=nS,vs 38=mT,vs 39=nW,vs 40=s40,vs 41=s41,vs 42=s42,vs 43=s43,vs 44=s44;clear bn q45;go_wp2;go_ret;exact⟨Pl.ar yJ.out.symm,ae HW.out hX⟩
  have nN:Hid (∀ X:World,Bel wr X→Calls Tryz.prog 40 #[.string kd,.string x.key,.slice ax x.ws.length cx] X fun e w'=>e=.returned (.bool true)∧Bel X w'):=Lq.out;clear Lq;obtain⟨j,OE,Mr⟩:=Eu.out rfl;have Cc:Hid (Pl.bP (Pl.ah kd) x.key=some j∧j<(Pl.ah kd).length):=⟨OE,Mr⟩
  clear Eu OE Mr;by_cases dp:k=0
  rotate_left
  ·obtain⟨ay,cy,ji,lQ⟩:=uG.out (k - 1) (by omega);obtain⟨y,hy⟩:∃ y,y=L.getD (k - 1) Pl.aK:=⟨_,rfl⟩
   rw[← hy]at ji lQ jl;have Cd:=uh ji;have IP:=uh lQ;have yK:=uh (fun (X:World) (hX:Bel wr X)=>jY kd y x ay ax cy cx X (IP.out.later hX) (qn.out.later hX));obtain⟨b,hb⟩:∃ b,b=Pl.aL kd y x:=⟨_,rfl⟩
   rw[← hb]at yK jl;have jN:Hid (∀ X:World,Bel wr X→Calls Tryz.prog 48 #[.string kd,.agg #[.string y.key,.slice ay y.ws.length cy],.agg #[.string x.key,.slice ax x.ws.length cx]] X fun e w'=>e=.returned (.bool b)∧Bel X w'):=yK.out;have U4:(0:Int)<(k:Int):=by omega
   have lf:0<k:=by omega
   have OU:IntKind.i64.wrap ((k:Int) - 1)=(k:Int) - 1:=IntWalk.i64_in _ ⟨by omega,by omega⟩;have lG:(1:Int)≤(k:Int):=by omega
   have mL:(k:Int) - 1<(n:Int):=by omega
   have JI:((k:Int) - 1).toNat=k - 1:=by omega
   have eV:decide (k=0)=false:=by simpa using dp
   rw[eV]at jl;clear ji lQ hy hb yK;go_upto_region 4 with fail
   refine RY.aM wr zR (VLp kd x y ax ay cx cy p o n vc k b) (GC _ _ _ _ _ _ _ _ _ _ _ _ _) (by kernel_rfl) (by kernel_rfl) (by kernel_rfl) (by kernel_rfl) ?_ ?_
   ·intro i o' ho a X hX hk hd;have yx0:X.cell? ⟨p,o+k*2,none⟩=some (.string x.key):=(hX.cell (p:=⟨p,o+k*2,none⟩) HP.out).trans (aF cU.out 0 _ rfl);have yx1:X.cell? ⟨p,o+k*2+1,none⟩=some (.slice ax x.ws.length cx):=(hX.cell (p:=⟨p,o+k*2+1,none⟩) HP.out).trans (aF cU.out 1 _ rfl);have rx:=aj cU.out HP.out hX;have ry:=aj Cd.out HP.out hX;match i,ho with
    |0,rfl=>
     exact RY.n (RY.p (.string kd) (by simp[execOp,go_sem,RY.K hk 0 (.string kd)]))
    |1,rfl|6,rfl=>
     exact RY.n (RY.p (.slice (some ⟨p,o,none⟩) n vc) (by simp[execOp,go_sem,RY.K hk 1 (.slice (some ⟨p,o,none⟩) n vc)]))
    |2,rfl|7,rfl=>
     exact RY.n (RY.p (.int .i64 (k:Int)) (by simp[execOp,go_sem,RY.K hk 5 (.int .i64 (k:Int))]))
    |3,rfl=>
     exact RY.n (RY.p (.pointer (some ⟨p,o+k*2,none⟩)) (by simp[execOp,go_sem,RY.E hd 1 16,RY.E hd 2 17,cZ,dy]))
    |4,rfl=>
     exact RY.n (RY.p (.pointer (some ⟨p,o+k*2,none⟩)) (by simp[execOp,go_sem,RY.E hd 3 18]))
    |5,rfl=>
     exact RY.n (RY.p (.string x.key) (by simp[execOp,go_sem,RY.E hd 4 19,yx0]))
    |8,rfl=>
     exact RY.n (RY.p (.pointer (some ⟨p,o+k*2,none⟩)) (by simp[execOp,go_sem,RY.E hd 6 21,RY.E hd 7 22,cZ,dy]))
    |9,rfl=>
     exact RY.n (RY.p (.pointer (some ⟨p,o+k*2+1,none⟩)) (by simp[execOp,go_sem,RY.E hd 8 23]))
    |10,rfl=>
     exact RY.n (RY.p (.slice ax x.ws.length cx) (by simp[execOp,go_sem,RY.E hd 9 24,yx1]))
    |11,rfl=>
     have e15:=RY.E hd 0 15;have e20:=RY.E hd 5 20;have e25:=RY.E hd 10 25;refine No ⟨RY.cG rfl,Xk ⟨40,#[.string kd,.string x.key,.slice ax x.ws.length cx],by simp[go_sem,e15,e20,e25],(nN.out X hX).mono ?_⟩⟩;rintro e W' ⟨rfl,hb⟩;exact⟨_,rfl,hb,rfl⟩
    |12,rfl=>
     exact RY.n (RY.p (.bool false) (by simp[execOp,go_sem,RY.E hd 11 26]))
    |13,rfl=>
     exact RY.n (RY.p (.bool false) (by simp[execOp,go_sem,RY.E hd 12 27]))
    |14,rfl=>
     exact RY.on hd 13 28 (RY.p (.int .i64 (k:Int)) (by simp[execOp,go_sem,RY.K hk 5 (.int .i64 (k:Int))]))
    |15,rfl=>
     exact RY.on hd 13 28 (RY.p (.bool true) (by simp[execOp,go_sem,RY.E hd 14 29,lf]))
    |16,rfl=>
     exact RY.on hd 13 28 (RY.p (.bool true) (by simp[execOp,go_sem,RY.E hd 15 30]))
    |17,rfl=>
     exact RY.on hd 16 31 (RY.p (.string kd) (by simp[execOp,go_sem,RY.K hk 0 (.string kd)]))
    |18,rfl|23,rfl=>
     exact RY.on hd 16 31 (RY.p (.slice (some ⟨p,o,none⟩) n vc) (by simp[execOp,go_sem,RY.K hk 1 (.slice (some ⟨p,o,none⟩) n vc)]))
    |19,rfl|24,rfl=>
     exact RY.on hd 16 31 (RY.p (.int .i64 (k:Int)) (by simp[execOp,go_sem,RY.K hk 5 (.int .i64 (k:Int))]))
    |20,rfl=>
     exact RY.on hd 16 31 (RY.p (.int .i64 ((k:Int) - 1)) (by simp[execOp,go_sem,RY.E hd 19 34,OU]))
    |21,rfl=>
     exact RY.on hd 16 31 (RY.p (.pointer (some ⟨p,o+(k - 1)*2,none⟩)) (by simp[execOp,go_sem,RY.E hd 18 33,RY.E hd 20 35,lG,mL,JI]))
    |22,rfl=>
     have gd:=hd 16 _ 31 rfl rfl ⟨⟨16,.guard⟩,by simp,rfl,rfl⟩;exact No ⟨(RY.bg rfl rfl rfl gd).trans rfl,No ⟨.agg #[.string y.key,.slice ay y.ws.length cy],X,ak 41 _ rfl p (o+(k - 1)*2) ((RY.ai a 36).symm.trans (RY.E hd 21 36)) [.string y.key,.slice ay y.ws.length cy] _ ry Tryz.underlying41 rfl (by kernel_rfl),zR,rfl⟩⟩
    |25,rfl=>
     exact RY.on hd 16 31 (RY.p (.pointer (some ⟨p,o+k*2,none⟩)) (by simp[execOp,go_sem,RY.E hd 23 38,RY.E hd 24 39,cZ,dy]))
    |26,rfl=>
     have gd:=hd 16 _ 31 rfl rfl ⟨⟨16,.guard⟩,by simp,rfl,rfl⟩;exact No ⟨(RY.bg rfl rfl rfl gd).trans rfl,No ⟨.agg #[.string x.key,.slice ax x.ws.length cx],X,ak 41 _ rfl p (o+k*2) ((RY.ai a 40).symm.trans (RY.E hd 25 40)) [.string x.key,.slice ax x.ws.length cx] _ rx Tryz.underlying41 rfl (by kernel_rfl),zR,rfl⟩⟩
    |27,rfl=>
     have e32:=RY.E hd 17 32;have e37:=RY.E hd 22 37;have e41:=RY.E hd 26 41;refine RY.on hd 16 31 (.inr ⟨48,#[.string kd,.agg #[.string y.key,.slice ay y.ws.length cy],.agg #[.string x.key,.slice ax x.ws.length cx]],by simp[go_sem,e32,e37,e41],(jN.out X hX).mono ?_⟩);rintro e W' ⟨rfl,hb⟩;exact⟨_,rfl,hb,rfl⟩
    |28,rfl=>
     exact RY.on hd 16 31 (RY.p (.bool (!b)) (by simp[execOp,go_sem,RY.E hd 27 42]))
    |29,rfl=>
     exact RY.on hd 13 28 (RY.p (.bool (!b)) (by simp[execOp,go_sem,RY.E hd 16 31,RY.E hd 28 43]))
    |30,rfl=>
     exact RY.n (RY.p (.bool (!b)) (by simp[execOp,go_sem,RY.E hd 13 28,RY.E hd 29 44]))
    |n+31,ho=>simp at ho
   intro X vs hX bn;have q45:vs 45=_:=bn 30 _ 45 rfl rfl;simp only[RY.aC,Act.put,so,As,An];rw[q45];generalize vs 15=s15,vs 16=s16,vs 17=s17,vs 18=s18,vs 19=s19,vs 20=s20,vs 21=s21,vs 22=s22,vs 23=s23,vs 24=s24,vs 25=s25,vs 26=s26,vs 27=s27,vs 28=s28,vs 29=s29,vs 30=s30,vs 31=sL,vs 32=pS,vs 33=pY,vs 34=qo,vs 35=nP,vs 36=mU,vs 37=nS,vs 38=mT,vs 39=nW,vs 40=s40,vs 41=s41,vs 42=s42,vs 43=s43,vs 44=s44;clear bn q45;cases b
   ·have yJ:Hid (Pl.dA kd L=false):=lP.out (by rw[jl.out];rfl);clear OU JI;go_wp2;go_ret;exact⟨Pl.ar yJ.out.symm,ae HW.out hX⟩
   have wE:Hid (Pl.eG kd L k=Pl.kh (Pl.jW kd x.key) (Pl.aR (L.take (k+1)) x.key)):=by show _=_;rw[jl.out];simp
   clear U4 lf OU lG mL JI eV dp Cd IP jN jl;obtain⟨wy,rfl⟩:∃ wy,wy=X:=⟨_,rfl⟩
   replace uG:=uh (lC uG.out HP.out hX)
   replace HW:=uh (ae HW.out hX)
   replace cU:=uh (aj cU.out HP.out hX)
   replace HP:=uh (zL HP.out hX.size)
   clear hX nN qn;have lH:Hid (∀ X,Calls Tryz.prog 39 #[.string kd,.string x.key] X fun e w'=>e=.returned (.int .i64 (j:Int))∧Bel X w'):=fun X=>by
    have:=kT kd x.key X;rw[Cc.out.1]at this;exact this
   have IM:=uh (fun X=>dW kd X);obtain⟨mn,mL⟩:∃ mn,mn=Pl.jW kd x.key:=⟨_,rfl⟩
   have IK:((Pl.ah kd).getD j Pl.bu).many=mn:=by rw[mL,Pl.jW,Cc.out.1]
   rw[← mL]at wE;obtain⟨m,hm⟩:∃ m,m=(Pl.ah kd).length:=⟨_,rfl⟩
   have HJ:Hid (j<(Pl.ah kd).length∧((Pl.ah kd).getD j Pl.bu).many=mn):=⟨Cc.out.2,IK⟩
   have DW:(0:Int)≤(j:Int):=by omega
   have Q0:(j:Int)<(m:Int):=by have:=Cc.out.2;omega
   have AH:Hid (∀ X,Calls Tryz.prog 25 #[.string kd] X (eT [.row 75 aB] (bV (Pl.ah kd)) X)):=IM.out;have HM:=uh hm;clear hm mL IK IM;go_upto_region 6 with fail
   refine RY.aM wy zR (VLm kd x p o n vc k j m mn) (x6 _ _ _ _ _ _ _ _ _ _) (by kernel_rfl) (by kernel_rfl) (by kernel_rfl) (by kernel_rfl) ?_ ?_
   ·intro i o' ho a X hX hk hd;have yx0:X.cell? ⟨p,o+k*2,none⟩=some (.string x.key):=(hX.cell (p:=⟨p,o+k*2,none⟩) HP.out).trans (aF cU.out 0 _ rfl);match i,ho with
    |0,rfl|2,rfl=>
     exact RY.n (RY.p (.string kd) (by simp[execOp,go_sem,RY.K hk 0 (.string kd)]))
    |1,rfl=>
     have e46:=RY.E hd 0 46;refine No ⟨RY.cG rfl,Xk ⟨25,#[.string kd],by simp[go_sem,e46],(AH.out X).mono ?_⟩⟩;rintro e W' ⟨v,F,rfl,hr,_,_,hb⟩;obtain⟨q,oo,cc,a1,c1,v3,hv,hp,hg,_,_⟩:=gD hr.raw HJ.out.1;have RU:=aF hg 2 _ rfl;rw[HJ.out.2]at RU;exact⟨_,rfl,hb,q,oo,cc,by rw[HM.out];exact hv,hp,RU⟩
    |3,rfl=>
     exact RY.n (RY.p (.slice (some ⟨p,o,none⟩) n vc) (by simp[execOp,go_sem,RY.K hk 1 (.slice (some ⟨p,o,none⟩) n vc)]))
    |4,rfl=>
     exact RY.n (RY.p (.int .i64 (k:Int)) (by simp[execOp,go_sem,RY.K hk 5 (.int .i64 (k:Int))]))
    |5,rfl=>
     exact RY.n (RY.p (.pointer (some ⟨p,o+k*2,none⟩)) (by simp[execOp,go_sem,RY.E hd 3 49,RY.E hd 4 50,cZ,dy]))
    |6,rfl=>
     exact RY.n (RY.p (.pointer (some ⟨p,o+k*2,none⟩)) (by simp[execOp,go_sem,RY.E hd 5 51]))
    |7,rfl=>
     exact RY.n (RY.p (.string x.key) (by simp[execOp,go_sem,RY.E hd 6 52,yx0]))
    |8,rfl=>
     have e48:=RY.E hd 2 48;have e53:=RY.E hd 7 53;refine No ⟨RY.cG rfl,Xk ⟨39,#[.string kd,.string x.key],by simp[go_sem,e48,e53],(lH.out X).mono ?_⟩⟩;rintro e W' ⟨rfl,hb⟩;exact⟨_,rfl,hb,rfl⟩
    |9,rfl=>
     obtain⟨q,oo,cc,e470,hq,hc⟩:=hd 1 _ 47 rfl rfl ⟨⟨1,.data⟩,by simp,rfl,rfl⟩;have e47:=(RY.ai a 47).trans e470;exact No ⟨RY.cG rfl,No ⟨.pointer (some ⟨q,oo+j*4,none⟩),X,by simp[execOp,go_sem,e47,RY.E hd 8 54,DW,Q0],zR,q,oo,rfl,hq,hc⟩⟩
    |10,rfl=>
     obtain⟨q,oo,e550,hq,hc⟩:=hd 9 _ 55 rfl rfl ⟨⟨9,.data⟩,by simp,rfl,rfl⟩;have e55:=(RY.ai a 55).trans e550;exact No ⟨RY.cG rfl,No ⟨.pointer (some ⟨q,oo+j*4+2,none⟩),X,by simp[execOp,go_sem,e55],zR,q,oo,rfl,hq,hc⟩⟩
    |11,rfl=>
     obtain⟨q,oo,e560,hq,yc⟩:=hd 10 _ 56 rfl rfl ⟨⟨10,.data⟩,by simp,rfl,rfl⟩;have e56:=(RY.ai a 56).trans e560;exact RY.n (RY.p (.bool mn) (by simp[execOp,go_sem,e56,yc]))
    |12,rfl=>
     exact RY.n (RY.p (.bool mn) (by simp[execOp,go_sem,RY.E hd 11 57]))
    |n+13,ho=>simp at ho
   intro X vs hX bn;have q6:vs 6=_:=bn 12 _ 6 rfl rfl;simp only[RY.aC,Act.put,so,As,An];rw[q6];generalize vs 46=s46,vs 47=s47,vs 48=s48,vs 49=s49,vs 50=Cn,vs 51=s51,vs 52=s52,vs 53=s53,vs 54=s54,vs 55=s55,vs 56=s56,vs 57=s57;clear bn q6;obtain⟨wz,rfl⟩:∃ wz,wz=X:=⟨_,rfl⟩
   replace uG:=uh (lC uG.out HP.out hX)
   replace HW:=uh (ae HW.out hX)
   replace cU:=uh (aj cU.out HP.out hX)
   replace HP:=uh (zL HP.out hX.size)
   clear hX lH AH HJ HM DW Q0;go_wp2;go_loopw [7,8] (fun vn vi wr=>∃ q:Nat,q≤k+1∧vi=.int .i64 q∧vn=.int .i64 ((Pl.aR (L.take q) x.key:Nat):Int)∧Bel wz wr) (fun _ vi _=>k+1 - (intOf vi).toNat)
   case atStart=>exact⟨0,zN,rfl,rfl,zR⟩
   case round=>
    obtain⟨q,hq,rfl,rfl,hB⟩:=hrel;have HB:=uh hB;clear hB;have I3:Hid (∀ q,Pl.aR (L.take q) x.key≤q):=fun q=>Xg Yd (by rw[Xo];omega);by_cases hqk:q≤k
    ·have kz:q<L.length:=by have:=HN.out;omega
     obtain⟨az,cz,Rb,_⟩:=uG.out q kz;have y1:=(HB.out.cell (p:=⟨p,o+q*2,none⟩) HP.out).trans (aF Rb 0 _ rfl);have y0:=(HB.out.cell (p:=⟨p,o+k*2,none⟩) HP.out).trans (aF cU.out 0 _ rfl);have eU:=uh (xo kz x.key);obtain⟨z,hz⟩:∃ z,z=(L.getD q Pl.aK).key:=⟨_,rfl⟩
     have y1':wr.cell? ⟨p,o+q*2,none⟩=some (.string z):=by rw[hz];exact y1
     rw[← hz]at eU;have Rr:p<wr.heap.size:=zL HP.out HB.out.size;have Sk:(0:Int)≤(q:Int):=by omega
     have I2:(q:Int)<(n:Int):=by omega
     have Vr:(q:Int)≤(k:Int):=by omega
     have Eo:=I3.out q;obtain⟨ct,sE⟩:∃ ct,ct=Pl.aR (L.take q) x.key:=⟨_,rfl⟩
     rw[← sE]at Eo eU ⊢;clear Rb hz y1 I3 sE;cases hh:(z.toList==x.key.toList)
     ·have HE:Hid (Pl.aR (L.take (q+1)) x.key=ct):=by show _=_;rw[eU.out,Pl.eZ,hh];rfl
      go_wp2_with fail
      go_quiet (fail)
      go_wp2;go_roundw
      case rel=>exact⟨q+1,by omega,by go_num,by first|rw[HE.out]|(rw[HE.out];go_num),gy HB.out _⟩
      case measure=>simp[intOf];omega
     ·have HE:Hid (Pl.aR (L.take (q+1)) x.key=ct+1):=by show _=_;rw[eU.out,Pl.eZ,hh];rfl
      go_wp2_with fail
      go_quiet (fail)
      go_wp2;go_roundw
      case rel=>exact⟨q+1,by omega,by go_num,by first|(rw[HE.out];go_num)|rw[HE.out],gy HB.out _⟩
      case measure=>simp[intOf];omega
    ·obtain rfl:q=k+1:=by omega
     have Eo:=I3.out (k+1);obtain⟨ct,sE⟩:∃ ct,ct=Pl.aR (L.take (k+1)) x.key:=⟨_,rfl⟩
     rw[← sE]at Eo wE ⊢;clear sE I3;have Vj:¬ ((k+1:Nat):Int)≤(k:Int):=by omega
     cases hco:Pl.kh mn ct
     ·have yJ:Hid (Pl.dA kd L=false):=lP.out (by rw[wE.out,hco]);unfold Pl.kh at hco;have jn:(mn=false∧(1:Int)<(ct:Int))∨((mn=true∨¬ (1:Int)<(ct:Int))∧(10:Int)<(ct:Int)):=by
       cases mn<;>simp at hco ⊢<;>omega
      clear hco;rcases jn with⟨rfl,c1⟩|⟨c1|c1,c2⟩
      ·go_wp2;go_ret;exact⟨Pl.ar yJ.out.symm,ae HW.out HB.out⟩
      ·subst c1;go_wp2;go_ret;exact⟨Pl.ar yJ.out.symm,ae HW.out HB.out⟩
      ·exfalso;omega
     ·have nL:=uh (Pl.fO HI.out (wE.out.trans hco));unfold Pl.kh at hco;have jn:(mn=true∨¬ (1:Int)<(ct:Int))∧¬ (10:Int)<(ct:Int):=by
       cases mn<;>simp at hco ⊢<;>omega
      obtain⟨c1,c2⟩:=jn;clear hco;rcases c1 with c1|c1
      ·subst c1;go_wp2;go_roundw
       case rel=>exact⟨k+1,by omega,by go_num,ae HW.out HB.out,nL.out⟩
       case measure=>simp[intOf];omega
      ·cases mn
       all_goals
        go_wp2;go_roundw
        case rel=>exact⟨k+1,by omega,by go_num,ae HW.out HB.out,nL.out⟩
        case measure=>simp[intOf];omega
  have lf:¬ 0<k:=by omega
  have wE:Hid (Pl.eG kd L k=Pl.kh (Pl.jW kd x.key) (Pl.aR (L.take (k+1)) x.key)):=by show _=_;rw[jl.out];simp[dp]
  obtain⟨y,ay,cy,b⟩:Pl.Ln×Option Addr×Nat×Bool:=⟨Pl.aK,none,0,false⟩
  clear jl dp;go_upto_region 4 with fail
  refine RY.aM wr zR (VLz kd x ax cx p o n vc k) (GU _ _ _ _ _ _ _ _ _) (by kernel_rfl) (by kernel_rfl) (by kernel_rfl) (by kernel_rfl) ?_ ?_
  ·intro i o' ho a X hX hk hd;have yx0:X.cell? ⟨p,o+k*2,none⟩=some (.string x.key):=(hX.cell (p:=⟨p,o+k*2,none⟩) HP.out).trans (aF cU.out 0 _ rfl);have yx1:X.cell? ⟨p,o+k*2+1,none⟩=some (.slice ax x.ws.length cx):=(hX.cell (p:=⟨p,o+k*2+1,none⟩) HP.out).trans (aF cU.out 1 _ rfl);have rx:=aj cU.out HP.out hX;match i,ho with
   |0,rfl=>
    exact RY.n (RY.p (.string kd) (by simp[execOp,go_sem,RY.K hk 0 (.string kd)]))
   |1,rfl|6,rfl=>
    exact RY.n (RY.p (.slice (some ⟨p,o,none⟩) n vc) (by simp[execOp,go_sem,RY.K hk 1 (.slice (some ⟨p,o,none⟩) n vc)]))
   |2,rfl|7,rfl=>
    exact RY.n (RY.p (.int .i64 (k:Int)) (by simp[execOp,go_sem,RY.K hk 5 (.int .i64 (k:Int))]))
   |3,rfl=>
    exact RY.n (RY.p (.pointer (some ⟨p,o+k*2,none⟩)) (by simp[execOp,go_sem,RY.E hd 1 16,RY.E hd 2 17,cZ,dy]))
   |4,rfl=>
    exact RY.n (RY.p (.pointer (some ⟨p,o+k*2,none⟩)) (by simp[execOp,go_sem,RY.E hd 3 18]))
   |5,rfl=>
    exact RY.n (RY.p (.string x.key) (by simp[execOp,go_sem,RY.E hd 4 19,yx0]))
   |8,rfl=>
    exact RY.n (RY.p (.pointer (some ⟨p,o+k*2,none⟩)) (by simp[execOp,go_sem,RY.E hd 6 21,RY.E hd 7 22,cZ,dy]))
   |9,rfl=>
    exact RY.n (RY.p (.pointer (some ⟨p,o+k*2+1,none⟩)) (by simp[execOp,go_sem,RY.E hd 8 23]))
   |10,rfl=>
    exact RY.n (RY.p (.slice ax x.ws.length cx) (by simp[execOp,go_sem,RY.E hd 9 24,yx1]))
   |11,rfl=>
    have e15:=RY.E hd 0 15;have e20:=RY.E hd 5 20;have e25:=RY.E hd 10 25;refine No ⟨RY.cG rfl,Xk ⟨40,#[.string kd,.string x.key,.slice ax x.ws.length cx],by simp[go_sem,e15,e20,e25],(nN.out X hX).mono ?_⟩⟩;rintro e W' ⟨rfl,hb⟩;exact⟨_,rfl,hb,rfl⟩
   |12,rfl=>
    exact RY.n (RY.p (.bool false) (by simp[execOp,go_sem,RY.E hd 11 26]))
   |13,rfl=>
    exact RY.n (RY.p (.bool false) (by simp[execOp,go_sem,RY.E hd 12 27]))
   |14,rfl=>
    exact RY.on hd 13 28 (RY.p (.int .i64 (k:Int)) (by simp[execOp,go_sem,RY.K hk 5 (.int .i64 (k:Int))]))
   |15,rfl=>
    exact RY.on hd 13 28 (RY.p (.bool false) (by simp[execOp,go_sem,RY.E hd 14 29,lf]))
   |16,rfl=>
    exact RY.on hd 13 28 (RY.p (.bool false) (by simp[execOp,go_sem,RY.E hd 15 30]))
   |17,rfl|18,rfl|19,rfl|20,rfl|21,rfl|22,rfl|23,rfl|24,rfl|25,rfl|26,rfl|27,rfl|28,rfl=>
    exact RY.off hd 16 31
   |29,rfl=>
    exact RY.on hd 13 28 (RY.p (.bool false) (by simp[execOp,go_sem,RY.E hd 16 31,RY.E hd 28 43]))
   |30,rfl=>
    exact RY.n (RY.p (.bool false) (by simp[execOp,go_sem,RY.E hd 13 28,RY.E hd 29 44]))
   |n+31,ho=>simp at ho
  intro X vs hX bn;have q45:vs 45=_:=bn 30 _ 45 rfl rfl;simp only[RY.aC,Act.put,so,As,An];rw[q45];generalize vs 15=s15,vs 16=s16,vs 17=s17,vs 18=s18,vs 19=s19,vs 20=s20,vs 21=s21,vs 22=s22,vs 23=s23,vs 24=s24,vs 25=s25,vs 26=s26,vs 27=s27,vs 28=s28,vs 29=s29,vs 30=s30,vs 31=sL,vs 32=pS,vs 33=pY,vs 34=qo,vs 35=nP,vs 36=mU,vs 37=nS,vs 38=mT,vs 39=nW,vs 40=s40,vs 41=s41,vs 42=s42,vs 43=s43,vs 44=s44;clear bn q45;clear lf;obtain⟨wy,rfl⟩:∃ wy,wy=X:=⟨_,rfl⟩
  replace uG:=uh (lC uG.out HP.out hX)
  replace HW:=uh (ae HW.out hX)
  replace cU:=uh (aj cU.out HP.out hX)
  replace HP:=uh (zL HP.out hX.size)
  clear hX nN qn;have lH:Hid (∀ X,Calls Tryz.prog 39 #[.string kd,.string x.key] X fun e w'=>e=.returned (.int .i64 (j:Int))∧Bel X w'):=fun X=>by
   have:=kT kd x.key X;rw[Cc.out.1]at this;exact this
  have IM:=uh (fun X=>dW kd X);obtain⟨mn,mL⟩:∃ mn,mn=Pl.jW kd x.key:=⟨_,rfl⟩
  have IK:((Pl.ah kd).getD j Pl.bu).many=mn:=by rw[mL,Pl.jW,Cc.out.1]
  rw[← mL]at wE;obtain⟨m,hm⟩:∃ m,m=(Pl.ah kd).length:=⟨_,rfl⟩
  have HJ:Hid (j<(Pl.ah kd).length∧((Pl.ah kd).getD j Pl.bu).many=mn):=⟨Cc.out.2,IK⟩
  have DW:(0:Int)≤(j:Int):=by omega
  have Q0:(j:Int)<(m:Int):=by have:=Cc.out.2;omega
  have AH:Hid (∀ X,Calls Tryz.prog 25 #[.string kd] X (eT [.row 75 aB] (bV (Pl.ah kd)) X)):=IM.out;have HM:=uh hm;clear hm mL IK IM;go_upto_region 6 with fail
  refine RY.aM wy zR (VLm kd x p o n vc k j m mn) (x6 _ _ _ _ _ _ _ _ _ _) (by kernel_rfl) (by kernel_rfl) (by kernel_rfl) (by kernel_rfl) ?_ ?_
  ·intro i o' ho a X hX hk hd;have yx0:X.cell? ⟨p,o+k*2,none⟩=some (.string x.key):=(hX.cell (p:=⟨p,o+k*2,none⟩) HP.out).trans (aF cU.out 0 _ rfl);match i,ho with
   |0,rfl|2,rfl=>
    exact RY.n (RY.p (.string kd) (by simp[execOp,go_sem,RY.K hk 0 (.string kd)]))
   |1,rfl=>
    have e46:=RY.E hd 0 46;refine No ⟨RY.cG rfl,Xk ⟨25,#[.string kd],by simp[go_sem,e46],(AH.out X).mono ?_⟩⟩;rintro e W' ⟨v,F,rfl,hr,_,_,hb⟩;obtain⟨q,oo,cc,a1,c1,v3,hv,hp,hg,_,_⟩:=gD hr.raw HJ.out.1;have RU:=aF hg 2 _ rfl;rw[HJ.out.2]at RU;exact⟨_,rfl,hb,q,oo,cc,by rw[HM.out];exact hv,hp,RU⟩
   |3,rfl=>
    exact RY.n (RY.p (.slice (some ⟨p,o,none⟩) n vc) (by simp[execOp,go_sem,RY.K hk 1 (.slice (some ⟨p,o,none⟩) n vc)]))
   |4,rfl=>
    exact RY.n (RY.p (.int .i64 (k:Int)) (by simp[execOp,go_sem,RY.K hk 5 (.int .i64 (k:Int))]))
   |5,rfl=>
    exact RY.n (RY.p (.pointer (some ⟨p,o+k*2,none⟩)) (by simp[execOp,go_sem,RY.E hd 3 49,RY.E hd 4 50,cZ,dy]))
   |6,rfl=>
    exact RY.n (RY.p (.pointer (some ⟨p,o+k*2,none⟩)) (by simp[execOp,go_sem,RY.E hd 5 51]))
   |7,rfl=>
    exact RY.n (RY.p (.string x.key) (by simp[execOp,go_sem,RY.E hd 6 52,yx0]))
   |8,rfl=>
    have e48:=RY.E hd 2 48;have e53:=RY.E hd 7 53;refine No ⟨RY.cG rfl,Xk ⟨39,#[.string kd,.string x.key],by simp[go_sem,e48,e53],(lH.out X).mono ?_⟩⟩;rintro e W' ⟨rfl,hb⟩;exact⟨_,rfl,hb,rfl⟩
   |9,rfl=>
    obtain⟨q,oo,cc,e470,hq,hc⟩:=hd 1 _ 47 rfl rfl ⟨⟨1,.data⟩,by simp,rfl,rfl⟩;have e47:=(RY.ai a 47).trans e470;exact No ⟨RY.cG rfl,No ⟨.pointer (some ⟨q,oo+j*4,none⟩),X,by simp[execOp,go_sem,e47,RY.E hd 8 54,DW,Q0],zR,q,oo,rfl,hq,hc⟩⟩
   |10,rfl=>
    obtain⟨q,oo,e550,hq,hc⟩:=hd 9 _ 55 rfl rfl ⟨⟨9,.data⟩,by simp,rfl,rfl⟩;have e55:=(RY.ai a 55).trans e550;exact No ⟨RY.cG rfl,No ⟨.pointer (some ⟨q,oo+j*4+2,none⟩),X,by simp[execOp,go_sem,e55],zR,q,oo,rfl,hq,hc⟩⟩
   |11,rfl=>
    obtain⟨q,oo,e560,hq,yc⟩:=hd 10 _ 56 rfl rfl ⟨⟨10,.data⟩,by simp,rfl,rfl⟩;have e56:=(RY.ai a 56).trans e560;exact RY.n (RY.p (.bool mn) (by simp[execOp,go_sem,e56,yc]))
   |12,rfl=>
    exact RY.n (RY.p (.bool mn) (by simp[execOp,go_sem,RY.E hd 11 57]))
   |n+13,ho=>simp at ho
  intro X vs hX bn;have q6:vs 6=_:=bn 12 _ 6 rfl rfl;simp only[RY.aC,Act.put,so,As,An];rw[q6];generalize vs 46=s46,vs 47=s47,vs 48=s48,vs 49=s49,vs 50=Cn,vs 51=s51,vs 52=s52,vs 53=s53,vs 54=s54,vs 55=s55,vs 56=s56,vs 57=s57;clear bn q6;obtain⟨wz,rfl⟩:∃ wz,wz=X:=⟨_,rfl⟩
  replace uG:=uh (lC uG.out HP.out hX)
  replace HW:=uh (ae HW.out hX)
  replace cU:=uh (aj cU.out HP.out hX)
  replace HP:=uh (zL HP.out hX.size)
  clear hX lH AH HJ HM DW Q0;go_wp2;go_loopw [7,8] (fun vn vi wr=>∃ q:Nat,q≤k+1∧vi=.int .i64 q∧vn=.int .i64 ((Pl.aR (L.take q) x.key:Nat):Int)∧Bel wz wr) (fun _ vi _=>k+1 - (intOf vi).toNat)
  case atStart=>exact⟨0,zN,rfl,rfl,zR⟩
  case round=>
   obtain⟨q,hq,rfl,rfl,hB⟩:=hrel;have HB:=uh hB;clear hB;have I3:Hid (∀ q,Pl.aR (L.take q) x.key≤q):=fun q=>Xg Yd (by rw[Xo];omega);by_cases hqk:q≤k
   ·have kz:q<L.length:=by have:=HN.out;omega
    obtain⟨az,cz,Rb,_⟩:=uG.out q kz;have y1:=(HB.out.cell (p:=⟨p,o+q*2,none⟩) HP.out).trans (aF Rb 0 _ rfl);have y0:=(HB.out.cell (p:=⟨p,o+k*2,none⟩) HP.out).trans (aF cU.out 0 _ rfl);have eU:=uh (xo kz x.key);obtain⟨z,hz⟩:∃ z,z=(L.getD q Pl.aK).key:=⟨_,rfl⟩
    have y1':wr.cell? ⟨p,o+q*2,none⟩=some (.string z):=by rw[hz];exact y1
    rw[← hz]at eU;have Rr:p<wr.heap.size:=zL HP.out HB.out.size;have Sk:(0:Int)≤(q:Int):=by omega
    have I2:(q:Int)<(n:Int):=by omega
    have Vr:(q:Int)≤(k:Int):=by omega
    have Eo:=I3.out q;obtain⟨ct,sE⟩:∃ ct,ct=Pl.aR (L.take q) x.key:=⟨_,rfl⟩
    rw[← sE]at Eo eU ⊢;clear Rb hz y1 I3 sE;cases hh:(z.toList==x.key.toList)
    ·have HE:Hid (Pl.aR (L.take (q+1)) x.key=ct):=by show _=_;rw[eU.out,Pl.eZ,hh];rfl
     go_wp2_with fail
     go_quiet (fail)
     go_wp2;go_roundw
     case rel=>exact⟨q+1,by omega,by go_num,by first|rw[HE.out]|(rw[HE.out];go_num),gy HB.out _⟩
     case measure=>simp[intOf];omega
    ·have HE:Hid (Pl.aR (L.take (q+1)) x.key=ct+1):=by show _=_;rw[eU.out,Pl.eZ,hh];rfl
     go_wp2_with fail
     go_quiet (fail)
     go_wp2;go_roundw
     case rel=>exact⟨q+1,by omega,by go_num,by first|(rw[HE.out];go_num)|rw[HE.out],gy HB.out _⟩
     case measure=>simp[intOf];omega
   ·obtain rfl:q=k+1:=by omega
    have Eo:=I3.out (k+1);obtain⟨ct,sE⟩:∃ ct,ct=Pl.aR (L.take (k+1)) x.key:=⟨_,rfl⟩
    rw[← sE]at Eo wE ⊢;clear sE I3;have Vj:¬ ((k+1:Nat):Int)≤(k:Int):=by omega
    cases hco:Pl.kh mn ct
    ·have yJ:Hid (Pl.dA kd L=false):=lP.out (by rw[wE.out,hco]);unfold Pl.kh at hco;have jn:(mn=false∧(1:Int)<(ct:Int))∨((mn=true∨¬ (1:Int)<(ct:Int))∧(10:Int)<(ct:Int)):=by
      cases mn<;>simp at hco ⊢<;>omega
     clear hco;rcases jn with⟨rfl,c1⟩|⟨c1|c1,c2⟩
     ·go_wp2;go_ret;exact⟨Pl.ar yJ.out.symm,ae HW.out HB.out⟩
     ·subst c1;go_wp2;go_ret;exact⟨Pl.ar yJ.out.symm,ae HW.out HB.out⟩
     ·exfalso;omega
    ·have nL:=uh (Pl.fO HI.out (wE.out.trans hco));unfold Pl.kh at hco;have jn:(mn=true∨¬ (1:Int)<(ct:Int))∧¬ (10:Int)<(ct:Int):=by
      cases mn<;>simp at hco ⊢<;>omega
     obtain⟨c1,c2⟩:=jn;clear hco;rcases c1 with c1|c1
     ·subst c1;go_wp2;go_roundw
      case rel=>exact⟨k+1,by omega,by go_num,ae HW.out HB.out,nL.out⟩
      case measure=>simp[intOf];omega
     ·cases mn
      all_goals
       go_wp2;go_roundw
       case rel=>exact⟨k+1,by omega,by go_num,ae HW.out HB.out,nL.out⟩
       case measure=>simp[intOf];omega
theorem oG (x y:Pl.Bl) (v1 v2:Value) (w:World):
  Calls Tryz.prog 38 #[.agg #[.string x.kind,.string x.name,v1],.agg #[.string y.kind,.string y.name,v2]] w fun e w'=>e=.returned (.bool (Pl.ahead x y))∧Bel w w':=by
 obtain⟨wa,aP⟩:∃ wa,wa=(w.alloc (.cells #[.string x.kind,.string x.name,v1] 58)).alloc (.cells #[.string y.kind,.string y.name,v2] 58):=⟨_,rfl⟩
 have dX:Hid (Bel w wa):=by show Below _ _ _;rw[aP];exact af (af zR _) _
 have HX:au wa w.heap.size [.string x.kind,.string x.name,v1]:=by rw[aP];exact(au.new w #[.string x.kind,.string x.name,v1] _ _ rfl).eO _
 have HY:au wa (w.heap.size+1) [.string y.kind,.string y.name,v2]:=by rw[aP];exact au.new (w.alloc (.cells #[.string x.kind,.string x.name,v1] 58)) #[.string y.kind,.string y.name,v2] _ _ (by simp)
 have HR:Hid (Pl.ahead x y=(Op.bytesLess x.kind.toList y.kind.toList||((x.kind.toList==y.kind.toList)&&Op.bytesLess x.name.toList y.name.toList))):=rfl;go_enter Tryz.func38,Tryz.ntmps38
 go_upto_region 1 with fail
 rw[← aP];clear aP;have x0:=HX.get 0 _ rfl;have x1:=HX.get 1 _ rfl;have xl:=HX.lt;have y0:=HY.get 0 _ rfl;have y1:=HY.get 1 _ rfl;have yl:=HY.lt;clear HX HY;cases h1:Op.bytesLess x.kind.toList y.kind.toList
 ·cases h2:(x.kind.toList==y.kind.toList)
  ·go_wp2;go_ret;exact⟨Pl.ar (by rw[HR.out,h1,h2];rfl),dX.out⟩
  ·go_wp2;go_ret;exact⟨Pl.ar (by rw[HR.out,h1,h2];simp),dX.out⟩
 ·go_wp2;go_ret;exact⟨Pl.ar (by rw[HR.out,h1];rfl),dX.out⟩
def VSa (x:Pl.Bl) (m:Nat) (b1:Nat) (jj:Nat) (u:Value) (_:World):Prop:=match jj with
 |0=>u=.pointer (some ⟨b1,0,none⟩)
 |1=>u=.string x.kind
 |2=>∃ a c,u=.slice a m c
 |3=>u=.int .i64 (m:Int)
 |4|5|10|11|18|19|33=>u=.bool true
 |6|7|8|9|12|13|14|15|16|17|20|21|22|23|24|25|26|27|28|29|30|31|32=>u=undef
 |_=>True
theorem FK (x:Pl.Bl) (m:Nat) (b1:Nat):∀ jj u W W',Bel W W'→VSa x m b1 jj u W→VSa x m b1 jj u W':=fun _ _ _ _ _ h=>h
def VSb (x:Pl.Bl) (m:Nat) (b1:Nat) (jj:Nat) (u:Value) (_:World):Prop:=match jj with
 |0=>u=.pointer (some ⟨b1,0,none⟩)
 |1=>u=.string x.kind
 |2=>∃ a c,u=.slice a m c
 |3=>u=.int .i64 (m:Int)
 |4|5|8=>u=.bool false
 |6=>u=.pointer (some ⟨b1,1,none⟩)
 |7=>u=.string x.name
 |9|10|11|18|19|33=>u=.bool true
 |12|13|14|15|16|17|20|21|22|23|24|25|26|27|28|29|30|31|32=>u=undef
 |_=>True
theorem G8 (x:Pl.Bl) (m:Nat) (b1:Nat):∀ jj u W W',Bel W W'→VSb x m b1 jj u W→VSb x m b1 jj u W':=fun _ _ _ _ _ h=>h
def VSc (x:Pl.Bl) (ax:Option Addr) (cx:Nat) (m:Nat) (b1:Nat) (jj:Nat) (u:Value) (_:World):Prop:=match jj with
 |0|12=>u=.pointer (some ⟨b1,0,none⟩)
 |1|13=>u=.string x.kind
 |2=>∃ a c,u=.slice a m c
 |3=>u=.int .i64 (m:Int)
 |4|5|9|10|11|16=>u=.bool false
 |6=>u=.pointer (some ⟨b1,1,none⟩)
 |7=>u=.string x.name
 |8|17|18|19|33=>u=.bool true
 |14=>u=.pointer (some ⟨b1,2,none⟩)
 |15=>u=.slice ax x.lines.length cx
 |20|21|22|23|24|25|26|27|28|29|30|31|32=>u=undef
 |_=>True
theorem Gc (x:Pl.Bl) (ax:Option Addr) (cx:Nat) (m:Nat) (b1:Nat):∀ jj u W W',Bel W W'→VSc x ax cx m b1 jj u W→VSc x ax cx m b1 jj u W':=fun _ _ _ _ _ h=>h
def VSd (x:Pl.Bl) (ax:Option Addr) (cx:Nat) (k:Nat) (m:Nat) (b1:Nat) (jj:Nat) (u:Value) (_:World):Prop:=match jj with
 |0|12=>u=.pointer (some ⟨b1,0,none⟩)
 |1|13=>u=.string x.kind
 |2=>∃ a c,u=.slice a m c
 |3=>u=.int .i64 (m:Int)
 |4|5|9|10|11|17|18|19|21|22|32|33=>u=.bool false
 |6=>u=.pointer (some ⟨b1,1,none⟩)
 |7=>u=.string x.name
 |8|16=>u=.bool true
 |14=>u=.pointer (some ⟨b1,2,none⟩)
 |15=>u=.slice ax x.lines.length cx
 |20=>u=.int .i64 (k:Int)
 |23|24|25|26|27|28|29|30|31=>u=undef
 |_=>True
theorem EU (x:Pl.Bl) (ax:Option Addr) (cx:Nat) (k:Nat) (m:Nat) (b1:Nat):∀ jj u W W',Bel W W'→VSd x ax cx k m b1 jj u W→VSd x ax cx k m b1 jj u W':=fun _ _ _ _ _ h=>h
def VSe (x:Pl.Bl) (y:Pl.Bl) (ax:Option Addr) (ay:Option Addr) (cx:Nat) (cy:Nat) (p:Nat) (o:Nat) (n:Nat) (vc:Nat) (k:Nat) (m:Nat) (b0:Nat) (b1:Nat) (b:Bool) (jj:Nat) (u:Value) (_:World):Prop:=match jj with
 |0|12=>u=.pointer (some ⟨b1,0,none⟩)
 |1|13=>u=.string x.kind
 |2=>∃ a c,u=.slice a m c
 |3=>u=.int .i64 (m:Int)
 |4|5|9|10|11|17|18|19=>u=.bool false
 |6=>u=.pointer (some ⟨b1,1,none⟩)
 |7=>u=.string x.name
 |8|16|21|22=>u=.bool true
 |14=>u=.pointer (some ⟨b1,2,none⟩)
 |15=>u=.slice ax x.lines.length cx
 |20|25=>u=.int .i64 (k:Int)
 |23=>u=.pointer (some ⟨b0,0,none⟩)
 |24=>u=.slice (some ⟨p,o,none⟩) n vc
 |26=>u=.int .i64 ((k:Int) - 1)
 |27=>u=.pointer (some ⟨p,o+(k - 1)*3,none⟩)
 |28=>u=.agg #[.string y.kind,.string y.name,.slice ay y.lines.length cy]
 |29=>u=.agg #[.string x.kind,.string x.name,.slice ax x.lines.length cx]
 |30=>u=.bool b
 |31|32|33=>u=.bool (!b)
 |_=>True
theorem Fp (x:Pl.Bl) (y:Pl.Bl) (ax:Option Addr) (ay:Option Addr) (cx:Nat) (cy:Nat) (p:Nat) (o:Nat) (n:Nat) (vc:Nat) (k:Nat) (m:Nat) (b0:Nat) (b1:Nat) (b:Bool):∀ jj u W W',Bel W W'→VSe x y ax ay cx cy p o n vc k m b0 b1 b jj u W→VSe x y ax ay cx cy p o n vc k m b0 b1 b jj u W':=fun _ _ _ _ _ h=>h
def oi (s:List Pl.Bl):Prop:=∀ b∈s,b.name.size≤maxLen∧∀ x∈b.lines,∀ t∈x.ws,t.size≤maxLen
theorem kR (s:List Pl.Bl) (v:Value) (w:World) (h:Raw w bL [cq s] [v]) (hz:oi s):
  Calls Tryz.prog 21 #[.agg #[v]] w fun e w'=>e=.returned (.bool (Pl.bw s))∧Bel w w':=by
 have HL:=uh h;have HZ:=uh hz;obtain⟨va,vc,ev⟩:=h.aT;subst ev;have HR:Hid (Pl.bw s=(decide (s.length≤60)&&(List.range s.length).all (Pl.dQ s))):=rfl;clear h hz;obtain⟨n,hn⟩:∃ n,n=s.length:=⟨_,rfl⟩
 have HN:=uh hn;rw[← hn]at HR;have gF:s.length=n:=hn.symm;clear hn;rw[gF];clear gF;obtain⟨wa,aP⟩:∃ wa,wa=w.alloc (.cells #[.slice va n vc] 26):=⟨_,rfl⟩
 have ti:Hid (Bel w wa):=by show Below _ _ _;rw[aP];exact af zR _
 have dX:Hid (au wa w.heap.size [.slice va n vc]):=by show au _ _ _;rw[aP];exact au.new w #[.slice va n vc] _ _ rfl
 go_enter Tryz.func21,Tryz.ntmps21
 go_upto_region 1 with fail
 rw[← aP];clear aP;have x0:=dX.out.get 0 _ rfl;have xl:=dX.out.lt;by_cases Li:(60:Int)<(n:Int)
 ·have HX:Hid (Pl.bw s=false):=by show _=_;rw[HR.out];simp;intro h;omega
  go_wp2;go_ret;exact⟨Pl.ar HX.out.symm,ti.out⟩
 have HV:Hid (Pl.bw s=(List.range n).all (Pl.dQ s)):=by show _=_;rw[HR.out];simp;omega
 go_upto_region 3 with fail
 clear x0 xl HR;obtain⟨b0,aU⟩:∃ b0,b0=w.heap.size:=⟨_,rfl⟩
 rw[← aU]at dX ⊢;have fZ:=uh aU;clear aU;go_wp2;go_loopw [3] (fun i wr=>∃ k:Nat,k≤n∧i=.int .i64 k∧Bel w wr∧au wr b0 [.slice va n vc]∧(List.range k).all (Pl.dQ s)=true) (fun i _=>n - (intOf i).toNat)
 case atStart=>exact⟨0,zN,rfl,ti.out,dX.out,rfl⟩
 case round=>
  clear dX;obtain⟨k,hk,rfl,hW,TD,hI⟩:=hrel;have HW:=uh hW;have HI:=uh hI;have lS:=uh TD;have x0:=TD.get 0 _ rfl;have xl:=TD.lt;clear hW hI TD;by_cases bq:k<n
  rotate_left
  ·obtain rfl:k=n:=by omega
   go_wp2;go_ret;exact⟨Pl.ar (by rw[HV.out,HI.out]),HW.out⟩
  have eB:k<s.length:=by have:=HN.out;omega
  rcases cN (HL.out.later HW.out) with⟨e0,_⟩|⟨p,o,c,hv,hp,dR,aE⟩
  ·omega
  rw[← HN.out]at hv dR;injection hv with g1 _ g3
  subst g1;subst g3;unfold maxLen at dR;obtain⟨ax,cx,dm,dH⟩:=aE k eB;have lP:=uh (fun h=>(HV.out.trans (Pl.gA bq h)));have jl:Hid (Pl.dQ s k=(!decide ((Pl.ah (s.getD k Pl.aG).kind).length=0)&&Pl.bE (s.getD k Pl.aG).name&&Pl.dA (s.getD k Pl.aG).kind (s.getD k Pl.aG).lines&&(decide (k=0)||Pl.ahead (s.getD (k - 1) Pl.aG) (s.getD k Pl.aG)))):=rfl;obtain⟨x,hx⟩:∃ x,x=s.getD k Pl.aG:=⟨_,rfl⟩
  have So:x.name.size≤maxLen∧∀ z∈x.lines,∀ t∈z.ws,t.size≤maxLen:=by
   have e:s.getD k Pl.aG=s[k]:=by simp[eB]
   rw[hx,e];exact HZ.out _ (Xq eB)
  rw[← hx]at dm dH jl;obtain⟨wq,yN⟩:∃ wq,wq=wr.alloc (.cells #[.string x.kind,.string x.name,.slice ax x.lines.length cx] 58):=⟨_,rfl⟩
  obtain⟨b1,cr⟩:∃ b1,b1=wr.heap.size:=⟨_,rfl⟩
  have Qk:Bel wr wq:=by rw[yN];exact af zR _
  have jk:Hid (au wq b1 [.string x.kind,.string x.name,.slice ax x.lines.length cx]):=by show au _ _ _;rw[yN,cr];exact au.new wr #[.string x.kind,.string x.name,.slice ax x.lines.length cx] _ _ rfl
  have dX:=uh (lS.out.later Qk);have gW:=uh (ae HW.out Qk);have HP:=uh (zL hp Qk.size);have qn:=uh (dH.later Qk);have uG:Hid (∀ k,k<s.length→∃ a c',wq.rangeAt p (o+k*3) [.string (s.getD k Pl.aG).kind,.string (s.getD k Pl.aG).name,.slice a (s.getD k Pl.aG).lines.length c']):=fun k hk=>by
   obtain⟨a,c',h1,_⟩:=aE k hk;exact⟨a,c',aj h1 hp Qk⟩
  have cZ:(0:Int)≤(k:Int):=by omega
  have dy:(k:Int)<(n:Int):=by omega
  have Rh:wr.rangeAt p (o+k*3) [.string x.kind,.string x.name,.slice ax x.lines.length cx]:=dm;have TR:=uh So;clear hx aE So;go_upto_region 7 with(refine wpList_load_mid rfl 58 _ rfl p (o+k*3) rfl [.string x.kind,.string x.name,.slice ax x.lines.length cx] _ Rh Tryz.underlying58 rfl (by kernel_rfl) ?_)
  rw[← yN,← cr];clear yN cr Qk dm dH Rh x0 xl HW lS hp cZ dy;have AH:=uh (fun X=>dW x.kind X);have Le:=uh (fun X=>mC x.name X TR.out.1);have yK:=uh (fun (X:World) (hX:Bel wq X)=>yh x.kind x.lines (.slice ax x.lines.length cx) X (qn.out.later hX) TR.out.2);obtain⟨m,hm⟩:∃ m,m=(Pl.ah x.kind).length:=⟨_,rfl⟩
  have HM:=uh hm;rw[← hm]at jl;clear hm;by_cases lG:m=0
  ·have yJ:Hid (Pl.bw s=false):=lP.out (by rw[jl.out,lG];rfl);obtain⟨y,ay,cy,b⟩:Pl.Bl×Option Addr×Nat×Bool:=⟨Pl.aG,none,0,false⟩
   refine RY.aM wq zR (VSa x m b1) (FK _ _ _) (by kernel_rfl) (by kernel_rfl) (by kernel_rfl) (by kernel_rfl) ?_ ?_
   ·intro i o' ho a X hX hk hd;have z0:=(jk.out.later hX).get 0 _ rfl;have z1:=(jk.out.later hX).get 1 _ rfl;have z2:=(jk.out.later hX).get 2 _ rfl;have rx:=(jk.out.later hX).at_;have zb:=(dX.out.later hX).get 0 _ rfl;match i,ho with
    |0,rfl=>
     exact RY.n (RY.p (.pointer (some ⟨b1,0,none⟩)) (by simp[execOp,go_sem,RY.K hk 4 (.pointer (some ⟨b1,0,none⟩))]))
    |1,rfl=>
     exact RY.n (RY.p (.string x.kind) (by simp[execOp,go_sem,RY.E hd 0 21,z0]))
    |2,rfl=>
     have e22:=RY.E hd 1 22;refine No ⟨RY.cG rfl,Xk ⟨25,#[.string x.kind],by simp[go_sem,e22],(AH.out X).mono ?_⟩⟩;rintro e W' ⟨v,F,rfl,hr,_,_,hb⟩;obtain⟨a1,c1,hv⟩:=hr.raw.aT;exact⟨_,rfl,hb,a1,c1,by rw[HM.out];exact hv⟩
    |3,rfl=>
     obtain⟨a1,c1,e230⟩:=hd 2 _ 23 rfl rfl ⟨⟨2,.data⟩,by simp,rfl,rfl⟩;have e23:=(RY.ai a 23).trans e230;exact RY.n (RY.p (.int .i64 (m:Int)) (by simp[go_sem,e23]))
    |4,rfl=>
     exact RY.n (RY.p (.bool true) (by simp[execOp,go_sem,RY.E hd 3 24,lG]))
    |5,rfl=>
     exact RY.n (RY.p (.bool true) (by simp[execOp,go_sem,RY.E hd 4 25]))
    |6,rfl|7,rfl|8,rfl|9,rfl=>
     exact RY.off hd 5 26
    |10,rfl=>
     exact RY.n (RY.p (.bool true) (by simp[execOp,go_sem,RY.E hd 5 26,RY.E hd 9 30]))
    |11,rfl=>
     exact RY.n (RY.p (.bool true) (by simp[execOp,go_sem,RY.E hd 10 31]))
    |12,rfl|13,rfl|14,rfl|15,rfl|16,rfl|17,rfl=>
     exact RY.off hd 11 32
    |18,rfl=>
     exact RY.n (RY.p (.bool true) (by simp[execOp,go_sem,RY.E hd 11 32,RY.E hd 17 38]))
    |19,rfl=>
     exact RY.n (RY.p (.bool true) (by simp[execOp,go_sem,RY.E hd 18 39]))
    |20,rfl|21,rfl|22,rfl|32,rfl=>
     exact RY.off hd 19 40
    |23,rfl|24,rfl|25,rfl|26,rfl|27,rfl|28,rfl|29,rfl|30,rfl|31,rfl=>
     exact RY.Ks hd 22 43
    |33,rfl=>
     exact RY.n (RY.p (.bool true) (by simp[execOp,go_sem,RY.E hd 19 40,RY.E hd 32 53]))
    |n+34,ho=>simp at ho
   intro X vs hX bn;have q54:vs 54=_:=bn 33 _ 54 rfl rfl;simp only[RY.aC,Act.put,so,As,An];rw[q54];generalize vs 21=s21,vs 22=s22,vs 23=s23,vs 24=s24,vs 25=s25,vs 26=s26,vs 27=s27,vs 28=s28,vs 29=s29,vs 30=s30,vs 31=sL,vs 32=pS,vs 33=pY,vs 34=qo,vs 35=nP,vs 36=mU,vs 37=nS,vs 38=mT,vs 39=nW,vs 40=s40,vs 41=s41,vs 42=s42,vs 43=s43,vs 44=s44,vs 45=s45,vs 46=s46,vs 47=s47,vs 48=s48,vs 49=s49,vs 50=Cn,vs 51=s51,vs 52=s52,vs 53=s53;clear bn q54;go_wp2;go_ret;exact⟨Pl.ar yJ.out.symm,ae gW.out hX⟩
  have hdm:decide (m=0)=false:=by simpa using lG
  rw[hdm]at jl;clear hdm;obtain⟨nm,uS⟩:∃ b,b=Pl.bE x.name:=⟨_,rfl⟩
  rw[← uS]at Le jl;clear uS;cases nm
  ·have yJ:Hid (Pl.bw s=false):=lP.out (by rw[jl.out];rfl);have nO:Hid (∀ X,Calls Tryz.prog 42 #[.string x.name] X fun e w'=>e=.returned (.bool false)∧X=w'):=Le.out;obtain⟨y,ay,cy,b⟩:Pl.Bl×Option Addr×Nat×Bool:=⟨Pl.aG,none,0,false⟩
   refine RY.aM wq zR (VSb x m b1) (G8 _ _ _) (by kernel_rfl) (by kernel_rfl) (by kernel_rfl) (by kernel_rfl) ?_ ?_
   ·intro i o' ho a X hX hk hd;have z0:=(jk.out.later hX).get 0 _ rfl;have z1:=(jk.out.later hX).get 1 _ rfl;have z2:=(jk.out.later hX).get 2 _ rfl;have rx:=(jk.out.later hX).at_;have zb:=(dX.out.later hX).get 0 _ rfl;match i,ho with
    |0,rfl=>
     exact RY.n (RY.p (.pointer (some ⟨b1,0,none⟩)) (by simp[execOp,go_sem,RY.K hk 4 (.pointer (some ⟨b1,0,none⟩))]))
    |1,rfl=>
     exact RY.n (RY.p (.string x.kind) (by simp[execOp,go_sem,RY.E hd 0 21,z0]))
    |2,rfl=>
     have e22:=RY.E hd 1 22;refine No ⟨RY.cG rfl,Xk ⟨25,#[.string x.kind],by simp[go_sem,e22],(AH.out X).mono ?_⟩⟩;rintro e W' ⟨v,F,rfl,hr,_,_,hb⟩;obtain⟨a1,c1,hv⟩:=hr.raw.aT;exact⟨_,rfl,hb,a1,c1,by rw[HM.out];exact hv⟩
    |3,rfl=>
     obtain⟨a1,c1,e230⟩:=hd 2 _ 23 rfl rfl ⟨⟨2,.data⟩,by simp,rfl,rfl⟩;have e23:=(RY.ai a 23).trans e230;exact RY.n (RY.p (.int .i64 (m:Int)) (by simp[go_sem,e23]))
    |4,rfl=>
     exact RY.n (RY.p (.bool false) (by simp[execOp,go_sem,RY.E hd 3 24,lG]))
    |5,rfl=>
     exact RY.n (RY.p (.bool false) (by simp[execOp,go_sem,RY.E hd 4 25]))
    |6,rfl=>
     exact RY.on hd 5 26 (RY.p (.pointer (some ⟨b1,1,none⟩)) (by simp[execOp,go_sem,RY.K hk 4 (.pointer (some ⟨b1,0,none⟩))]))
    |7,rfl=>
     exact RY.on hd 5 26 (RY.p (.string x.name) (by simp[execOp,go_sem,RY.E hd 6 27,z1]))
    |8,rfl=>
     have e28:=RY.E hd 7 28;refine RY.on hd 5 26 (.inr ⟨42,#[.string x.name],by simp[go_sem,e28],(nO.out X).mono ?_⟩);rintro e W' ⟨rfl,rfl⟩;exact⟨_,rfl,zR,rfl⟩
    |9,rfl=>
     exact RY.on hd 5 26 (RY.p (.bool true) (by simp[execOp,go_sem,RY.E hd 8 29]))
    |10,rfl=>
     exact RY.n (RY.p (.bool true) (by simp[execOp,go_sem,RY.E hd 5 26,RY.E hd 9 30]))
    |11,rfl=>
     exact RY.n (RY.p (.bool true) (by simp[execOp,go_sem,RY.E hd 10 31]))
    |12,rfl|13,rfl|14,rfl|15,rfl|16,rfl|17,rfl=>
     exact RY.off hd 11 32
    |18,rfl=>
     exact RY.n (RY.p (.bool true) (by simp[execOp,go_sem,RY.E hd 11 32,RY.E hd 17 38]))
    |19,rfl=>
     exact RY.n (RY.p (.bool true) (by simp[execOp,go_sem,RY.E hd 18 39]))
    |20,rfl|21,rfl|22,rfl|32,rfl=>
     exact RY.off hd 19 40
    |23,rfl|24,rfl|25,rfl|26,rfl|27,rfl|28,rfl|29,rfl|30,rfl|31,rfl=>
     exact RY.Ks hd 22 43
    |33,rfl=>
     exact RY.n (RY.p (.bool true) (by simp[execOp,go_sem,RY.E hd 19 40,RY.E hd 32 53]))
    |n+34,ho=>simp at ho
   intro X vs hX bn;have q54:vs 54=_:=bn 33 _ 54 rfl rfl;simp only[RY.aC,Act.put,so,As,An];rw[q54];generalize vs 21=s21,vs 22=s22,vs 23=s23,vs 24=s24,vs 25=s25,vs 26=s26,vs 27=s27,vs 28=s28,vs 29=s29,vs 30=s30,vs 31=sL,vs 32=pS,vs 33=pY,vs 34=qo,vs 35=nP,vs 36=mU,vs 37=nS,vs 38=mT,vs 39=nW,vs 40=s40,vs 41=s41,vs 42=s42,vs 43=s43,vs 44=s44,vs 45=s45,vs 46=s46,vs 47=s47,vs 48=s48,vs 49=s49,vs 50=Cn,vs 51=s51,vs 52=s52,vs 53=s53;clear bn q54;go_wp2;go_ret;exact⟨Pl.ar yJ.out.symm,ae gW.out hX⟩
  have nO:Hid (∀ X,Calls Tryz.prog 42 #[.string x.name] X fun e w'=>e=.returned (.bool true)∧X=w'):=Le.out;clear Le;obtain⟨ln,yS⟩:∃ b,b=Pl.dA x.kind x.lines:=⟨_,rfl⟩
  rw[← yS]at yK jl;clear yS;cases ln
  ·have yJ:Hid (Pl.bw s=false):=lP.out (by rw[jl.out];rfl);have jN:Hid (∀ X:World,Bel wq X→Calls Tryz.prog 44 #[.string x.kind,.slice ax x.lines.length cx] X fun e w'=>e=.returned (.bool false)∧Bel X w'):=yK.out;obtain⟨y,ay,cy,b⟩:Pl.Bl×Option Addr×Nat×Bool:=⟨Pl.aG,none,0,false⟩
   refine RY.aM wq zR (VSc x ax cx m b1) (Gc _ _ _ _ _) (by kernel_rfl) (by kernel_rfl) (by kernel_rfl) (by kernel_rfl) ?_ ?_
   ·intro i o' ho a X hX hk hd;have z0:=(jk.out.later hX).get 0 _ rfl;have z1:=(jk.out.later hX).get 1 _ rfl;have z2:=(jk.out.later hX).get 2 _ rfl;have rx:=(jk.out.later hX).at_;have zb:=(dX.out.later hX).get 0 _ rfl;match i,ho with
    |0,rfl=>
     exact RY.n (RY.p (.pointer (some ⟨b1,0,none⟩)) (by simp[execOp,go_sem,RY.K hk 4 (.pointer (some ⟨b1,0,none⟩))]))
    |1,rfl=>
     exact RY.n (RY.p (.string x.kind) (by simp[execOp,go_sem,RY.E hd 0 21,z0]))
    |2,rfl=>
     have e22:=RY.E hd 1 22;refine No ⟨RY.cG rfl,Xk ⟨25,#[.string x.kind],by simp[go_sem,e22],(AH.out X).mono ?_⟩⟩;rintro e W' ⟨v,F,rfl,hr,_,_,hb⟩;obtain⟨a1,c1,hv⟩:=hr.raw.aT;exact⟨_,rfl,hb,a1,c1,by rw[HM.out];exact hv⟩
    |3,rfl=>
     obtain⟨a1,c1,e230⟩:=hd 2 _ 23 rfl rfl ⟨⟨2,.data⟩,by simp,rfl,rfl⟩;have e23:=(RY.ai a 23).trans e230;exact RY.n (RY.p (.int .i64 (m:Int)) (by simp[go_sem,e23]))
    |4,rfl=>
     exact RY.n (RY.p (.bool false) (by simp[execOp,go_sem,RY.E hd 3 24,lG]))
    |5,rfl=>
     exact RY.n (RY.p (.bool false) (by simp[execOp,go_sem,RY.E hd 4 25]))
    |6,rfl=>
     exact RY.on hd 5 26 (RY.p (.pointer (some ⟨b1,1,none⟩)) (by simp[execOp,go_sem,RY.K hk 4 (.pointer (some ⟨b1,0,none⟩))]))
    |7,rfl=>
     exact RY.on hd 5 26 (RY.p (.string x.name) (by simp[execOp,go_sem,RY.E hd 6 27,z1]))
    |8,rfl=>
     have e28:=RY.E hd 7 28;refine RY.on hd 5 26 (.inr ⟨42,#[.string x.name],by simp[go_sem,e28],(nO.out X).mono ?_⟩);rintro e W' ⟨rfl,rfl⟩;exact⟨_,rfl,zR,rfl⟩
    |9,rfl=>
     exact RY.on hd 5 26 (RY.p (.bool false) (by simp[execOp,go_sem,RY.E hd 8 29]))
    |10,rfl=>
     exact RY.n (RY.p (.bool false) (by simp[execOp,go_sem,RY.E hd 5 26,RY.E hd 9 30]))
    |11,rfl=>
     exact RY.n (RY.p (.bool false) (by simp[execOp,go_sem,RY.E hd 10 31]))
    |12,rfl=>
     exact RY.on hd 11 32 (RY.p (.pointer (some ⟨b1,0,none⟩)) (by simp[execOp,go_sem,RY.K hk 4 (.pointer (some ⟨b1,0,none⟩))]))
    |13,rfl=>
     exact RY.on hd 11 32 (RY.p (.string x.kind) (by simp[execOp,go_sem,RY.E hd 12 33,z0]))
    |14,rfl=>
     exact RY.on hd 11 32 (RY.p (.pointer (some ⟨b1,2,none⟩)) (by simp[execOp,go_sem,RY.K hk 4 (.pointer (some ⟨b1,0,none⟩))]))
    |15,rfl=>
     exact RY.on hd 11 32 (RY.p (.slice ax x.lines.length cx) (by simp[execOp,go_sem,RY.E hd 14 35,z2]))
    |16,rfl=>
     have e34:=RY.E hd 13 34;have e36:=RY.E hd 15 36;refine RY.on hd 11 32 (.inr ⟨44,#[.string x.kind,.slice ax x.lines.length cx],by simp[go_sem,e34,e36],(jN.out X hX).mono ?_⟩);rintro e W' ⟨rfl,hb⟩;exact⟨_,rfl,hb,rfl⟩
    |17,rfl=>
     exact RY.on hd 11 32 (RY.p (.bool true) (by simp[execOp,go_sem,RY.E hd 16 37]))
    |18,rfl=>
     exact RY.n (RY.p (.bool true) (by simp[execOp,go_sem,RY.E hd 11 32,RY.E hd 17 38]))
    |19,rfl=>
     exact RY.n (RY.p (.bool true) (by simp[execOp,go_sem,RY.E hd 18 39]))
    |20,rfl|21,rfl|22,rfl|32,rfl=>
     exact RY.off hd 19 40
    |23,rfl|24,rfl|25,rfl|26,rfl|27,rfl|28,rfl|29,rfl|30,rfl|31,rfl=>
     exact RY.Ks hd 22 43
    |33,rfl=>
     exact RY.n (RY.p (.bool true) (by simp[execOp,go_sem,RY.E hd 19 40,RY.E hd 32 53]))
    |n+34,ho=>simp at ho
   intro X vs hX bn;have q54:vs 54=_:=bn 33 _ 54 rfl rfl;simp only[RY.aC,Act.put,so,As,An];rw[q54];generalize vs 21=s21,vs 22=s22,vs 23=s23,vs 24=s24,vs 25=s25,vs 26=s26,vs 27=s27,vs 28=s28,vs 29=s29,vs 30=s30,vs 31=sL,vs 32=pS,vs 33=pY,vs 34=qo,vs 35=nP,vs 36=mU,vs 37=nS,vs 38=mT,vs 39=nW,vs 40=s40,vs 41=s41,vs 42=s42,vs 43=s43,vs 44=s44,vs 45=s45,vs 46=s46,vs 47=s47,vs 48=s48,vs 49=s49,vs 50=Cn,vs 51=s51,vs 52=s52,vs 53=s53;clear bn q54;go_wp2;go_ret;exact⟨Pl.ar yJ.out.symm,ae gW.out hX⟩
  have jN:Hid (∀ X:World,Bel wq X→Calls Tryz.prog 44 #[.string x.kind,.slice ax x.lines.length cx] X fun e w'=>e=.returned (.bool true)∧Bel X w'):=yK.out;clear yK;by_cases dp:k=0
  ·have lf:¬ 0<k:=by omega
   have S6:decide (k=0)=true:=by simpa using dp
   rw[S6]at jl;clear dp S6;obtain⟨y,ay,cy,b⟩:Pl.Bl×Option Addr×Nat×Bool:=⟨Pl.aG,none,0,false⟩
   refine RY.aM wq zR (VSd x ax cx k m b1) (EU _ _ _ _ _ _) (by kernel_rfl) (by kernel_rfl) (by kernel_rfl) (by kernel_rfl) ?_ ?_
   ·intro i o' ho a X hX hk hd;have z0:=(jk.out.later hX).get 0 _ rfl;have z1:=(jk.out.later hX).get 1 _ rfl;have z2:=(jk.out.later hX).get 2 _ rfl;have rx:=(jk.out.later hX).at_;have zb:=(dX.out.later hX).get 0 _ rfl;match i,ho with
    |0,rfl=>
     exact RY.n (RY.p (.pointer (some ⟨b1,0,none⟩)) (by simp[execOp,go_sem,RY.K hk 4 (.pointer (some ⟨b1,0,none⟩))]))
    |1,rfl=>
     exact RY.n (RY.p (.string x.kind) (by simp[execOp,go_sem,RY.E hd 0 21,z0]))
    |2,rfl=>
     have e22:=RY.E hd 1 22;refine No ⟨RY.cG rfl,Xk ⟨25,#[.string x.kind],by simp[go_sem,e22],(AH.out X).mono ?_⟩⟩;rintro e W' ⟨v,F,rfl,hr,_,_,hb⟩;obtain⟨a1,c1,hv⟩:=hr.raw.aT;exact⟨_,rfl,hb,a1,c1,by rw[HM.out];exact hv⟩
    |3,rfl=>
     obtain⟨a1,c1,e230⟩:=hd 2 _ 23 rfl rfl ⟨⟨2,.data⟩,by simp,rfl,rfl⟩;have e23:=(RY.ai a 23).trans e230;exact RY.n (RY.p (.int .i64 (m:Int)) (by simp[go_sem,e23]))
    |4,rfl=>
     exact RY.n (RY.p (.bool false) (by simp[execOp,go_sem,RY.E hd 3 24,lG]))
    |5,rfl=>
     exact RY.n (RY.p (.bool false) (by simp[execOp,go_sem,RY.E hd 4 25]))
    |6,rfl=>
     exact RY.on hd 5 26 (RY.p (.pointer (some ⟨b1,1,none⟩)) (by simp[execOp,go_sem,RY.K hk 4 (.pointer (some ⟨b1,0,none⟩))]))
    |7,rfl=>
     exact RY.on hd 5 26 (RY.p (.string x.name) (by simp[execOp,go_sem,RY.E hd 6 27,z1]))
    |8,rfl=>
     have e28:=RY.E hd 7 28;refine RY.on hd 5 26 (.inr ⟨42,#[.string x.name],by simp[go_sem,e28],(nO.out X).mono ?_⟩);rintro e W' ⟨rfl,rfl⟩;exact⟨_,rfl,zR,rfl⟩
    |9,rfl=>
     exact RY.on hd 5 26 (RY.p (.bool false) (by simp[execOp,go_sem,RY.E hd 8 29]))
    |10,rfl=>
     exact RY.n (RY.p (.bool false) (by simp[execOp,go_sem,RY.E hd 5 26,RY.E hd 9 30]))
    |11,rfl=>
     exact RY.n (RY.p (.bool false) (by simp[execOp,go_sem,RY.E hd 10 31]))
    |12,rfl=>
     exact RY.on hd 11 32 (RY.p (.pointer (some ⟨b1,0,none⟩)) (by simp[execOp,go_sem,RY.K hk 4 (.pointer (some ⟨b1,0,none⟩))]))
    |13,rfl=>
     exact RY.on hd 11 32 (RY.p (.string x.kind) (by simp[execOp,go_sem,RY.E hd 12 33,z0]))
    |14,rfl=>
     exact RY.on hd 11 32 (RY.p (.pointer (some ⟨b1,2,none⟩)) (by simp[execOp,go_sem,RY.K hk 4 (.pointer (some ⟨b1,0,none⟩))]))
    |15,rfl=>
     exact RY.on hd 11 32 (RY.p (.slice ax x.lines.length cx) (by simp[execOp,go_sem,RY.E hd 14 35,z2]))
    |16,rfl=>
     have e34:=RY.E hd 13 34;have e36:=RY.E hd 15 36;refine RY.on hd 11 32 (.inr ⟨44,#[.string x.kind,.slice ax x.lines.length cx],by simp[go_sem,e34,e36],(jN.out X hX).mono ?_⟩);rintro e W' ⟨rfl,hb⟩;exact⟨_,rfl,hb,rfl⟩
    |17,rfl=>
     exact RY.on hd 11 32 (RY.p (.bool false) (by simp[execOp,go_sem,RY.E hd 16 37]))
    |18,rfl=>
     exact RY.n (RY.p (.bool false) (by simp[execOp,go_sem,RY.E hd 11 32,RY.E hd 17 38]))
    |19,rfl=>
     exact RY.n (RY.p (.bool false) (by simp[execOp,go_sem,RY.E hd 18 39]))
    |20,rfl=>
     exact RY.on hd 19 40 (RY.p (.int .i64 (k:Int)) (by simp[execOp,go_sem,RY.K hk 3 (.int .i64 (k:Int))]))
    |21,rfl=>
     exact RY.on hd 19 40 (RY.p (.bool false) (by simp[execOp,go_sem,RY.E hd 20 41,lf]))
    |22,rfl=>
     exact RY.on hd 19 40 (RY.p (.bool false) (by simp[execOp,go_sem,RY.E hd 21 42]))
    |23,rfl|24,rfl|25,rfl|26,rfl|27,rfl|28,rfl|29,rfl|30,rfl|31,rfl=>
     exact RY.off hd 22 43
    |32,rfl=>
     exact RY.on hd 19 40 (RY.p (.bool false) (by simp[execOp,go_sem,RY.E hd 22 43,RY.E hd 31 52]))
    |33,rfl=>
     exact RY.n (RY.p (.bool false) (by simp[execOp,go_sem,RY.E hd 19 40,RY.E hd 32 53]))
    |n+34,ho=>simp at ho
   intro X vs hX bn;have q54:vs 54=_:=bn 33 _ 54 rfl rfl;simp only[RY.aC,Act.put,so,As,An];rw[q54];generalize vs 21=s21,vs 22=s22,vs 23=s23,vs 24=s24,vs 25=s25,vs 26=s26,vs 27=s27,vs 28=s28,vs 29=s29,vs 30=s30,vs 31=sL,vs 32=pS,vs 33=pY,vs 34=qo,vs 35=nP,vs 36=mU,vs 37=nS,vs 38=mT,vs 39=nW,vs 40=s40,vs 41=s41,vs 42=s42,vs 43=s43,vs 44=s44,vs 45=s45,vs 46=s46,vs 47=s47,vs 48=s48,vs 49=s49,vs 50=Cn,vs 51=s51,vs 52=s52,vs 53=s53;clear bn q54;clear lf lG;have nL:=uh (Pl.fO HI.out (by rw[jl.out];simp));replace gW:=uh (ae gW.out hX)
   replace dX:=uh (dX.out.later hX)
   clear hX;go_wp2;go_roundw
   case rel=>exact⟨k+1,by omega,by go_num,gW.out,dX.out,nL.out⟩
   case measure=>simp[intOf];omega
  obtain⟨ay,cy,ji⟩:=uG.out (k - 1) (by omega);have S6:decide (k=0)=false:=by simpa using dp
  rw[S6]at jl;obtain⟨y,hy⟩:∃ y,y=s.getD (k - 1) Pl.aG:=⟨_,rfl⟩
  rw[← hy]at ji jl;have Cd:=uh ji;have OM:=uh (fun X=>oG y x (.slice ay y.lines.length cy) (.slice ax x.lines.length cx) X);obtain⟨b,hb⟩:∃ b,b=Pl.ahead y x:=⟨_,rfl⟩
  rw[← hb]at OM jl;have tw:Hid (∀ X,Calls Tryz.prog 38 #[.agg #[.string y.kind,.string y.name,.slice ay y.lines.length cy],.agg #[.string x.kind,.string x.name,.slice ax x.lines.length cx]] X fun e w'=>e=.returned (.bool b)∧Bel X w'):=OM.out;have lf:0<k:=by omega
  have OU:IntKind.i64.wrap ((k:Int) - 1)=(k:Int) - 1:=IntWalk.i64_in _ ⟨by omega,by omega⟩;have lO:(1:Int)≤(k:Int):=by omega
  have mL:(k:Int) - 1<(n:Int):=by omega
  have JI:((k:Int) - 1).toNat=k - 1:=by omega
  clear ji hy hb OM S6 dp;refine RY.aM wq zR (VSe x y ax ay cx cy p o n vc k m b0 b1 b) (Fp _ _ _ _ _ _ _ _ _ _ _ _ _ _ _) (by kernel_rfl) (by kernel_rfl) (by kernel_rfl) (by kernel_rfl) ?_ ?_
  ·intro i o' ho a X hX hk hd;have z0:=(jk.out.later hX).get 0 _ rfl;have z1:=(jk.out.later hX).get 1 _ rfl;have z2:=(jk.out.later hX).get 2 _ rfl;have rx:=(jk.out.later hX).at_;have zb:=(dX.out.later hX).get 0 _ rfl;have ry:=aj Cd.out HP.out hX;match i,ho with
   |0,rfl=>
    exact RY.n (RY.p (.pointer (some ⟨b1,0,none⟩)) (by simp[execOp,go_sem,RY.K hk 4 (.pointer (some ⟨b1,0,none⟩))]))
   |1,rfl=>
    exact RY.n (RY.p (.string x.kind) (by simp[execOp,go_sem,RY.E hd 0 21,z0]))
   |2,rfl=>
    have e22:=RY.E hd 1 22;refine No ⟨RY.cG rfl,Xk ⟨25,#[.string x.kind],by simp[go_sem,e22],(AH.out X).mono ?_⟩⟩;rintro e W' ⟨v,F,rfl,hr,_,_,hb⟩;obtain⟨a1,c1,hv⟩:=hr.raw.aT;exact⟨_,rfl,hb,a1,c1,by rw[HM.out];exact hv⟩
   |3,rfl=>
    obtain⟨a1,c1,e230⟩:=hd 2 _ 23 rfl rfl ⟨⟨2,.data⟩,by simp,rfl,rfl⟩;have e23:=(RY.ai a 23).trans e230;exact RY.n (RY.p (.int .i64 (m:Int)) (by simp[go_sem,e23]))
   |4,rfl=>
    exact RY.n (RY.p (.bool false) (by simp[execOp,go_sem,RY.E hd 3 24,lG]))
   |5,rfl=>
    exact RY.n (RY.p (.bool false) (by simp[execOp,go_sem,RY.E hd 4 25]))
   |6,rfl=>
    exact RY.on hd 5 26 (RY.p (.pointer (some ⟨b1,1,none⟩)) (by simp[execOp,go_sem,RY.K hk 4 (.pointer (some ⟨b1,0,none⟩))]))
   |7,rfl=>
    exact RY.on hd 5 26 (RY.p (.string x.name) (by simp[execOp,go_sem,RY.E hd 6 27,z1]))
   |8,rfl=>
    have e28:=RY.E hd 7 28;refine RY.on hd 5 26 (.inr ⟨42,#[.string x.name],by simp[go_sem,e28],(nO.out X).mono ?_⟩);rintro e W' ⟨rfl,rfl⟩;exact⟨_,rfl,zR,rfl⟩
   |9,rfl=>
    exact RY.on hd 5 26 (RY.p (.bool false) (by simp[execOp,go_sem,RY.E hd 8 29]))
   |10,rfl=>
    exact RY.n (RY.p (.bool false) (by simp[execOp,go_sem,RY.E hd 5 26,RY.E hd 9 30]))
   |11,rfl=>
    exact RY.n (RY.p (.bool false) (by simp[execOp,go_sem,RY.E hd 10 31]))
   |12,rfl=>
    exact RY.on hd 11 32 (RY.p (.pointer (some ⟨b1,0,none⟩)) (by simp[execOp,go_sem,RY.K hk 4 (.pointer (some ⟨b1,0,none⟩))]))
   |13,rfl=>
    exact RY.on hd 11 32 (RY.p (.string x.kind) (by simp[execOp,go_sem,RY.E hd 12 33,z0]))
   |14,rfl=>
    exact RY.on hd 11 32 (RY.p (.pointer (some ⟨b1,2,none⟩)) (by simp[execOp,go_sem,RY.K hk 4 (.pointer (some ⟨b1,0,none⟩))]))
   |15,rfl=>
    exact RY.on hd 11 32 (RY.p (.slice ax x.lines.length cx) (by simp[execOp,go_sem,RY.E hd 14 35,z2]))
   |16,rfl=>
    have e34:=RY.E hd 13 34;have e36:=RY.E hd 15 36;refine RY.on hd 11 32 (.inr ⟨44,#[.string x.kind,.slice ax x.lines.length cx],by simp[go_sem,e34,e36],(jN.out X hX).mono ?_⟩);rintro e W' ⟨rfl,hb⟩;exact⟨_,rfl,hb,rfl⟩
   |17,rfl=>
    exact RY.on hd 11 32 (RY.p (.bool false) (by simp[execOp,go_sem,RY.E hd 16 37]))
   |18,rfl=>
    exact RY.n (RY.p (.bool false) (by simp[execOp,go_sem,RY.E hd 11 32,RY.E hd 17 38]))
   |19,rfl=>
    exact RY.n (RY.p (.bool false) (by simp[execOp,go_sem,RY.E hd 18 39]))
   |20,rfl=>
    exact RY.on hd 19 40 (RY.p (.int .i64 (k:Int)) (by simp[execOp,go_sem,RY.K hk 3 (.int .i64 (k:Int))]))
   |21,rfl=>
    exact RY.on hd 19 40 (RY.p (.bool true) (by simp[execOp,go_sem,RY.E hd 20 41,lf]))
   |22,rfl=>
    exact RY.on hd 19 40 (RY.p (.bool true) (by simp[execOp,go_sem,RY.E hd 21 42]))
   |23,rfl=>
    exact RY.on hd 22 43 (RY.p (.pointer (some ⟨b0,0,none⟩)) (by simp[execOp,go_sem,RY.K hk 1 (.pointer (some ⟨b0,0,none⟩))]))
   |24,rfl=>
    exact RY.on hd 22 43 (RY.p (.slice (some ⟨p,o,none⟩) n vc) (by simp[execOp,go_sem,RY.E hd 23 44,zb]))
   |25,rfl=>
    exact RY.on hd 22 43 (RY.p (.int .i64 (k:Int)) (by simp[execOp,go_sem,RY.K hk 3 (.int .i64 (k:Int))]))
   |26,rfl=>
    exact RY.on hd 22 43 (RY.p (.int .i64 ((k:Int) - 1)) (by simp[execOp,go_sem,RY.E hd 25 46,OU]))
   |27,rfl=>
    exact RY.on hd 22 43 (RY.p (.pointer (some ⟨p,o+(k - 1)*3,none⟩)) (by simp[execOp,go_sem,RY.E hd 24 45,RY.E hd 26 47,lO,mL,JI]))
   |28,rfl=>
    have gd:=hd 22 _ 43 rfl rfl ⟨⟨22,.guard⟩,by simp,rfl,rfl⟩;exact No ⟨(RY.bg rfl rfl rfl gd).trans rfl,No ⟨.agg #[.string y.kind,.string y.name,.slice ay y.lines.length cy],X,ak 58 _ rfl p (o+(k - 1)*3) ((RY.ai a 48).symm.trans (RY.E hd 27 48)) [.string y.kind,.string y.name,.slice ay y.lines.length cy] _ ry Tryz.underlying58 rfl (by kernel_rfl),zR,rfl⟩⟩
   |29,rfl=>
    have gd:=hd 22 _ 43 rfl rfl ⟨⟨22,.guard⟩,by simp,rfl,rfl⟩;exact No ⟨(RY.bg rfl rfl rfl gd).trans rfl,No ⟨.agg #[.string x.kind,.string x.name,.slice ax x.lines.length cx],X,ak 58 _ rfl b1 0 ((RY.ai a 4).symm.trans (RY.K hk 4 (.pointer (some ⟨b1,0,none⟩)))) [.string x.kind,.string x.name,.slice ax x.lines.length cx] _ rx Tryz.underlying58 rfl (by kernel_rfl),zR,rfl⟩⟩
   |30,rfl=>
    have e49:=RY.E hd 28 49;have e50:=RY.E hd 29 50;refine RY.on hd 22 43 (.inr ⟨38,#[.agg #[.string y.kind,.string y.name,.slice ay y.lines.length cy],.agg #[.string x.kind,.string x.name,.slice ax x.lines.length cx]],by simp[go_sem,e49,e50],(tw.out X).mono ?_⟩);rintro e W' ⟨rfl,hb⟩;exact⟨_,rfl,hb,rfl⟩
   |31,rfl=>
    exact RY.on hd 22 43 (RY.p (.bool (!b)) (by simp[execOp,go_sem,RY.E hd 30 51]))
   |32,rfl=>
    exact RY.on hd 19 40 (RY.p (.bool (!b)) (by simp[execOp,go_sem,RY.E hd 22 43,RY.E hd 31 52]))
   |33,rfl=>
    exact RY.n (RY.p (.bool (!b)) (by simp[execOp,go_sem,RY.E hd 19 40,RY.E hd 32 53]))
   |n+34,ho=>simp at ho
  intro X vs hX bn;have q54:vs 54=_:=bn 33 _ 54 rfl rfl;simp only[RY.aC,Act.put,so,As,An];rw[q54];generalize vs 21=s21,vs 22=s22,vs 23=s23,vs 24=s24,vs 25=s25,vs 26=s26,vs 27=s27,vs 28=s28,vs 29=s29,vs 30=s30,vs 31=sL,vs 32=pS,vs 33=pY,vs 34=qo,vs 35=nP,vs 36=mU,vs 37=nS,vs 38=mT,vs 39=nW,vs 40=s40,vs 41=s41,vs 42=s42,vs 43=s43,vs 44=s44,vs 45=s45,vs 46=s46,vs 47=s47,vs 48=s48,vs 49=s49,vs 50=Cn,vs 51=s51,vs 52=s52,vs 53=s53;clear bn q54;clear lf lG OU lO mL JI;cases b
  ·have yJ:Hid (Pl.bw s=false):=lP.out (by rw[jl.out];rfl);go_wp2;go_ret;exact⟨Pl.ar yJ.out.symm,ae gW.out hX⟩
  ·skip
   have nL:=uh (Pl.fO HI.out (by rw[jl.out];simp));replace gW:=uh (ae gW.out hX)
   replace dX:=uh (dX.out.later hX)
   clear hX;go_wp2;go_roundw
   case rel=>exact⟨k+1,by omega,by go_num,gW.out,dX.out,nL.out⟩
   case measure=>simp[intOf];omega
end Go.Proofs.YtgiglpnaekbegaaGreatDoor
