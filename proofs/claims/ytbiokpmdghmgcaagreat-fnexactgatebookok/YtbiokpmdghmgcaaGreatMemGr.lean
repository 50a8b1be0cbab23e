import Derived.Test.YtbiokpmdghmgcaaGreatObj
import Derived.Test.YtbiokpmdghmgcaaGreatMemR
import Derived.Test.YtbiokpmdghmgcaaGreatMemL
namespace Go.Proofs.YtbiokpmdghmgcaaGreat
open Go.RowKit Go.Deep
structure bm (W:World) (p:Nat) (v0 v1 v2 v3 v4 v5 v6:Value):Prop where
 lt:p<W.heap.size
 x0:W.cell? ⟨p,0,none⟩=some v0
 x1:W.cell? ⟨p,1,none⟩=some v1
 x2:W.cell? ⟨p,2,none⟩=some v2
 x3:W.cell? ⟨p,3,none⟩=some v3
 x4:W.cell? ⟨p,4,none⟩=some v4
 x5:W.cell? ⟨p,5,none⟩=some v5
 x6:W.cell? ⟨p,6,none⟩=some v6
theorem bm.later {W W':World} {p:Nat} {v0 v1 v2 v3 v4 v5 v6:Value} (h:bm W p v0 v1 v2 v3 v4 v5 v6) (hb:Bel W W'):bm W' p v0 v1 v2 v3 v4 v5 v6:=by
 have c:∀ j,W'.cell? ⟨p,j,none⟩=W.cell? ⟨p,j,none⟩:=fun j=>hb.cell (p:=⟨p,j,none⟩) h.lt;exact⟨lo h.lt hb.size,(c 0).trans h.x0,(c 1).trans h.x1,(c 2).trans h.x2,(c 3).trans h.x3,(c 4).trans h.x4,(c 5).trans h.x5,(c 6).trans h.x6⟩
theorem bm.bV (W:World) (p:Nat) (v0 v1 v2 v3 v4 v5 v6:Value) (t:TypeId) (hp:p=W.heap.size):bm (W.alloc (.cells #[v0,v1,v2,v3,v4,v5,v6] t)) p v0 v1 v2 v3 v4 v5 v6:=by
 subst hp;exact⟨by simp,by simp,by simp,by simp,by simp,by simp,by simp,by simp⟩
theorem bm.ek {W:World} {p:Nat} {v0 v1 v2 v3 v4 v5 v6:Value} (h:bm W p v0 v1 v2 v3 v4 v5 v6) (o:Obj):bm (W.alloc o) p v0 v1 v2 v3 v4 v5 v6:=h.later (ab br o)
structure wG (w:World) (v1 v2:Value) (o:Ob):Prop where
 t1:bT w v1 o.values
 t2:bT w v2 o.holds
 sized:o.sized
structure kH (w:World) (b1 b2:Nat) (o:Ob):Prop where
 arg:iW w b1 b2 o
 z1:∀ i,i<o.values.length→(o.values.getD i ByteArray.empty).size≤maxLen
 z2:∀ i,i<o.holds.length→(o.holds.getD i ByteArray.empty).size≤maxLen
 sized:o.sized
theorem wG.later {w w':World} {v1 v2:Value} {o:Ob} (h:wG w v1 v2 o) (hb:Bel w w'):wG w' v1 v2 o:=⟨h.t1.later hb,h.t2.later hb,h.sized⟩
theorem kH.later {w w':World} {b1 b2:Nat} {o:Ob} (h:kH w b1 b2 o) (hb:Bel w w'):kH w' b1 b2 o:=⟨h.arg.later hb,h.z1,h.z2,h.sized⟩
theorem kH.Aa {w:World} {b1 b2:Nat} {o:Ob} (h:kH w b1 b2 o):bT w (.slice (some ⟨b1,0,none⟩) o.values.length o.values.length) o.values:=
 Or.inr ⟨b1,0,_,rfl,h.arg.lt1,h.z1,by have:=h.arg.len1;unfold maxLen;omega,fun i hi=>by rw[Nat.zero_add];exact h.arg.at1 i hi⟩
theorem kH.zN {w:World} {b1 b2:Nat} {o:Ob} (h:kH w b1 b2 o):bT w (.slice (some ⟨b2,0,none⟩) o.holds.length o.holds.length) o.holds:=
 Or.inr ⟨b2,0,_,rfl,h.arg.lt2,h.z2,by have:=h.arg.len2;unfold maxLen;omega,fun i hi=>by rw[Nat.zero_add];exact h.arg.at2 i hi⟩
theorem GQ (o:Ob) (v1 v2:Value) (left:Int) (w:World) (h0:0≤left) (h1:left≤1048576) (h:wG w v1 v2 o):
  Calls Tryz.prog 55 #[.agg #[.string o.kind,.string o.name,.string o.team,v1,.bool o.ending,v2,.int .i64 o.version],.int .i64 left] w fun e w'=>(∃ r:Int,e=.returned (.int .i64 r)∧szP (o.values.length≤1048576∧o.holds.length≤1048576) left r)∧Bel w w':=
 Hf o v1 v2 left w h0 h1 h.t1 h.t2 h.sized
theorem GZ (o:Ob) (b1 b2 q1 q2:Nat) (w:World) (h:kH w b1 b2 o) (h':kH w q1 q2 o):
  Calls Tryz.prog 101 #[.agg #[.string o.kind,.string o.name,.string o.team,.slice (some ⟨b1,0,none⟩) o.values.length o.values.length,.bool o.ending,.slice (some ⟨b2,0,none⟩) o.holds.length o.holds.length,.int .i64 o.version],.agg #[.string o.kind,.string o.name,.string o.team,.slice (some ⟨q1,0,none⟩) o.values.length o.values.length,.bool o.ending,.slice (some ⟨q2,0,none⟩) o.holds.length o.holds.length,.int .i64 o.version]] w fun e w'=>e=.returned (.bool true)∧Bel w w':=
 Hd o _ _ _ _ w h.Aa h.zN h'.Aa h'.zN
set_option maxHeartbeats 40000000
theorem Tryz.EE:(Tryz.prog.info? 3).map (fun i=>(i.zero,i.size,i.bytes))=some (some (.int .i64 0),1,8):=by kernel_rfl
theorem Tryz.pj:Tryz.prog.underlying 98=some (.slice 3):=by kernel_rfl
theorem nZ (n:Nat) (h:n≤1048576) (W:World):
  (Instr.makeSlice 98 (.int .i64 (n:Int)) (.int .i64 (n:Int))).run Tryz.prog W=.ok (.slice (some ⟨W.heap.size,0,none⟩) n n) (W.alloc (.cells (madeCells #[.int .i64 0] n) 3)):=
 run_make_row' 98 3 (.int .i64 0) 8 Tryz.pj Tryz.EE rfl .i64 .i64 n (by omega) (by omega) W
theorem wP (cs:Array Value) (l:List Int) (k:Nat) (s:Int) (hk:k<l.length) (hs:l.getD k 0=s) (eQ:cs.size=l.length)
  (h:∀ j,j<k→cs[j]? =some (.int .i64 (l.getD j 0))):
  (cs.setIfInBounds k (.int .i64 s)).size=l.length∧∀ j,j<k+1→(cs.setIfInBounds k (.int .i64 s))[j]? =some (.int .i64 (l.getD j 0)):=by
 refine⟨by simpa using eQ,fun j hj=> ?_⟩;rw[Array.getElem?_setIfInBounds];by_cases e:k=j
 ·subst e;rw[if_pos rfl,if_pos (by omega),hs]
 ·rw[if_neg e];exact h j (by omega)
theorem th (b off cap:Nat) (l:List Int) (w:World) (hb:b<w.heap.size) (hl:l.length≤1048576)
  (hc:∀ i,i<l.length→w.cell? ⟨b,off+i,none⟩=some (.int .i64 (l.getD i 0))):
  Calls Tryz.prog 170 #[.slice (some ⟨b,off,none⟩) l.length cap] w fun e w'=>∃ cs:Array Value,e=.returned (.slice (some ⟨w.heap.size,0,none⟩) l.length l.length)∧w'=w.alloc (.cells cs 3)∧cs.size=l.length∧
   ∀ j,j<l.length→cs[j]? =some (.int .i64 (l.getD j 0)):=by
 have iI:=nZ l.length hl;have HC:Hid (∀ o i,i<l.length→(w.alloc o).cell? ⟨b,off+i,none⟩=some (.int .i64 (l.getD i 0))):=by
  intro o i hi;rw[← hc i hi];exact(ab br o:Bel w _).cell (p:=⟨b,off+i,none⟩) hb
 clear hc;go_enter Tryz.func170,Tryz.ntmps170
 go_wp2;go_loopw [4] (fun i wr=>∃ (k:Nat) (cs:Array Value),k≤l.length∧i=.int .i64 k∧wr=w.alloc (.cells cs 3)∧cs.size=l.length∧∀ j,j<k→cs[j]? =some (.int .i64 (l.getD j 0))) (fun i _=>l.length - (intOf i).toNat)
 case atStart=>exact⟨0,_,nz,rfl,rfl,size_madeCells _ _,fun j hj=>absurd hj (Nat.not_lt_zero j)⟩
 case round=>
  obtain⟨k,cs,hk,rfl,rfl,eQ,av⟩:=hrel;have HA:=hid (And.intro eQ av);clear av eQ;by_cases aw:k<l.length
  ·have vL:=HC.out (.cells cs 3) k aw;have hold:∃ v,cs[k]? =some v:=⟨_,Array.getElem?_eq_getElem (by rw[HA.out.1];exact aw)⟩
   obtain⟨v,hv⟩:=hold;obtain⟨y,hy⟩:∃ y,y=l.getD k 0:=⟨_,rfl⟩
   rw[← hy]at vL;have HP:Hid ((cs.setIfInBounds k (.int .i64 y)).size=l.length∧∀ j,j<k+1→(cs.setIfInBounds k (.int .i64 y))[j]? =some (.int .i64 (l.getD j 0))):=
    wP cs l k y aw hy.symm HA.out.1 HA.out.2
   clear hy;go_wp2;go_roundw
   case rel=>exact⟨k+1,_,by omega,by go_num,rfl,HP.out.1,HP.out.2⟩
   case measure=>simp[intOf];omega
  ·obtain rfl:k=l.length:=by omega
   go_wp2;go_ret;exact⟨cs,rfl,rfl,HA.out.1,HA.out.2⟩
theorem tN (a:Option Addr) (cap:Nat) (w:World):
  Calls Tryz.prog 170 #[.slice a 0 cap] w fun e w'=>e=.returned (.slice (some ⟨w.heap.size,0,none⟩) 0 0)∧w'=w.alloc (.cells #[] 3):=by
 have iI:∀ W:World,(Instr.makeSlice 98 (.int .i64 0) (.int .i64 0)).run Tryz.prog W=.ok (.slice (some ⟨W.heap.size,0,none⟩) 0 0) (W.alloc (.cells #[] 3)):=by
  intro W;have h:=nZ 0 (by omega) W;have h0:madeCells #[.int .i64 0] 0=#[]:=by simp[madeCells]
  rw[h0]at h;exact h
 go_enter Tryz.func170,Tryz.ntmps170
 go_wp2;refine wp_loop_rounds 1 ?_;rw[rounds_succ];go_wp2;go_ret;exact⟨rfl,rfl⟩
theorem Er (v:Value) (l:List Int) (w:World) (hl:l.length≤1048576) (h:ie w v l):
  Calls Tryz.prog 170 #[v] w fun e w'=>e=.returned (.slice (some ⟨w.heap.size,0,none⟩) l.length l.length)∧∃ cs:Array Value,w'=w.alloc (.cells cs 3)∧cs.size=l.length∧∀ j,j<l.length→cs[j]? =some (.int .i64 (l.getD j 0)):=by
 rcases h with⟨a,cap,rfl,rfl⟩|⟨b,off,cap,rfl,hb,_,hc⟩
 ·refine(tN a cap w).mono ?_;rintro e w' ⟨rfl,rfl⟩;exact⟨rfl,_,rfl,rfl,fun j hj=>absurd hj (Nat.not_lt_zero j)⟩
 ·refine(th b off cap l w hb hl hc).mono ?_;rintro e w' ⟨cs,rfl,rfl,h1,h2⟩;exact⟨rfl,cs,rfl,h1,h2⟩
theorem yL (w:World) (l:List Int) (cs:Array Value) (hl:l.length≤1048576) (h:∀ j,j<l.length→cs[j]? =some (.int .i64 (l.getD j 0))):dI (w.alloc (.cells cs 3)) w.heap.size l:=
 ⟨by simp,hl,fun i hi=>by have:=h i hi;simp[this]⟩
theorem Ev (a:Option Addr) (n cap:Nat) (left:Int) (w:World) (h0:0≤left) (h1:left≤1048576) (hn:n≤maxLen):
  Calls Tryz.prog 160 #[.slice a n cap,.int .i64 left] w fun e w'=>(∃ r:Int,e=.returned (.int .i64 r)∧szP ((n:Int)≤left) left r)∧w=w':=by
 unfold maxLen at hn;by_cases c:left<(n:Int)
 all_goals
  go_enter Tryz.func160,Tryz.ntmps160
  go_wp2;go_ret;exact⟨⟨_,rfl,by unfold szP;exact⟨by omega,by omega,fun _=>by first|trivial|omega⟩⟩,rfl⟩
theorem DZ (a:Option Addr) (cap:Nat) (r:Rul) (left:Int) (w:World) (h0:0≤left) (h1:left≤1048576) (hn:r.verbs.length≤maxLen) (hs:r.sized):
  Calls Tryz.prog 114 #[.agg #[.slice a r.verbs.length cap,.string r.kind,.string r.team,.string r.pre],.int .i64 left] w fun e w'=>(∃ x:Int,e=.returned (.int .i64 x)∧szP ((r.verbs.length:Int)≤left) left x)∧Bel w w':=by
 obtain⟨s0,s1,s2⟩:=hs;unfold maxLen at s0 s1 s2;have cJ:Bel w (w.alloc (.cells #[.slice a r.verbs.length cap,.string r.kind,.string r.team,.string r.pre] 100)):=ab br _;have HX:Hid (∀ W,Calls Tryz.prog 160 #[.slice a r.verbs.length cap,.int .i64 left] W fun e w'=>(∃ x:Int,e=.returned (.int .i64 x)∧szP ((r.verbs.length:Int)≤left) left x)∧W=w'):=fun W=>Ev a _ cap left W h0 h1 hn;clear hn;go_enter Tryz.func114,Tryz.ntmps114
 go_wp2_with fail
 refine(HX.out _).mono ?_;rintro e w2 ⟨⟨x,rfl,hx⟩,rfl⟩;have HS:=hid hx;have hx1:=hx.1;have hx2:=hx.2.1;clear hx HX;by_cases c0:x<0
 ·go_wp2;go_ret;exact⟨⟨_,rfl,by have:=HS.out;unfold szP at this ⊢;exact⟨by omega,by omega,fun _=>by first|trivial|omega⟩⟩,cJ⟩
 by_cases c1:x<(r.kind.size:Int)
 ·go_wp2;go_ret;exact⟨⟨_,rfl,by have:=HS.out;unfold szP at this ⊢;exact⟨by omega,by omega,fun _=>by first|trivial|omega⟩⟩,cJ⟩
 by_cases c2:x - r.kind.size<(r.team.size:Int)
 ·go_wp2;go_ret;exact⟨⟨_,rfl,by have:=HS.out;unfold szP at this ⊢;exact⟨by omega,by omega,fun _=>by first|trivial|omega⟩⟩,cJ⟩
 by_cases c3:x - r.kind.size - r.team.size<(r.pre.size:Int)
 all_goals
  go_wp2;go_ret;exact⟨⟨_,rfl,by have:=HS.out;unfold szP at this ⊢;exact⟨by omega,by omega,fun _=>by first|trivial|omega⟩⟩,cJ⟩
theorem DR (a:Option Addr) (cap:Nat) (r:Rul) (w:World) (hl:r.verbs.length≤1048576) (h:ie w (.slice a r.verbs.length cap) r.verbs):
  Calls Tryz.prog 130 #[.agg #[.slice a r.verbs.length cap,.string r.kind,.string r.team,.string r.pre]] w fun e w'=>(∃ b,e=.returned (.agg #[.slice (some ⟨b,0,none⟩) r.verbs.length r.verbs.length,.string r.kind,.string r.team,.string r.pre])∧w.heap.size≤b∧ai w' b 3 r.verbs.length∧dI w' b r.verbs)∧Bel w w':=by
 have HX:Hid (∀ W,Bel w W→Calls Tryz.prog 170 #[.slice a r.verbs.length cap] W fun e w'=>e=.returned (.slice (some ⟨W.heap.size,0,none⟩) r.verbs.length r.verbs.length)∧∃ cs:Array Value,w'=W.alloc (.cells cs 3)∧cs.size=r.verbs.length∧∀ j,j<r.verbs.length→cs[j]? =some (.int .i64 (r.verbs.getD j 0))):=
  fun W hW=>Er _ r.verbs W hl (h.later hW)
 clear h;go_enter Tryz.func130,Tryz.ntmps130
 go_wp2_with fail
 refine(HX.out _ ?_).mono ?_
 ·repeat(first|exact br|refine ab ?_ _)
 rintro e w2 ⟨rfl,cs,rfl,eQ,bS⟩;have HC:=hid (And.intro eQ bS);clear eQ bS HX;go_wp2;refine bodyPost_ret (v:=.agg #[.slice (some ⟨w.heap.size+1+1+1,0,none⟩) r.verbs.length r.verbs.length,.string r.kind,.string r.team,.string r.pre]) (by simp[results,Tryz.results130,go_sem]) rfl ?_;refine⟨⟨_,rfl,by omega, ?_, ?_⟩, ?_⟩
 ·have q:=ai.alloc (((w.alloc (.cells #[.slice a r.verbs.length cap,.string r.kind,.string r.team,.string r.pre] 100)).alloc (.cells #[.slice (some ⟨w.heap.size+1+1+1,0,none⟩) r.verbs.length r.verbs.length,.string r.kind,.string r.team,.string r.pre] 124)).alloc (.cells #[.slice (some ⟨w.heap.size+1+1+1,0,none⟩) r.verbs.length r.verbs.length,.string r.kind,.string r.team,.string r.pre] 124)) cs 3 _ HC.out.1;simpa using q
 ·have q:=yL (((w.alloc (.cells #[.slice a r.verbs.length cap,.string r.kind,.string r.team,.string r.pre] 100)).alloc (.cells #[.slice (some ⟨w.heap.size+1+1+1,0,none⟩) r.verbs.length r.verbs.length,.string r.kind,.string r.team,.string r.pre] 124)).alloc (.cells #[.slice (some ⟨w.heap.size+1+1+1,0,none⟩) r.verbs.length r.verbs.length,.string r.kind,.string r.team,.string r.pre] 124)) r.verbs cs hl HC.out.2;simpa using q
 ·repeat(first|exact br|refine ab ?_ _|refine Below.setCell ?_ (by simp) _)
theorem Ec (b b':Nat) (l:List Int) (w:World) (h:dI w b l) (h':dI w b' l):
  Calls Tryz.prog 192 #[.slice (some ⟨b,0,none⟩) l.length l.length,.slice (some ⟨b',0,none⟩) l.length l.length] w fun e w'=>e=.returned (.bool true)∧Bel w w':=by
 have hl:=h.len;have hc:=h.at_;have Dy:=h'.at_;clear h h';go_enter Tryz.func192,Tryz.ntmps192
 go_wp2;go_loopw [5] (fun i wr=>∃ k:Nat,k≤l.length∧i=.int .i64 k∧∃ n,wr=w.drewN n) (fun i _=>l.length - (intOf i).toNat)
 case atStart=>exact⟨0,nz,rfl,0,rfl⟩
 case round=>
  obtain⟨k,hk,rfl,n,rfl⟩:=hrel;by_cases aw:k<l.length
  ·obtain⟨y,hy⟩:∃ y,y=l.getD k 0:=⟨_,rfl⟩
   have vL:w.cell? ⟨b,k,none⟩=some (.int .i64 y):=by rw[hy];exact hc k aw
   have KI:w.cell? ⟨b',k,none⟩=some (.int .i64 y):=by rw[hy];exact Dy k aw
   clear hc Dy hy;go_wp2;go_quiet (fail)
   go_wp2;go_roundw
   case rel=>exact⟨k+1,by omega,by go_num,_,rfl⟩
   case measure=>simp[intOf];omega
  ·go_wp2;go_ret;exact⟨rfl,al br n⟩
theorem EK (b b':Nat) (r:Rul) (w:World) (h:dI w b r.verbs) (h':dI w b' r.verbs):
  Calls Tryz.prog 153 #[.agg #[.slice (some ⟨b,0,none⟩) r.verbs.length r.verbs.length,.string r.kind,.string r.team,.string r.pre],.agg #[.slice (some ⟨b',0,none⟩) r.verbs.length r.verbs.length,.string r.kind,.string r.team,.string r.pre]] w fun e w'=>e=.returned (.bool true)∧Bel w w':=by
 have cJ:Bel w ((w.alloc (.cells #[.slice (some ⟨b,0,none⟩) r.verbs.length r.verbs.length,.string r.kind,.string r.team,.string r.pre] 124)).alloc (.cells #[.slice (some ⟨b',0,none⟩) r.verbs.length r.verbs.length,.string r.kind,.string r.team,.string r.pre] 124)):=ab (ab br _) _;obtain⟨w2,i3⟩:∃ w2,w2=((w.alloc (.cells #[.slice (some ⟨b,0,none⟩) r.verbs.length r.verbs.length,.string r.kind,.string r.team,.string r.pre] 124)).alloc (.cells #[.slice (some ⟨b',0,none⟩) r.verbs.length r.verbs.length,.string r.kind,.string r.team,.string r.pre] 124)):=⟨_,rfl⟩
 have HX:Hid (Calls Tryz.prog 192 #[.slice (some ⟨b,0,none⟩) r.verbs.length r.verbs.length,.slice (some ⟨b',0,none⟩) r.verbs.length r.verbs.length] w2 fun e w'=>e=.returned (.bool true)∧Bel w2 w'):=by rw[i3];exact Ec b b' r.verbs _ (h.later cJ) (h'.later cJ)
 have HB:Hid (Bel w w2):=by rw[i3];exact cJ
 have HC:Hid (w.heap.size+1<w2.heap.size∧(∀ o,w2.cell? ⟨w.heap.size,o,none⟩=(#[Value.slice (some ⟨b,0,none⟩) r.verbs.length r.verbs.length,.string r.kind,.string r.team,.string r.pre])[o]?)∧(∀ o,w2.cell? ⟨w.heap.size+1,o,none⟩=(#[Value.slice (some ⟨b',0,none⟩) r.verbs.length r.verbs.length,.string r.kind,.string r.team,.string r.pre])[o]?)):=by
  rw[i3];refine⟨by simp,fun o=> ?_,fun o=> ?_⟩
  ·simp
  ·simp
 clear h h' cJ;go_enter Tryz.func153,Tryz.ntmps153
 go_wp2_with fail
 rw[← i3];clear i3;refine HX.out.mono ?_;rintro e w3 ⟨rfl,aQ⟩;have c:=fun o=>(aQ.cell (p:=⟨w.heap.size,o,none⟩) (by have:=HC.out.1;show w.heap.size<w2.heap.size;omega)).trans (HC.out.2.1 o);have d:=fun o=>(aQ.cell (p:=⟨w.heap.size+1,o,none⟩) HC.out.1).trans (HC.out.2.2 o);have c1:w3.cell? ⟨w.heap.size,1,none⟩=some (.string r.kind):=c 1;have c2:w3.cell? ⟨w.heap.size,2,none⟩=some (.string r.team):=c 2;have c3:w3.cell? ⟨w.heap.size,3,none⟩=some (.string r.pre):=c 3;have d1:w3.cell? ⟨w.heap.size+1,1,none⟩=some (.string r.kind):=d 1;have d2:w3.cell? ⟨w.heap.size+1,2,none⟩=some (.string r.team):=d 2;have d3:w3.cell? ⟨w.heap.size+1,3,none⟩=some (.string r.pre):=d 3;have gq:=hid (aa HB.out aQ);clear c d aQ HC HX HB;go_wp2;go_ret;exact⟨rfl,gq.out⟩
structure Gr where
 number:Int
 too:ByteArray
 by_:ByteArray
 rule:Rul
def Gr.none:Gr:=⟨0,ByteArray.empty,ByteArray.empty,Rul.none⟩
def Gr.sized (r:Gr):Prop:=r.too.size≤maxLen∧r.by_.size≤maxLen∧r.rule.verbs.length≤maxLen∧r.rule.sized
theorem dI.lO {w:World} {b B:Nat} {l:List Int} (h:dI w b l) (fa:B<b) (o:Nat) (vs:List Value):dI (aI w B o 0 vs) b l:=
 ⟨by rw[bP];exact h.lt,h.len,fun i hi=>(bt B o b i vs w 0 (Or.inl (by omega))).trans (h.at_ i hi)⟩
theorem Ka (ra:Option Addr) (rc:Nat) (r:Gr) (left:Int) (w:World) (h0:0≤left) (h1:left≤1048576) (hs:r.sized):
  Calls Tryz.prog 56 #[.agg #[.int .i64 r.number,.string r.too,.string r.by_,.slice ra r.rule.verbs.length rc,.string r.rule.kind,.string r.rule.team,.string r.rule.pre],.int .i64 left] w fun e w'=>(∃ x:Int,e=.returned (.int .i64 x)∧szP (r.rule.verbs.length≤1048576) left x)∧Bel w w':=by
 have HS:=hid hs.2.2;have s0:=hs.1;have s1:=hs.2.1;clear hs;unfold maxLen at s0 s1;by_cases c1:left<(r.too.size:Int)
 ·go_enter Tryz.func56,Tryz.ntmps56
  go_wp2;go_ret;exact⟨⟨_,rfl,by unfold szP;exact⟨by omega,by omega,by omega⟩⟩,ab br _⟩
 by_cases c2:left - r.too.size<(r.by_.size:Int)
 ·go_enter Tryz.func56,Tryz.ntmps56
  go_wp2;go_ret;exact⟨⟨_,rfl,by unfold szP;exact⟨by omega,by omega,by omega⟩⟩,ab br _⟩
 go_enter Tryz.func56,Tryz.ntmps56
 go_wp2_with fail
 refine(DZ ra rc r.rule _ _ (by omega) (by omega) HS.out.1 HS.out.2).mono ?_;rintro e w1 ⟨⟨x,rfl,hx⟩,hb⟩;have q1: -1≤x:=hx.1;have q2:x≤left - r.too.size - r.by_.size:=hx.2.1;have HR:Hid (0≤x→(r.rule.verbs.length:Int)≤1048576):=fun h=>by have:=hx.2.2 h;omega
 have HB:Hid (Bel w w1):=aa (ab br _) hb;clear hx hb;by_cases c3:x<0
 all_goals
  go_wp2;go_ret;refine⟨⟨_,rfl, ?_⟩,HB.out⟩;unfold szP;exact⟨by omega,by omega,fun h=>by have:=HR.out (by omega);omega⟩
theorem Kf (ra:Option Addr) (rc:Nat) (r:Gr) (w:World) (hl:r.rule.verbs.length≤1048576) (h:ie w (.slice ra r.rule.verbs.length rc) r.rule.verbs):
  Calls Tryz.prog 78 #[.agg #[.int .i64 r.number,.string r.too,.string r.by_,.slice ra r.rule.verbs.length rc,.string r.rule.kind,.string r.rule.team,.string r.rule.pre]] w fun e w'=>(∃ b1,e=.returned (.agg #[.int .i64 r.number,.string r.too,.string r.by_,.slice (some ⟨b1,0,none⟩) r.rule.verbs.length r.rule.verbs.length,.string r.rule.kind,.string r.rule.team,.string r.rule.pre])∧w.heap.size≤b1∧dI w' b1 r.rule.verbs)∧Bel w w':=by
 have HH:=hid h;clear h;obtain⟨wb,nc⟩:∃ wb,wb=((w.alloc (.cells #[.int .i64 r.number,.string r.too,.string r.by_,.slice ra r.rule.verbs.length rc,.string r.rule.kind,.string r.rule.team,.string r.rule.pre] 102)).alloc (.cells #[.int .i64 0,.string ⟨#[]⟩,.string ⟨#[]⟩,.slice none 0 0,.string ⟨#[]⟩,.string ⟨#[]⟩,.string ⟨#[]⟩] 126)).alloc (.cells #[.int .i64 r.number,.string r.too,.string r.by_,.slice none 0 0,.string ⟨#[]⟩,.string ⟨#[]⟩,.string ⟨#[]⟩] 126):=⟨_,rfl⟩
 have jf:Hid (Bel w wb):=by show Below _ _ _;rw[nc];exact ab (ab (ab br _) _) _
 have oN:Hid (ai wb (w.heap.size+2) 126 7):=by show ai _ _ _ _;rw[nc];exact ai.hU _ _ _ _ _ rfl (by simp)
 have Fp:Hid (ai wb (w.heap.size+1) 126 7):=by show ai _ _ _ _;rw[nc];exact(ai.hU _ _ _ _ _ rfl (by simp)).ek _
 have CN:Hid (wb.heap.size=w.heap.size+3):=by show _=_;rw[nc];simp
 have uY:Hid (wb.cell? ⟨w.heap.size+2,0,none⟩=some (.int .i64 r.number)∧wb.cell? ⟨w.heap.size+2,1,none⟩=some (.string r.too)∧wb.cell? ⟨w.heap.size+2,2,none⟩=some (.string r.by_)):=by show _∧_∧_;rw[nc];exact⟨World.cell?_alloc_at _ _ _ _ (by simp),World.cell?_alloc_at _ _ _ _ (by simp),World.cell?_alloc_at _ _ _ _ (by simp)⟩
 have HAb:Hid (bm wb w.heap.size (.int .i64 r.number) (.string r.too) (.string r.by_) (.slice ra r.rule.verbs.length rc) (.string r.rule.kind) (.string r.rule.team) (.string r.rule.pre)):=by show bm _ _ _ _ _ _ _ _ _;rw[nc];exact((bm.bV w _ _ _ _ _ _ _ _ _ rfl).ek _).ek _
 go_enter Tryz.func78,Tryz.ntmps78
 go_upto_region 5 with fail
 rw[← nc];clear nc;obtain⟨yz,y0,y1,y2,y3,y4,y5,y6⟩:=HAb.out;go_wp2_with fail
 refine(DR ra rc r.rule wb hl (HH.out.later jf.out)).mono ?_;rintro e wc ⟨⟨b1,rfl,hle,_,Dl⟩,hb⟩;have jO:=hid (aa jf.out hb);have qd:=hid (oN.out.later hb);have Gd:=hid (Fp.out.later hb);have gR:w.heap.size+2<wb.heap.size:=by have:=CN.out;omega
 have c0:=(hb.cell (p:=⟨w.heap.size+2,0,none⟩) gR).trans uY.out.1;have c1:=(hb.cell (p:=⟨w.heap.size+2,1,none⟩) gR).trans uY.out.2.1;have c2:=(hb.cell (p:=⟨w.heap.size+2,2,none⟩) gR).trans uY.out.2.2;have Lv:Hid (dI wc b1 r.rule.verbs∧w.heap.size+2<b1):=⟨Dl,by have:=CN.out;omega⟩
 clear hb Dl hle gR yz y0 y1 y2 y3 y4 y5 y6 jf oN Fp CN uY HAb;obtain⟨wd,vQ⟩:∃ wd,wd=aI wc (w.heap.size+2) 3 0 [.slice (some ⟨b1,0,none⟩) r.rule.verbs.length r.rule.verbs.length,.string r.rule.kind,.string r.rule.team,.string r.rule.pre]:=⟨_,rfl⟩
 have lY:Hid (Bel w wd):=by show Below _ _ _;rw[vQ];exact aW (a:=w) _ (by omega) _ _ _ jO.out
 have uF:Hid (ai wd (w.heap.size+1) 126 7):=by show ai _ _ _ _;rw[vQ];exact bQ _ (by omega) _ _ _ Gd.out
 have AO:Hid (dI wd b1 r.rule.verbs∧w.heap.size+2<b1):=by show _∧_;rw[vQ];exact⟨Lv.out.1.lO Lv.out.2 _ _,Lv.out.2⟩
 have p:=fun i hi=>cx 3 [.slice (some ⟨b1,0,none⟩) r.rule.verbs.length r.rule.verbs.length,.string r.rule.kind,.string r.rule.team,.string r.rule.pre] wc 0 qd.out (by simp) i hi;have d0:wd.cell? ⟨w.heap.size+2,0,none⟩=some (.int .i64 r.number):=by rw[vQ];exact(bt _ _ _ _ _ _ _ (by omega)).trans c0
 have d1:wd.cell? ⟨w.heap.size+2,1,none⟩=some (.string r.too):=by rw[vQ];exact(bt _ _ _ _ _ _ _ (by omega)).trans c1
 have d2:wd.cell? ⟨w.heap.size+2,2,none⟩=some (.string r.by_):=by rw[vQ];exact(bt _ _ _ _ _ _ _ (by omega)).trans c2
 have d3:wd.cell? ⟨w.heap.size+2,3,none⟩=some (.slice (some ⟨b1,0,none⟩) r.rule.verbs.length r.rule.verbs.length):=by rw[vQ];exact p 0 (by simp)
 have d4:wd.cell? ⟨w.heap.size+2,4,none⟩=some (.string r.rule.kind):=by rw[vQ];exact p 1 (by simp)
 have d5:wd.cell? ⟨w.heap.size+2,5,none⟩=some (.string r.rule.team):=by rw[vQ];exact p 2 (by simp)
 have d6:wd.cell? ⟨w.heap.size+2,6,none⟩=some (.string r.rule.pre):=by rw[vQ];exact p 3 (by simp)
 have dz:w.heap.size+2<wd.heap.size:=by rw[vQ,bP];exact qd.out.lt
 have hF:=qd.out.frozen;have hz:=qd.out.lt;obtain⟨z3,e3⟩:=qd.out.cell 3 (by omega);obtain⟨z4,e4⟩:=qd.out.cell 4 (by omega);obtain⟨z5,e5⟩:=qd.out.cell 5 (by omega);obtain⟨z6,e6⟩:=qd.out.cell 6 (by omega);simp only[aI,Nat.add_zero,Nat.zero_add,Nat.reduceAdd]at vQ;clear p c0 c1 c2;go_upto_region 6 with fail
 rw[← vQ];clear vQ hF hz e3 e4 e5 e6;have hF:=uF.out.frozen;have hz:=uF.out.lt;obtain⟨z0,e0⟩:=uF.out.cell 0 (by omega);obtain⟨z1,e1⟩:=uF.out.cell 1 (by omega);obtain⟨z2,e2⟩:=uF.out.cell 2 (by omega);obtain⟨z3,e3⟩:=uF.out.cell 3 (by omega);obtain⟨z4,e4⟩:=uF.out.cell 4 (by omega);obtain⟨z5,e5⟩:=uF.out.cell 5 (by omega);obtain⟨z6,e6⟩:=uF.out.cell 6 (by omega);go_wp2;have p:=fun i hi=>cx 0 [.int .i64 r.number,.string r.too,.string r.by_,.slice (some ⟨b1,0,none⟩) r.rule.verbs.length r.rule.verbs.length,.string r.rule.kind,.string r.rule.team,.string r.rule.pre] wd 0 uF.out (by simp) i hi;have t0:=p 0 (by simp);have t1:=p 1 (by simp);have t2:=p 2 (by simp);have t3:=p 3 (by simp);have t4:=p 4 (by simp);have t5:=p 5 (by simp);have t6:=p 6 (by simp);have qa:Hid (dI (aI wd (w.heap.size+1) 0 0 [.int .i64 r.number,.string r.too,.string r.by_,.slice (some ⟨b1,0,none⟩) r.rule.verbs.length r.rule.verbs.length,.string r.rule.kind,.string r.rule.team,.string r.rule.pre]) b1 r.rule.verbs∧Bel w (aI wd (w.heap.size+1) 0 0 [.int .i64 r.number,.string r.too,.string r.by_,.slice (some ⟨b1,0,none⟩) r.rule.verbs.length r.rule.verbs.length,.string r.rule.kind,.string r.rule.team,.string r.rule.pre])):=⟨AO.out.1.lO (by have:=AO.out.2;omega) _ _,aW (a:=w) _ (by omega) _ _ _ lY.out⟩
 simp only[aI,Nat.add_zero,Nat.zero_add,Nat.reduceAdd,List.getElem?_cons_zero,List.getElem?_cons_succ]at t0 t1 t2 t3 t4 t5 t6;refine bodyPost_ret (v:=.agg #[.int .i64 r.number,.string r.too,.string r.by_,.slice (some ⟨b1,0,none⟩) r.rule.verbs.length r.rule.verbs.length,.string r.rule.kind,.string r.rule.team,.string r.rule.pre]) (by simp[results,Tryz.results78,go_sem,t0,t1,t2,t3,t4,t5,t6]) rfl ⟨⟨b1,rfl,by have:=AO.out.2;omega, ?_⟩, ?_⟩
 ·exact qa.out.1
 ·exact qa.out.2
theorem Kk (b1 b1':Nat) (r:Gr) (w:World) (h:dI w b1 r.rule.verbs) (h':dI w b1' r.rule.verbs):
  Calls Tryz.prog 102 #[.agg #[.int .i64 r.number,.string r.too,.string r.by_,.slice (some ⟨b1,0,none⟩) r.rule.verbs.length r.rule.verbs.length,.string r.rule.kind,.string r.rule.team,.string r.rule.pre],.agg #[.int .i64 r.number,.string r.too,.string r.by_,.slice (some ⟨b1',0,none⟩) r.rule.verbs.length r.rule.verbs.length,.string r.rule.kind,.string r.rule.team,.string r.rule.pre]] w fun e w'=>e=.returned (.bool true)∧Bel w w':=by
 have HX:Hid (∀ o1 o2,Calls Tryz.prog 153 #[.agg #[.slice (some ⟨b1,0,none⟩) r.rule.verbs.length r.rule.verbs.length,.string r.rule.kind,.string r.rule.team,.string r.rule.pre],.agg #[.slice (some ⟨b1',0,none⟩) r.rule.verbs.length r.rule.verbs.length,.string r.rule.kind,.string r.rule.team,.string r.rule.pre]] ((w.alloc o1).alloc o2) fun e w'=>e=.returned (.bool true)∧Below ((w.alloc o1).alloc o2).heap.size ((w.alloc o1).alloc o2) w'):=fun o1 o2=>EK b1 b1' r.rule _ (h.later (ab (ab br _) _)) (h'.later (ab (ab br _) _));clear h h';go_enter Tryz.func102,Tryz.ntmps102
 go_wp2_with fail
 refine(HX.out _ _).mono ?_;rintro e w1 ⟨rfl,hb⟩;have HB:Hid (Bel w w1):=aa (ab (ab br _) _) hb;clear hb HX;go_wp2;go_ret;exact⟨rfl,HB.out⟩
def GrC (w:World) (b o:Nat) (r:Gr):Prop:=
 ∃ ra rc,w.cell? ⟨b,o,none⟩=some (.int .i64 r.number)∧w.cell? ⟨b,o+1,none⟩=some (.string r.too)∧w.cell? ⟨b,o+2,none⟩=some (.string r.by_)∧w.cell? ⟨b,o+3,none⟩=some (.slice ra r.rule.verbs.length rc)∧w.cell? ⟨b,o+4,none⟩=some (.string r.rule.kind)∧w.cell? ⟨b,o+5,none⟩=some (.string r.rule.team)∧w.cell? ⟨b,o+6,none⟩=some (.string r.rule.pre)∧ie w (.slice ra r.rule.verbs.length rc) r.rule.verbs∧r.sized
theorem GrC.later {w w':World} {b o:Nat} {r:Gr} (h:GrC w b o r) (hb:Bel w w') (aw:b<w.heap.size):GrC w' b o r:=by
 obtain⟨ra,rc,c0,c1,c2,c3,c4,c5,c6,hn⟩:=h;have q:∀ j,w'.cell? ⟨b,j,none⟩=w.cell? ⟨b,j,none⟩:=fun j=>hb.cell (p:=⟨b,j,none⟩) aw;exact⟨ra,rc,(q _).trans c0,(q _).trans c1,(q _).trans c2,(q _).trans c3,(q _).trans c4,(q _).trans c5,(q _).trans c6,⟨hn.1.later hb,hn.2⟩⟩
def oc (w:World) (v:Value) (rs:List Gr):Prop:=
 (∃ a cap,v=.slice a 0 cap∧rs=[])∨∃ b off cap,v=.slice (some ⟨b,off,none⟩) rs.length cap∧b<w.heap.size∧rs.length≤maxLen∧∀ i,i<rs.length→GrC w b (off+i*7) (rs.getD i Gr.none)
theorem oc.later {w w':World} {v:Value} {rs:List Gr} (h:oc w v rs) (hb:Bel w w'):oc w' v rs:=by
 rcases h with h|⟨b,off,cap,rfl,h1,h2,h3⟩
 ·exact Or.inl h
 ·exact Or.inr ⟨b,off,cap,rfl,lo h1 hb.size,h2,fun i hi=>(h3 i hi).later hb h1⟩
def Gr.small (r:Gr):Prop:=r.rule.verbs.length≤1048576
def iM (w:World) (B o:Nat) (r:Gr):Prop:=
 ∃ b1,(B<b1)∧w.cell? ⟨B,o,none⟩=some (.int .i64 r.number)∧w.cell? ⟨B,o+1,none⟩=some (.string r.too)∧w.cell? ⟨B,o+2,none⟩=some (.string r.by_)∧w.cell? ⟨B,o+3,none⟩=some (.slice (some ⟨b1,0,none⟩) r.rule.verbs.length r.rule.verbs.length)∧w.cell? ⟨B,o+4,none⟩=some (.string r.rule.kind)∧w.cell? ⟨B,o+5,none⟩=some (.string r.rule.team)∧w.cell? ⟨B,o+6,none⟩=some (.string r.rule.pre)∧dI w b1 r.rule.verbs∧r.sized
theorem iM.later {w w':World} {b o:Nat} {r:Gr} (h:iM w b o r) (hb:Bel w w') (aw:b<w.heap.size):iM w' b o r:=by
 obtain⟨b1,h0,c0,c1,c2,c3,c4,c5,c6,hn⟩:=h;have q:∀ j,w'.cell? ⟨b,j,none⟩=w.cell? ⟨b,j,none⟩:=fun j=>hb.cell (p:=⟨b,j,none⟩) aw;exact⟨b1,h0,(q _).trans c0,(q _).trans c1,(q _).trans c2,(q _).trans c3,(q _).trans c4,(q _).trans c5,(q _).trans c6,⟨hn.1.later hb,hn.2⟩⟩
structure gO (w:World) (B:Nat) (rs:List Gr):Prop where
 lt:B<w.heap.size
 len:rs.length≤1048576
 at_:∀ i,i<rs.length→iM w B (i*7) (rs.getD i Gr.none)
 own:ai w B 126 (rs.length*7)
theorem gO.later {w w':World} {B:Nat} {rs:List Gr} (h:gO w B rs) (hb:Bel w w'):gO w' B rs:=
 ⟨lo h.lt hb.size,h.len,fun i hi=>(h.at_ i hi).later hb h.lt,h.own.later hb⟩
theorem iM.aI {w:World} {B o:Nat} {r:Gr} (h:iM w B o r) (o':Nat) (vs:List Value) (ho:o+7≤o'):iM (aI w B o' 0 vs) B o r:=by
 obtain⟨b1,h0,c0,c1,c2,c3,c4,c5,c6,hn⟩:=h;have c:∀ j,j<o'→(YtbiokpmdghmgcaaGreat.aI w B o' 0 vs).cell? ⟨B,j,none⟩=w.cell? ⟨B,j,none⟩:=fun j hj=>bt B o' B j vs w 0 (by omega);exact⟨b1,h0,(c _ (by omega)).trans c0,(c _ (by omega)).trans c1,(c _ (by omega)).trans c2,(c _ (by omega)).trans c3,(c _ (by omega)).trans c4,(c _ (by omega)).trans c5,(c _ (by omega)).trans c6,⟨hn.1.lO h0 o' vs,hn.2⟩⟩
theorem iM.sc {w:World} {B o p:Nat} {r:Gr} (h:iM w B o r) (hp:p<B) (j:Nat) (v:Value):iM (w.setCell ⟨p,j,none⟩ v) B o r:=by
 obtain⟨b1,h0,c0,c1,c2,c3,c4,c5,c6,hn⟩:=h;have c:∀ q,(w.setCell ⟨p,j,none⟩ v).cell? ⟨B,q,none⟩=w.cell? ⟨B,q,none⟩:=fun q=>aF _ _ _ _ _ _ (by omega);have h0:=(show p<b1 by omega)
 exact⟨b1,by omega,(c _).trans c0,(c _).trans c1,(c _).trans c2,(c _).trans c3,(c _).trans c4,(c _).trans c5,(c _).trans c6,⟨hn.1.lO h0 j [v],hn.2⟩⟩
theorem gO.sc {w:World} {B p:Nat} {rs:List Gr} (h:gO w B rs) (hp:p<B) (j:Nat) (v:Value):gO (w.setCell ⟨p,j,none⟩ v) B rs:=
 ⟨by rw[bc];exact h.lt,h.len,fun i hi=>(h.at_ i hi).sc hp j v,h.own.bh (by omega) _ _⟩
theorem tx {w:World} {B:Nat} {t:TypeId} {n:Nat} (hO:ai w B t n) (o:Nat) (ho:o+7≤n) (r:Gr) (b1:Nat) (h0:B<b1) (hn:dI w b1 r.rule.verbs∧r.sized):
  iM (aI w B o 0 [.int .i64 r.number,.string r.too,.string r.by_,.slice (some ⟨b1,0,none⟩) r.rule.verbs.length r.rule.verbs.length,.string r.rule.kind,.string r.rule.team,.string r.rule.pre]) B o r:=by
 have c:=fun i hi=>cx o [.int .i64 r.number,.string r.too,.string r.by_,.slice (some ⟨b1,0,none⟩) r.rule.verbs.length r.rule.verbs.length,.string r.rule.kind,.string r.rule.team,.string r.rule.pre] w 0 hO (by simp;omega) i hi;exact⟨b1,h0,c 0 (by simp),c 1 (by simp),c 2 (by simp),c 3 (by simp),c 4 (by simp),c 5 (by simp),c 6 (by simp),⟨hn.1.lO h0 o _,hn.2⟩⟩
theorem Tryz.BQ:(Tryz.prog.info? 126).map (fun i=>(i.zero,i.size,i.bytes))=some (some (.agg #[.int .i64 0,.string ByteArray.empty,.string ByteArray.empty,.slice none 0 0,.string ByteArray.empty,.string ByteArray.empty,.string ByteArray.empty]),7,112):=by kernel_rfl
theorem vx (n:Nat) (h:n≤1048576):∃ cs:Array Value,cs.size=n*7∧∀ W:World,
  (Instr.makeSlice 43 (.int .i64 (n:Int)) (.int .i64 (n:Int))).run Tryz.prog W=.ok (.slice (some ⟨W.heap.size,0,none⟩) n n) (W.alloc (.cells cs 126)):=by
 obtain⟨i,hi,lx⟩:=Option.map_eq_some_iff.1 Tryz.BQ;simp only[Prod.mk.injEq]at lx;obtain⟨hz,hs,hb⟩:=lx;refine⟨madeCells (Value.cells (.agg #[.int .i64 0,.string ByteArray.empty,.string ByteArray.empty,.slice none 0 0,.string ByteArray.empty,.string ByteArray.empty,.string ByteArray.empty])) (n*7),size_madeCells _ _,fun W=> ?_⟩;have hr:=run_make (P:=Tryz.prog) W 43 126 i _ Tryz.underlying43 hi hz .i64 .i64 n n (by omega) (Int.le_refl _) (by rw[hb];omega) (by omega);simp only[Int.toNat_natCast,hs]at hr;exact hr
theorem xq (b off cap:Nat) (rs:List Gr) (w:World) (hl:rs.length≤1048576) (dO:∀ r∈rs,r.small) (hb:b<w.heap.size)
  (hc:∀ i,i<rs.length→GrC w b (off+i*7) (rs.getD i Gr.none)):
  Calls Tryz.prog 33 #[.slice (some ⟨b,off,none⟩) rs.length cap] w fun e w'=>e=.returned (.slice (some ⟨w.heap.size,0,none⟩) rs.length rs.length)∧Bel w w'∧ai w' w.heap.size 126 (rs.length*7)∧
   ∀ i,i<rs.length→iM w' w.heap.size (i*7) (rs.getD i Gr.none):=by
 obtain⟨cs,bS,iI⟩:=vx rs.length hl;have HC:Hid (∀ i,i<rs.length→GrC w b (off+i*7) (rs.getD i Gr.none)∧(rs.getD i Gr.none).small):=by
  intro i hi;refine⟨hc i hi, ?_⟩;have e:rs.getD i Gr.none=rs[i]:=by simp[hi]
  rw[e];exact dO _ (List.getElem_mem hi)
 clear hc dO;go_enter Tryz.func33,Tryz.ntmps33
 go_wp2;go_loopw [4] (fun i wr=>∃ k:Nat,k≤rs.length∧i=.int .i64 k∧Bel w wr∧ai wr w.heap.size 126 (rs.length*7)∧∀ i,i<k→iM wr w.heap.size (i*7) (rs.getD i Gr.none)) (fun i _=>rs.length - (intOf i).toNat)
 case atStart=>exact⟨0,nz,rfl,ab br _,ai.alloc w cs 126 _ bS,fun i hi=>absurd hi (Nat.not_lt_zero i)⟩
 case round=>
  obtain⟨k,hk,rfl,hB,hO,av⟩:=hrel;have HA:=hid av;have HO:=hid hO;clear av iI bS hO;by_cases aw:k<rs.length
  ·have hf:=(HC.out k aw).1.later hB hb;obtain⟨r,hm⟩:∃ r,r=rs.getD k Gr.none:=⟨_,rfl⟩
   rw[← hm]at hf;obtain⟨ra,rc,c0,c1,c2,c3,c4,c5,c6,hn⟩:=hf;have HX:Hid ((ie wr (.slice ra r.rule.verbs.length rc) r.rule.verbs∧r.sized)∧r=rs.getD k Gr.none∧r.small):=⟨hn,hm,by rw[hm];exact(HC.out k aw).2⟩
   clear hm hn;go_wp2_with fail
   refine(Kf ra rc r wr HX.out.2.2 HX.out.1.1).mono ?_;rintro e w2 ⟨⟨b1,rfl,hle,Dl⟩,aA⟩;have bF:=aa hB aA;have eG:=HO.out.later aA;have HP:Hid (∀ v,v=[.int .i64 r.number,.string r.too,.string r.by_,.slice (some ⟨b1,0,none⟩) r.rule.verbs.length r.rule.verbs.length,.string r.rule.kind,.string r.rule.team,.string r.rule.pre]→
     Bel w (aI w2 w.heap.size (k*7) 0 v)∧ai (aI w2 w.heap.size (k*7) 0 v) w.heap.size 126 (rs.length*7)∧∀ i,i<k+1→iM (aI w2 w.heap.size (k*7) 0 v) w.heap.size (i*7) (rs.getD i Gr.none)):=by
    intro v hv;subst hv;refine⟨aW (a:=w) _ nr _ _ _ bF,fJ _ _ _ _ eG,fun i hi=> ?_⟩;by_cases hik:i<k
    ·exact((HA.out i hik).later aA HO.out.lt).aI (k*7) _ (by omega)
    ·obtain rfl:i=k:=by omega
     rw[← HX.out.2.1];exact tx eG (i*7) (by omega) r b1 (lo HO.out.lt hle) ⟨Dl,HX.out.1.2⟩
   clear c0 c1 c2 c3 c4 c5 c6 HX Dl hle;have hF:=eG.frozen;obtain⟨v0,o0⟩:=eG.cell (k*7) (by omega);obtain⟨v1,o1⟩:=eG.cell (k*7+1) (by omega);obtain⟨v2,o2⟩:=eG.cell (k*7+2) (by omega);obtain⟨v3,o3⟩:=eG.cell (k*7+3) (by omega);obtain⟨v4,o4⟩:=eG.cell (k*7+4) (by omega);obtain⟨v5,o5⟩:=eG.cell (k*7+5) (by omega);obtain⟨v6,o6⟩:=eG.cell (k*7+6) (by omega);clear eG bF aA;go_wp2;go_roundw
   case rel=>exact⟨k+1,by omega,by go_num,(HP.out _ rfl).1,(HP.out _ rfl).2.1,(HP.out _ rfl).2.2⟩
   case measure=>simp[intOf];omega
  ·obtain rfl:k=rs.length:=by omega
   go_wp2;go_ret;exact⟨rfl,hB,HO.out,HA.out⟩
theorem xH (a:Option Addr) (cap:Nat) (w:World):
  Calls Tryz.prog 33 #[.slice a 0 cap] w fun e w'=>e=.returned (.slice (some ⟨w.heap.size,0,none⟩) 0 0)∧∃ cs:Array Value,cs.size=0∧w'=w.alloc (.cells cs 126):=by
 obtain⟨cs,qO,iD⟩:=vx 0 (by omega);have iI:∀ W:World,(Instr.makeSlice 43 (.int .i64 0) (.int .i64 0)).run Tryz.prog W=.ok (.slice (some ⟨W.heap.size,0,none⟩) 0 0) (W.alloc (.cells cs 126)):=iD;clear iD;go_enter Tryz.func33,Tryz.ntmps33
 go_wp2;refine wp_loop_rounds 1 ?_;rw[rounds_succ];go_wp2;go_ret;exact⟨rfl,_,by omega,rfl⟩
theorem He (v:Value) (rs:List Gr) (w:World) (hl:rs.length≤1048576) (dO:∀ r∈rs,r.small) (h:oc w v rs):
  Calls Tryz.prog 33 #[v] w fun e w'=>e=.returned (.slice (some ⟨w.heap.size,0,none⟩) rs.length rs.length)∧Bel w w'∧gO w' w.heap.size rs:=by
 rcases h with⟨a,cap,rfl,rfl⟩|⟨b,off,cap,rfl,hb,_,hc⟩
 ·refine(xH a cap w).mono ?_;rintro e w' ⟨rfl,cs,bS,rfl⟩;exact⟨rfl,ab br _,⟨by simp,by simp,fun i hi=>absurd hi (Nat.not_lt_zero i),ai.alloc w cs _ _ (by simpa using bS)⟩⟩
 ·refine(xq b off cap rs w hl dO hb hc).mono ?_;rintro e w' ⟨rfl,h1,h2,h3⟩;exact⟨rfl,h1,h2.lt,hl,h3,h2⟩
theorem G0 (B B':Nat) (rs:List Gr) (w:World) (h:gO w B rs) (h':gO w B' rs):
  Calls Tryz.prog 47 #[.slice (some ⟨B,0,none⟩) rs.length rs.length,.slice (some ⟨B',0,none⟩) rs.length rs.length] w fun e w'=>e=.returned (.bool true)∧Bel w w':=by
 have hl:=h.len;have HH:=hid (And.intro h h');clear h h';go_enter Tryz.func47,Tryz.ntmps47
 go_wp2;go_loopw [5] (fun i wr=>∃ k:Nat,k≤rs.length∧i=.int .i64 k∧Bel w wr) (fun i _=>rs.length - (intOf i).toNat)
 case atStart=>exact⟨0,nz,rfl,br⟩
 case round=>
  obtain⟨k,hk,rfl,hW⟩:=hrel;by_cases aw:k<rs.length
  ·have q:=(HH.out.1.later hW).at_ k aw;have q':=(HH.out.2.later hW).at_ k aw;obtain⟨r,hm⟩:∃ r,r=rs.getD k Gr.none:=⟨_,rfl⟩
   rw[← hm]at q q';obtain⟨b1,_,c0,c1,c2,c3,c4,c5,c6,hn⟩:=q;obtain⟨b1',_,d0,d1,d2,d3,d4,d5,d6,yh⟩:=q';have HX:=hid fun (W:World) (hW:Bel wr W)=>Kk b1 b1' r W (hn.1.later hW) (yh.1.later hW);clear hm hn yh;go_wp2_with fail
   go_region_with (go_at_call 102;refine(HX.out _ ?_).mono ?_;(repeat(first|exact br|refine Below.drew ?_));rintro e w2 ⟨rfl,aA⟩)
   all_goals
    go_wp2;go_roundw
    case rel=>
     refine⟨k+1,by omega,by go_num, ?_⟩;repeat(first|exact aa hW aA|exact aa hW.drew aA|exact aa hW.drew.drew aA|refine Below.drew ?_)
    case measure=>simp[intOf];omega
  ·go_wp2;go_ret;exact⟨rfl,hW⟩
theorem nS {rs:List Gr} {k:Nat} (h:∀ r∈rs.take k,r.small) (hk:k<rs.length) (hs:(rs.getD k Gr.none).small):∀ r∈rs.take (k+1),r.small:=by
 have e:rs.getD k Gr.none=rs[k]:=by simp[hk]
 rw[e]at hs;intro r hr;rw[List.take_succ_eq_append_getElem hk,List.mem_append,List.mem_singleton]at hr;rcases hr with hr|rfl
 ·exact h r hr
 ·exact hs
theorem xp (b off cap:Nat) (rs:List Gr) (left:Int) (w:World) (h0:0≤left) (h1:left≤1048576) (hb:b<w.heap.size) (hl:rs.length≤maxLen)
  (hc:∀ i,i<rs.length→GrC w b (off+i*7) (rs.getD i Gr.none)):
  Calls Tryz.prog 21 #[.slice (some ⟨b,off,none⟩) rs.length cap,.int .i64 left] w fun e w'=>(∃ x:Int,e=.returned (.int .i64 x)∧szP ((rs.length:Int)≤left∧∀ r∈rs,r.small) left x)∧Bel w w':=by
 unfold maxLen at hl;have HC:=hid hc;obtain⟨P,hP⟩:∃ P:Prop,P=((rs.length:Int)≤left∧∀ r∈rs,r.small):=⟨_,rfl⟩
 have HP:=hid hP;rw[← hP];clear hc hP;by_cases hneg:left<(rs.length:Int)
 ·go_enter Tryz.func21,Tryz.ntmps21
  go_wp2;go_ret;exact⟨⟨_,rfl,by unfold szP;refine⟨by omega,by omega,fun h=>by omega⟩⟩,br⟩
 ·go_enter Tryz.func21,Tryz.ntmps21
  go_wp2;go_loopw [1,5] (fun l i wr=>∃ (k:Nat) (x:Int),k≤rs.length∧i=.int .i64 k∧l=.int .i64 x∧0≤x∧x≤left∧(∀ r∈rs.take k,r.small)∧Bel w wr) (fun _ i _=>rs.length - (intOf i).toNat)
  case atStart=>exact⟨0,_,nz,rfl,rfl,by omega,by omega,fun r hr=>by simp at hr,br⟩
  case round=>
   obtain⟨k,x,hk,rfl,rfl,x0,x1,dO,hB⟩:=hrel;have HS:=hid dO;clear dO;by_cases aw:k<rs.length
   ·have hf:=(HC.out k aw).later hB hb;obtain⟨r,hm⟩:∃ r,r=rs.getD k Gr.none:=⟨_,rfl⟩
    rw[← hm]at hf;obtain⟨ra,rc,c0,c1,c2,c3,c4,c5,c6,hn⟩:=hf;have HM:=hid (And.intro hm hn);clear hm hn;go_wp2_with fail
    refine(Ka ra rc r x wr x0 (by omega) HM.out.2.2).mono ?_;rintro e w2 ⟨⟨x',rfl,hx⟩,aA⟩;have HX:=hid hx;have q1:=hx.1;have q2:=hx.2.1;have bF:=aa hB aA;clear aA c0 c1 c2 c3 c4 c5 c6 hx;by_cases c2:x'<0
    ·go_wp2;go_ret;exact⟨⟨_,rfl,by unfold szP;exact⟨by omega,by omega,fun h=>by omega⟩⟩,bF⟩
    ·have HN:=hid (nS HS.out aw (by rw[← HM.out.1];exact HX.out.2.2 (by omega)));go_wp2;go_roundw
     case rel=>exact⟨k+1,_,by omega,by go_num,rfl,by omega,by omega,HN.out,bF⟩
     case measure=>simp[intOf];omega
   ·have HQ:Hid P:=by
     show P;rw[HP.out];have:=HS.out;rw[List.take_of_length_le (by omega)]at this;exact⟨by omega,this⟩
    go_wp2;go_ret;exact⟨⟨_,rfl,by unfold szP;exact⟨by omega,by omega,fun _=>HQ.out⟩⟩,hB⟩
theorem xa (a:Option Addr) (cap:Nat) (left:Int) (w:World) (h0:0≤left) (h1:left≤1048576):
  Calls Tryz.prog 21 #[.slice a 0 cap,.int .i64 left] w fun e w'=>e=.returned (.int .i64 left)∧w=w':=by
 go_enter Tryz.func21,Tryz.ntmps21
 go_wp2;refine wp_loop_rounds 1 ?_;rw[rounds_succ];go_wp2;go_ret;exact⟨Pl.aS (by omega),rfl⟩
theorem GL (v:Value) (rs:List Gr) (left:Int) (w:World) (h0:0≤left) (h1:left≤1048576) (h:oc w v rs):
  Calls Tryz.prog 21 #[v,.int .i64 left] w fun e w'=>(∃ x:Int,e=.returned (.int .i64 x)∧szP ((rs.length:Int)≤left∧∀ r∈rs,r.small) left x)∧Bel w w':=by
 rcases h with⟨a,cap,rfl,rfl⟩|⟨b,off,cap,rfl,hb,hl,hc⟩
 ·refine(xa a cap left w h0 h1).mono ?_;rintro e w' ⟨rfl,rfl⟩;exact⟨⟨_,rfl,by unfold szP;exact⟨by omega,by omega,fun _=>⟨by simpa using h0,fun r hr=>by simp at hr⟩⟩⟩,br⟩
 ·exact xp b off cap rs left w h0 h1 hb hl hc
end Go.Proofs.YtbiokpmdghmgcaaGreat
