/-
  RecRise by the program.
-/
import Derived.Test.YtnifdpjmpbocnaaGreatUC
import Derived.Test.YtnifdpjmpbocnaaGreatKSh
import Derived.Test.YtnifdpjmpbocnaaGreatKFp
import Derived.Test.YtnifdpjmpbocnaaGreatKR
import Derived.Test.YtnifdpjmpbocnaaGreatKDc
import Derived.Test.YtnifdpjmpbocnaaGreatRvI
namespace Go.Proofs.YtnifdpjmpbocnaaGreat
open Go.RowKit Go.Deep

set_option maxRecDepth 8000 in
set_option maxHeartbeats 16000000 in
theorem partI (p0 p1 p3 p4 p6 p7 p13 p17 : Int) (p2 p11 p12 : Bool) (a5 : Option Addr) (n5 c5 : Nat) (a8 : Option Addr) (n8 c8 : Nat) (a9 : Option Addr) (n9 c9 : Nat) (a10 : Option Addr) (n10 c10 : Nat) (a14 : Option Addr) (n14 c14 : Nat) (a15 : Option Addr) (n15 c15 : Nat) (a16 : Option Addr) (n16 c16 : Nat) (W : World) :
    Calls Tryz.prog 26 #[.agg #[.int .i64 p0, .int .i64 p1, .bool p2, .int .i64 p3, .int .i64 p4, .slice a5 n5 c5, .int .i64 p6, .int .i64 p7, .slice a8 n8 c8, .slice a9 n9 c9, .slice a10 n10 c10, .bool p11, .bool p12, .int .i64 p13, .slice a14 n14 c14, .slice a15 n15 c15, .slice a16 n16 c16, .int .i64 p17]] W fun e w' => e = .returned (.agg #[.int .i64 p0, .int .i64 p1, .int .i64 p3, .int .i64 p4, .slice a5 n5 c5, .bool p2, .int .i64 p6, .int .i64 p7, .slice a8 n8 c8, .slice a9 n9 c9, .slice a10 n10 c10, .bool p11, .bool p12, .int .i64 p13, .slice a14 n14 c14, .slice a15 n15 c15, .slice a16 n16 c16, .int .i64 p17]) ∧ Below W.heap.size W w' := by
  obtain ⟨wa, hwa⟩ : ∃ wa, wa = (W.alloc (.cells #[.int .i64 p0, .int .i64 p1, .bool p2, .int .i64 p3, .int .i64 p4, .slice a5 n5 c5, .int .i64 p6, .int .i64 p7, .slice a8 n8 c8, .slice a9 n9 c9, .slice a10 n10 c10, .bool p11, .bool p12, .int .i64 p13, .slice a14 n14 c14, .slice a15 n15 c15, .slice a16 n16 c16, .int .i64 p17] 38)).alloc (.cells #[.int .i64 0, .int .i64 0, .int .i64 0, .int .i64 0, .slice none 0 0, .bool false, .int .i64 0, .int .i64 0, .slice none 0 0, .slice none 0 0, .slice none 0 0, .bool false, .bool false, .int .i64 0, .slice none 0 0, .slice none 0 0, .slice none 0 0, .int .i64 0] 62) := ⟨_, rfl⟩
  have HB : Hid (Below W.heap.size W wa) := by show Below _ _ _; rw [hwa]; exact blw_alloc (blw_alloc (Below.refl _ _) _) _
  have HX : Hid (LBox wa W.heap.size [.int .i64 p0, .int .i64 p1, .bool p2, .int .i64 p3, .int .i64 p4, .slice a5 n5 c5, .int .i64 p6, .int .i64 p7, .slice a8 n8 c8, .slice a9 n9 c9, .slice a10 n10 c10, .bool p11, .bool p12, .int .i64 p13, .slice a14 n14 c14, .slice a15 n15 c15, .slice a16 n16 c16, .int .i64 p17]) := by show LBox _ _ _; rw [hwa]; exact (LBox.new W #[.int .i64 p0, .int .i64 p1, .bool p2, .int .i64 p3, .int .i64 p4, .slice a5 n5 c5, .int .i64 p6, .int .i64 p7, .slice a8 n8 c8, .slice a9 n9 c9, .slice a10 n10 c10, .bool p11, .bool p12, .int .i64 p13, .slice a14 n14 c14, .slice a15 n15 c15, .slice a16 n16 c16, .int .i64 p17] _ _ rfl).past _
  have HRS : Hid (OwnBlk wa (W.heap.size + 1) 62 18) := by show OwnBlk _ _ _ _; rw [hwa]; exact OwnBlk.alloc_at3 _ _ _ _ _ rfl (by simp)
  have hz := HX.out.lt
  have hrz := HRS.out.lt
  have ha3 : wa.rangeAt W.heap.size 3 [.int .i64 p3, .int .i64 p4, .slice a5 n5 c5] := by
    intro j x hx
    refine HX.out.get (3 + j) x ?_
    match j, hx with
    | 0, hx => exact hx
    | 1, hx => exact hx
    | 2, hx => exact hx
    | j + 3, hx => simp at hx
  have ha6 : wa.rangeAt W.heap.size 6 [.int .i64 p6, .int .i64 p7, .slice a8 n8 c8] := by
    intro j x hx
    refine HX.out.get (6 + j) x ?_
    match j, hx with
    | 0, hx => exact hx
    | 1, hx => exact hx
    | 2, hx => exact hx
    | j + 3, hx => simp at hx
  have g0 := HX.out.get 0 _ rfl
  have g1 := HX.out.get 1 _ rfl
  have g2 := HX.out.get 2 _ rfl
  have g9 := HX.out.get 9 _ rfl
  have g10 := HX.out.get 10 _ rfl
  have g11 := HX.out.get 11 _ rfl
  have g12 := HX.out.get 12 _ rfl
  have g13 := HX.out.get 13 _ rfl
  have g14 := HX.out.get 14 _ rfl
  have g15 := HX.out.get 15 _ rfl
  have g16 := HX.out.get 16 _ rfl
  have g17 := HX.out.get 17 _ rfl
  have hth : wa.there (W.heap.size + 1) 0 18 := uthere HRS.out _ _ (by omega)
  obtain ⟨we, hwe⟩ : ∃ we, we = wa.setCells (W.heap.size + 1) 0 [.int .i64 p0, .int .i64 p1, .int .i64 p3, .int .i64 p4, .slice a5 n5 c5, .bool p2, .int .i64 p6, .int .i64 p7, .slice a8 n8 c8, .slice a9 n9 c9, .slice a10 n10 c10, .bool p11, .bool p12, .int .i64 p13, .slice a14 n14 c14, .slice a15 n15 c15, .slice a16 n16 c16, .int .i64 p17] := ⟨_, rfl⟩
  have hrt : we.rangeAt (W.heap.size + 1) 0 [.int .i64 p0, .int .i64 p1, .int .i64 p3, .int .i64 p4, .slice a5 n5 c5, .bool p2, .int .i64 p6, .int .i64 p7, .slice a8 n8 c8, .slice a9 n9 c9, .slice a10 n10 c10, .bool p11, .bool p12, .int .i64 p13, .slice a14 n14 c14, .slice a15 n15 c15, .slice a16 n16 c16, .int .i64 p17] := by rw [hwe]; exact World.rangeAt_setCells_same _ _ _ _ hth
  have HBE : Hid (Below W.heap.size W we) := by show Below _ _ _; rw [hwe]; exact blw_scs (by omega) _ _ _ HB.out
  go_enter Tryz.func26, Tryz.ntmps26
  go_upto_region 1 with fail
  rw [← hwa]
  clear hwa
  go_wp2_with (first | refine wpList_load_mid rfl 34 _ rfl W.heap.size 3 rfl [.int .i64 p3, .int .i64 p4, .slice a5 n5 c5] _ ha3 Tryz.underlying34 rfl (by kernel_rfl) ?_ | refine wpList_load_mid rfl 34 _ rfl W.heap.size 6 rfl [.int .i64 p6, .int .i64 p7, .slice a8 n8 c8] _ ha6 Tryz.underlying34 rfl (by kernel_rfl) ?_ | refine wpList_store_mid rfl 62 _ _ rfl (W.heap.size + 1) 0 #[.int .i64 p0, .int .i64 p1, .int .i64 p3, .int .i64 p4, .slice a5 n5 c5, .bool p2, .int .i64 p6, .int .i64 p7, .slice a8 n8 c8, .slice a9 n9 c9, .slice a10 n10 c10, .bool p11, .bool p12, .int .i64 p13, .slice a14 n14 c14, .slice a15 n15 c15, .slice a16 n16 c16, .int .i64 p17] rfl rfl hth (by kernel_rfl) (by simp [Value.oneCell']) ?_)
  rw [← hwe]
  clear hwe hth hrz
  try simp only [Act.put]
  exact bodyPost_ret (v := .agg #[.int .i64 p0, .int .i64 p1, .int .i64 p3, .int .i64 p4, .slice a5 n5 c5, .bool p2, .int .i64 p6, .int .i64 p7, .slice a8 n8 c8, .slice a9 n9 c9, .slice a10 n10 c10, .bool p11, .bool p12, .int .i64 p13, .slice a14 n14 c14, .slice a15 n15 c15, .slice a16 n16 c16, .int .i64 p17]) (by simp [results, Tryz.results26, asAddr, run_loadVar_mid (P := Tryz.prog) _ _ _ 62 [.int .i64 p0, .int .i64 p1, .int .i64 p3, .int .i64 p4, .slice a5 n5 c5, .bool p2, .int .i64 p6, .int .i64 p7, .slice a8 n8 c8, .slice a9 n9 c9, .slice a10 n10 c10, .bool p11, .bool p12, .int .i64 p13, .slice a14 n14 c14, .slice a15 n15 c15, .slice a16 n16 c16, .int .i64 p17] _ hrt Tryz.underlying62 rfl (by kernel_rfl)]) rfl ⟨rfl, HBE.out⟩

set_option maxRecDepth 8000 in
set_option maxHeartbeats 16000000 in
theorem joinI (p0 p1 p3 p4 p6 p7 p13 p17 : Int) (p2 p11 p12 : Bool) (a5 : Option Addr) (n5 c5 : Nat) (a8 : Option Addr) (n8 c8 : Nat) (a9 : Option Addr) (n9 c9 : Nat) (a10 : Option Addr) (n10 c10 : Nat) (a14 : Option Addr) (n14 c14 : Nat) (a15 : Option Addr) (n15 c15 : Nat) (a16 : Option Addr) (n16 c16 : Nat) (W : World) :
    Calls Tryz.prog 28 #[.agg #[.int .i64 p0, .int .i64 p1, .int .i64 p3, .int .i64 p4, .slice a5 n5 c5, .bool p2, .int .i64 p6, .int .i64 p7, .slice a8 n8 c8, .slice a9 n9 c9, .slice a10 n10 c10, .bool p11, .bool p12, .int .i64 p13, .slice a14 n14 c14, .slice a15 n15 c15, .slice a16 n16 c16, .int .i64 p17]] W fun e w' => e = .returned (.agg #[.int .i64 p0, .int .i64 p1, .bool p2, .int .i64 p3, .int .i64 p4, .slice a5 n5 c5, .int .i64 p6, .int .i64 p7, .slice a8 n8 c8, .slice a9 n9 c9, .slice a10 n10 c10, .bool p11, .bool p12, .int .i64 p13, .slice a14 n14 c14, .slice a15 n15 c15, .slice a16 n16 c16, .int .i64 p17]) ∧ Below W.heap.size W w' := by
  obtain ⟨wa, hwa⟩ : ∃ wa, wa = (W.alloc (.cells #[.int .i64 p0, .int .i64 p1, .int .i64 p3, .int .i64 p4, .slice a5 n5 c5, .bool p2, .int .i64 p6, .int .i64 p7, .slice a8 n8 c8, .slice a9 n9 c9, .slice a10 n10 c10, .bool p11, .bool p12, .int .i64 p13, .slice a14 n14 c14, .slice a15 n15 c15, .slice a16 n16 c16, .int .i64 p17] 62)).alloc (.cells #[.int .i64 0, .int .i64 0, .bool false, .int .i64 0, .int .i64 0, .slice none 0 0, .int .i64 0, .int .i64 0, .slice none 0 0, .slice none 0 0, .slice none 0 0, .bool false, .bool false, .int .i64 0, .slice none 0 0, .slice none 0 0, .slice none 0 0, .int .i64 0] 38) := ⟨_, rfl⟩
  have HB : Hid (Below W.heap.size W wa) := by show Below _ _ _; rw [hwa]; exact blw_alloc (blw_alloc (Below.refl _ _) _) _
  have HX : Hid (LBox wa W.heap.size [.int .i64 p0, .int .i64 p1, .int .i64 p3, .int .i64 p4, .slice a5 n5 c5, .bool p2, .int .i64 p6, .int .i64 p7, .slice a8 n8 c8, .slice a9 n9 c9, .slice a10 n10 c10, .bool p11, .bool p12, .int .i64 p13, .slice a14 n14 c14, .slice a15 n15 c15, .slice a16 n16 c16, .int .i64 p17]) := by show LBox _ _ _; rw [hwa]; exact (LBox.new W #[.int .i64 p0, .int .i64 p1, .int .i64 p3, .int .i64 p4, .slice a5 n5 c5, .bool p2, .int .i64 p6, .int .i64 p7, .slice a8 n8 c8, .slice a9 n9 c9, .slice a10 n10 c10, .bool p11, .bool p12, .int .i64 p13, .slice a14 n14 c14, .slice a15 n15 c15, .slice a16 n16 c16, .int .i64 p17] _ _ rfl).past _
  have HRS : Hid (OwnBlk wa (W.heap.size + 1) 38 18) := by show OwnBlk _ _ _ _; rw [hwa]; exact OwnBlk.alloc_at3 _ _ _ _ _ rfl (by simp)
  have hz := HX.out.lt
  have hrz := HRS.out.lt
  have ha2 : wa.rangeAt W.heap.size 2 [.int .i64 p3, .int .i64 p4, .slice a5 n5 c5] := by
    intro j x hx
    refine HX.out.get (2 + j) x ?_
    match j, hx with
    | 0, hx => exact hx
    | 1, hx => exact hx
    | 2, hx => exact hx
    | j + 3, hx => simp at hx
  have ha6 : wa.rangeAt W.heap.size 6 [.int .i64 p6, .int .i64 p7, .slice a8 n8 c8] := by
    intro j x hx
    refine HX.out.get (6 + j) x ?_
    match j, hx with
    | 0, hx => exact hx
    | 1, hx => exact hx
    | 2, hx => exact hx
    | j + 3, hx => simp at hx
  have g0 := HX.out.get 0 _ rfl
  have g1 := HX.out.get 1 _ rfl
  have g5 := HX.out.get 5 _ rfl
  have g9 := HX.out.get 9 _ rfl
  have g10 := HX.out.get 10 _ rfl
  have g11 := HX.out.get 11 _ rfl
  have g12 := HX.out.get 12 _ rfl
  have g13 := HX.out.get 13 _ rfl
  have g14 := HX.out.get 14 _ rfl
  have g15 := HX.out.get 15 _ rfl
  have g16 := HX.out.get 16 _ rfl
  have g17 := HX.out.get 17 _ rfl
  have hth : wa.there (W.heap.size + 1) 0 18 := uthere HRS.out _ _ (by omega)
  obtain ⟨we, hwe⟩ : ∃ we, we = wa.setCells (W.heap.size + 1) 0 [.int .i64 p0, .int .i64 p1, .bool p2, .int .i64 p3, .int .i64 p4, .slice a5 n5 c5, .int .i64 p6, .int .i64 p7, .slice a8 n8 c8, .slice a9 n9 c9, .slice a10 n10 c10, .bool p11, .bool p12, .int .i64 p13, .slice a14 n14 c14, .slice a15 n15 c15, .slice a16 n16 c16, .int .i64 p17] := ⟨_, rfl⟩
  have hrt : we.rangeAt (W.heap.size + 1) 0 [.int .i64 p0, .int .i64 p1, .bool p2, .int .i64 p3, .int .i64 p4, .slice a5 n5 c5, .int .i64 p6, .int .i64 p7, .slice a8 n8 c8, .slice a9 n9 c9, .slice a10 n10 c10, .bool p11, .bool p12, .int .i64 p13, .slice a14 n14 c14, .slice a15 n15 c15, .slice a16 n16 c16, .int .i64 p17] := by rw [hwe]; exact World.rangeAt_setCells_same _ _ _ _ hth
  have HBE : Hid (Below W.heap.size W we) := by show Below _ _ _; rw [hwe]; exact blw_scs (by omega) _ _ _ HB.out
  go_enter Tryz.func28, Tryz.ntmps28
  go_upto_region 1 with fail
  rw [← hwa]
  clear hwa
  go_wp2_with (first | refine wpList_load_mid rfl 34 _ rfl W.heap.size 2 rfl [.int .i64 p3, .int .i64 p4, .slice a5 n5 c5] _ ha2 Tryz.underlying34 rfl (by kernel_rfl) ?_ | refine wpList_load_mid rfl 34 _ rfl W.heap.size 6 rfl [.int .i64 p6, .int .i64 p7, .slice a8 n8 c8] _ ha6 Tryz.underlying34 rfl (by kernel_rfl) ?_ | refine wpList_store_mid rfl 38 _ _ rfl (W.heap.size + 1) 0 #[.int .i64 p0, .int .i64 p1, .bool p2, .int .i64 p3, .int .i64 p4, .slice a5 n5 c5, .int .i64 p6, .int .i64 p7, .slice a8 n8 c8, .slice a9 n9 c9, .slice a10 n10 c10, .bool p11, .bool p12, .int .i64 p13, .slice a14 n14 c14, .slice a15 n15 c15, .slice a16 n16 c16, .int .i64 p17] rfl rfl hth (by kernel_rfl) (by simp [Value.oneCell']) ?_)
  rw [← hwe]
  clear hwe hth hrz
  try simp only [Act.put]
  exact bodyPost_ret (v := .agg #[.int .i64 p0, .int .i64 p1, .bool p2, .int .i64 p3, .int .i64 p4, .slice a5 n5 c5, .int .i64 p6, .int .i64 p7, .slice a8 n8 c8, .slice a9 n9 c9, .slice a10 n10 c10, .bool p11, .bool p12, .int .i64 p13, .slice a14 n14 c14, .slice a15 n15 c15, .slice a16 n16 c16, .int .i64 p17]) (by simp [results, Tryz.results28, asAddr, run_loadVar_mid (P := Tryz.prog) _ _ _ 38 [.int .i64 p0, .int .i64 p1, .bool p2, .int .i64 p3, .int .i64 p4, .slice a5 n5 c5, .int .i64 p6, .int .i64 p7, .slice a8 n8 c8, .slice a9 n9 c9, .slice a10 n10 c10, .bool p11, .bool p12, .int .i64 p13, .slice a14 n14 c14, .slice a15 n15 c15, .slice a16 n16 c16, .int .i64 p17] _ hrt Tryz.underlying38 rfl (by kernel_rfl)]) rfl ⟨rfl, HBE.out⟩
end Go.Proofs.YtnifdpjmpbocnaaGreat

namespace Go.Proofs.YtnifdpjmpbocnaaGreat
open Go.RowKit Go.Deep

set_option maxRecDepth 8000 in
set_option maxHeartbeats 16000000 in
theorem recRiseI (K : Rr) (cs : List Value) (W : World) (h : Raw W shRecorder (eRr K) cs) (hw : wtL (eRr K) ≤ 1048576) :
    Calls Tryz.prog 7 #[.agg cs.toArray] W (Ans shRecorder (eRr (riseK K)) W) := by
  obtain ⟨a0, a1, a2, a3, a4, a5, a6, c0, c1, c2, c3, c4, c5, c6, hcs, hv, hc0, hc1, hc3⟩ := vRr h hw
  have HC := uh hcs
  have HV := uh hv
  have HRW := uh h
  have HWT := uh hw
  have HCall : Hid (∀ X, Below W.heap.size W X → Calls Tryz.prog 25 #[.agg cs.toArray] X fun e w' => e = .returned (.bool (recOk K)) ∧ Below X.heap.size X w') := fun X hX =>
    recValidV K a0 a1 a2 a3 a4 a5 a6 c0 c1 c2 c3 c4 c5 c6 cs HC.out X (HV.out.later hX) hc0 hc1 hc3
  have HLC : Hid (cs.length = 18) := h.len
  clear h hcs hv hw
  obtain ⟨wa, hwa⟩ : ∃ wa, wa = (W.alloc (.cells cs.toArray 38)).alloc (.cells #[.int .i64 0, .int .i64 0, .bool false, .int .i64 0, .int .i64 0, .slice none 0 0, .int .i64 0, .int .i64 0, .slice none 0 0, .slice none 0 0, .slice none 0 0, .bool false, .bool false, .int .i64 0, .slice none 0 0, .slice none 0 0, .slice none 0 0, .int .i64 0] 38) := ⟨_, rfl⟩
  have HB : Hid (Below W.heap.size W wa) := by show Below _ _ _; rw [hwa]; exact blw_alloc (blw_alloc (Below.refl _ _) _) _
  have HX : Hid (LBox wa W.heap.size cs) := by show LBox _ _ _; rw [hwa]; exact (LBox.new W cs.toArray _ _ rfl).past _
  have HRS : Hid (OwnBlk wa (W.heap.size + 1) 38 18) := by show OwnBlk _ _ _ _; rw [hwa]; exact OwnBlk.alloc_at3 _ _ _ _ _ rfl (by simp)
  go_enter Tryz.func7, Tryz.ntmps7
  go_upto_region 1 with fail
  rw [← hwa]
  clear hwa
  have hz := HX.out.lt
  have ha := HX.out.at_
  go_wp2_with (refine wpList_load_mid rfl 38 _ rfl W.heap.size 0 rfl cs _ ha Tryz.underlying38 rfl (by rw [HLC.out]; kernel_rfl) ?_)
  refine (HCall.out wa HB.out).mono ?_
  rintro e w1 ⟨rfl, hb⟩
  replace HX := uh (HX.out.later hb)
  replace HRS := uh (HRS.out.later hb)
  replace HB := uh (blw_trans HB.out hb)
  clear hb hz ha HCall
  cases hok : recOk K
  · have hrz := HRS.out.lt
    have hth : w1.there (W.heap.size + 1) 0 18 := uthere HRS.out _ _ (by omega)
    obtain ⟨we, hwe⟩ : ∃ we, we = w1.setCells (W.heap.size + 1) 0 [.int .i64 0, .int .i64 0, .bool false, .int .i64 0, .int .i64 0, .slice none 0 0, .int .i64 0, .int .i64 0, .slice none 0 0, .slice none 0 0, .slice none 0 0, .bool false, .bool false, .int .i64 0, .slice none 0 0, .slice none 0 0, .slice none 0 0, .int .i64 0] := ⟨_, rfl⟩
    have hrt : we.rangeAt (W.heap.size + 1) 0 [.int .i64 0, .int .i64 0, .bool false, .int .i64 0, .int .i64 0, .slice none 0 0, .int .i64 0, .int .i64 0, .slice none 0 0, .slice none 0 0, .slice none 0 0, .bool false, .bool false, .int .i64 0, .slice none 0 0, .slice none 0 0, .slice none 0 0, .int .i64 0] := by rw [hwe]; exact World.rangeAt_setCells_same _ _ _ _ hth
    have HBE : Hid (Below W.heap.size W we) := by show Below _ _ _; rw [hwe]; exact blw_scs (by omega) _ _ _ HB.out
    have HE : Hid (riseK K = Rr.zero) := by show _ = _; unfold riseK; rw [hok]; rfl
    go_wp2_with (refine wpList_store_mid rfl 38 _ _ rfl (W.heap.size + 1) 0 #[.int .i64 0, .int .i64 0, .bool false, .int .i64 0, .int .i64 0, .slice none 0 0, .int .i64 0, .int .i64 0, .slice none 0 0, .slice none 0 0, .slice none 0 0, .bool false, .bool false, .int .i64 0, .slice none 0 0, .slice none 0 0, .slice none 0 0, .int .i64 0] rfl rfl hth (by kernel_rfl) (by simp [Value.oneCell']) ?_)
    rw [← hwe]
    clear hwe hth hrz
    simp only [Act.put]
    refine bodyPost_ret (v := .agg #[.int .i64 0, .int .i64 0, .bool false, .int .i64 0, .int .i64 0, .slice none 0 0, .int .i64 0, .int .i64 0, .slice none 0 0, .slice none 0 0, .slice none 0 0, .bool false, .bool false, .int .i64 0, .slice none 0 0, .slice none 0 0, .slice none 0 0, .int .i64 0]) (by simp [results, Tryz.results7, asAddr, run_loadVar_mid (P := Tryz.prog) _ _ _ 38 [.int .i64 0, .int .i64 0, .bool false, .int .i64 0, .int .i64 0, .slice none 0 0, .int .i64 0, .int .i64 0, .slice none 0 0, .slice none 0 0, .slice none 0 0, .bool false, .bool false, .int .i64 0, .slice none 0 0, .slice none 0 0, .slice none 0 0, .int .i64 0] _ hrt Tryz.underlying38 rfl (by kernel_rfl)]) rfl ⟨[.int .i64 0, .int .i64 0, .bool false, .int .i64 0, .int .i64 0, .slice none 0 0, .int .i64 0, .int .i64 0, .slice none 0 0, .slice none 0 0, .slice none 0 0, .bool false, .bool false, .int .i64 0, .slice none 0 0, .slice none 0 0, .slice none 0 0, .int .i64 0], [], rfl, ?_, List.nodup_nil, by simp, HBE.out⟩
    rw [HE.out]
    exact zero_rep _ false rfl
  have HE : Hid (riseK K = { K with up := true }) := by show _ = _; unfold riseK; rw [hok]; rfl
  have HS1 : Hid (W.heap.size + 1 < w1.heap.size) := HRS.out.lt
  have HCP := uh (copyRecI (eRr K) cs w1 (HRW.out.later HB.out) (by have := HWT.out; omega))
  have hz := HX.out.lt
  have ha := HX.out.at_
  go_upto_region 3 with fail
  go_wp2_with (refine wpList_load_mid rfl 38 _ rfl W.heap.size 0 rfl cs _ ha Tryz.underlying38 rfl (by rw [HLC.out]; kernel_rfl) ?_)
  refine HCP.out.mono ?_
  rintro e w2 ⟨d1, F1, rfl, rp, nd, fr, hb⟩
  have HBB : Hid (Below w1.heap.size w1 w2) := hb
  replace HRS := uh (HRS.out.later hb)
  replace HB := uh (blw_trans HB.out hb)
  have RP := uh rp
  have ND := uh nd
  have FR := uh fr
  have HLn : Hid (d1.length = 18) := rp.len
  have HLT := uh rp.lt
  have rp2 : Rep w2 false shRecorder F1 [.i K.num, .i K.of_, .b K.up, .i K.safe.prom, .i K.safe.known, .row K.safe.slots.length (K.safe.slots.flatMap eRs), .i K.disk.prom, .i K.disk.known, .row K.disk.slots.length (K.disk.slots.flatMap eRs), .row K.held.length (K.held.flatMap eRm), .row K.wish.length (K.wish.flatMap eTx), .b K.lead, .b K.try_, .i K.bal, .row K.yes.length (K.yes.flatMap eNu), .row K.best.length (K.best.flatMap eRs), .row K.acks.length (K.acks.flatMap eRa), .i K.heard] d1 := rp
  obtain ⟨F5, v5, F8, v8, F9, v9, F10, v10, F14, v14, F15, v15, F16, v16, hFF, hd1, r5, r8, r9, r10, r14, r15, r16⟩ := repRecorder rp2
  obtain ⟨b5, e5, hv5⟩ := r5.raw.len0
  subst hv5
  obtain ⟨b8, e8, hv8⟩ := r8.raw.len0
  subst hv8
  obtain ⟨b9, e9, hv9⟩ := r9.raw.len0
  subst hv9
  obtain ⟨b10, e10, hv10⟩ := r10.raw.len0
  subst hv10
  obtain ⟨b14, e14, hv14⟩ := r14.raw.len0
  subst hv14
  obtain ⟨b15, e15, hv15⟩ := r15.raw.len0
  subst hv15
  obtain ⟨b16, e16, hv16⟩ := r16.raw.len0
  subst hv16
  subst hd1
  clear rp rp2 nd fr hb hFF HCP ha hz HLn r5 r8 r9 r10 r14 r15 r16
  go_wp2_with fail
  refine (partI K.num K.of_ K.safe.prom K.safe.known K.disk.prom K.disk.known K.bal K.heard K.up K.lead K.try_ b5 K.safe.slots.length e5 b8 K.disk.slots.length e8 b9 K.held.length e9 b10 K.wish.length e10 b14 K.yes.length e14 b15 K.best.length e15 b16 K.acks.length e16 w2).mono ?_
  rintro e w3 ⟨rfl, hb⟩
  replace HRS := uh (HRS.out.later hb)
  replace HB := uh (blw_trans HB.out hb)
  replace RP := uh (RP.out.later hb)
  have HS3 := uh hb.size
  clear hb
  obtain ⟨w4, hw4⟩ : ∃ w4, w4 = (w3.alloc (.cells #[.int .i64 0, .int .i64 0, .int .i64 0, .int .i64 0, .slice none 0 0, .bool false, .int .i64 0, .int .i64 0, .slice none 0 0, .slice none 0 0, .slice none 0 0, .bool false, .bool false, .int .i64 0, .slice none 0 0, .slice none 0 0, .slice none 0 0, .int .i64 0] 62)).setCells w3.heap.size 0 [.int .i64 K.num, .int .i64 K.of_, .int .i64 K.safe.prom, .int .i64 K.safe.known, .slice b5 K.safe.slots.length e5, .bool K.up, .int .i64 K.disk.prom, .int .i64 K.disk.known, .slice b8 K.disk.slots.length e8, .slice b9 K.held.length e9, .slice b10 K.wish.length e10, .bool K.lead, .bool K.try_, .int .i64 K.bal, .slice b14 K.yes.length e14, .slice b15 K.best.length e15, .slice b16 K.acks.length e16, .int .i64 K.heard] := ⟨_, rfl⟩
  have hth := nv_there w3 #[.int .i64 0, .int .i64 0, .int .i64 0, .int .i64 0, .slice none 0 0, .bool false, .int .i64 0, .int .i64 0, .slice none 0 0, .slice none 0 0, .slice none 0 0, .bool false, .bool false, .int .i64 0, .slice none 0 0, .slice none 0 0, .slice none 0 0, .int .i64 0] 62 [.int .i64 K.num, .int .i64 K.of_, .int .i64 K.safe.prom, .int .i64 K.safe.known, .slice b5 K.safe.slots.length e5, .bool K.up, .int .i64 K.disk.prom, .int .i64 K.disk.known, .slice b8 K.disk.slots.length e8, .slice b9 K.held.length e9, .slice b10 K.wish.length e10, .bool K.lead, .bool K.try_, .int .i64 K.bal, .slice b14 K.yes.length e14, .slice b15 K.best.length e15, .slice b16 K.acks.length e16, .int .i64 K.heard] rfl
  have HNB : Hid (Below w3.heap.size w3 w4) := by show Below _ _ _; rw [hw4]; exact nv_below _ _ _ _
  have HNX : Hid (WBox w4 w3.heap.size 62 [.int .i64 K.num, .int .i64 K.of_, .int .i64 K.safe.prom, .int .i64 K.safe.known, .slice b5 K.safe.slots.length e5, .bool K.up, .int .i64 K.disk.prom, .int .i64 K.disk.known, .slice b8 K.disk.slots.length e8, .slice b9 K.held.length e9, .slice b10 K.wish.length e10, .bool K.lead, .bool K.try_, .int .i64 K.bal, .slice b14 K.yes.length e14, .slice b15 K.best.length e15, .slice b16 K.acks.length e16, .int .i64 K.heard]) := by show WBox _ _ _ _; rw [hw4]; exact ⟨own_scs _ 0 _ (OwnBlk.alloc w3 _ _ _ rfl), (nv_box w3 #[.int .i64 0, .int .i64 0, .int .i64 0, .int .i64 0, .slice none 0 0, .bool false, .int .i64 0, .int .i64 0, .slice none 0 0, .slice none 0 0, .slice none 0 0, .bool false, .bool false, .int .i64 0, .slice none 0 0, .slice none 0 0, .slice none 0 0, .int .i64 0] 62 [.int .i64 K.num, .int .i64 K.of_, .int .i64 K.safe.prom, .int .i64 K.safe.known, .slice b5 K.safe.slots.length e5, .bool K.up, .int .i64 K.disk.prom, .int .i64 K.disk.known, .slice b8 K.disk.slots.length e8, .slice b9 K.held.length e9, .slice b10 K.wish.length e10, .bool K.lead, .bool K.try_, .int .i64 K.bal, .slice b14 K.yes.length e14, .slice b15 K.best.length e15, .slice b16 K.acks.length e16, .int .i64 K.heard] rfl).at_⟩
  replace HRS := uh (HRS.out.later HNB.out)
  replace HB := uh (blw_trans HB.out HNB.out)
  replace RP := uh (RP.out.later HNB.out)
  go_upto_region 4 with (refine wpList_store_mid rfl 62 _ _ rfl w3.heap.size 0 #[.int .i64 K.num, .int .i64 K.of_, .int .i64 K.safe.prom, .int .i64 K.safe.known, .slice b5 K.safe.slots.length e5, .bool K.up, .int .i64 K.disk.prom, .int .i64 K.disk.known, .slice b8 K.disk.slots.length e8, .slice b9 K.held.length e9, .slice b10 K.wish.length e10, .bool K.lead, .bool K.try_, .int .i64 K.bal, .slice b14 K.yes.length e14, .slice b15 K.best.length e15, .slice b16 K.acks.length e16, .int .i64 K.heard] rfl rfl hth (by kernel_rfl) (by simp [Value.oneCell']) ?_)
  first | rw [← hw4] | (simp only [List.toList_toArray]; rw [← hw4])
  clear hw4 hth HNB
  obtain ⟨w6, hw6⟩ : ∃ w6, w6 = w4.setCell ⟨w3.heap.size, 5, none⟩ (.bool true) := ⟨_, rfl⟩
  have HNX6 : Hid (WBox w6 w3.heap.size 62 [.int .i64 K.num, .int .i64 K.of_, .int .i64 K.safe.prom, .int .i64 K.safe.known, .slice b5 K.safe.slots.length e5, .bool true, .int .i64 K.disk.prom, .int .i64 K.disk.known, .slice b8 K.disk.slots.length e8, .slice b9 K.held.length e9, .slice b10 K.wish.length e10, .bool K.lead, .bool K.try_, .int .i64 K.bal, .slice b14 K.yes.length e14, .slice b15 K.best.length e15, .slice b16 K.acks.length e16, .int .i64 K.heard]) := by show WBox _ _ _ _; rw [hw6]; exact HNX.out.set 5 (.bool true) (by show 5 < 18; omega)
  have hM : Marks (fun b => b = w3.heap.size) w4 w6 := by rw [hw6]; exact Marks.sc (S := fun b => b = w3.heap.size) w4 rfl _ _
  have HLO : Hid (W.heap.size + 1 < w3.heap.size) := by show _ < _; have := HS1.out; have := HBB.out.size; have := HS3.out; omega
  replace HRS := uh (hM.own _ _ _ HRS.out)
  replace HB := uh (hM.below (fun b e => by rw [e]; have := HLO.out; omega) HB.out)
  replace RP := uh (RP.out.keep hM (fun b hb e => by have := HLT.out b hb; have := HS3.out; omega))
  have HEw := uh hw6
  clear hw6 hM
  have fz := HNX.out.own.frozen 5
  have g5 := HNX.out.get 5 _ rfl
  have lty := HNX.out.own.lt
  go_upto_region 5 with fail
  rw [← HEw.out]
  clear fz g5 lty HNX HEw
  have ha6 := HNX6.out.at_
  have hz6 := HNX6.out.own.lt
  go_wp2_with (refine wpList_load_mid rfl 62 _ rfl w3.heap.size 0 rfl [.int .i64 K.num, .int .i64 K.of_, .int .i64 K.safe.prom, .int .i64 K.safe.known, .slice b5 K.safe.slots.length e5, .bool true, .int .i64 K.disk.prom, .int .i64 K.disk.known, .slice b8 K.disk.slots.length e8, .slice b9 K.held.length e9, .slice b10 K.wish.length e10, .bool K.lead, .bool K.try_, .int .i64 K.bal, .slice b14 K.yes.length e14, .slice b15 K.best.length e15, .slice b16 K.acks.length e16, .int .i64 K.heard] _ ha6 Tryz.underlying62 rfl (by kernel_rfl) ?_)
  refine (joinI K.num K.of_ K.safe.prom K.safe.known K.disk.prom K.disk.known K.bal K.heard true K.lead K.try_ b5 K.safe.slots.length e5 b8 K.disk.slots.length e8 b9 K.held.length e9 b10 K.wish.length e10 b14 K.yes.length e14 b15 K.best.length e15 b16 K.acks.length e16 w6).mono ?_
  rintro e w7 ⟨rfl, hb⟩
  replace HRS := uh (HRS.out.later hb)
  replace HB := uh (blw_trans HB.out hb)
  replace RP := uh (RP.out.later hb)
  clear hb ha6 hz6
  have hth : w7.there (W.heap.size + 1) 0 18 := uthere HRS.out _ _ (by omega)
  have hrz := HRS.out.lt
  obtain ⟨we, hwe⟩ : ∃ we, we = w7.setCells (W.heap.size + 1) 0 [.int .i64 K.num, .int .i64 K.of_, .bool true, .int .i64 K.safe.prom, .int .i64 K.safe.known, .slice b5 K.safe.slots.length e5, .int .i64 K.disk.prom, .int .i64 K.disk.known, .slice b8 K.disk.slots.length e8, .slice b9 K.held.length e9, .slice b10 K.wish.length e10, .bool K.lead, .bool K.try_, .int .i64 K.bal, .slice b14 K.yes.length e14, .slice b15 K.best.length e15, .slice b16 K.acks.length e16, .int .i64 K.heard] := ⟨_, rfl⟩
  have hrt : we.rangeAt (W.heap.size + 1) 0 [.int .i64 K.num, .int .i64 K.of_, .bool true, .int .i64 K.safe.prom, .int .i64 K.safe.known, .slice b5 K.safe.slots.length e5, .int .i64 K.disk.prom, .int .i64 K.disk.known, .slice b8 K.disk.slots.length e8, .slice b9 K.held.length e9, .slice b10 K.wish.length e10, .bool K.lead, .bool K.try_, .int .i64 K.bal, .slice b14 K.yes.length e14, .slice b15 K.best.length e15, .slice b16 K.acks.length e16, .int .i64 K.heard] := by rw [hwe]; exact World.rangeAt_setCells_same _ _ _ _ hth
  have hM : Marks (fun b => b = W.heap.size + 1) w7 we := by rw [hwe]; exact mks_scs (S := fun b => b = W.heap.size + 1) rfl _ _ _
  have HBE : Hid (Below W.heap.size W we) := hM.below (fun b e => by rw [e]; omega) HB.out
  replace RP := uh (RP.out.keep hM (fun b hb e => by have := FR.out b hb; have := HS1.out; omega))
  go_wp2_with (refine wpList_store_mid rfl 38 _ _ rfl (W.heap.size + 1) 0 #[.int .i64 K.num, .int .i64 K.of_, .bool true, .int .i64 K.safe.prom, .int .i64 K.safe.known, .slice b5 K.safe.slots.length e5, .int .i64 K.disk.prom, .int .i64 K.disk.known, .slice b8 K.disk.slots.length e8, .slice b9 K.held.length e9, .slice b10 K.wish.length e10, .bool K.lead, .bool K.try_, .int .i64 K.bal, .slice b14 K.yes.length e14, .slice b15 K.best.length e15, .slice b16 K.acks.length e16, .int .i64 K.heard] rfl rfl hth (by kernel_rfl) (by simp [Value.oneCell']) ?_)
  first | rw [← hwe] | (simp only [List.toList_toArray]; rw [← hwe])
  clear hwe hth hrz hM
  try simp only [Act.put]
  refine bodyPost_ret (v := .agg #[.int .i64 K.num, .int .i64 K.of_, .bool true, .int .i64 K.safe.prom, .int .i64 K.safe.known, .slice b5 K.safe.slots.length e5, .int .i64 K.disk.prom, .int .i64 K.disk.known, .slice b8 K.disk.slots.length e8, .slice b9 K.held.length e9, .slice b10 K.wish.length e10, .bool K.lead, .bool K.try_, .int .i64 K.bal, .slice b14 K.yes.length e14, .slice b15 K.best.length e15, .slice b16 K.acks.length e16, .int .i64 K.heard]) (by simp [results, Tryz.results7, asAddr, run_loadVar_mid (P := Tryz.prog) _ _ _ 38 [.int .i64 K.num, .int .i64 K.of_, .bool true, .int .i64 K.safe.prom, .int .i64 K.safe.known, .slice b5 K.safe.slots.length e5, .int .i64 K.disk.prom, .int .i64 K.disk.known, .slice b8 K.disk.slots.length e8, .slice b9 K.held.length e9, .slice b10 K.wish.length e10, .bool K.lead, .bool K.try_, .int .i64 K.bal, .slice b14 K.yes.length e14, .slice b15 K.best.length e15, .slice b16 K.acks.length e16, .int .i64 K.heard] _ hrt Tryz.underlying38 rfl (by kernel_rfl)]) rfl ⟨[.int .i64 K.num, .int .i64 K.of_, .bool true, .int .i64 K.safe.prom, .int .i64 K.safe.known, .slice b5 K.safe.slots.length e5, .int .i64 K.disk.prom, .int .i64 K.disk.known, .slice b8 K.disk.slots.length e8, .slice b9 K.held.length e9, .slice b10 K.wish.length e10, .bool K.lead, .bool K.try_, .int .i64 K.bal, .slice b14 K.yes.length e14, .slice b15 K.best.length e15, .slice b16 K.acks.length e16, .int .i64 K.heard], F1, rfl, ?_, ND.out, fun b hb => by have := FR.out b hb; have := HS1.out; omega, HBE.out⟩
  rw [HE.out]
  exact RP.out.setb 2 true rfl
end Go.Proofs.YtnifdpjmpbocnaaGreat
