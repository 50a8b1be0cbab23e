/-
  A recorder in halves, and whole again.
-/
import Derived.Test.YtnifdpjmpbocnaaUC
import Derived.Test.YtnifdpjmpbocnaaKSh
namespace Go.Proofs.Ytnifdpjmpbocnaa
open Go.RowKit Go.Deep

set_option maxRecDepth 8000 in
set_option maxHeartbeats 16000000 in
theorem partI (p0 p1 p3 p4 p6 p7 p13 p17 : Int) (p2 p11 p12 : Bool) (a5 : Option Addr) (n5 c5 : Nat) (a8 : Option Addr) (n8 c8 : Nat) (a9 : Option Addr) (n9 c9 : Nat) (a10 : Option Addr) (n10 c10 : Nat) (a14 : Option Addr) (n14 c14 : Nat) (a15 : Option Addr) (n15 c15 : Nat) (a16 : Option Addr) (n16 c16 : Nat) (W : World) :
    Calls Try.prog 32 #[.agg #[.int .i64 p0, .int .i64 p1, .bool p2, .int .i64 p3, .int .i64 p4, .slice a5 n5 c5, .int .i64 p6, .int .i64 p7, .slice a8 n8 c8, .slice a9 n9 c9, .slice a10 n10 c10, .bool p11, .bool p12, .int .i64 p13, .slice a14 n14 c14, .slice a15 n15 c15, .slice a16 n16 c16, .int .i64 p17]] W fun e w' => e = .returned (.agg #[.int .i64 p0, .int .i64 p1, .int .i64 p3, .int .i64 p4, .slice a5 n5 c5, .bool p2, .int .i64 p6, .int .i64 p7, .slice a8 n8 c8, .slice a9 n9 c9, .slice a10 n10 c10, .bool p11, .bool p12, .int .i64 p13, .slice a14 n14 c14, .slice a15 n15 c15, .slice a16 n16 c16, .int .i64 p17]) ∧ Below W.heap.size W w' := by
  obtain ⟨wa, hwa⟩ : ∃ wa, wa = (W.alloc (.cells #[.int .i64 p0, .int .i64 p1, .bool p2, .int .i64 p3, .int .i64 p4, .slice a5 n5 c5, .int .i64 p6, .int .i64 p7, .slice a8 n8 c8, .slice a9 n9 c9, .slice a10 n10 c10, .bool p11, .bool p12, .int .i64 p13, .slice a14 n14 c14, .slice a15 n15 c15, .slice a16 n16 c16, .int .i64 p17] 40)).alloc (.cells #[.int .i64 0, .int .i64 0, .int .i64 0, .int .i64 0, .slice none 0 0, .bool false, .int .i64 0, .int .i64 0, .slice none 0 0, .slice none 0 0, .slice none 0 0, .bool false, .bool false, .int .i64 0, .slice none 0 0, .slice none 0 0, .slice none 0 0, .int .i64 0] 66) := ⟨_, rfl⟩
  have HB : Hid (Below W.heap.size W wa) := by show Below _ _ _; rw [hwa]; exact blw_alloc (blw_alloc (Below.refl _ _) _) _
  have HX : Hid (LBox wa W.heap.size [.int .i64 p0, .int .i64 p1, .bool p2, .int .i64 p3, .int .i64 p4, .slice a5 n5 c5, .int .i64 p6, .int .i64 p7, .slice a8 n8 c8, .slice a9 n9 c9, .slice a10 n10 c10, .bool p11, .bool p12, .int .i64 p13, .slice a14 n14 c14, .slice a15 n15 c15, .slice a16 n16 c16, .int .i64 p17]) := by show LBox _ _ _; rw [hwa]; exact (LBox.new W #[.int .i64 p0, .int .i64 p1, .bool p2, .int .i64 p3, .int .i64 p4, .slice a5 n5 c5, .int .i64 p6, .int .i64 p7, .slice a8 n8 c8, .slice a9 n9 c9, .slice a10 n10 c10, .bool p11, .bool p12, .int .i64 p13, .slice a14 n14 c14, .slice a15 n15 c15, .slice a16 n16 c16, .int .i64 p17] _ _ rfl).past _
  have HRS : Hid (OwnBlk wa (W.heap.size + 1) 66 18) := by show OwnBlk _ _ _ _; rw [hwa]; exact OwnBlk.alloc_at3 _ _ _ _ _ rfl (by simp)
  have hz := HX.out.lt
  have hrz := HRS.out.lt
  have ha3 : wa.rangeAt W.heap.size 3 [.int .i64 p3, .int .i64 p4, .slice a5 n5 c5] := by
    intro j x hx
    refine HX.out.get (3 + j) x ?_
    match j, hx with
    | 0, hx => exact hx
    | 1, hx => exact hx
    | 2, hx => exact hx
    | j + 3, hx => simp at hx
  have ha6 : wa.rangeAt W.heap.size 6 [.int .i64 p6, .int .i64 p7, .slice a8 n8 c8] := by
    intro j x hx
    refine HX.out.get (6 + j) x ?_
    match j, hx with
    | 0, hx => exact hx
    | 1, hx => exact hx
    | 2, hx => exact hx
    | j + 3, hx => simp at hx
  have g0 := HX.out.get 0 _ rfl
  have g1 := HX.out.get 1 _ rfl
  have g2 := HX.out.get 2 _ rfl
  have g9 := HX.out.get 9 _ rfl
  have g10 := HX.out.get 10 _ rfl
  have g11 := HX.out.get 11 _ rfl
  have g12 := HX.out.get 12 _ rfl
  have g13 := HX.out.get 13 _ rfl
  have g14 := HX.out.get 14 _ rfl
  have g15 := HX.out.get 15 _ rfl
  have g16 := HX.out.get 16 _ rfl
  have g17 := HX.out.get 17 _ rfl
  have hth : wa.there (W.heap.size + 1) 0 18 := uthere HRS.out _ _ (by omega)
  obtain ⟨we, hwe⟩ : ∃ we, we = wa.setCells (W.heap.size + 1) 0 [.int .i64 p0, .int .i64 p1, .int .i64 p3, .int .i64 p4, .slice a5 n5 c5, .bool p2, .int .i64 p6, .int .i64 p7, .slice a8 n8 c8, .slice a9 n9 c9, .slice a10 n10 c10, .bool p11, .bool p12, .int .i64 p13, .slice a14 n14 c14, .slice a15 n15 c15, .slice a16 n16 c16, .int .i64 p17] := ⟨_, rfl⟩
  have hrt : we.rangeAt (W.heap.size + 1) 0 [.int .i64 p0, .int .i64 p1, .int .i64 p3, .int .i64 p4, .slice a5 n5 c5, .bool p2, .int .i64 p6, .int .i64 p7, .slice a8 n8 c8, .slice a9 n9 c9, .slice a10 n10 c10, .bool p11, .bool p12, .int .i64 p13, .slice a14 n14 c14, .slice a15 n15 c15, .slice a16 n16 c16, .int .i64 p17] := by rw [hwe]; exact World.rangeAt_setCells_same _ _ _ _ hth
  have HBE : Hid (Below W.heap.size W we) := by show Below _ _ _; rw [hwe]; exact blw_scs (by omega) _ _ _ HB.out
  go_enter Try.func32, Try.ntmps32
  go_upto_region 1 with fail
  rw [← hwa]
  clear hwa
  go_wp2_with (first | refine wpList_load_mid rfl 36 _ rfl W.heap.size 3 rfl [.int .i64 p3, .int .i64 p4, .slice a5 n5 c5] _ ha3 Try.underlying36 rfl (by kernel_rfl) ?_ | refine wpList_load_mid rfl 36 _ rfl W.heap.size 6 rfl [.int .i64 p6, .int .i64 p7, .slice a8 n8 c8] _ ha6 Try.underlying36 rfl (by kernel_rfl) ?_ | refine wpList_store_mid rfl 66 _ _ rfl (W.heap.size + 1) 0 #[.int .i64 p0, .int .i64 p1, .int .i64 p3, .int .i64 p4, .slice a5 n5 c5, .bool p2, .int .i64 p6, .int .i64 p7, .slice a8 n8 c8, .slice a9 n9 c9, .slice a10 n10 c10, .bool p11, .bool p12, .int .i64 p13, .slice a14 n14 c14, .slice a15 n15 c15, .slice a16 n16 c16, .int .i64 p17] rfl rfl hth (by kernel_rfl) (by simp [Value.oneCell']) ?_)
  rw [← hwe]
  clear hwe hth hrz
  try simp only [Act.put]
  exact bodyPost_ret (v := .agg #[.int .i64 p0, .int .i64 p1, .int .i64 p3, .int .i64 p4, .slice a5 n5 c5, .bool p2, .int .i64 p6, .int .i64 p7, .slice a8 n8 c8, .slice a9 n9 c9, .slice a10 n10 c10, .bool p11, .bool p12, .int .i64 p13, .slice a14 n14 c14, .slice a15 n15 c15, .slice a16 n16 c16, .int .i64 p17]) (by simp [results, Try.results32, asAddr, run_loadVar_mid (P := Try.prog) _ _ _ 66 [.int .i64 p0, .int .i64 p1, .int .i64 p3, .int .i64 p4, .slice a5 n5 c5, .bool p2, .int .i64 p6, .int .i64 p7, .slice a8 n8 c8, .slice a9 n9 c9, .slice a10 n10 c10, .bool p11, .bool p12, .int .i64 p13, .slice a14 n14 c14, .slice a15 n15 c15, .slice a16 n16 c16, .int .i64 p17] _ hrt Try.underlying66 rfl (by kernel_rfl)]) rfl ⟨rfl, HBE.out⟩

set_option maxRecDepth 8000 in
set_option maxHeartbeats 16000000 in
theorem joinI (p0 p1 p3 p4 p6 p7 p13 p17 : Int) (p2 p11 p12 : Bool) (a5 : Option Addr) (n5 c5 : Nat) (a8 : Option Addr) (n8 c8 : Nat) (a9 : Option Addr) (n9 c9 : Nat) (a10 : Option Addr) (n10 c10 : Nat) (a14 : Option Addr) (n14 c14 : Nat) (a15 : Option Addr) (n15 c15 : Nat) (a16 : Option Addr) (n16 c16 : Nat) (W : World) :
    Calls Try.prog 35 #[.agg #[.int .i64 p0, .int .i64 p1, .int .i64 p3, .int .i64 p4, .slice a5 n5 c5, .bool p2, .int .i64 p6, .int .i64 p7, .slice a8 n8 c8, .slice a9 n9 c9, .slice a10 n10 c10, .bool p11, .bool p12, .int .i64 p13, .slice a14 n14 c14, .slice a15 n15 c15, .slice a16 n16 c16, .int .i64 p17]] W fun e w' => e = .returned (.agg #[.int .i64 p0, .int .i64 p1, .bool p2, .int .i64 p3, .int .i64 p4, .slice a5 n5 c5, .int .i64 p6, .int .i64 p7, .slice a8 n8 c8, .slice a9 n9 c9, .slice a10 n10 c10, .bool p11, .bool p12, .int .i64 p13, .slice a14 n14 c14, .slice a15 n15 c15, .slice a16 n16 c16, .int .i64 p17]) ∧ Below W.heap.size W w' := by
  obtain ⟨wa, hwa⟩ : ∃ wa, wa = (W.alloc (.cells #[.int .i64 p0, .int .i64 p1, .int .i64 p3, .int .i64 p4, .slice a5 n5 c5, .bool p2, .int .i64 p6, .int .i64 p7, .slice a8 n8 c8, .slice a9 n9 c9, .slice a10 n10 c10, .bool p11, .bool p12, .int .i64 p13, .slice a14 n14 c14, .slice a15 n15 c15, .slice a16 n16 c16, .int .i64 p17] 66)).alloc (.cells #[.int .i64 0, .int .i64 0, .bool false, .int .i64 0, .int .i64 0, .slice none 0 0, .int .i64 0, .int .i64 0, .slice none 0 0, .slice none 0 0, .slice none 0 0, .bool false, .bool false, .int .i64 0, .slice none 0 0, .slice none 0 0, .slice none 0 0, .int .i64 0] 40) := ⟨_, rfl⟩
  have HB : Hid (Below W.heap.size W wa) := by show Below _ _ _; rw [hwa]; exact blw_alloc (blw_alloc (Below.refl _ _) _) _
  have HX : Hid (LBox wa W.heap.size [.int .i64 p0, .int .i64 p1, .int .i64 p3, .int .i64 p4, .slice a5 n5 c5, .bool p2, .int .i64 p6, .int .i64 p7, .slice a8 n8 c8, .slice a9 n9 c9, .slice a10 n10 c10, .bool p11, .bool p12, .int .i64 p13, .slice a14 n14 c14, .slice a15 n15 c15, .slice a16 n16 c16, .int .i64 p17]) := by show LBox _ _ _; rw [hwa]; exact (LBox.new W #[.int .i64 p0, .int .i64 p1, .int .i64 p3, .int .i64 p4, .slice a5 n5 c5, .bool p2, .int .i64 p6, .int .i64 p7, .slice a8 n8 c8, .slice a9 n9 c9, .slice a10 n10 c10, .bool p11, .bool p12, .int .i64 p13, .slice a14 n14 c14, .slice a15 n15 c15, .slice a16 n16 c16, .int .i64 p17] _ _ rfl).past _
  have HRS : Hid (OwnBlk wa (W.heap.size + 1) 40 18) := by show OwnBlk _ _ _ _; rw [hwa]; exact OwnBlk.alloc_at3 _ _ _ _ _ rfl (by simp)
  have hz := HX.out.lt
  have hrz := HRS.out.lt
  have ha2 : wa.rangeAt W.heap.size 2 [.int .i64 p3, .int .i64 p4, .slice a5 n5 c5] := by
    intro j x hx
    refine HX.out.get (2 + j) x ?_
    match j, hx with
    | 0, hx => exact hx
    | 1, hx => exact hx
    | 2, hx => exact hx
    | j + 3, hx => simp at hx
  have ha6 : wa.rangeAt W.heap.size 6 [.int .i64 p6, .int .i64 p7, .slice a8 n8 c8] := by
    intro j x hx
    refine HX.out.get (6 + j) x ?_
    match j, hx with
    | 0, hx => exact hx
    | 1, hx => exact hx
    | 2, hx => exact hx
    | j + 3, hx => simp at hx
  have g0 := HX.out.get 0 _ rfl
  have g1 := HX.out.get 1 _ rfl
  have g5 := HX.out.get 5 _ rfl
  have g9 := HX.out.get 9 _ rfl
  have g10 := HX.out.get 10 _ rfl
  have g11 := HX.out.get 11 _ rfl
  have g12 := HX.out.get 12 _ rfl
  have g13 := HX.out.get 13 _ rfl
  have g14 := HX.out.get 14 _ rfl
  have g15 := HX.out.get 15 _ rfl
  have g16 := HX.out.get 16 _ rfl
  have g17 := HX.out.get 17 _ rfl
  have hth : wa.there (W.heap.size + 1) 0 18 := uthere HRS.out _ _ (by omega)
  obtain ⟨we, hwe⟩ : ∃ we, we = wa.setCells (W.heap.size + 1) 0 [.int .i64 p0, .int .i64 p1, .bool p2, .int .i64 p3, .int .i64 p4, .slice a5 n5 c5, .int .i64 p6, .int .i64 p7, .slice a8 n8 c8, .slice a9 n9 c9, .slice a10 n10 c10, .bool p11, .bool p12, .int .i64 p13, .slice a14 n14 c14, .slice a15 n15 c15, .slice a16 n16 c16, .int .i64 p17] := ⟨_, rfl⟩
  have hrt : we.rangeAt (W.heap.size + 1) 0 [.int .i64 p0, .int .i64 p1, .bool p2, .int .i64 p3, .int .i64 p4, .slice a5 n5 c5, .int .i64 p6, .int .i64 p7, .slice a8 n8 c8, .slice a9 n9 c9, .slice a10 n10 c10, .bool p11, .bool p12, .int .i64 p13, .slice a14 n14 c14, .slice a15 n15 c15, .slice a16 n16 c16, .int .i64 p17] := by rw [hwe]; exact World.rangeAt_setCells_same _ _ _ _ hth
  have HBE : Hid (Below W.heap.size W we) := by show Below _ _ _; rw [hwe]; exact blw_scs (by omega) _ _ _ HB.out
  go_enter Try.func35, Try.ntmps35
  go_upto_region 1 with fail
  rw [← hwa]
  clear hwa
  go_wp2_with (first | refine wpList_load_mid rfl 36 _ rfl W.heap.size 2 rfl [.int .i64 p3, .int .i64 p4, .slice a5 n5 c5] _ ha2 Try.underlying36 rfl (by kernel_rfl) ?_ | refine wpList_load_mid rfl 36 _ rfl W.heap.size 6 rfl [.int .i64 p6, .int .i64 p7, .slice a8 n8 c8] _ ha6 Try.underlying36 rfl (by kernel_rfl) ?_ | refine wpList_store_mid rfl 40 _ _ rfl (W.heap.size + 1) 0 #[.int .i64 p0, .int .i64 p1, .bool p2, .int .i64 p3, .int .i64 p4, .slice a5 n5 c5, .int .i64 p6, .int .i64 p7, .slice a8 n8 c8, .slice a9 n9 c9, .slice a10 n10 c10, .bool p11, .bool p12, .int .i64 p13, .slice a14 n14 c14, .slice a15 n15 c15, .slice a16 n16 c16, .int .i64 p17] rfl rfl hth (by kernel_rfl) (by simp [Value.oneCell']) ?_)
  rw [← hwe]
  clear hwe hth hrz
  try simp only [Act.put]
  exact bodyPost_ret (v := .agg #[.int .i64 p0, .int .i64 p1, .bool p2, .int .i64 p3, .int .i64 p4, .slice a5 n5 c5, .int .i64 p6, .int .i64 p7, .slice a8 n8 c8, .slice a9 n9 c9, .slice a10 n10 c10, .bool p11, .bool p12, .int .i64 p13, .slice a14 n14 c14, .slice a15 n15 c15, .slice a16 n16 c16, .int .i64 p17]) (by simp [results, Try.results35, asAddr, run_loadVar_mid (P := Try.prog) _ _ _ 40 [.int .i64 p0, .int .i64 p1, .bool p2, .int .i64 p3, .int .i64 p4, .slice a5 n5 c5, .int .i64 p6, .int .i64 p7, .slice a8 n8 c8, .slice a9 n9 c9, .slice a10 n10 c10, .bool p11, .bool p12, .int .i64 p13, .slice a14 n14 c14, .slice a15 n15 c15, .slice a16 n16 c16, .int .i64 p17] _ hrt Try.underlying40 rfl (by kernel_rfl)]) rfl ⟨rfl, HBE.out⟩
end Go.Proofs.Ytnifdpjmpbocnaa
