/-
  Recorders: lists that are empty; a recorder with empty lists: equality, marks; RecNew by the specification.
-/
import Derived.Test.YtfkkohfjkofgnaaGreatRcA
import Derived.Test.YtfkkohfjkofgnaaGreatLBx
import Derived.Test.YtfkkohfjkofgnaaGreatLet
namespace Go.Proofs.YtfkkohfjkofgnaaGreat
open Go.RowKit Go.Deep

theorem eqNRecSlotS (a a' : Option Addr) (c c' : Nat) (w : World) :
    Calls Tryz.prog 99 #[.slice a 0 c, .slice a' 0 c'] w fun e w' => e = .returned (.bool true) ∧ w = w' := by
  go_enter Tryz.func99, Tryz.ntmps99
  go_wp2
  refine wp_loop_rounds 1 ?_
  rw [rounds_succ]
  go_wp2
  go_ret
  exact ⟨rfl, rfl⟩

theorem markNRecSlotS (a : Option Addr) (c : Nat) (k : Int) (w : World) :
    Calls Tryz.prog 84 #[.slice a 0 c, .int .i64 k] w fun e w' => e = .returned (.int .i64 k) ∧ w = w' := by
  go_enter Tryz.func84, Tryz.ntmps84
  go_wp2
  refine wp_loop_rounds 1 ?_
  rw [rounds_succ]
  go_wp2
  go_ret
  exact ⟨rfl, rfl⟩

theorem heldNRecSlotS (a : Option Addr) (c : Nat) (k : Int) (w : World) :
    Calls Tryz.prog 88 #[.slice a 0 c, .int .i64 k] w fun e w' => e = .returned (.int .i64 k) ∧ w = w' := by
  go_enter Tryz.func88, Tryz.ntmps88
  go_wp2
  refine wp_loop_rounds 1 ?_
  rw [rounds_succ]
  go_wp2
  go_ret
  exact ⟨rfl, rfl⟩

theorem eqNRecMessageS (a a' : Option Addr) (c c' : Nat) (w : World) :
    Calls Tryz.prog 53 #[.slice a 0 c, .slice a' 0 c'] w fun e w' => e = .returned (.bool true) ∧ w = w' := by
  go_enter Tryz.func53, Tryz.ntmps53
  go_wp2
  refine wp_loop_rounds 1 ?_
  rw [rounds_succ]
  go_wp2
  go_ret
  exact ⟨rfl, rfl⟩

theorem markNRecMessageS (a : Option Addr) (c : Nat) (k : Int) (w : World) :
    Calls Tryz.prog 61 #[.slice a 0 c, .int .i64 k] w fun e w' => e = .returned (.int .i64 k) ∧ w = w' := by
  go_enter Tryz.func61, Tryz.ntmps61
  go_wp2
  refine wp_loop_rounds 1 ?_
  rw [rounds_succ]
  go_wp2
  go_ret
  exact ⟨rfl, rfl⟩

theorem heldNRecMessageS (a : Option Addr) (c : Nat) (k : Int) (w : World) :
    Calls Tryz.prog 66 #[.slice a 0 c, .int .i64 k] w fun e w' => e = .returned (.int .i64 k) ∧ w = w' := by
  go_enter Tryz.func66, Tryz.ntmps66
  go_wp2
  refine wp_loop_rounds 1 ?_
  rw [rounds_succ]
  go_wp2
  go_ret
  exact ⟨rfl, rfl⟩

theorem eqNStringS (a a' : Option Addr) (c c' : Nat) (w : World) :
    Calls Tryz.prog 97 #[.slice a 0 c, .slice a' 0 c'] w fun e w' => e = .returned (.bool true) ∧ w = w' := by
  go_enter Tryz.func97, Tryz.ntmps97
  go_wp2
  refine wp_loop_rounds 1 ?_
  rw [rounds_succ]
  go_wp2
  go_ret
  exact ⟨rfl, rfl⟩

theorem markNStringS (a : Option Addr) (c : Nat) (k : Int) (w : World) :
    Calls Tryz.prog 85 #[.slice a 0 c, .int .i64 k] w fun e w' => e = .returned (.int .i64 k) ∧ w = w' := by
  go_enter Tryz.func85, Tryz.ntmps85
  go_wp2
  refine wp_loop_rounds 1 ?_
  rw [rounds_succ]
  go_wp2
  go_ret
  exact ⟨rfl, rfl⟩

theorem heldNStringS (a : Option Addr) (c : Nat) (k : Int) (w : World) :
    Calls Tryz.prog 89 #[.slice a 0 c, .int .i64 k] w fun e w' => e = .returned (.int .i64 k) ∧ w = w' := by
  go_enter Tryz.func89, Tryz.ntmps89
  go_wp2
  refine wp_loop_rounds 1 ?_
  rw [rounds_succ]
  go_wp2
  go_ret
  exact ⟨rfl, rfl⟩

theorem eqNIntS (a a' : Option Addr) (c c' : Nat) (w : World) :
    Calls Tryz.prog 98 #[.slice a 0 c, .slice a' 0 c'] w fun e w' => e = .returned (.bool true) ∧ w = w' := by
  go_enter Tryz.func98, Tryz.ntmps98
  go_wp2
  refine wp_loop_rounds 1 ?_
  rw [rounds_succ]
  go_wp2
  go_ret
  exact ⟨rfl, rfl⟩

theorem markNIntS (a : Option Addr) (c : Nat) (k : Int) (w : World) :
    Calls Tryz.prog 59 #[.slice a 0 c, .int .i64 k] w fun e w' => e = .returned (.int .i64 k) ∧ w = w' := by
  go_enter Tryz.func59, Tryz.ntmps59
  go_wp2
  refine wp_loop_rounds 1 ?_
  rw [rounds_succ]
  go_wp2
  go_ret
  exact ⟨rfl, rfl⟩

theorem heldNIntS (a : Option Addr) (c : Nat) (k : Int) (w : World) :
    Calls Tryz.prog 87 #[.slice a 0 c, .int .i64 k] w fun e w' => e = .returned (.int .i64 k) ∧ w = w' := by
  go_enter Tryz.func87, Tryz.ntmps87
  go_wp2
  refine wp_loop_rounds 1 ?_
  rw [rounds_succ]
  go_wp2
  go_ret
  exact ⟨rfl, rfl⟩

theorem eqNRecAckS (a a' : Option Addr) (c c' : Nat) (w : World) :
    Calls Tryz.prog 100 #[.slice a 0 c, .slice a' 0 c'] w fun e w' => e = .returned (.bool true) ∧ w = w' := by
  go_enter Tryz.func100, Tryz.ntmps100
  go_wp2
  refine wp_loop_rounds 1 ?_
  rw [rounds_succ]
  go_wp2
  go_ret
  exact ⟨rfl, rfl⟩

theorem markNRecAckS (a : Option Addr) (c : Nat) (k : Int) (w : World) :
    Calls Tryz.prog 86 #[.slice a 0 c, .int .i64 k] w fun e w' => e = .returned (.int .i64 k) ∧ w = w' := by
  go_enter Tryz.func86, Tryz.ntmps86
  go_wp2
  refine wp_loop_rounds 1 ?_
  rw [rounds_succ]
  go_wp2
  go_ret
  exact ⟨rfl, rfl⟩

theorem heldNRecAckS (a : Option Addr) (c : Nat) (k : Int) (w : World) :
    Calls Tryz.prog 90 #[.slice a 0 c, .int .i64 k] w fun e w' => e = .returned (.int .i64 k) ∧ w = w' := by
  go_enter Tryz.func90, Tryz.ntmps90
  go_wp2
  refine wp_loop_rounds 1 ?_
  rw [rounds_succ]
  go_wp2
  go_ret
  exact ⟨rfl, rfl⟩

theorem eqNRecDisk (a a' : Option Addr) (c c' : Nat) (w : World) :
    Calls Tryz.prog 96 #[.agg #[.int .i64 0, .int .i64 0, .slice a 0 c], .agg #[.int .i64 0, .int .i64 0, .slice a' 0 c']] w fun e w' => e = .returned (.bool true) ∧ Below w.heap.size w w' := by
  go_enter Tryz.func96, Tryz.ntmps96
  go_wp2_with (go_at_call 99; refine (eqNRecSlotS _ _ _ _ _).mono ?_; rintro e w' ⟨rfl, rfl⟩)
  go_ret
  exact ⟨rfl, blw_alloc (blw_alloc (Below.refl _ _) _) _⟩

/-- A recorder's cells, all lists empty. -/
def newC (n o : Int) (u : Bool) (A : Nat → Option Addr) (C : Nat → Nat) : List Value := [.int .i64 n, .int .i64 o, .bool u, .int .i64 0, .int .i64 0, .slice (A 0) 0 (C 0), .int .i64 0, .int .i64 0, .slice (A 1) 0 (C 1), .slice (A 2) 0 (C 2), .slice (A 3) 0 (C 3), .bool false, .bool false, .int .i64 0, .slice (A 4) 0 (C 4), .slice (A 5) 0 (C 5), .slice (A 6) 0 (C 6), .int .i64 0]

set_option maxHeartbeats 8000000 in
theorem eqNew (n o : Int) (u : Bool) (A A' : Nat → Option Addr) (C C' : Nat → Nat) (w : World) :
    Calls Tryz.prog 79 #[.agg #[.int .i64 n, .int .i64 o, .bool u, .int .i64 0, .int .i64 0, .slice (A 0) 0 (C 0), .int .i64 0, .int .i64 0, .slice (A 1) 0 (C 1), .slice (A 2) 0 (C 2), .slice (A 3) 0 (C 3), .bool false, .bool false, .int .i64 0, .slice (A 4) 0 (C 4), .slice (A 5) 0 (C 5), .slice (A 6) 0 (C 6), .int .i64 0], .agg #[.int .i64 n, .int .i64 o, .bool u, .int .i64 0, .int .i64 0, .slice (A' 0) 0 (C' 0), .int .i64 0, .int .i64 0, .slice (A' 1) 0 (C' 1), .slice (A' 2) 0 (C' 2), .slice (A' 3) 0 (C' 3), .bool false, .bool false, .int .i64 0, .slice (A' 4) 0 (C' 4), .slice (A' 5) 0 (C' 5), .slice (A' 6) 0 (C' 6), .int .i64 0]] w fun e w' => e = .returned (.bool true) ∧ Below w.heap.size w w' := by
  obtain ⟨wx, hwx⟩ : ∃ wx, wx = w.alloc (.cells #[.int .i64 n, .int .i64 o, .bool u, .int .i64 0, .int .i64 0, .slice (A 0) 0 (C 0), .int .i64 0, .int .i64 0, .slice (A 1) 0 (C 1), .slice (A 2) 0 (C 2), .slice (A 3) 0 (C 3), .bool false, .bool false, .int .i64 0, .slice (A 4) 0 (C 4), .slice (A 5) 0 (C 5), .slice (A 6) 0 (C 6), .int .i64 0] 84) := ⟨_, rfl⟩
  obtain ⟨wa, hwa⟩ : ∃ wa, wa = wx.alloc (.cells #[.int .i64 n, .int .i64 o, .bool u, .int .i64 0, .int .i64 0, .slice (A' 0) 0 (C' 0), .int .i64 0, .int .i64 0, .slice (A' 1) 0 (C' 1), .slice (A' 2) 0 (C' 2), .slice (A' 3) 0 (C' 3), .bool false, .bool false, .int .i64 0, .slice (A' 4) 0 (C' 4), .slice (A' 5) 0 (C' 5), .slice (A' 6) 0 (C' 6), .int .i64 0] 84) := ⟨_, rfl⟩
  have hzx : wx.heap.size = w.heap.size + 1 := by rw [hwx]; exact Array.size_push _
  have HXa : Hid (LBox wa w.heap.size [.int .i64 n, .int .i64 o, .bool u, .int .i64 0, .int .i64 0, .slice (A 0) 0 (C 0), .int .i64 0, .int .i64 0, .slice (A 1) 0 (C 1), .slice (A 2) 0 (C 2), .slice (A 3) 0 (C 3), .bool false, .bool false, .int .i64 0, .slice (A 4) 0 (C 4), .slice (A 5) 0 (C 5), .slice (A 6) 0 (C 6), .int .i64 0]) := by
    show LBox _ _ _
    rw [hwa, hwx]; exact (LBox.new w _ _ _ rfl).past _
  have HYa : Hid (LBox wa (w.heap.size + 1) [.int .i64 n, .int .i64 o, .bool u, .int .i64 0, .int .i64 0, .slice (A' 0) 0 (C' 0), .int .i64 0, .int .i64 0, .slice (A' 1) 0 (C' 1), .slice (A' 2) 0 (C' 2), .slice (A' 3) 0 (C' 3), .bool false, .bool false, .int .i64 0, .slice (A' 4) 0 (C' 4), .slice (A' 5) 0 (C' 5), .slice (A' 6) 0 (C' 6), .int .i64 0]) := by
    show LBox _ _ _
    rw [hwa]; exact LBox.new wx _ _ _ hzx.symm
  have HBa : Hid (Below w.heap.size w wa) := by show Below _ _ _; rw [hwa, hwx]; exact blw_alloc (blw_alloc (Below.refl _ _) _) _
  have hub : (u != u) = false := by cases u <;> rfl
  go_enter Tryz.func79, Tryz.ntmps79
  go_upto_region 1 with fail
  rw [← hwx, ← hwa]
  clear hwa hwx hzx
  have y0 := HXa.out.get 0 (.int .i64 n) rfl
  have y1 := HXa.out.get 1 (.int .i64 o) rfl
  have y2 := HXa.out.get 2 (.bool u) rfl
  have y3 := HXa.out.get 3 (.int .i64 0) rfl
  have y4 := HXa.out.get 4 (.int .i64 0) rfl
  have y5 := HXa.out.get 5 (.slice (A 0) 0 (C 0)) rfl
  have y6 := HXa.out.get 6 (.int .i64 0) rfl
  have y7 := HXa.out.get 7 (.int .i64 0) rfl
  have y8 := HXa.out.get 8 (.slice (A 1) 0 (C 1)) rfl
  have y9 := HXa.out.get 9 (.slice (A 2) 0 (C 2)) rfl
  have y10 := HXa.out.get 10 (.slice (A 3) 0 (C 3)) rfl
  have y11 := HXa.out.get 11 (.bool false) rfl
  have y12 := HXa.out.get 12 (.bool false) rfl
  have y13 := HXa.out.get 13 (.int .i64 0) rfl
  have y14 := HXa.out.get 14 (.slice (A 4) 0 (C 4)) rfl
  have y15 := HXa.out.get 15 (.slice (A 5) 0 (C 5)) rfl
  have y16 := HXa.out.get 16 (.slice (A 6) 0 (C 6)) rfl
  have y17 := HXa.out.get 17 (.int .i64 0) rfl
  have x0 := HYa.out.get 0 (.int .i64 n) rfl
  have x1 := HYa.out.get 1 (.int .i64 o) rfl
  have x2 := HYa.out.get 2 (.bool u) rfl
  have x3 := HYa.out.get 3 (.int .i64 0) rfl
  have x4 := HYa.out.get 4 (.int .i64 0) rfl
  have x5 := HYa.out.get 5 (.slice (A' 0) 0 (C' 0)) rfl
  have x6 := HYa.out.get 6 (.int .i64 0) rfl
  have x7 := HYa.out.get 7 (.int .i64 0) rfl
  have x8 := HYa.out.get 8 (.slice (A' 1) 0 (C' 1)) rfl
  have x9 := HYa.out.get 9 (.slice (A' 2) 0 (C' 2)) rfl
  have x10 := HYa.out.get 10 (.slice (A' 3) 0 (C' 3)) rfl
  have x11 := HYa.out.get 11 (.bool false) rfl
  have x12 := HYa.out.get 12 (.bool false) rfl
  have x13 := HYa.out.get 13 (.int .i64 0) rfl
  have x14 := HYa.out.get 14 (.slice (A' 4) 0 (C' 4)) rfl
  have x15 := HYa.out.get 15 (.slice (A' 5) 0 (C' 5)) rfl
  have x16 := HYa.out.get 16 (.slice (A' 6) 0 (C' 6)) rfl
  have x17 := HYa.out.get 17 (.int .i64 0) rfl
  have yz := HXa.out.lt
  have xz := HYa.out.lt
  go_wp2_with fail
  refine (eqNRecDisk _ _ _ _ wa).mono ?_
  rintro e wb ⟨rfl, hb⟩
  have HXb := hid (HXa.out.later hb)
  have HYb := hid (HYa.out.later hb)
  have HBb := hid (blw_trans HBa.out hb)
  clear hb yz xz y0 x0 y1 x1 y2 x2 y3 x3 y4 x4 y5 x5 y6 x6 y7 x7 y8 x8 y9 x9 y10 x10 y11 x11 y12 x12 y13 x13 y14 x14 y15 x15 y16 x16 y17 x17 HXa HYa HBa
  have y0 := HXb.out.get 0 (.int .i64 n) rfl
  have y1 := HXb.out.get 1 (.int .i64 o) rfl
  have y2 := HXb.out.get 2 (.bool u) rfl
  have y3 := HXb.out.get 3 (.int .i64 0) rfl
  have y4 := HXb.out.get 4 (.int .i64 0) rfl
  have y5 := HXb.out.get 5 (.slice (A 0) 0 (C 0)) rfl
  have y6 := HXb.out.get 6 (.int .i64 0) rfl
  have y7 := HXb.out.get 7 (.int .i64 0) rfl
  have y8 := HXb.out.get 8 (.slice (A 1) 0 (C 1)) rfl
  have y9 := HXb.out.get 9 (.slice (A 2) 0 (C 2)) rfl
  have y10 := HXb.out.get 10 (.slice (A 3) 0 (C 3)) rfl
  have y11 := HXb.out.get 11 (.bool false) rfl
  have y12 := HXb.out.get 12 (.bool false) rfl
  have y13 := HXb.out.get 13 (.int .i64 0) rfl
  have y14 := HXb.out.get 14 (.slice (A 4) 0 (C 4)) rfl
  have y15 := HXb.out.get 15 (.slice (A 5) 0 (C 5)) rfl
  have y16 := HXb.out.get 16 (.slice (A 6) 0 (C 6)) rfl
  have y17 := HXb.out.get 17 (.int .i64 0) rfl
  have x0 := HYb.out.get 0 (.int .i64 n) rfl
  have x1 := HYb.out.get 1 (.int .i64 o) rfl
  have x2 := HYb.out.get 2 (.bool u) rfl
  have x3 := HYb.out.get 3 (.int .i64 0) rfl
  have x4 := HYb.out.get 4 (.int .i64 0) rfl
  have x5 := HYb.out.get 5 (.slice (A' 0) 0 (C' 0)) rfl
  have x6 := HYb.out.get 6 (.int .i64 0) rfl
  have x7 := HYb.out.get 7 (.int .i64 0) rfl
  have x8 := HYb.out.get 8 (.slice (A' 1) 0 (C' 1)) rfl
  have x9 := HYb.out.get 9 (.slice (A' 2) 0 (C' 2)) rfl
  have x10 := HYb.out.get 10 (.slice (A' 3) 0 (C' 3)) rfl
  have x11 := HYb.out.get 11 (.bool false) rfl
  have x12 := HYb.out.get 12 (.bool false) rfl
  have x13 := HYb.out.get 13 (.int .i64 0) rfl
  have x14 := HYb.out.get 14 (.slice (A' 4) 0 (C' 4)) rfl
  have x15 := HYb.out.get 15 (.slice (A' 5) 0 (C' 5)) rfl
  have x16 := HYb.out.get 16 (.slice (A' 6) 0 (C' 6)) rfl
  have x17 := HYb.out.get 17 (.int .i64 0) rfl
  have yz := HXb.out.lt
  have xz := HYb.out.lt
  go_wp2_with fail
  refine (eqNRecDisk _ _ _ _ wb).mono ?_
  rintro e wc ⟨rfl, hb⟩
  have HXc := hid (HXb.out.later hb)
  have HYc := hid (HYb.out.later hb)
  have HBc := hid (blw_trans HBb.out hb)
  clear hb yz xz y0 x0 y1 x1 y2 x2 y3 x3 y4 x4 y5 x5 y6 x6 y7 x7 y8 x8 y9 x9 y10 x10 y11 x11 y12 x12 y13 x13 y14 x14 y15 x15 y16 x16 y17 x17 HXb HYb HBb
  have y0 := HXc.out.get 0 (.int .i64 n) rfl
  have y1 := HXc.out.get 1 (.int .i64 o) rfl
  have y2 := HXc.out.get 2 (.bool u) rfl
  have y3 := HXc.out.get 3 (.int .i64 0) rfl
  have y4 := HXc.out.get 4 (.int .i64 0) rfl
  have y5 := HXc.out.get 5 (.slice (A 0) 0 (C 0)) rfl
  have y6 := HXc.out.get 6 (.int .i64 0) rfl
  have y7 := HXc.out.get 7 (.int .i64 0) rfl
  have y8 := HXc.out.get 8 (.slice (A 1) 0 (C 1)) rfl
  have y9 := HXc.out.get 9 (.slice (A 2) 0 (C 2)) rfl
  have y10 := HXc.out.get 10 (.slice (A 3) 0 (C 3)) rfl
  have y11 := HXc.out.get 11 (.bool false) rfl
  have y12 := HXc.out.get 12 (.bool false) rfl
  have y13 := HXc.out.get 13 (.int .i64 0) rfl
  have y14 := HXc.out.get 14 (.slice (A 4) 0 (C 4)) rfl
  have y15 := HXc.out.get 15 (.slice (A 5) 0 (C 5)) rfl
  have y16 := HXc.out.get 16 (.slice (A 6) 0 (C 6)) rfl
  have y17 := HXc.out.get 17 (.int .i64 0) rfl
  have x0 := HYc.out.get 0 (.int .i64 n) rfl
  have x1 := HYc.out.get 1 (.int .i64 o) rfl
  have x2 := HYc.out.get 2 (.bool u) rfl
  have x3 := HYc.out.get 3 (.int .i64 0) rfl
  have x4 := HYc.out.get 4 (.int .i64 0) rfl
  have x5 := HYc.out.get 5 (.slice (A' 0) 0 (C' 0)) rfl
  have x6 := HYc.out.get 6 (.int .i64 0) rfl
  have x7 := HYc.out.get 7 (.int .i64 0) rfl
  have x8 := HYc.out.get 8 (.slice (A' 1) 0 (C' 1)) rfl
  have x9 := HYc.out.get 9 (.slice (A' 2) 0 (C' 2)) rfl
  have x10 := HYc.out.get 10 (.slice (A' 3) 0 (C' 3)) rfl
  have x11 := HYc.out.get 11 (.bool false) rfl
  have x12 := HYc.out.get 12 (.bool false) rfl
  have x13 := HYc.out.get 13 (.int .i64 0) rfl
  have x14 := HYc.out.get 14 (.slice (A' 4) 0 (C' 4)) rfl
  have x15 := HYc.out.get 15 (.slice (A' 5) 0 (C' 5)) rfl
  have x16 := HYc.out.get 16 (.slice (A' 6) 0 (C' 6)) rfl
  have x17 := HYc.out.get 17 (.int .i64 0) rfl
  have yz := HXc.out.lt
  have xz := HYc.out.lt
  go_wp2_with fail
  refine (eqNRecMessageS _ _ _ _ wc).mono ?_
  rintro e wd ⟨rfl, hb⟩
  subst hb
  have HXd := HXc
  have HYd := HYc
  have HBd := HBc
  clear yz xz y0 x0 y1 x1 y2 x2 y3 x3 y4 x4 y5 x5 y6 x6 y7 x7 y8 x8 y9 x9 y10 x10 y11 x11 y12 x12 y13 x13 y14 x14 y15 x15 y16 x16 y17 x17 HXc HYc HBc
  have y0 := HXd.out.get 0 (.int .i64 n) rfl
  have y1 := HXd.out.get 1 (.int .i64 o) rfl
  have y2 := HXd.out.get 2 (.bool u) rfl
  have y3 := HXd.out.get 3 (.int .i64 0) rfl
  have y4 := HXd.out.get 4 (.int .i64 0) rfl
  have y5 := HXd.out.get 5 (.slice (A 0) 0 (C 0)) rfl
  have y6 := HXd.out.get 6 (.int .i64 0) rfl
  have y7 := HXd.out.get 7 (.int .i64 0) rfl
  have y8 := HXd.out.get 8 (.slice (A 1) 0 (C 1)) rfl
  have y9 := HXd.out.get 9 (.slice (A 2) 0 (C 2)) rfl
  have y10 := HXd.out.get 10 (.slice (A 3) 0 (C 3)) rfl
  have y11 := HXd.out.get 11 (.bool false) rfl
  have y12 := HXd.out.get 12 (.bool false) rfl
  have y13 := HXd.out.get 13 (.int .i64 0) rfl
  have y14 := HXd.out.get 14 (.slice (A 4) 0 (C 4)) rfl
  have y15 := HXd.out.get 15 (.slice (A 5) 0 (C 5)) rfl
  have y16 := HXd.out.get 16 (.slice (A 6) 0 (C 6)) rfl
  have y17 := HXd.out.get 17 (.int .i64 0) rfl
  have x0 := HYd.out.get 0 (.int .i64 n) rfl
  have x1 := HYd.out.get 1 (.int .i64 o) rfl
  have x2 := HYd.out.get 2 (.bool u) rfl
  have x3 := HYd.out.get 3 (.int .i64 0) rfl
  have x4 := HYd.out.get 4 (.int .i64 0) rfl
  have x5 := HYd.out.get 5 (.slice (A' 0) 0 (C' 0)) rfl
  have x6 := HYd.out.get 6 (.int .i64 0) rfl
  have x7 := HYd.out.get 7 (.int .i64 0) rfl
  have x8 := HYd.out.get 8 (.slice (A' 1) 0 (C' 1)) rfl
  have x9 := HYd.out.get 9 (.slice (A' 2) 0 (C' 2)) rfl
  have x10 := HYd.out.get 10 (.slice (A' 3) 0 (C' 3)) rfl
  have x11 := HYd.out.get 11 (.bool false) rfl
  have x12 := HYd.out.get 12 (.bool false) rfl
  have x13 := HYd.out.get 13 (.int .i64 0) rfl
  have x14 := HYd.out.get 14 (.slice (A' 4) 0 (C' 4)) rfl
  have x15 := HYd.out.get 15 (.slice (A' 5) 0 (C' 5)) rfl
  have x16 := HYd.out.get 16 (.slice (A' 6) 0 (C' 6)) rfl
  have x17 := HYd.out.get 17 (.int .i64 0) rfl
  have yz := HXd.out.lt
  have xz := HYd.out.lt
  go_wp2_with fail
  refine (eqNStringS _ _ _ _ wc).mono ?_
  rintro e we ⟨rfl, hb⟩
  subst hb
  have HXe := HXd
  have HYe := HYd
  have HBe := HBd
  clear yz xz y0 x0 y1 x1 y2 x2 y3 x3 y4 x4 y5 x5 y6 x6 y7 x7 y8 x8 y9 x9 y10 x10 y11 x11 y12 x12 y13 x13 y14 x14 y15 x15 y16 x16 y17 x17 HXd HYd HBd
  have y0 := HXe.out.get 0 (.int .i64 n) rfl
  have y1 := HXe.out.get 1 (.int .i64 o) rfl
  have y2 := HXe.out.get 2 (.bool u) rfl
  have y3 := HXe.out.get 3 (.int .i64 0) rfl
  have y4 := HXe.out.get 4 (.int .i64 0) rfl
  have y5 := HXe.out.get 5 (.slice (A 0) 0 (C 0)) rfl
  have y6 := HXe.out.get 6 (.int .i64 0) rfl
  have y7 := HXe.out.get 7 (.int .i64 0) rfl
  have y8 := HXe.out.get 8 (.slice (A 1) 0 (C 1)) rfl
  have y9 := HXe.out.get 9 (.slice (A 2) 0 (C 2)) rfl
  have y10 := HXe.out.get 10 (.slice (A 3) 0 (C 3)) rfl
  have y11 := HXe.out.get 11 (.bool false) rfl
  have y12 := HXe.out.get 12 (.bool false) rfl
  have y13 := HXe.out.get 13 (.int .i64 0) rfl
  have y14 := HXe.out.get 14 (.slice (A 4) 0 (C 4)) rfl
  have y15 := HXe.out.get 15 (.slice (A 5) 0 (C 5)) rfl
  have y16 := HXe.out.get 16 (.slice (A 6) 0 (C 6)) rfl
  have y17 := HXe.out.get 17 (.int .i64 0) rfl
  have x0 := HYe.out.get 0 (.int .i64 n) rfl
  have x1 := HYe.out.get 1 (.int .i64 o) rfl
  have x2 := HYe.out.get 2 (.bool u) rfl
  have x3 := HYe.out.get 3 (.int .i64 0) rfl
  have x4 := HYe.out.get 4 (.int .i64 0) rfl
  have x5 := HYe.out.get 5 (.slice (A' 0) 0 (C' 0)) rfl
  have x6 := HYe.out.get 6 (.int .i64 0) rfl
  have x7 := HYe.out.get 7 (.int .i64 0) rfl
  have x8 := HYe.out.get 8 (.slice (A' 1) 0 (C' 1)) rfl
  have x9 := HYe.out.get 9 (.slice (A' 2) 0 (C' 2)) rfl
  have x10 := HYe.out.get 10 (.slice (A' 3) 0 (C' 3)) rfl
  have x11 := HYe.out.get 11 (.bool false) rfl
  have x12 := HYe.out.get 12 (.bool false) rfl
  have x13 := HYe.out.get 13 (.int .i64 0) rfl
  have x14 := HYe.out.get 14 (.slice (A' 4) 0 (C' 4)) rfl
  have x15 := HYe.out.get 15 (.slice (A' 5) 0 (C' 5)) rfl
  have x16 := HYe.out.get 16 (.slice (A' 6) 0 (C' 6)) rfl
  have x17 := HYe.out.get 17 (.int .i64 0) rfl
  have yz := HXe.out.lt
  have xz := HYe.out.lt
  go_wp2_with fail
  refine (eqNIntS _ _ _ _ wc).mono ?_
  rintro e wf ⟨rfl, hb⟩
  subst hb
  have HXf := HXe
  have HYf := HYe
  have HBf := HBe
  clear yz xz y0 x0 y1 x1 y2 x2 y3 x3 y4 x4 y5 x5 y6 x6 y7 x7 y8 x8 y9 x9 y10 x10 y11 x11 y12 x12 y13 x13 y14 x14 y15 x15 y16 x16 y17 x17 HXe HYe HBe
  have y0 := HXf.out.get 0 (.int .i64 n) rfl
  have y1 := HXf.out.get 1 (.int .i64 o) rfl
  have y2 := HXf.out.get 2 (.bool u) rfl
  have y3 := HXf.out.get 3 (.int .i64 0) rfl
  have y4 := HXf.out.get 4 (.int .i64 0) rfl
  have y5 := HXf.out.get 5 (.slice (A 0) 0 (C 0)) rfl
  have y6 := HXf.out.get 6 (.int .i64 0) rfl
  have y7 := HXf.out.get 7 (.int .i64 0) rfl
  have y8 := HXf.out.get 8 (.slice (A 1) 0 (C 1)) rfl
  have y9 := HXf.out.get 9 (.slice (A 2) 0 (C 2)) rfl
  have y10 := HXf.out.get 10 (.slice (A 3) 0 (C 3)) rfl
  have y11 := HXf.out.get 11 (.bool false) rfl
  have y12 := HXf.out.get 12 (.bool false) rfl
  have y13 := HXf.out.get 13 (.int .i64 0) rfl
  have y14 := HXf.out.get 14 (.slice (A 4) 0 (C 4)) rfl
  have y15 := HXf.out.get 15 (.slice (A 5) 0 (C 5)) rfl
  have y16 := HXf.out.get 16 (.slice (A 6) 0 (C 6)) rfl
  have y17 := HXf.out.get 17 (.int .i64 0) rfl
  have x0 := HYf.out.get 0 (.int .i64 n) rfl
  have x1 := HYf.out.get 1 (.int .i64 o) rfl
  have x2 := HYf.out.get 2 (.bool u) rfl
  have x3 := HYf.out.get 3 (.int .i64 0) rfl
  have x4 := HYf.out.get 4 (.int .i64 0) rfl
  have x5 := HYf.out.get 5 (.slice (A' 0) 0 (C' 0)) rfl
  have x6 := HYf.out.get 6 (.int .i64 0) rfl
  have x7 := HYf.out.get 7 (.int .i64 0) rfl
  have x8 := HYf.out.get 8 (.slice (A' 1) 0 (C' 1)) rfl
  have x9 := HYf.out.get 9 (.slice (A' 2) 0 (C' 2)) rfl
  have x10 := HYf.out.get 10 (.slice (A' 3) 0 (C' 3)) rfl
  have x11 := HYf.out.get 11 (.bool false) rfl
  have x12 := HYf.out.get 12 (.bool false) rfl
  have x13 := HYf.out.get 13 (.int .i64 0) rfl
  have x14 := HYf.out.get 14 (.slice (A' 4) 0 (C' 4)) rfl
  have x15 := HYf.out.get 15 (.slice (A' 5) 0 (C' 5)) rfl
  have x16 := HYf.out.get 16 (.slice (A' 6) 0 (C' 6)) rfl
  have x17 := HYf.out.get 17 (.int .i64 0) rfl
  have yz := HXf.out.lt
  have xz := HYf.out.lt
  go_wp2_with fail
  refine (eqNRecSlotS _ _ _ _ wc).mono ?_
  rintro e wg ⟨rfl, hb⟩
  subst hb
  have HXg := HXf
  have HYg := HYf
  have HBg := HBf
  clear yz xz y0 x0 y1 x1 y2 x2 y3 x3 y4 x4 y5 x5 y6 x6 y7 x7 y8 x8 y9 x9 y10 x10 y11 x11 y12 x12 y13 x13 y14 x14 y15 x15 y16 x16 y17 x17 HXf HYf HBf
  have y0 := HXg.out.get 0 (.int .i64 n) rfl
  have y1 := HXg.out.get 1 (.int .i64 o) rfl
  have y2 := HXg.out.get 2 (.bool u) rfl
  have y3 := HXg.out.get 3 (.int .i64 0) rfl
  have y4 := HXg.out.get 4 (.int .i64 0) rfl
  have y5 := HXg.out.get 5 (.slice (A 0) 0 (C 0)) rfl
  have y6 := HXg.out.get 6 (.int .i64 0) rfl
  have y7 := HXg.out.get 7 (.int .i64 0) rfl
  have y8 := HXg.out.get 8 (.slice (A 1) 0 (C 1)) rfl
  have y9 := HXg.out.get 9 (.slice (A 2) 0 (C 2)) rfl
  have y10 := HXg.out.get 10 (.slice (A 3) 0 (C 3)) rfl
  have y11 := HXg.out.get 11 (.bool false) rfl
  have y12 := HXg.out.get 12 (.bool false) rfl
  have y13 := HXg.out.get 13 (.int .i64 0) rfl
  have y14 := HXg.out.get 14 (.slice (A 4) 0 (C 4)) rfl
  have y15 := HXg.out.get 15 (.slice (A 5) 0 (C 5)) rfl
  have y16 := HXg.out.get 16 (.slice (A 6) 0 (C 6)) rfl
  have y17 := HXg.out.get 17 (.int .i64 0) rfl
  have x0 := HYg.out.get 0 (.int .i64 n) rfl
  have x1 := HYg.out.get 1 (.int .i64 o) rfl
  have x2 := HYg.out.get 2 (.bool u) rfl
  have x3 := HYg.out.get 3 (.int .i64 0) rfl
  have x4 := HYg.out.get 4 (.int .i64 0) rfl
  have x5 := HYg.out.get 5 (.slice (A' 0) 0 (C' 0)) rfl
  have x6 := HYg.out.get 6 (.int .i64 0) rfl
  have x7 := HYg.out.get 7 (.int .i64 0) rfl
  have x8 := HYg.out.get 8 (.slice (A' 1) 0 (C' 1)) rfl
  have x9 := HYg.out.get 9 (.slice (A' 2) 0 (C' 2)) rfl
  have x10 := HYg.out.get 10 (.slice (A' 3) 0 (C' 3)) rfl
  have x11 := HYg.out.get 11 (.bool false) rfl
  have x12 := HYg.out.get 12 (.bool false) rfl
  have x13 := HYg.out.get 13 (.int .i64 0) rfl
  have x14 := HYg.out.get 14 (.slice (A' 4) 0 (C' 4)) rfl
  have x15 := HYg.out.get 15 (.slice (A' 5) 0 (C' 5)) rfl
  have x16 := HYg.out.get 16 (.slice (A' 6) 0 (C' 6)) rfl
  have x17 := HYg.out.get 17 (.int .i64 0) rfl
  have yz := HXg.out.lt
  have xz := HYg.out.lt
  go_wp2_with fail
  refine (eqNRecAckS _ _ _ _ wc).mono ?_
  rintro e wh ⟨rfl, hb⟩
  subst hb
  have HXh := HXg
  have HYh := HYg
  have HBh := HBg
  clear yz xz y0 x0 y1 x1 y2 x2 y3 x3 y4 x4 y5 x5 y6 x6 y7 x7 y8 x8 y9 x9 y10 x10 y11 x11 y12 x12 y13 x13 y14 x14 y15 x15 y16 x16 y17 x17 HXg HYg HBg
  have y0 := HXh.out.get 0 (.int .i64 n) rfl
  have y1 := HXh.out.get 1 (.int .i64 o) rfl
  have y2 := HXh.out.get 2 (.bool u) rfl
  have y3 := HXh.out.get 3 (.int .i64 0) rfl
  have y4 := HXh.out.get 4 (.int .i64 0) rfl
  have y5 := HXh.out.get 5 (.slice (A 0) 0 (C 0)) rfl
  have y6 := HXh.out.get 6 (.int .i64 0) rfl
  have y7 := HXh.out.get 7 (.int .i64 0) rfl
  have y8 := HXh.out.get 8 (.slice (A 1) 0 (C 1)) rfl
  have y9 := HXh.out.get 9 (.slice (A 2) 0 (C 2)) rfl
  have y10 := HXh.out.get 10 (.slice (A 3) 0 (C 3)) rfl
  have y11 := HXh.out.get 11 (.bool false) rfl
  have y12 := HXh.out.get 12 (.bool false) rfl
  have y13 := HXh.out.get 13 (.int .i64 0) rfl
  have y14 := HXh.out.get 14 (.slice (A 4) 0 (C 4)) rfl
  have y15 := HXh.out.get 15 (.slice (A 5) 0 (C 5)) rfl
  have y16 := HXh.out.get 16 (.slice (A 6) 0 (C 6)) rfl
  have y17 := HXh.out.get 17 (.int .i64 0) rfl
  have x0 := HYh.out.get 0 (.int .i64 n) rfl
  have x1 := HYh.out.get 1 (.int .i64 o) rfl
  have x2 := HYh.out.get 2 (.bool u) rfl
  have x3 := HYh.out.get 3 (.int .i64 0) rfl
  have x4 := HYh.out.get 4 (.int .i64 0) rfl
  have x5 := HYh.out.get 5 (.slice (A' 0) 0 (C' 0)) rfl
  have x6 := HYh.out.get 6 (.int .i64 0) rfl
  have x7 := HYh.out.get 7 (.int .i64 0) rfl
  have x8 := HYh.out.get 8 (.slice (A' 1) 0 (C' 1)) rfl
  have x9 := HYh.out.get 9 (.slice (A' 2) 0 (C' 2)) rfl
  have x10 := HYh.out.get 10 (.slice (A' 3) 0 (C' 3)) rfl
  have x11 := HYh.out.get 11 (.bool false) rfl
  have x12 := HYh.out.get 12 (.bool false) rfl
  have x13 := HYh.out.get 13 (.int .i64 0) rfl
  have x14 := HYh.out.get 14 (.slice (A' 4) 0 (C' 4)) rfl
  have x15 := HYh.out.get 15 (.slice (A' 5) 0 (C' 5)) rfl
  have x16 := HYh.out.get 16 (.slice (A' 6) 0 (C' 6)) rfl
  have x17 := HYh.out.get 17 (.int .i64 0) rfl
  have yz := HXh.out.lt
  have xz := HYh.out.lt
  go_wp2
  go_ret
  exact ⟨rfl, HBh.out⟩

end Go.Proofs.YtfkkohfjkofgnaaGreat
