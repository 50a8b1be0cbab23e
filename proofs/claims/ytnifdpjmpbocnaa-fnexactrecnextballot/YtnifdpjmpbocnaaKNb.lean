/-
  The next ballot: what it is, by both sides.
-/
import Derived.Test.YtnifdpjmpbocnaaIsR
import Derived.Test.YtnifdpjmpbocnaaRcA
namespace Go.Proofs.Ytnifdpjmpbocnaa
open Go.RowKit Go.Deep

theorem uh9 {p : Prop} (h : p) : Hid p := h
def nextB (a n o : Int) : Int :=
  if newOk n o && inB a 0 1000000 then
    (if (if Int.tdiv a o * o + n ≤ a then Int.tdiv a o * o + n + o else Int.tdiv a o * o + n) > 1000000 then 0
     else (if Int.tdiv a o * o + n ≤ a then Int.tdiv a o * o + n + o else Int.tdiv a o * o + n))
  else 0
theorem quo_facts {a o : Int} (h1 : 1 ≤ o) (h2 : o ≤ 5) (ha : 0 ≤ a) : 0 ≤ Int.tdiv a o ∧ 0 ≤ Int.tdiv a o * o ∧ Int.tdiv a o * o ≤ a ∧ a < Int.tdiv a o * o + o ∧ Int.tdiv a o ≤ a := by
  rw [Int.tdiv_eq_ediv_of_nonneg ha]
  obtain rfl | rfl | rfl | rfl | rfl : o = 1 ∨ o = 2 ∨ o = 3 ∨ o = 4 ∨ o = 5 := by omega
  all_goals omega
/-- Among of numbers in a row one has the rest that is asked. -/
theorem next_unique {a n o x : Int} (h1 : 1 ≤ o) (h2 : o ≤ 5) (hn : 1 ≤ n) (hn2 : n ≤ o) (ha : 0 ≤ a) (hx : a < x) (hx2 : x ≤ a + o) :
    x % o = n % o ↔ x = (if Int.tdiv a o * o + n ≤ a then Int.tdiv a o * o + n + o else Int.tdiv a o * o + n) := by
  rw [Int.tdiv_eq_ediv_of_nonneg ha]
  obtain rfl | rfl | rfl | rfl | rfl : o = 1 ∨ o = 2 ∨ o = 3 ∨ o = 4 ∨ o = 5 := by omega
  all_goals (split <;> omega)

set_option maxHeartbeats 4000000 in
theorem nextBallotS (a n o : Int) (w : World) :
    Calls Try.prog 5 #[.int .i64 a, .int .i64 n, .int .i64 o] w fun e w' => e = .returned (.int .i64 (nextB a n o)) ∧ w = w' := by
  obtain ⟨R, hR⟩ : ∃ R, R = nextB a n o := ⟨_, rfl⟩
  have HR : Hid (R = nextB a n o) := hR
  rw [← hR]
  clear hR
  cases h0 : inB o 1 5
  · have HE : Hid (R = 0) := by show R = _; rw [HR.out]; unfold nextB newOk; rw [h0]; rfl
    clear HR
    go_enter Try.func5, Try.ntmps5
    go_wp2_with (go_at_call 14; refine (l21InS _ _ _ _).mono ?_; rintro e w' ⟨rfl, rfl⟩)
    go_ret
    exact ⟨Pl.ret_int HE.out.symm, rfl⟩
  cases h1 : inB n 1 o
  · have HE : Hid (R = 0) := by show R = _; rw [HR.out]; unfold nextB newOk; rw [h1]; simp
    clear HR
    go_enter Try.func5, Try.ntmps5
    go_wp2_with (go_at_call 14; refine (l21InS _ _ _ _).mono ?_; rintro e w' ⟨rfl, rfl⟩)
    go_ret
    exact ⟨Pl.ret_int HE.out.symm, rfl⟩
  cases h2 : inB a 0 1000000
  · have HE : Hid (R = 0) := by show R = _; rw [HR.out]; unfold nextB newOk; rw [h2]; simp
    clear HR
    go_enter Try.func5, Try.ntmps5
    go_wp2_with (go_at_call 14; refine (l21InS _ _ _ _).mono ?_; rintro e w' ⟨rfl, rfl⟩)
    go_ret
    exact ⟨Pl.ret_int HE.out.symm, rfl⟩
  have b0 := h0
  have b1 := h1
  have b2 := h2
  simp only [inB, Bool.and_eq_true, decide_eq_true_eq] at b0 b1 b2
  obtain ⟨q0, q1, q2, q3, q4⟩ := quo_facts b0.1 b0.2 b2.1
  obtain ⟨d, hd⟩ : ∃ d, d = Int.tdiv a o := ⟨_, rfl⟩
  have HD : Hid (R = if (if d * o + n ≤ a then d * o + n + o else d * o + n) > 1000000 then 0 else (if d * o + n ≤ a then d * o + n + o else d * o + n)) := by
    show R = _; rw [HR.out, hd]; unfold nextB newOk; rw [h0, h1, h2]; rfl
  clear HR
  have hq : a.tdiv o = d := hd.symm
  rw [← hd] at q0 q1 q2 q3 q4
  clear hd
  obtain ⟨m, hm⟩ : ∃ m, d * o = m := ⟨_, rfl⟩
  rw [hm] at q1 q2 q3 HD
  have hz : ¬ o = 0 := by omega
  have hz' : (o == 0) = false := by simpa using hz
  obtain ⟨b01, b02⟩ := b0
  obtain ⟨b11, b12⟩ := b1
  obtain ⟨b21, b22⟩ := b2
  by_cases c1 : m + n ≤ a
  · by_cases c2 : m + n + o > 1000000
    · have HE : Hid (R = 0) := by show R = _; rw [HD.out, if_pos c1, if_pos c2]
      clear HD
      go_enter Try.func5, Try.ntmps5
      go_wp2_with (go_at_call 14; refine (l21InS _ _ _ _).mono ?_; rintro e w' ⟨rfl, rfl⟩)
      go_ret
      exact ⟨Pl.ret_int HE.out.symm, rfl⟩
    · have HE : Hid (R = m + n + o) := by show R = _; rw [HD.out, if_pos c1, if_neg c2]
      clear HD
      go_enter Try.func5, Try.ntmps5
      go_wp2_with (go_at_call 14; refine (l21InS _ _ _ _).mono ?_; rintro e w' ⟨rfl, rfl⟩)
      go_ret
      exact ⟨Pl.ret_int HE.out.symm, rfl⟩
  · by_cases c2 : m + n > 1000000
    · have HE : Hid (R = 0) := by show R = _; rw [HD.out, if_neg c1, if_pos c2]
      clear HD
      go_enter Try.func5, Try.ntmps5
      go_wp2_with (go_at_call 14; refine (l21InS _ _ _ _).mono ?_; rintro e w' ⟨rfl, rfl⟩)
      go_ret
      exact ⟨Pl.ret_int HE.out.symm, rfl⟩
    · have HE : Hid (R = m + n) := by show R = _; rw [HD.out, if_neg c1, if_neg c2]
      clear HD
      go_enter Try.func5, Try.ntmps5
      go_wp2_with (go_at_call 14; refine (l21InS _ _ _ _).mono ?_; rintro e w' ⟨rfl, rfl⟩)
      go_ret
      exact ⟨Pl.ret_int HE.out.symm, rfl⟩

set_option maxHeartbeats 4000000 in
theorem nextBallotI (a n o : Int) (w : World) :
    Calls Try.prog 6 #[.int .i64 a, .int .i64 n, .int .i64 o] w fun e w' => e = .returned (.int .i64 (nextB a n o)) ∧ Below w.heap.size w w' := by
  obtain ⟨R, hR⟩ : ∃ R, R = nextB a n o := ⟨_, rfl⟩
  have HR : Hid (R = nextB a n o) := hR
  rw [← hR]
  clear hR
  cases h2 : inB a 0 1000000
  · have HE : Hid (R = 0) := by show R = _; rw [HR.out]; unfold nextB newOk; rw [h2]; simp
    clear HR
    go_enter Try.func6, Try.ntmps6
    go_wp2_with (go_at_call 15; refine (withinI _ _ _ _).mono ?_; rintro e w' ⟨rfl, rfl⟩)
    go_ret
    exact ⟨Pl.ret_int HE.out.symm, Below.refl _ _⟩
  cases h0 : newOk n o
  · have HE : Hid (R = 0) := by show R = _; rw [HR.out]; unfold nextB; rw [h0]; rfl
    clear HR
    go_enter Try.func6, Try.ntmps6
    go_wp2_with (first | (go_at_call 15; refine (withinI _ _ _ _).mono ?_; rintro e w' ⟨rfl, rfl⟩) | (go_at_call 16; refine (isRecI _ _ _).mono ?_; rintro e w' ⟨rfl, rfl⟩))
    go_ret
    exact ⟨Pl.ret_int HE.out.symm, Below.refl _ _⟩
  have b0 := h0
  have b2 := h2
  simp only [newOk, inB, Bool.and_eq_true, decide_eq_true_eq] at b0 b2
  obtain ⟨⟨b01, b02⟩, b11, b12⟩ := b0
  obtain ⟨b21, b22⟩ := b2
  obtain ⟨q0, q1, q2, q3, q4⟩ := quo_facts b01 b02 b21
  obtain ⟨d, hd⟩ : ∃ d, d = (if Int.tdiv a o * o + n ≤ a then Int.tdiv a o * o + n + o else Int.tdiv a o * o + n) := ⟨_, rfl⟩
  have HD : Hid (R = if d > 1000000 then 0 else d) := by
    show R = _; rw [HR.out, hd]; unfold nextB; rw [h0, h2]; rfl
  have HU : Hid (∀ x, a < x → x ≤ a + o → (x % o = n % o ↔ x = d)) := fun x hx hx2 => by rw [hd]; exact next_unique b01 b02 b11 b12 b21 hx hx2
  have hd1 : a < d ∧ d ≤ a + o := by rw [hd]; split <;> omega
  clear HR hd q0 q1 q2 q3 q4
  obtain ⟨hd1, hd2⟩ := hd1
  have HDD := uh9 (And.intro hd1 hd2)
  clear hd1 hd2
  have hz : ¬ o = 0 := by omega
  have hz' : (o == 0) = false := by simpa using hz
  go_enter Try.func6, Try.ntmps6
  go_wp2_with (first | (go_at_call 15; refine (withinI _ _ _ _).mono ?_; rintro e w' ⟨rfl, rfl⟩) | (go_at_call 16; refine (isRecI _ _ _).mono ?_; rintro e w' ⟨rfl, rfl⟩))
  go_loopw [7] (fun v wr => ∃ b : Int, v = .int .i64 b ∧ a < b ∧ b ≤ a + o + 1 ∧ b ≤ d ∧ Below w.heap.size w wr) (fun v _ => (a + o + 1 - intOf v).toNat)
  case atStart => exact ⟨a + 1, by go_num, by omega, by omega, by have := HDD.out; omega, Below.refl _ _⟩
  case round =>
    obtain ⟨b, rfl, hb1, hb2, hb3, hbel⟩ := hrel
    have HB := uh9 hbel
    clear hbel
    obtain ⟨m, hm⟩ : ∃ m : Int, (if (1000000 : Int) < a + o then 1000000 else a + o) = m := ⟨_, rfl⟩
    have HM : Hid (m ≤ a + o ∧ m ≤ 1000000 ∧ (m = a + o ∨ m = 1000000)) := by
      show _ ∧ _; rw [← hm]; split <;> omega
    by_cases c1 : b ≤ m
    · have hu := HU.out b hb1 (by have := HM.out; omega)
      cases c4 : (b % o == n % o)
      · have HN : Hid (b + 1 ≤ d) := by
          show _ ≤ _
          have : ¬ b = d := fun e => by rw [hu.2 e] at c4; simp at c4
          omega
        have HO : Hid (b + 1 ≤ a + o + 1) := by show _ ≤ _; have := HM.out; omega
        clear hu
        go_upto_region 6 with fail
        go_quiet (fail)
        go_wp2
        go_roundw
        case rel => exact ⟨b + 1, by go_num, by omega, HO.out, HN.out, by first | exact HB.out | exact Below.drew HB.out | exact blw_drewN HB.out _⟩
        case measure => simp [intOf]; have := HO.out; omega
      · have HE : Hid (R = b) := by
          show _ = _
          have : b = d := hu.1 (by simpa using c4)
          rw [HD.out, ← this, if_neg (by have := HM.out; omega)]
        clear hu
        go_upto_region 6 with fail
        go_quiet (fail)
        go_wp2
        go_ret
        exact ⟨Pl.ret_int HE.out.symm, by first | exact HB.out | exact Below.drew HB.out | exact blw_drewN HB.out _⟩
    · have HE : Hid (R = 0) := by
        show _ = _
        rw [HD.out, if_pos (by have := HDD.out; have := HM.out; omega)]
      go_wp2
      go_ret
      exact ⟨Pl.ret_int HE.out.symm, HB.out⟩

set_option maxHeartbeats 1000000 in
theorem lawNextBallot (a n o : Int) (w : World) :
    Calls Try.prog 3 #[.int .i64 a, .int .i64 n, .int .i64 o] w fun e w' => e = .returned (.bool true) ∧ Below w.heap.size w w' := by
  go_enter Try.func3, Try.ntmps3
  go_wp2_with (go_at_call 5; refine (nextBallotS _ _ _ _).mono ?_; rintro e w' ⟨rfl, rfl⟩)
  refine (nextBallotI _ _ _ _).mono ?_
  rintro e w1 ⟨rfl, hb⟩
  go_wp2
  go_ret
  exact ⟨rfl, hb⟩
end Go.Proofs.Ytnifdpjmpbocnaa
