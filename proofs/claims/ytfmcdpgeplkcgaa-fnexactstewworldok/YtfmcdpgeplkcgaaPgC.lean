/-
  Stewards: what a service wishes, its load: the program's.
-/
import Derived.Test.YtfmcdpgeplkcgaaPgA
namespace Go.Proofs.Ytfmcdpgeplkcgaa
open Go.RowKit Go.Deep

def wishOk (s : Sv) : Bool := inB s.image 1 1000000 && inB s.next 1 1000000 && inB s.want 0 10 && inB s.down 0 10 && inB s.over 0 10 && decide (0 < s.down + s.over)
def loadOk (s : Sv) : Bool :=
  if s.per = 0 then decide (s.least = 0) && decide (s.most = 0) && decide (s.load = 0) && decide (s.cool = 0)
  else inB s.per 1 1000000 && inB s.load 0 1000000 && inB s.cool 0 3 && inB s.most 0 10 && inB s.least 0 s.most

theorem svOk_eq (s : Sv) (now : Int) : svOk s now = (snmOk s.nm && inB s.ver 1 now && wishOk s && loadOk s) := by
  unfold svOk wishOk loadOk
  by_cases h : s.per = 0
  · rw [if_pos h, if_pos h, Bool.eq_iff_iff]
    unfold inB
    simp only [Bool.and_eq_true, Bool.not_eq_true', decide_eq_true_eq, decide_eq_false_iff_not]
    constructor
    · rintro ⟨⟨⟨⟨⟨⟨⟨⟨a, b⟩, c⟩, d⟩, e⟩, f⟩, g⟩, h⟩, i⟩
      exact ⟨⟨⟨a, b⟩, ⟨⟨⟨⟨⟨c, d⟩, e⟩, f⟩, g⟩, by omega⟩⟩, i⟩
    · rintro ⟨⟨⟨a, b⟩, ⟨⟨⟨⟨⟨c, d⟩, e⟩, f⟩, g⟩, h⟩⟩, i⟩
      exact ⟨⟨⟨⟨⟨⟨⟨⟨a, b⟩, c⟩, d⟩, e⟩, f⟩, g⟩, by omega⟩, i⟩
  · rw [if_neg h, if_neg h, Bool.eq_iff_iff]
    unfold inB
    simp only [Bool.and_eq_true, Bool.not_eq_true', decide_eq_true_eq, decide_eq_false_iff_not]
    constructor
    · rintro ⟨⟨⟨⟨⟨⟨⟨⟨a, b⟩, c⟩, d⟩, e⟩, f⟩, g⟩, h⟩, i⟩
      exact ⟨⟨⟨a, b⟩, ⟨⟨⟨⟨⟨c, d⟩, e⟩, f⟩, g⟩, by omega⟩⟩, by omega⟩
    · rintro ⟨⟨⟨a, b⟩, ⟨⟨⟨⟨⟨c, d⟩, e⟩, f⟩, g⟩, h⟩⟩, i⟩
      exact ⟨⟨⟨⟨⟨⟨⟨⟨a, b⟩, c⟩, d⟩, e⟩, f⟩, g⟩, by omega⟩, by omega⟩

set_option maxHeartbeats 4000000 in
theorem wishI (s : Sv) (w : World) :
    Calls Try.prog 49 #[.agg #[.string s.nm, .int .i64 s.ver, .bool s.gone, .int .i64 s.image, .int .i64 s.want, .int .i64 s.down, .int .i64 s.over, .int .i64 s.next, .int .i64 s.per, .int .i64 s.least, .int .i64 s.most, .int .i64 s.load, .int .i64 s.cool]] w fun e w' => e = .returned (.bool (wishOk s)) ∧ Below w.heap.size w w' := by
  obtain ⟨R, hR⟩ : ∃ R, R = wishOk s := ⟨_, rfl⟩
  have HR := hid hR
  rw [← hR]
  clear hR
  cases h0 : inB s.image 1 1000000
  · have HF : Hid (R = false) := by show R = false; rw [HR.out]; simp [wishOk, h0]
    clear HR
    go_enter Try.func49, Try.ntmps49
    go_wp2_with (go_at_call 45; refine (withinI _ _ _ _).mono ?_; rintro e w' ⟨rfl, rfl⟩)
    go_ret
    exact ⟨Pl.ret_bool (by first | exact HF.out.symm | (rw [HF.out]; simp)), blw_alloc (Below.refl _ _) _⟩
  cases h1 : inB s.next 1 1000000
  · have HF : Hid (R = false) := by show R = false; rw [HR.out]; simp [wishOk, h0, h1]
    clear HR
    go_enter Try.func49, Try.ntmps49
    go_wp2_with (go_at_call 45; refine (withinI _ _ _ _).mono ?_; rintro e w' ⟨rfl, rfl⟩)
    go_ret
    exact ⟨Pl.ret_bool (by first | exact HF.out.symm | (rw [HF.out]; simp)), blw_alloc (Below.refl _ _) _⟩
  cases h2 : inB s.want 0 10
  · have HF : Hid (R = false) := by show R = false; rw [HR.out]; simp [wishOk, h0, h1, h2]
    clear HR
    go_enter Try.func49, Try.ntmps49
    go_wp2_with (go_at_call 45; refine (withinI _ _ _ _).mono ?_; rintro e w' ⟨rfl, rfl⟩)
    go_ret
    exact ⟨Pl.ret_bool (by first | exact HF.out.symm | (rw [HF.out]; simp)), blw_alloc (Below.refl _ _) _⟩
  cases h3 : inB s.down 0 10
  · have HF : Hid (R = false) := by show R = false; rw [HR.out]; simp [wishOk, h0, h1, h2, h3]
    clear HR
    go_enter Try.func49, Try.ntmps49
    go_wp2_with (go_at_call 45; refine (withinI _ _ _ _).mono ?_; rintro e w' ⟨rfl, rfl⟩)
    go_ret
    exact ⟨Pl.ret_bool (by first | exact HF.out.symm | (rw [HF.out]; simp)), blw_alloc (Below.refl _ _) _⟩
  cases h4 : inB s.over 0 10
  · have HF : Hid (R = false) := by show R = false; rw [HR.out]; simp [wishOk, h0, h1, h2, h3, h4]
    clear HR
    go_enter Try.func49, Try.ntmps49
    go_wp2_with (go_at_call 45; refine (withinI _ _ _ _).mono ?_; rintro e w' ⟨rfl, rfl⟩)
    go_ret
    exact ⟨Pl.ret_bool (by first | exact HF.out.symm | (rw [HF.out]; simp)), blw_alloc (Below.refl _ _) _⟩
  have hd : 0 ≤ s.down ∧ s.down ≤ 10 := by have q := h3; unfold inB at q; simp at q; exact q
  have ho : 0 ≤ s.over ∧ s.over ≤ 10 := by have q := h4; unfold inB at q; simp at q; exact q
  obtain ⟨hd0, hd1⟩ := hd
  obtain ⟨ho0, ho1⟩ := ho
  have HF : Hid (R = decide (0 < s.down + s.over)) := by show R = _; rw [HR.out]; simp [wishOk, h0, h1, h2, h3, h4]
  clear HR
  go_enter Try.func49, Try.ntmps49
  go_wp2_with (go_at_call 45; refine (withinI _ _ _ _).mono ?_; rintro e w' ⟨rfl, rfl⟩)
  go_ret
  exact ⟨Pl.ret_bool (by first | exact HF.out.symm | (rw [HF.out]; simp)), blw_alloc (Below.refl _ _) _⟩

set_option maxHeartbeats 4000000 in
theorem loadI (s : Sv) (w : World) :
    Calls Try.prog 50 #[.agg #[.string s.nm, .int .i64 s.ver, .bool s.gone, .int .i64 s.image, .int .i64 s.want, .int .i64 s.down, .int .i64 s.over, .int .i64 s.next, .int .i64 s.per, .int .i64 s.least, .int .i64 s.most, .int .i64 s.load, .int .i64 s.cool]] w fun e w' => e = .returned (.bool (loadOk s)) ∧ Below w.heap.size w w' := by
  obtain ⟨R, hR⟩ : ∃ R, R = loadOk s := ⟨_, rfl⟩
  have HR := hid hR
  rw [← hR]
  clear hR
  by_cases hp : s.per = 0
  · have HR2 : Hid (R = (decide (s.least = 0) && decide (s.most = 0) && decide (s.load = 0) && decide (s.cool = 0))) := by show R = _; rw [HR.out, loadOk, if_pos hp]
    clear HR
    rcases (Decidable.em (s.least = 0)).symm with g0 | g0
    · have HF : Hid (R = false) := by show R = false; rw [HR2.out]; simp [g0]
      clear HR2
      go_enter Try.func50, Try.ntmps50
      go_wp2_with (go_at_call 45; refine (withinI _ _ _ _).mono ?_; rintro e w' ⟨rfl, rfl⟩)
      go_ret
      exact ⟨Pl.ret_bool (by first | exact HF.out.symm | (rw [HF.out]; simpa using g0)), blw_alloc (Below.refl _ _) _⟩
    rcases (Decidable.em (s.most = 0)).symm with g1 | g1
    · have HF : Hid (R = false) := by show R = false; rw [HR2.out]; simp [g0, g1]
      clear HR2
      go_enter Try.func50, Try.ntmps50
      go_wp2_with (go_at_call 45; refine (withinI _ _ _ _).mono ?_; rintro e w' ⟨rfl, rfl⟩)
      go_ret
      exact ⟨Pl.ret_bool (by first | exact HF.out.symm | (rw [HF.out]; simpa using g1)), blw_alloc (Below.refl _ _) _⟩
    rcases (Decidable.em (s.load = 0)).symm with g2 | g2
    · have HF : Hid (R = false) := by show R = false; rw [HR2.out]; simp [g0, g1, g2]
      clear HR2
      go_enter Try.func50, Try.ntmps50
      go_wp2_with (go_at_call 45; refine (withinI _ _ _ _).mono ?_; rintro e w' ⟨rfl, rfl⟩)
      go_ret
      exact ⟨Pl.ret_bool (by first | exact HF.out.symm | (rw [HF.out]; simpa using g2)), blw_alloc (Below.refl _ _) _⟩
    rcases (Decidable.em (s.cool = 0)).symm with g3 | g3
    · have HF : Hid (R = false) := by show R = false; rw [HR2.out]; simp [g0, g1, g2, g3]
      clear HR2
      go_enter Try.func50, Try.ntmps50
      go_wp2_with (go_at_call 45; refine (withinI _ _ _ _).mono ?_; rintro e w' ⟨rfl, rfl⟩)
      go_ret
      exact ⟨Pl.ret_bool (by first | exact HF.out.symm | (rw [HF.out]; simpa using g3)), blw_alloc (Below.refl _ _) _⟩
    have HF : Hid (R = true) := by show R = true; rw [HR2.out]; simp [g0, g1, g2, g3]
    clear HR2
    go_enter Try.func50, Try.ntmps50
    go_wp2_with (go_at_call 45; refine (withinI _ _ _ _).mono ?_; rintro e w' ⟨rfl, rfl⟩)
    go_ret
    exact ⟨Pl.ret_bool (by first | exact HF.out.symm | (rw [HF.out]; simpa using g3)), blw_alloc (Below.refl _ _) _⟩
  · have HR2 : Hid (R = (inB s.per 1 1000000 && inB s.load 0 1000000 && inB s.cool 0 3 && inB s.most 0 10 && inB s.least 0 s.most)) := by show R = _; rw [HR.out, loadOk, if_neg hp]
    clear HR
    cases g0 : inB s.per 1 1000000
    · have HF : Hid (R = false) := by show R = false; rw [HR2.out]; simp [g0]
      clear HR2
      go_enter Try.func50, Try.ntmps50
      go_wp2_with (go_at_call 45; refine (withinI _ _ _ _).mono ?_; rintro e w' ⟨rfl, rfl⟩)
      go_ret
      exact ⟨Pl.ret_bool (by first | exact HF.out.symm | (rw [HF.out]; simp)), blw_alloc (Below.refl _ _) _⟩
    cases g1 : inB s.load 0 1000000
    · have HF : Hid (R = false) := by show R = false; rw [HR2.out]; simp [g0, g1]
      clear HR2
      go_enter Try.func50, Try.ntmps50
      go_wp2_with (go_at_call 45; refine (withinI _ _ _ _).mono ?_; rintro e w' ⟨rfl, rfl⟩)
      go_ret
      exact ⟨Pl.ret_bool (by first | exact HF.out.symm | (rw [HF.out]; simp)), blw_alloc (Below.refl _ _) _⟩
    cases g2 : inB s.cool 0 3
    · have HF : Hid (R = false) := by show R = false; rw [HR2.out]; simp [g0, g1, g2]
      clear HR2
      go_enter Try.func50, Try.ntmps50
      go_wp2_with (go_at_call 45; refine (withinI _ _ _ _).mono ?_; rintro e w' ⟨rfl, rfl⟩)
      go_ret
      exact ⟨Pl.ret_bool (by first | exact HF.out.symm | (rw [HF.out]; simp)), blw_alloc (Below.refl _ _) _⟩
    cases g3 : inB s.most 0 10
    · have HF : Hid (R = false) := by show R = false; rw [HR2.out]; simp [g0, g1, g2, g3]
      clear HR2
      go_enter Try.func50, Try.ntmps50
      go_wp2_with (go_at_call 45; refine (withinI _ _ _ _).mono ?_; rintro e w' ⟨rfl, rfl⟩)
      go_ret
      exact ⟨Pl.ret_bool (by first | exact HF.out.symm | (rw [HF.out]; simp)), blw_alloc (Below.refl _ _) _⟩
    cases g4 : inB s.least 0 s.most
    · have HF : Hid (R = false) := by show R = false; rw [HR2.out]; simp [g0, g1, g2, g3, g4]
      clear HR2
      go_enter Try.func50, Try.ntmps50
      go_wp2_with (go_at_call 45; refine (withinI _ _ _ _).mono ?_; rintro e w' ⟨rfl, rfl⟩)
      go_ret
      exact ⟨Pl.ret_bool (by first | exact HF.out.symm | (rw [HF.out]; simp)), blw_alloc (Below.refl _ _) _⟩
    have HF : Hid (R = true) := by show R = true; rw [HR2.out]; simp [g0, g1, g2, g3, g4]
    clear HR2
    go_enter Try.func50, Try.ntmps50
    go_wp2_with (go_at_call 45; refine (withinI _ _ _ _).mono ?_; rintro e w' ⟨rfl, rfl⟩)
    go_ret
    exact ⟨Pl.ret_bool (by first | exact HF.out.symm | (rw [HF.out]; simp)), blw_alloc (Below.refl _ _) _⟩

set_option maxHeartbeats 4000000 in
theorem nowI (K : SBk) (v1 v2 v3 : Value) (w : World) :
    Calls Try.prog 29 #[.agg #[.int .i64 K.now, v1, v2, v3]] w fun e w' => e = .returned (.bool (inB K.now 0 1000000)) ∧ Below w.heap.size w w' := by
  go_enter Try.func29, Try.ntmps29
  go_wp2_with (go_at_call 45; refine (withinI _ _ _ _).mono ?_; rintro e w' ⟨rfl, rfl⟩)
  go_ret
  exact ⟨rfl, blw_alloc (Below.refl _ _) _⟩

end Go.Proofs.Ytfmcdpgeplkcgaa
