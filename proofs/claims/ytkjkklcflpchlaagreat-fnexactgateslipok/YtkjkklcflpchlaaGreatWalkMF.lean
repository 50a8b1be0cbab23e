/-
  Walks: a mend by the places of its fields.
-/
import Derived.Deep.RegionLaw
import Derived.Deep.DeepCutAuto
import Derived.Deep.RegionWith
import Derived.Test.YtkjkklcflpchlaaGreatWalkJ
import Derived.Test.YtkjkklcflpchlaaGreatOwn
import Derived.Test.YtkjkklcflpchlaaGreatMemM
import Derived.Test.YtkjkklcflpchlaaGreatWalkV
namespace Go.Proofs.YtkjkklcflpchlaaGreat
open Go.RowKit Go.Deep

/-- A slice of numbers. -/
def IntsAt (w : World) (v : Value) (l : List Nat) : Prop :=
  (l = [] ∧ ∃ a c, v = .slice a 0 c) ∨ ∃ g c, v = .slice (some ⟨g, 0, none⟩) l.length c ∧ g < w.heap.size ∧ l.length ≤ 1048576 ∧ ∀ i, i < l.length → w.cell? ⟨g, i, none⟩ = some (.int .i64 (l.getD i 0 : Nat))

theorem IntsAt.later {w w' : World} {v : Value} {l : List Nat} (h : IntsAt w v l) (hb : Below w.heap.size w w') : IntsAt w' v l := by
  rcases h with h | ⟨g, c, rfl, h1, h2, h3⟩
  · exact Or.inl h
  · exact Or.inr ⟨g, c, rfl, Nat.lt_of_lt_of_le h1 hb.size, h2, fun i hi => (hb.cell (p := ⟨g, i, none⟩) h1).trans (h3 i hi)⟩

def inRow (l : List Nat) (x : Nat) : Bool := l.contains x

theorem has_take (l : List Nat) (x k : Nat) (hk : k < l.length) (h : inRow (l.take k) x = false) (hx : l.getD k 0 ≠ x) : inRow (l.take (k + 1)) x = false := by
  unfold inRow at h ⊢
  rw [List.take_succ_eq_append_getElem hk]
  have e : l.getD k 0 = l[k] := by simp [hk]
  rw [e] at hx
  rw [Bool.eq_false_iff] at h ⊢
  intro hc
  rw [List.contains_iff_mem, List.mem_append, List.mem_singleton] at hc
  rcases hc with hc | hc
  · exact h (List.contains_iff_mem.2 hc)
  · exact hx hc.symm

theorem has_hit (l : List Nat) (x k : Nat) (hk : k < l.length) (hx : l.getD k 0 = x) : inRow l x = true := by
  unfold inRow
  have e : l.getD k 0 = l[k] := by simp [hk]
  rw [List.contains_iff_mem, ← hx, e]
  exact List.getElem_mem hk

set_option maxHeartbeats 400000 in
theorem indexI_row (g c : Nat) (l : List Nat) (x : Nat) (w : World) (hl : l.length ≤ 1048576)
    (hc : ∀ i, i < l.length → w.cell? ⟨g, i, none⟩ = some (.int .i64 (l.getD i 0 : Nat))) :
    Calls Tryz.prog 131 #[.slice (some ⟨g, 0, none⟩) l.length c, .int .i64 x] w fun e w' => (∃ r : Int, e = .returned (.int .i64 r) ∧ decide (0 ≤ r) = inRow l x) ∧ w = w' := by
  go_enter Tryz.func131, Tryz.ntmps131
  go_wp2
  go_loop [8] (fun i => ∃ k : Nat, k ≤ l.length ∧ i = .int .i64 k ∧ inRow (l.take k) x = false) (fun i => l.length - (intOf i).toNat)
  case atStart => exact ⟨0, Nat.zero_le _, rfl, rfl⟩
  case round =>
    obtain ⟨k, hk, rfl, hall⟩ := hrel
    have HA : Hid (inRow (l.take k) x = false) := hall
    clear hall
    by_cases hlt : k < l.length
    · have hck := hc k hlt
      obtain ⟨y, hy⟩ : ∃ y, y = l.getD k 0 := ⟨_, rfl⟩
      rw [← hy] at hck
      have HY : Hid (y = l.getD k 0) := hy
      clear hy hc
      by_cases hq : (x : Int) = (y : Int)
      · have HQ : Hid (inRow l x = true) := has_hit l x k hlt (by rw [← HY.out]; omega)
        go_wp2
        go_ret
        exact ⟨⟨_, rfl, by rw [HQ.out]; simp⟩, rfl⟩
      · have HQ : Hid (inRow (l.take (k + 1)) x = false) := has_take l x k hlt HA.out (by rw [← HY.out]; omega)
        go_wp2
        go_round
        case rel => exact ⟨k + 1, by omega, by go_num, HQ.out⟩
        case measure => simp [intOf]; omega
    · have HQ : Hid (inRow l x = false) := by have := HA.out; rw [List.take_of_length_le (by omega)] at this; exact this
      go_wp2
      go_ret
      exact ⟨⟨_, rfl, by rw [HQ.out]; simp⟩, rfl⟩

set_option maxHeartbeats 400000 in
theorem indexI_nil (a : Option Addr) (c : Nat) (x : Nat) (w : World) :
    Calls Tryz.prog 131 #[.slice a 0 c, .int .i64 x] w fun e w' => (∃ r : Int, e = .returned (.int .i64 r) ∧ decide (0 ≤ r) = inRow [] x) ∧ w = w' := by
  go_enter Tryz.func131, Tryz.ntmps131
  go_wp2
  refine wp_loop_rounds 1 ?_
  rw [rounds_succ]
  go_wp2
  go_ret
  exact ⟨⟨_, rfl, by simp [inRow]⟩, rfl⟩

theorem indexI (v : Value) (l : List Nat) (x : Nat) (w : World) (h : IntsAt w v l) :
    Calls Tryz.prog 131 #[v, .int .i64 x] w fun e w' => (∃ r : Int, e = .returned (.int .i64 r) ∧ decide (0 ≤ r) = inRow l x) ∧ w = w' := by
  rcases h with ⟨rfl, a, c, rfl⟩ | ⟨g, c, rfl, _, h2, h3⟩
  · exact indexI_nil a c x w
  · exact indexI_row g c l x w h2 h3

set_option maxHeartbeats 400000 in
theorem containsI (v : Value) (l : List Nat) (x : Nat) (w : World) (h : IntsAt w v l) :
    Calls Tryz.prog 121 #[v, .int .i64 x] w fun e w' => e = .returned (.bool (inRow l x)) ∧ w = w' := by
  have HX : Hid (∀ W, W = w → Calls Tryz.prog 131 #[v, .int .i64 x] W fun e w' => (∃ r : Int, e = .returned (.int .i64 r) ∧ decide (0 ≤ r) = inRow l x) ∧ W = w') := by
    intro W e; subst e; exact indexI v l x W h
  clear h
  go_enter Tryz.func121, Tryz.ntmps121
  go_wp2_with fail
  refine (HX.out _ rfl).mono ?_
  rintro e w' ⟨⟨r, rfl, hr⟩, rfl⟩
  have HR : Hid (decide (0 ≤ r) = inRow l x) := hr
  clear hr
  go_wp2
  go_ret
  exact ⟨Pl.ret_bool HR.out, rfl⟩


set_option maxHeartbeats 400000 in
theorem missing (rb : Nat) (a : Option Addr) (n c : Nat) (l : List Nat) (x : Nat) (w : World) (hc : w.cell? ⟨rb, 0, none⟩ = some (.slice a n c)) (h : IntsAt w (.slice a n c) l) :
    Calls Tryz.prog 120 #[.int .i64 x, .pointer (some ⟨rb, 0, none⟩)] w fun e w' => e = .returned (.bool (!inRow l x)) ∧ w = w' := by
  have HX : Hid (IntsAt w (.slice a n c) l) := h
  obtain ⟨R, hR⟩ : ∃ R, R = inRow l x := ⟨_, rfl⟩
  have HR : Hid (R = inRow l x) := hR
  rw [← hR]
  clear h hR
  go_enter Tryz.func120, Tryz.ntmps120
  go_wp2_with fail
  refine (containsI (.slice a n c) l x w HX.out).mono ?_
  rintro e w' ⟨rfl, rfl⟩
  rw [← HR.out]
  go_wp2
  go_ret
  exact ⟨rfl, rfl⟩

/-- The place of the first number of which p holds; the row's length, if there is none. -/
def firstAt (p : Nat → Bool) (l : List Nat) : Nat := l.findIdx p

theorem firstAt_hit (p : Nat → Bool) (l : List Nat) (i : Nat) (hi : i < l.length) (hno : i ≤ firstAt p l) (h : p (l.getD i 0) = true) : firstAt p l = i := by
  have e : l.getD i 0 = l[i] := by simp [hi]
  rw [e] at h
  have : firstAt p l ≤ i := by
    unfold firstAt
    exact Nat.le_of_not_lt fun hlt => by
      have := List.not_of_lt_findIdx hlt
      simp [h] at this
  omega

theorem firstAt_miss (p : Nat → Bool) (l : List Nat) (i : Nat) (hi : i < l.length) (hno : i ≤ firstAt p l) (h : p (l.getD i 0) = false) : i + 1 ≤ firstAt p l := by
  have e : l.getD i 0 = l[i] := by simp [hi]
  rw [e] at h
  by_cases hq : firstAt p l = i
  · exfalso
    have hlt : firstAt p l < l.length := by omega
    have := List.findIdx_getElem (w := hlt)
    unfold firstAt at hq
    simp only [hq] at this
    rw [this] at h
    cases h
  · omega

set_option maxHeartbeats 1000000 in
theorem indexFuncM_row (rb : Nat) (p : Nat → Bool) (g c : Nat) (l : List Nat) (w : World) (hg : g < w.heap.size) (hl : l.length ≤ 1048576)
    (hc : ∀ i, i < l.length → w.cell? ⟨g, i, none⟩ = some (.int .i64 (l.getD i 0 : Nat)))
    (hp : ∀ (x : Nat) W, x ∈ l → Below w.heap.size w W → Calls Tryz.prog 120 #[.int .i64 x, .pointer (some ⟨rb, 0, none⟩)] W fun e w' => e = .returned (.bool (p x)) ∧ Below W.heap.size W w') :
    Calls Tryz.prog 123 #[.slice (some ⟨g, 0, none⟩) l.length c, .func (.func 120) #[] #[.pointer (some ⟨rb, 0, none⟩)]] w fun e w' => (∃ r : Int, e = .returned (.int .i64 r) ∧ r = (if firstAt p l < l.length then (firstAt p l : Int) else -1)) ∧ Below w.heap.size w w' := by
  have HC : Hid (∀ i, i < l.length → w.cell? ⟨g, i, none⟩ = some (.int .i64 (l.getD i 0 : Nat))) := hc
  have HP : Hid (∀ (x : Nat) W, x ∈ l → Below w.heap.size w W → Calls Tryz.prog 120 #[.int .i64 x, .pointer (some ⟨rb, 0, none⟩)] W fun e w' => e = .returned (.bool (p x)) ∧ Below W.heap.size W w') := hp
  obtain ⟨R, hR⟩ : ∃ R : Int, R = (if firstAt p l < l.length then (firstAt p l : Int) else -1) := ⟨_, rfl⟩
  rw [← hR]
  have HR : Hid (R = (if firstAt p l < l.length then (firstAt p l : Int) else -1)) := hR
  clear hc hp hR
  go_enter Tryz.func123, Tryz.ntmps123
  go_wp2
  go_loopw [8] (fun i wr => ∃ q : Nat, q ≤ l.length ∧ i = .int .i64 q ∧ q ≤ firstAt p l ∧ Below w.heap.size w wr) (fun i _ => l.length - (intOf i).toNat)
  case atStart => exact ⟨0, Nat.zero_le _, rfl, Nat.zero_le _, Below.refl _ _⟩
  case round =>
    obtain ⟨q, hq, rfl, hno, hW⟩ := hrel
    have HN : Hid (q ≤ firstAt p l) := hno
    clear hno
    by_cases hlt : q < l.length
    · have c0 := (hW.cell (p := ⟨g, q, none⟩) hg).trans (HC.out q hlt)
      obtain ⟨y, hy⟩ : ∃ y, y = l.getD q 0 := ⟨_, rfl⟩
      rw [← hy] at c0
      have HX : Hid (Calls Tryz.prog 120 #[.int .i64 y, .pointer (some ⟨rb, 0, none⟩)] wr fun e w' => e = .returned (.bool (p y)) ∧ Below wr.heap.size wr w') := HP.out y wr (by rw [hy]; simp [hlt]) hW
      have HG : Hid (y = l.getD q 0) := hy
      have hgw : g < wr.heap.size := Nat.lt_of_lt_of_le hg hW.size
      clear hy
      cases ht : p y
      · have HM : Hid (q + 1 ≤ firstAt p l) := firstAt_miss p l q hlt HN.out (by rw [← HG.out]; exact ht)
        go_wp2_with fail
        refine HX.out.mono ?_
        rintro e w2 ⟨rfl, hb2⟩
        rw [ht]
        have hB2 := blw_trans hW hb2
        clear hb2 c0 hgw
        go_wp2
        go_roundw
        case rel => exact ⟨q + 1, by omega, by go_num, HM.out, hB2⟩
        case measure => simp [intOf]; omega
      · have HM : Hid (firstAt p l = q) := firstAt_hit p l q hlt HN.out (by rw [← HG.out]; exact ht)
        go_wp2_with fail
        refine HX.out.mono ?_
        rintro e w2 ⟨rfl, hb2⟩
        rw [ht]
        have hB2 := blw_trans hW hb2
        clear hb2 c0 hgw
        go_wp2
        go_ret
        exact ⟨⟨_, rfl, by rw [HR.out, HM.out, if_pos hlt]⟩, hB2⟩
    · go_wp2
      go_ret
      exact ⟨⟨_, rfl, by rw [HR.out, if_neg (by have := HN.out; omega)]⟩, hW⟩

set_option maxHeartbeats 400000 in
theorem indexFuncM_nil (rb : Nat) (a : Option Addr) (c : Nat) (w : World) :
    Calls Tryz.prog 123 #[.slice a 0 c, .func (.func 120) #[] #[.pointer (some ⟨rb, 0, none⟩)]] w fun e w' => e = .returned (.int .i64 (-1)) ∧ w = w' := by
  go_enter Tryz.func123, Tryz.ntmps123
  go_wp2
  refine wp_loop_rounds 1 ?_
  rw [rounds_succ]
  go_wp2
  go_ret
  exact ⟨rfl, rfl⟩

theorem indexFuncM (rb : Nat) (p : Nat → Bool) (v : Value) (l : List Nat) (w : World) (h : IntsAt w v l)
    (hp : ∀ (x : Nat) W, x ∈ l → Below w.heap.size w W → Calls Tryz.prog 120 #[.int .i64 x, .pointer (some ⟨rb, 0, none⟩)] W fun e w' => e = .returned (.bool (p x)) ∧ Below W.heap.size W w') :
    Calls Tryz.prog 123 #[v, .func (.func 120) #[] #[.pointer (some ⟨rb, 0, none⟩)]] w fun e w' => (∃ r : Int, e = .returned (.int .i64 r) ∧ r = (if firstAt p l < l.length then (firstAt p l : Int) else -1)) ∧ Below w.heap.size w w' := by
  rcases h with ⟨rfl, a, c, rfl⟩ | ⟨g, c, rfl, h1, h2, h3⟩
  · refine (indexFuncM_nil rb a c w).mono ?_
    rintro e w' ⟨rfl, rfl⟩
    exact ⟨⟨_, rfl, by simp⟩, Below.refl _ _⟩
  · exact indexFuncM_row rb p g c l w h1 h2 h3 hp

set_option maxHeartbeats 1000000 in
theorem indexFuncR_row (rb fb : Nat) (p : Nat → Bool) (g c : Nat) (l : List Nat) (w : World) (hg : g < w.heap.size) (hl : l.length ≤ 1048576)
    (hc : ∀ i, i < l.length → w.cell? ⟨g, i, none⟩ = some (.int .i64 (l.getD i 0 : Nat)))
    (hp : ∀ (x : Nat) W, x ∈ l → Below w.heap.size w W → Calls Tryz.prog 119 #[.int .i64 x, .pointer (some ⟨rb, 0, none⟩), .pointer (some ⟨fb, 0, none⟩)] W fun e w' => e = .returned (.bool (p x)) ∧ Below W.heap.size W w') :
    Calls Tryz.prog 123 #[.slice (some ⟨g, 0, none⟩) l.length c, .func (.func 119) #[] #[.pointer (some ⟨rb, 0, none⟩), .pointer (some ⟨fb, 0, none⟩)]] w fun e w' => (∃ r : Int, e = .returned (.int .i64 r) ∧ r = (if firstAt p l < l.length then (firstAt p l : Int) else -1)) ∧ Below w.heap.size w w' := by
  have HC : Hid (∀ i, i < l.length → w.cell? ⟨g, i, none⟩ = some (.int .i64 (l.getD i 0 : Nat))) := hc
  have HP : Hid (∀ (x : Nat) W, x ∈ l → Below w.heap.size w W → Calls Tryz.prog 119 #[.int .i64 x, .pointer (some ⟨rb, 0, none⟩), .pointer (some ⟨fb, 0, none⟩)] W fun e w' => e = .returned (.bool (p x)) ∧ Below W.heap.size W w') := hp
  obtain ⟨R, hR⟩ : ∃ R : Int, R = (if firstAt p l < l.length then (firstAt p l : Int) else -1) := ⟨_, rfl⟩
  rw [← hR]
  have HR : Hid (R = (if firstAt p l < l.length then (firstAt p l : Int) else -1)) := hR
  clear hc hp hR
  go_enter Tryz.func123, Tryz.ntmps123
  go_wp2
  go_loopw [8] (fun i wr => ∃ q : Nat, q ≤ l.length ∧ i = .int .i64 q ∧ q ≤ firstAt p l ∧ Below w.heap.size w wr) (fun i _ => l.length - (intOf i).toNat)
  case atStart => exact ⟨0, Nat.zero_le _, rfl, Nat.zero_le _, Below.refl _ _⟩
  case round =>
    obtain ⟨q, hq, rfl, hno, hW⟩ := hrel
    have HN : Hid (q ≤ firstAt p l) := hno
    clear hno
    by_cases hlt : q < l.length
    · have c0 := (hW.cell (p := ⟨g, q, none⟩) hg).trans (HC.out q hlt)
      obtain ⟨y, hy⟩ : ∃ y, y = l.getD q 0 := ⟨_, rfl⟩
      rw [← hy] at c0
      have HX : Hid (Calls Tryz.prog 119 #[.int .i64 y, .pointer (some ⟨rb, 0, none⟩), .pointer (some ⟨fb, 0, none⟩)] wr fun e w' => e = .returned (.bool (p y)) ∧ Below wr.heap.size wr w') := HP.out y wr (by rw [hy]; simp [hlt]) hW
      have HG : Hid (y = l.getD q 0) := hy
      have hgw : g < wr.heap.size := Nat.lt_of_lt_of_le hg hW.size
      clear hy
      cases ht : p y
      · have HM : Hid (q + 1 ≤ firstAt p l) := firstAt_miss p l q hlt HN.out (by rw [← HG.out]; exact ht)
        go_wp2_with fail
        refine HX.out.mono ?_
        rintro e w2 ⟨rfl, hb2⟩
        rw [ht]
        have hB2 := blw_trans hW hb2
        clear hb2 c0 hgw
        go_wp2
        go_roundw
        case rel => exact ⟨q + 1, by omega, by go_num, HM.out, hB2⟩
        case measure => simp [intOf]; omega
      · have HM : Hid (firstAt p l = q) := firstAt_hit p l q hlt HN.out (by rw [← HG.out]; exact ht)
        go_wp2_with fail
        refine HX.out.mono ?_
        rintro e w2 ⟨rfl, hb2⟩
        rw [ht]
        have hB2 := blw_trans hW hb2
        clear hb2 c0 hgw
        go_wp2
        go_ret
        exact ⟨⟨_, rfl, by rw [HR.out, HM.out, if_pos hlt]⟩, hB2⟩
    · go_wp2
      go_ret
      exact ⟨⟨_, rfl, by rw [HR.out, if_neg (by have := HN.out; omega)]⟩, hW⟩

set_option maxHeartbeats 400000 in
theorem indexFuncR_nil (rb fb : Nat) (a : Option Addr) (c : Nat) (w : World) :
    Calls Tryz.prog 123 #[.slice a 0 c, .func (.func 119) #[] #[.pointer (some ⟨rb, 0, none⟩), .pointer (some ⟨fb, 0, none⟩)]] w fun e w' => e = .returned (.int .i64 (-1)) ∧ w = w' := by
  go_enter Tryz.func123, Tryz.ntmps123
  go_wp2
  refine wp_loop_rounds 1 ?_
  rw [rounds_succ]
  go_wp2
  go_ret
  exact ⟨rfl, rfl⟩

theorem indexFuncR (rb fb : Nat) (p : Nat → Bool) (v : Value) (l : List Nat) (w : World) (h : IntsAt w v l)
    (hp : ∀ (x : Nat) W, x ∈ l → Below w.heap.size w W → Calls Tryz.prog 119 #[.int .i64 x, .pointer (some ⟨rb, 0, none⟩), .pointer (some ⟨fb, 0, none⟩)] W fun e w' => e = .returned (.bool (p x)) ∧ Below W.heap.size W w') :
    Calls Tryz.prog 123 #[v, .func (.func 119) #[] #[.pointer (some ⟨rb, 0, none⟩), .pointer (some ⟨fb, 0, none⟩)]] w fun e w' => (∃ r : Int, e = .returned (.int .i64 r) ∧ r = (if firstAt p l < l.length then (firstAt p l : Int) else -1)) ∧ Below w.heap.size w w' := by
  rcases h with ⟨rfl, a, c, rfl⟩ | ⟨g, c, rfl, h1, h2, h3⟩
  · refine (indexFuncR_nil rb fb a c w).mono ?_
    rintro e w' ⟨rfl, rfl⟩
    exact ⟨⟨_, rfl, by simp⟩, Below.refl _ _⟩
  · exact indexFuncR_row rb fb p g c l w h1 h2 h3 hp

theorem any_first (p : Nat → Bool) (l : List Nat) : l.any p = decide (firstAt p l < l.length) := by
  unfold firstAt
  rw [Bool.eq_iff_iff, decide_eq_true_eq, List.any_eq_true, List.findIdx_lt_length]

set_option maxHeartbeats 400000 in
theorem containsFuncI (rb : Nat) (p : Nat → Bool) (v : Value) (l : List Nat) (w : World) (h : IntsAt w v l)
    (hp : ∀ (x : Nat) W, x ∈ l → Below w.heap.size w W → Calls Tryz.prog 120 #[.int .i64 x, .pointer (some ⟨rb, 0, none⟩)] W fun e w' => e = .returned (.bool (p x)) ∧ Below W.heap.size W w') :
    Calls Tryz.prog 122 #[v, .func (.func 120) #[] #[.pointer (some ⟨rb, 0, none⟩)]] w fun e w' => e = .returned (.bool (l.any p)) ∧ Below w.heap.size w w' := by
  have HX : Hid (Calls Tryz.prog 123 #[v, .func (.func 120) #[] #[.pointer (some ⟨rb, 0, none⟩)]] w fun e w' => (∃ r : Int, e = .returned (.int .i64 r) ∧ r = (if firstAt p l < l.length then (firstAt p l : Int) else -1)) ∧ Below w.heap.size w w') := indexFuncM rb p v l w h hp
  clear h hp
  go_enter Tryz.func122, Tryz.ntmps122
  go_wp2_with fail
  refine HX.out.mono ?_
  rintro e w' ⟨⟨r, rfl, hr⟩, hb⟩
  have HR : Hid (decide (0 ≤ r) = l.any p) := by
    show decide (0 ≤ r) = l.any p
    rw [any_first, hr]
    by_cases hq : firstAt p l < l.length
    · rw [if_pos hq]; simp [hq]
    · rw [if_neg hq]; simp [hq]
  clear hr
  go_wp2
  go_ret
  exact ⟨Pl.ret_bool HR.out, hb⟩

end Go.Proofs.YtkjkklcflpchlaaGreat

namespace Go.Proofs.YtkjkklcflpchlaaGreat
open Go.RowKit Go.Deep

theorem step_append_own {P : Program} {ops : Array Oper} {o : Oper} {a : Act} {w : World} {K : Act → World → Prop} {Q : Exit → Act → World → Prop} {E : Prop}
    (hg : o.guard = none) (s x : Operand) (t : TypeId) (hop : o.op = Op.call { callee := Callee.builtin Builtin.append, args := #[s, x], argTypes := #[t, t] })
    (base : Nat) (e : TypeId) (i : TypeInfo) (z : Value) (size bytes : Nat) (h1 : P.underlying t = some (.slice e)) (h2 : P.info? e = some i) (h3 : i.zero = some z) (h4 : i.size = size) (h5 : i.bytes = bytes) (h6 : z.cells.size = size) (h7 : 0 < size)
    (v : Value) (n : Nat) (xs : List Value) (hs : a.eval s = v) (hown : w.ownsRow base e size v n xs)
    (ad : Addr) (m c : Nat) (news : List Value) (hx : a.eval x = .slice (some ad) m c) (hn : news.length = m * size) (hc : ∀ j u, news[j]? = some u → w.cell? (ad.add j) = some u) (h1c : ∀ u ∈ news, u.oneCell' = true)
    (b1 : n + m ≤ maxLen) (b2 : (n + m) * bytes ≤ 140737488355328) (hbase : base ≤ w.heap.size)
    (hK : ∀ v' w', w'.ownsRow base e size v' (n + m) (xs ++ news) → w.grownBy w' v.ownBlock → K (a.put o.dst v') w') :
    if Region.wanted o (yielded ops a.tmps) = true then Oper.wp P o a w K Q else E := by
  have hw : Region.wanted o (yielded ops a.tmps) = true := by simp [Region.wanted, hg]
  rw [if_pos hw]
  obtain ⟨v', w', hrun, r1, r2, _⟩ := run_append_own (P := P) w base t o.type e i z size bytes h1 h2 h3 h4 h5 h6 h7 v n xs hown ad m c news hn hc h1c b1 b2 hbase
  unfold Oper.wp
  simp [execOp, hop, resolve, invoke, builtin, hs, hx, hrun, Result.andThen]
  exact hK v' w' r1 r2

theorem grown_of_below {w w' : World} (h : Below w.heap.size w w') : w.grownBy w' none := ⟨h.os, h.tape, h.output, h.size, fun k hk _ => h.block k hk⟩

theorem owns_later {w w' : World} {lo : Nat} {e : TypeId} {size : Nat} {v : Value} {n : Nat} {xs : List Value} (h : w.ownsRow lo e size v n xs) (hb : Below w.heap.size w w') : w'.ownsRow lo e size v n xs :=
  h.kept (grown_of_below hb) (by cases hv : v.ownBlock <;> simp)

theorem owns_slice {w : World} {lo : Nat} {e : TypeId} {size : Nat} {v : Value} {n : Nat} {xs : List Value} (h : w.ownsRow lo e size v n xs) : ∃ a c, v = .slice a n c := by
  rcases h.2 with ⟨rfl, rfl⟩ | ⟨g, cap, cur, rfl, _⟩
  · exact ⟨_, _, rfl⟩
  · exact ⟨_, _, rfl⟩

/-- A slice of numbers of the call's own. -/
def IntsOwn (w : World) (lo : Nat) (v : Value) (l : List Nat) : Prop := w.ownsRow lo 3 1 v l.length (l.map fun n => Value.int .i64 (n : Nat))

theorem IntsOwn.at_ {w : World} {lo : Nat} {v : Value} {l : List Nat} (h : IntsOwn w lo v l) (hl : l.length ≤ 1048576) : IntsAt w v l := by
  have hcs : ∀ g, v.ownBlock = some g → ∀ j u, (l.map fun n => Value.int .i64 (n : Nat))[j]? = some u → w.cell? ((⟨g, 0, none⟩ : Addr).add j) = some u := fun g hg => World.ownsRow.cells h hg
  rcases h.2 with ⟨rfl, hn⟩ | ⟨g, cap, cur, rfl, _, hg, _⟩
  · exact Or.inl ⟨List.length_eq_zero_iff.1 hn, _, _, rfl⟩
  · refine Or.inr ⟨g, cap, rfl, (Array.getElem?_eq_some_iff.1 hg).1, hl, fun i hi => ?_⟩
    have := hcs g rfl i (.int .i64 (l.getD i 0 : Nat)) (by simp [hi])
    rw [Addr.add_lit, Nat.zero_add] at this
    exact this

def readyG (rd : Nat → List Nat) (row : List Nat) (x : Nat) : Bool := !inRow row x && !(rd x).any (fun y => !inRow row y)
def nextG (rd : Nat → List Nat) (n : Nat) (row : List Nat) : Nat := firstAt (readyG rd row) (List.range n)
def rowG (rd : Nat → List Nat) (n : Nat) : Nat → List Nat
  | 0 => []
  | j + 1 => if nextG rd n (rowG rd n j) < n then rowG rd n j ++ [nextG rd n (rowG rd n j)] else rowG rd n j
def rowOk (rd : Nat → List Nat) (n : Nat) : Bool := decide ((rowG rd n n).length = n)

theorem rowG_le (rd : Nat → List Nat) (n : Nat) : ∀ j, (rowG rd n j).length ≤ j
  | 0 => by simp [rowG]
  | j + 1 => by
    have := rowG_le rd n j
    rw [rowG]; split
    · simp; omega
    · omega

theorem rowG_stuck (rd : Nat → List Nat) (n j : Nat) (h : n ≤ nextG rd n (rowG rd n j)) : ∀ k, rowG rd n (j + k) = rowG rd n j
  | 0 => rfl
  | k + 1 => by
    have := rowG_stuck rd n j h k
    rw [← Nat.add_assoc, rowG, this, if_neg (by omega)]

theorem rowOk_false (rd : Nat → List Nat) (n j : Nat) (hj : j < n) (h : n ≤ nextG rd n (rowG rd n j)) : rowOk rd n = false := by
  have e := rowG_stuck rd n j h (n - j)
  rw [Nat.add_sub_of_le (Nat.le_of_lt hj)] at e
  have := rowG_le rd n j
  unfold rowOk
  rw [e]
  simp; omega

theorem rowG_next (rd : Nat → List Nat) (n j : Nat) (h : nextG rd n (rowG rd n j) < n) : rowG rd n (j + 1) = rowG rd n j ++ [nextG rd n (rowG rd n j)] := by
  rw [rowG, if_pos h]

set_option maxHeartbeats 1000000 in
theorem readyI (rb fb mb : Nat) (l rd : List Nat) (a : Option Addr) (n c x : Nat) (w : World) (hrb : rb < w.heap.size) (hc : w.cell? ⟨rb, 0, none⟩ = some (.slice a n c)) (h : IntsAt w (.slice a n c) l)
    (hf : w.cell? ⟨fb, 0, none⟩ = some (.func (.func 106) #[] #[.pointer (some ⟨mb, 0, none⟩)]))
    (hr : Calls Tryz.prog 106 #[.int .i64 x, .pointer (some ⟨mb, 0, none⟩)] w fun e w' => (∃ a n c, e = .returned (.slice a n c) ∧ IntsAt w' (.slice a n c) rd) ∧ Below w.heap.size w w') :
    Calls Tryz.prog 119 #[.int .i64 x, .pointer (some ⟨rb, 0, none⟩), .pointer (some ⟨fb, 0, none⟩)] w fun e w' => e = .returned (.bool (!inRow l x && !rd.any (fun y => !inRow l y))) ∧ Below w.heap.size w w' := by
  have HM : Hid (∀ y W, Below w.heap.size w W → Calls Tryz.prog 120 #[.int .i64 (y : Nat), .pointer (some ⟨rb, 0, none⟩)] W fun e w' => e = .returned (.bool (!inRow l y)) ∧ W = w') :=
    fun y W hW => missing rb a n c l y W ((hW.cell (p := ⟨rb, 0, none⟩) hrb).trans hc) (h.later hW)
  have HR : Hid (Calls Tryz.prog 106 #[.int .i64 x, .pointer (some ⟨mb, 0, none⟩)] w fun e w' => (∃ a n c, e = .returned (.slice a n c) ∧ IntsAt w' (.slice a n c) rd) ∧ Below w.heap.size w w') := hr
  clear h hr hc
  cases hin : inRow l x
  · obtain ⟨R, hR⟩ : ∃ R, R = rd.any (fun y => !inRow l y) := ⟨_, rfl⟩
    rw [← hR]
    have HRR : Hid (R = rd.any (fun y => !inRow l y)) := hR
    clear hR
    go_enter Tryz.func119, Tryz.ntmps119
    go_wp2_with fail
    refine (HM.out x w (Below.refl _ _)).mono ?_
    rintro e w' ⟨rfl, rfl⟩
    rw [hin]
    go_wp2_with fail
    refine HR.out.mono ?_
    rintro e w2 ⟨⟨a2, n2, c2, rfl, hi⟩, hb2⟩
    have HI : Hid (IntsAt w2 (.slice a2 n2 c2) rd) := hi
    have HB : Hid (Below w.heap.size w w2) := hb2
    clear hi hb2
    go_wp2_with fail
    refine (containsFuncI rb (fun y => !inRow l y) (.slice a2 n2 c2) rd w2 HI.out (fun y W _ hW => (HM.out y W (blw_trans HB.out hW)).mono ?_)).mono ?_
    · rintro e w' ⟨rfl, rfl⟩
      exact ⟨rfl, Below.refl _ _⟩
    rintro e w3 ⟨rfl, hb3⟩
    rw [← HRR.out]
    have hB3 := blw_trans HB.out hb3
    clear hb3
    go_wp2
    go_ret
    exact ⟨rfl, hB3⟩
  · go_enter Tryz.func119, Tryz.ntmps119
    go_wp2_with fail
    refine (HM.out x w (Below.refl _ _)).mono ?_
    rintro e w' ⟨rfl, rfl⟩
    rw [hin]
    go_wp2
    go_ret
    exact ⟨rfl, Below.refl _ _⟩

end Go.Proofs.YtkjkklcflpchlaaGreat

namespace Go.Proofs.YtkjkklcflpchlaaGreat
open Go.RowKit Go.Deep

theorem Tryz.info3 : (Tryz.prog.info? 3).map (fun i => (i.zero, i.size, i.bytes)) = some (some (.int .i64 0), 1, 8) := by kernel_rfl

/-- What is kept while things are put in a row: two boxes behind lo, the row in the second. -/
structure RowInv (w0 wr : World) (mb : Nat) (l : List Nat) (v : Value) : Prop where
  bel : Below w0.heap.size w0 wr
  fn : wr.cell? ⟨w0.heap.size, 0, none⟩ = some (.func (.func 106) #[] #[.pointer (some ⟨mb, 0, none⟩)])
  own : OwnBlk wr (w0.heap.size + 1) 28 1
  box : wr.cell? ⟨w0.heap.size + 1, 0, none⟩ = some v
  row : IntsOwn wr (w0.heap.size + 2) v l

theorem RowInv.later {w0 wr wr' : World} {mb : Nat} {l : List Nat} {v : Value} (h : RowInv w0 wr mb l v) (hb : Below wr.heap.size wr wr') : RowInv w0 wr' mb l v :=
  ⟨blw_trans h.bel hb, (hb.cell (p := ⟨w0.heap.size, 0, none⟩) (by have := h.own.lt; show w0.heap.size < _; omega)).trans h.fn, h.own.later hb, (hb.cell (p := ⟨w0.heap.size + 1, 0, none⟩) h.own.lt).trans h.box, owns_later h.row hb⟩

theorem RowInv.start (w : World) (mb : Nat) :
    RowInv w ((w.alloc (.cells #[.func (.func 106) #[] #[.pointer (some ⟨mb, 0, none⟩)]] 174)).alloc (.cells #[.slice none 0 0] 28)) mb [] (.slice none 0 0) :=
  ⟨blw_alloc (blw_alloc (Below.refl _ _) _) _, by simp, by have := OwnBlk.alloc (w.alloc (.cells #[.func (.func 106) #[] #[.pointer (some ⟨mb, 0, none⟩)]] 174)) #[.slice none 0 0] 28 1 rfl; simpa using this, by simp, World.ownsRow_nil _ _ _ _⟩

theorem owns_sc {w : World} {lo : Nat} {e : TypeId} {size : Nat} {v : Value} {n : Nat} {xs : List Value} (h : w.ownsRow lo e size v n xs) {B : Nat} (hB : B < lo) (o : Nat) (x : Value) : (w.setCell ⟨B, o, none⟩ x).ownsRow lo e size v n xs := by
  refine ⟨h.1, ?_⟩
  rcases h.2 with hn | ⟨g, cap, cur, rfl, hb, hg, rest⟩
  · exact Or.inl hn
  · refine Or.inr ⟨g, cap, cur, rfl, hb, ?_, rest⟩
    rw [Below.heap_setCell w ⟨B, o, none⟩ x g (by show g ≠ B; omega)]
    exact hg

/-- The row grows by one. -/
theorem RowInv.put {w0 wr w1 w2 : World} {mb : Nat} {l : List Nat} {v v' : Value} {q : Nat} (h : RowInv w0 wr mb l v) (hb : Below wr.heap.size wr w1) (ho : w2.ownsRow (w0.heap.size + 2) 3 1 v' (l.length + 1) (l.map (fun n => Value.int .i64 (n : Nat)) ++ [.int .i64 (q : Nat)])) (hg : w1.grownBy w2 v.ownBlock) :
    RowInv w0 (w2.setCell ⟨w0.heap.size + 1, 0, none⟩ v') mb (l ++ [q]) v' := by
  have h1 := h.later hb
  have hr : ∀ k, v.ownBlock = some k → w0.heap.size + 2 ≤ k := fun k hk => (h1.row.lt k hk).1
  have hl1 := h1.own.lt
  have hbel : Below w0.heap.size w0 w2 := Below.grown h1.bel hg h1.bel.size (fun k hk => by have := hr k hk; omega)
  have hblk : ∀ k, k < w0.heap.size + 2 → w2.heap[k]? = w1.heap[k]? := fun k hk => hg.block k (by omega) (fun e => by have := hr k e.symm; omega)
  have hown : OwnBlk w2 (w0.heap.size + 1) 28 1 := by
    obtain ⟨cs, c1, c2⟩ := h1.own
    exact ⟨cs, by rw [hblk _ (by omega)]; exact c1, c2⟩
  refine ⟨hbel.setCell (p := ⟨w0.heap.size + 1, 0, none⟩) (by show _ ≤ w0.heap.size + 1; omega) _, ?_, hown.setCell 0 _, sc_eq hown 0 (by omega) _, ?_⟩
  · rw [sc_ne _ _ _ _ _ _ (Or.inl (by omega))]
    exact (World.cell?_of_block (a := ⟨w0.heap.size, 0, none⟩) (hblk _ (by show w0.heap.size < _; omega))).trans h1.fn
  · have := owns_sc ho (B := w0.heap.size + 1) (by omega) 0 v'
    unfold IntsOwn
    rw [List.length_append, List.map_append]
    exact this

theorem RowInv.mid {w0 wr w1 w2 : World} {mb : Nat} {l : List Nat} {v : Value} (h : RowInv w0 wr mb l v) (hb : Below wr.heap.size wr w1) (hg : w1.grownBy w2 v.ownBlock) : OwnBlk w2 (w0.heap.size + 1) 28 1 ∧ w2.cell? ⟨w0.heap.size + 1, 0, none⟩ = some v := by
  have h1 := h.later hb
  have hr : ∀ k, v.ownBlock = some k → w0.heap.size + 2 ≤ k := fun k hk => (h1.row.lt k hk).1
  have hl1 := h1.own.lt
  have hblk : ∀ k, k < w0.heap.size + 2 → w2.heap[k]? = w1.heap[k]? := fun k hk => hg.block k (by omega) (fun e => by have := hr k e.symm; omega)
  refine ⟨?_, (World.cell?_of_block (a := ⟨w0.heap.size + 1, 0, none⟩) (hblk _ (by show w0.heap.size + 1 < _; omega))).trans h1.box⟩
  obtain ⟨cs, c1, c2⟩ := h1.own
  exact ⟨cs, by rw [hblk _ (by omega)]; exact c1, c2⟩

set_option maxRecDepth 8000 in
set_option maxHeartbeats 4000000 in
theorem rowI (tb c mb n : Nat) (rd : Nat → List Nat) (w : World) (hn : n ≤ 1048576) (htb : tb < w.heap.size) (ht : ∀ i, i < n → w.cell? ⟨tb, i, none⟩ = some (.int .i64 (i : Nat)))
    (hrd : ∀ (x : Nat) W, x < n → Below w.heap.size w W → Calls Tryz.prog 106 #[.int .i64 x, .pointer (some ⟨mb, 0, none⟩)] W fun e w' => (∃ a n c, e = .returned (.slice a n c) ∧ IntsAt w' (.slice a n c) (rd x)) ∧ Below W.heap.size W w') :
    Calls Tryz.prog 105 #[.slice (some ⟨tb, 0, none⟩) n c, .func (.func 106) #[] #[.pointer (some ⟨mb, 0, none⟩)]] w fun e w' => (∃ a k d, e = .returned (.tuple #[.slice a k d, .bool (rowOk rd n)]) ∧ (rowOk rd n = true → IntsAt w' (.slice a k d) (rowG rd n n))) ∧ Below w.heap.size w w' := by
  have HT : Hid (∀ i, i < n → w.cell? ⟨tb, i, none⟩ = some (.int .i64 (i : Nat))) := ht
  have HD : Hid (∀ (x : Nat) W, x < n → Below w.heap.size w W → Calls Tryz.prog 106 #[.int .i64 x, .pointer (some ⟨mb, 0, none⟩)] W fun e w' => (∃ a n c, e = .returned (.slice a n c) ∧ IntsAt w' (.slice a n c) (rd x)) ∧ Below W.heap.size W w') := hrd
  obtain ⟨i0, hi, hz0, hz1, hz2⟩ := info_parts Tryz.info3
  have HI0 : Hid (RowInv w ((w.alloc (.cells #[.func (.func 106) #[] #[.pointer (some ⟨mb, 0, none⟩)]] 174)).alloc (.cells #[.slice none 0 0] 28)) mb [] (.slice none 0 0)) := RowInv.start w mb
  clear ht hrd
  go_enter Tryz.func105, Tryz.ntmps105
  go_wp2
  go_loopw [12] (fun i wr => ∃ j : Nat, j ≤ n ∧ i = .int .i64 j ∧ (rowG rd n j).length = j ∧ ∃ v, RowInv w wr mb (rowG rd n j) v) (fun i _ => n - (intOf i).toNat)
  case atStart => exact ⟨0, Nat.zero_le _, rfl, rfl, _, HI0.out⟩
  case round =>
    obtain ⟨j, hj, rfl, hlen, v, hI⟩ := hrel
    obtain ⟨a, d, hv⟩ := owns_slice hI.row
    rw [hlen] at hv
    subst hv
    have HI : Hid (RowInv w wr mb (rowG rd n j) (.slice a j d)) := hI
    have HL : Hid ((rowG rd n j).length = j) := hlen
    clear hI hlen HI0
    have hb0 := HI.out.box
    have hbl := HI.out.own.lt
    by_cases hlt : j < n
    · have HX : Hid (Calls Tryz.prog 123 #[.slice (some ⟨tb, 0, none⟩) n c, .func (.func 119) #[] #[.pointer (some ⟨w.heap.size + 1, 0, none⟩), .pointer (some ⟨w.heap.size, 0, none⟩)]] wr fun e w' => (∃ r : Int, e = .returned (.int .i64 r) ∧ r = (if nextG rd n (rowG rd n j) < n then (nextG rd n (rowG rd n j) : Int) else -1)) ∧ Below wr.heap.size wr w') := by
        have hat : IntsAt wr (.slice (some ⟨tb, 0, none⟩) n c) (List.range n) := Or.inr ⟨tb, c, by simp, Nat.lt_of_lt_of_le htb HI.out.bel.size, by simpa using hn, fun i hi => by
          have hi' : i < n := by simpa using hi
          rw [(HI.out.bel.cell (p := ⟨tb, i, none⟩) htb).trans (HT.out i hi')]
          simp [hi']⟩
        have := indexFuncR (w.heap.size + 1) w.heap.size (readyG rd (rowG rd n j)) _ (List.range n) wr hat (fun x W hx hW => by
          have hx' : x < n := by simpa using hx
          have h2 := HI.out.later hW
          exact readyI (w.heap.size + 1) w.heap.size mb (rowG rd n j) (rd x) a j d x W h2.own.lt h2.box (h2.row.at_ (by rw [HL.out]; omega)) h2.fn (HD.out x W hx' h2.bel))
        rw [List.length_range] at this
        exact this
      obtain ⟨q, hq⟩ : ∃ q, q = nextG rd n (rowG rd n j) := ⟨_, rfl⟩
      have HQ : Hid (q = nextG rd n (rowG rd n j)) := hq
      rw [← hq] at HX
      clear hq
      go_wp2_with fail
      refine HX.out.mono ?_
      rintro e w2 ⟨⟨r, rfl, hr⟩, hb2⟩
      have HB2 : Hid (Below wr.heap.size wr w2) := hb2
      have hb0' := (HI.out.later hb2).box
      have hbl' := (HI.out.later hb2).own.lt
      have hfz := (HI.out.later hb2).own.frozen
      clear hb2 HX
      by_cases hqn : q < n
      · rw [if_pos hqn] at hr
        subst hr
        have hcq : w2.cell? ⟨tb, q, none⟩ = some (.int .i64 (q : Nat)) := ((blw_trans HI.out.bel HB2.out).cell (p := ⟨tb, q, none⟩) htb).trans (HT.out q hqn)
        have htb2 : tb < w2.heap.size := Nat.lt_of_lt_of_le htb (blw_trans HI.out.bel HB2.out).size
        have HNx : Hid (rowG rd n (j + 1) = rowG rd n j ++ [q]) := by have := rowG_next rd n j (by rw [← HQ.out]; exact hqn); rw [← HQ.out] at this; exact this
        have HO : Hid (∀ W, Below w2.heap.size w2 W → W.ownsRow (w.heap.size + 2) 3 1 (.slice a j d) j ((rowG rd n j).map fun n => Value.int .i64 (n : Nat))) := by
          intro W hW
          have := (HI.out.later (blw_trans HB2.out hW)).row
          unfold IntsOwn at this
          rw [HL.out] at this
          exact this
        go_wp2_with fail
        go_region_law (refine step_append_own rfl (.tmp 19) (.tmp 24) 28 rfl (w.heap.size + 2) 3 i0 (.int .i64 0) 1 8 Tryz.underlying28 hi hz0 hz1 hz2 rfl (by decide) (.slice a j d) j _ (by simp [Act.eval]) (HO.out _ (by repeat (first | exact Below.refl _ _ | refine blw_alloc ?_ _ | refine Below.drew ?_))) ⟨w2.heap.size, 0, none⟩ 1 1 [.int .i64 (q : Nat)] (by simp [Act.eval]) rfl (by intro k u hk; cases k with | zero => (simp at hk; subst hk; simp [Addr.add]) | succ k => simp at hk) (by intro u hu; simp at hu; subst hu; rfl) (by unfold maxLen; omega) (by omega) (by simp; omega) ?_; intro v' w' hown hgrow; obtain ⟨a', d', hv'⟩ := owns_slice hown; subst hv'; have HNI : Hid (RowInv w (w'.setCell ⟨w.heap.size + 1, 0, none⟩ (.slice a' (j + 1) d')) mb (rowG rd n (j + 1)) (.slice a' (j + 1) d')) := (by show RowInv _ _ _ _ _; rw [HNx.out]; exact HI.out.put (by refine blw_trans HB2.out ?_; repeat (first | exact Below.refl _ _ | refine blw_alloc ?_ _ | refine Below.drew ?_)) (by rw [HL.out]; exact hown) hgrow); have hmid := HI.out.mid (by refine blw_trans HB2.out ?_; repeat (first | exact Below.refl _ _ | refine blw_alloc ?_ _ | refine Below.drew ?_)) hgrow; have hfw := hmid.1.frozen; have hcw := hmid.2; clear hmid hown hgrow)
        all_goals
          go_wp2
          go_roundw
          case rel => exact ⟨j + 1, by omega, by go_num, by rw [HNx.out, List.length_append, HL.out]; rfl, _, HNI.out⟩
          case measure => simp [intOf]; omega
      · rw [if_neg hqn] at hr
        subst hr
        have HF : Hid (rowOk rd n = false) := rowOk_false rd n j hlt (by rw [← HQ.out]; omega)
        go_wp2
        go_ret2
        exact ⟨⟨none, 0, 0, by rw [HF.out]; rfl, fun h => by rw [HF.out] at h; cases h⟩, blw_trans HI.out.bel HB2.out⟩
    · obtain rfl : j = n := by omega
      have HF : Hid (rowOk rd j = true) := by show rowOk rd j = true; unfold rowOk; rw [HL.out]; simp
      go_wp2
      go_ret2
      exact ⟨⟨a, j, d, by rw [HF.out]; rfl, fun _ => HI.out.row.at_ (by rw [HL.out]; omega)⟩, HI.out.bel⟩

end Go.Proofs.YtkjkklcflpchlaaGreat

namespace Go.Proofs.YtkjkklcflpchlaaGreat
open Go.RowKit Go.Deep

structure Need where
  place : Nat
  anyth : Bool
  is_ : ByteArray

structure Mng where
  field : Nat
  needs : List Need
  put : ByteArray
  frm : Nat

def Mng.none : Mng := ⟨0, [], ByteArray.empty, 0⟩

def needCells (n : Need) : List Value := [.int .i64 (n.place : Nat), .bool n.anyth, .string n.is_]
def needsCells (ns : List Need) : List Value := ns.flatMap needCells

theorem needsCells_len : ∀ ns : List Need, (needsCells ns).length = ns.length * 3
  | [] => rfl
  | n :: ns => by
    have := needsCells_len ns
    unfold needsCells at this ⊢
    rw [List.flatMap_cons, List.length_append, this, List.length_cons]
    simp [needCells]; omega

theorem needsCells_at : ∀ (ns : List Need) (i j : Nat), i < ns.length → j < 3 → (needsCells ns)[i * 3 + j]? = (needCells (ns.getD i ⟨0, false, ByteArray.empty⟩))[j]?
  | [], i, _, h, _ => absurd h (Nat.not_lt_zero i)
  | n :: ns, 0, j, _, hj => by
    unfold needsCells
    rw [List.flatMap_cons, Nat.zero_mul, Nat.zero_add, List.getElem?_append_left (by simp [needCells]; omega)]
    rfl
  | n :: ns, i + 1, j, h, hj => by
    have := needsCells_at ns i j (by simpa using h) hj
    unfold needsCells at this ⊢
    rw [List.flatMap_cons, List.getElem?_append_right (by simp [needCells]; omega)]
    rw [show (i + 1) * 3 + j - (needCells n).length = i * 3 + j by simp [needCells]; omega, this]
    simp

/-- The needs of a mending in a block of the call's own. -/
def NeedsOwn (w : World) (lo : Nat) (v : Value) (ns : List Need) : Prop := w.ownsRow lo 173 3 v ns.length (needsCells ns)

theorem owns_low {w : World} {lo lo' : Nat} {e : TypeId} {size : Nat} {v : Value} {n : Nat} {xs : List Value} (h : w.ownsRow lo e size v n xs) (hl : lo' ≤ lo) : w.ownsRow lo' e size v n xs := by
  refine ⟨h.1, ?_⟩
  rcases h.2 with hn | ⟨g, cap, cur, rfl, hb, rest⟩
  · exact Or.inl hn
  · exact Or.inr ⟨g, cap, cur, rfl, by omega, rest⟩

theorem owns_ne {w : World} {lo : Nat} {e : TypeId} {size : Nat} {v : Value} {n : Nat} {xs : List Value} (h : w.ownsRow lo e size v n xs) {k : Nat} {t : TypeId} {m : Nat} (ho : OwnBlk w k t m) (ht : t ≠ e) : some k ≠ v.ownBlock := by
  intro hk
  rcases h.2 with ⟨rfl, _⟩ | ⟨g, cap, cur, rfl, _, hg, _⟩
  · cases hk
  · injection hk with hk
    subst hk
    obtain ⟨cs, h1, _⟩ := ho
    have hg' : w.heap[k]? = some (.cells cur e (0, 0)) := hg
    rw [h1] at hg'
    injection hg' with hq
    injection hq with _ q2 _
    exact ht q2

theorem OwnBlk.grown {w w' : World} {row : Option Nat} {b : Nat} {t : TypeId} {m : Nat} (h : OwnBlk w b t m) (hg : w.grownBy w' row) (hne : some b ≠ row) : OwnBlk w' b t m := by
  have hl := h.lt
  obtain ⟨cs, h1, h2⟩ := h
  exact ⟨cs, by rw [hg.block b hl hne]; exact h1, h2⟩

theorem grown_cell {w w' : World} {row : Option Nat} {b o : Nat} (hl : b < w.heap.size) (hg : w.grownBy w' row) (hne : some b ≠ row) : w'.cell? ⟨b, o, none⟩ = w.cell? ⟨b, o, none⟩ :=
  World.cell?_of_block (a := ⟨b, o, none⟩) (hg.block b hl hne)

theorem owns_sc' {w : World} {lo : Nat} {e : TypeId} {size : Nat} {v : Value} {n : Nat} {xs : List Value} (h : w.ownsRow lo e size v n xs) {B : Nat} (hB : some B ≠ v.ownBlock) (o : Nat) (x : Value) : (w.setCell ⟨B, o, none⟩ x).ownsRow lo e size v n xs := by
  refine ⟨h.1, ?_⟩
  rcases h.2 with hn | ⟨g, cap, cur, rfl, hb, hg, rest⟩
  · exact Or.inl hn
  · refine Or.inr ⟨g, cap, cur, rfl, hb, ?_, rest⟩
    rw [Below.heap_setCell w ⟨B, o, none⟩ x g (by show g ≠ B; intro e; subst e; exact hB rfl)]
    exact hg

theorem owns_grown {w w' : World} {lo : Nat} {e e' : TypeId} {size : Nat} {v v' : Value} {n : Nat} {xs : List Value} {lo' size' n' : Nat} {xs' : List Value} (h : w.ownsRow lo e size v n xs) (h' : w.ownsRow lo' e' size' v' n' xs') (hne : e ≠ e') (hg : w.grownBy w' v'.ownBlock) : w'.ownsRow lo e size v n xs := by
  refine h.kept hg ?_
  rcases h.2 with ⟨rfl, _⟩ | ⟨g, cap, cur, rfl, _, hgg, _, _, hs, _⟩
  · exact Or.inl rfl
  · exact Or.inr (owns_ne h' (k := g) (t := e) (m := cur.size) ⟨cur, hgg, rfl⟩ hne)

/-- What is kept while a mending is made. -/
structure MInv (w0 wr : World) (B : Nat) (m : Mnd) (x : Mng) (v : Value) : Prop where
  bel : Below w0.heap.size w0 wr
  box : OwnBlk wr w0.heap.size 104 6
  cells : MndIs wr w0.heap.size 0 m
  res : OwnBlk wr (w0.heap.size + 1) 171 4
  lt : w0.heap.size + 1 < B
  own : OwnBlk wr B 171 4
  c0 : wr.cell? ⟨B, 0, none⟩ = some (.int .i64 (x.field : Nat))
  c1 : wr.cell? ⟨B, 1, none⟩ = some v
  c2 : wr.cell? ⟨B, 2, none⟩ = some (.string x.put)
  c3 : wr.cell? ⟨B, 3, none⟩ = some (.int .i64 (x.frm : Nat))
  needs : NeedsOwn wr (w0.heap.size + 2) v x.needs

theorem MInv.later {w0 wr w' : World} {B : Nat} {m : Mnd} {x : Mng} {v : Value} (h : MInv w0 wr B m x v) (hb : Below wr.heap.size wr w') : MInv w0 w' B m x v := by
  have hl := h.own.lt
  have c : ∀ o, w'.cell? ⟨B, o, none⟩ = wr.cell? ⟨B, o, none⟩ := fun o => hb.cell (p := ⟨B, o, none⟩) hl
  exact ⟨blw_trans h.bel hb, h.box.later hb, h.cells.later hb h.box.lt, h.res.later hb, h.lt, h.own.later hb, (c _).trans h.c0, (c _).trans h.c1, (c _).trans h.c2, (c _).trans h.c3, owns_later h.needs hb⟩

theorem MInv.setFrm {w0 wr : World} {B : Nat} {m : Mnd} {x : Mng} {v : Value} (h : MInv w0 wr B m x v) (k : Nat) : MInv w0 (wr.setCell ⟨B, 3, none⟩ (.int .i64 (k : Nat))) B m ⟨x.field, x.needs, x.put, k⟩ v := by
  have hl := h.lt
  have c : ∀ b o, (b ≠ B ∨ o ≠ 3) → (wr.setCell ⟨B, 3, none⟩ (.int .i64 (k : Nat))).cell? ⟨b, o, none⟩ = wr.cell? ⟨b, o, none⟩ := fun b o hb => sc_ne _ _ _ _ _ _ hb
  have q := h.cells
  exact ⟨h.bel.setCell (p := ⟨B, 3, none⟩) (by show _ ≤ B; omega) _, h.box.sc_other (by omega) _ _, ⟨(c _ _ (by omega)).trans q.c0, (c _ _ (by omega)).trans q.c1, (c _ _ (by omega)).trans q.c2, (c _ _ (by omega)).trans q.c3, (c _ _ (by omega)).trans q.c4, (c _ _ (by omega)).trans q.c5, q.sized⟩, h.res.sc_other (by omega) _ _, h.lt, h.own.setCell _ _, (c _ _ (by omega)).trans h.c0, (c _ _ (by omega)).trans h.c1, (c _ _ (by omega)).trans h.c2, sc_eq h.own 3 (by omega) _, owns_sc' h.needs (owns_ne h.needs h.own (by decide)) _ _⟩

/-- Behind an append, ahead of the store: the cells are as they were. -/
theorem MInv.mid {w0 wr w1 w2 : World} {B : Nat} {m : Mnd} {x : Mng} {v : Value} (h : MInv w0 wr B m x v) (hb : Below wr.heap.size wr w1) (hg : w1.grownBy w2 v.ownBlock) : OwnBlk w2 B 171 4 ∧ w2.cell? ⟨B, 1, none⟩ = some v := by
  have h1 := h.later hb
  have hne := owns_ne h1.needs h1.own (by decide)
  exact ⟨h1.own.grown hg hne, (grown_cell h1.own.lt hg hne).trans h1.c1⟩

theorem MInv.add {w0 wr w1 w2 : World} {B : Nat} {m : Mnd} {x : Mng} {v v' : Value} {nd : Need} (h : MInv w0 wr B m x v) (hb : Below wr.heap.size wr w1) (ho : w2.ownsRow (w0.heap.size + 2) 173 3 v' (x.needs.length + 1) (needsCells x.needs ++ needCells nd)) (hg : w1.grownBy w2 v.ownBlock) :
    MInv w0 (w2.setCell ⟨B, 1, none⟩ v') B m ⟨x.field, x.needs ++ [nd], x.put, x.frm⟩ v' := by
  have h1 := h.later hb
  have nB := owns_ne h1.needs h1.own (by decide)
  have nx := owns_ne h1.needs h1.box (by decide)
  have nr := owns_ne h1.needs h1.res (by decide)
  have hl := h.lt
  have oB := h1.own.grown hg nB
  have c : ∀ o, o ≠ 1 → (w2.setCell ⟨B, 1, none⟩ v').cell? ⟨B, o, none⟩ = w1.cell? ⟨B, o, none⟩ := fun o ho => (sc_ne _ _ _ _ _ _ (by omega)).trans (grown_cell h1.own.lt hg nB)
  have d : ∀ o, (w2.setCell ⟨B, 1, none⟩ v').cell? ⟨w0.heap.size, o, none⟩ = w1.cell? ⟨w0.heap.size, o, none⟩ := fun o => (sc_ne _ _ _ _ _ _ (by omega)).trans (grown_cell h1.box.lt hg nx)
  have hr : ∀ k, v.ownBlock = some k → w0.heap.size ≤ k := fun k hk => by have := (World.ownsRow.lt h1.needs k hk).1; omega
  have hbel : Below w0.heap.size w0 w2 := Below.grown h1.bel hg h1.bel.size hr
  have q := h1.cells
  refine ⟨hbel.setCell (p := ⟨B, 1, none⟩) (by show _ ≤ B; omega) _, (h1.box.grown hg nx).sc_other (by omega) _ _, ⟨(d _).trans q.c0, (d _).trans q.c1, (d _).trans q.c2, (d _).trans q.c3, (d _).trans q.c4, (d _).trans q.c5, q.sized⟩, (h1.res.grown hg nr).sc_other (by omega) _ _, hl, oB.setCell _ _, (c _ (by omega)).trans h1.c0, sc_eq oB 1 (by omega) _, (c _ (by omega)).trans h1.c2, (c _ (by omega)).trans h1.c3, ?_⟩
  have := owns_sc' ho (owns_ne ho oB (by decide)) 1 v'
  unfold NeedsOwn needsCells at *
  rw [List.length_append, List.flatMap_append]
  simpa using this

end Go.Proofs.YtkjkklcflpchlaaGreat

namespace Go.Proofs.YtkjkklcflpchlaaGreat
open Go.RowKit Go.Deep

def needsOf (fs : List Fld) (m : Mnd) : List Need :=
  (if Pl.isEmp m.whn = true then [] else [⟨nameAt fs m.whn, false, m.is_⟩]) ++ (if Pl.isEmp m.frm = true then [] else [⟨nameAt fs m.frm, true, ByteArray.empty⟩])
def mngOf (fs : List Fld) (m : Mnd) : Mng := ⟨nameAt fs m.field, needsOf fs m, m.put, if Pl.isEmp m.frm = true then 0 else nameAt fs m.frm⟩

theorem Tryz.info173 : (Tryz.prog.info? 173).map (fun i => (i.zero, i.size, i.bytes)) = some (some (.agg #[.int .i64 0, .bool false, .string ByteArray.empty]), 3, 32) := by kernel_rfl

structure MPre (w0 wr : World) (m : Mnd) : Prop where
  bel : Below w0.heap.size w0 wr
  box : OwnBlk wr w0.heap.size 104 6
  cells : MndIs wr w0.heap.size 0 m
  res : OwnBlk wr (w0.heap.size + 1) 171 4

theorem MPre.later {w0 wr w' : World} {m : Mnd} (h : MPre w0 wr m) (hb : Below wr.heap.size wr w') : MPre w0 w' m :=
  ⟨blw_trans h.bel hb, h.box.later hb, h.cells.later hb h.box.lt, h.res.later hb⟩

theorem MPre.start (w : World) (m : Mnd) (hs : m.sized) :
    MPre w ((w.alloc (.cells #[.string m.kind, .string m.field, .string m.whn, .string m.is_, .string m.put, .string m.frm] 104)).alloc (.cells #[.int .i64 0, .slice none 0 0, .string ⟨#[]⟩, .int .i64 0] 171)) m := by
  have hO := OwnBlk.alloc w #[.string m.kind, .string m.field, .string m.whn, .string m.is_, .string m.put, .string m.frm] 104 6 rfl
  have hR := OwnBlk.alloc (w.alloc (.cells #[.string m.kind, .string m.field, .string m.whn, .string m.is_, .string m.put, .string m.frm] 104)) #[.int .i64 0, .slice none 0 0, .string ⟨#[]⟩, .int .i64 0] 171 4 rfl
  refine ⟨blw_alloc (blw_alloc (Below.refl _ _) _) _, hO.past _, ⟨by simp, by simp, by simp, by simp, by simp, by simp, hs⟩, ?_⟩
  simpa using hR

theorem MPre.out {w0 wr : World} {m : Mnd} (h : MPre w0 wr m) (f : Nat) :
    MInv w0 (wr.alloc (.cells #[.int .i64 (f : Nat), .slice none 0 0, .string m.put, .int .i64 0] 171)) wr.heap.size m ⟨f, [], m.put, 0⟩ (.slice none 0 0) := by
  have hb : Below wr.heap.size wr (wr.alloc (.cells #[.int .i64 (f : Nat), .slice none 0 0, .string m.put, .int .i64 0] 171)) := blw_alloc (Below.refl _ _) _
  have h1 := h.later hb
  exact ⟨h1.bel, h1.box, h1.cells, h1.res, h.res.lt, OwnBlk.alloc wr _ 171 4 rfl, by simp, by simp, by simp, by simp, World.ownsRow_nil _ _ _ _⟩

theorem MPre.put {w0 wr : World} {m : Mnd} (h : MPre w0 wr m) (f B : Nat) (hB : w0.heap.size + 1 < B) (ho : OwnBlk wr B 171 4) :
    MInv w0 (puts wr B 0 0 [.int .i64 (f : Nat), .slice none 0 0, .string m.put, .int .i64 0]) B m ⟨f, [], m.put, 0⟩ (.slice none 0 0) := by
  have c : ∀ o, (puts wr B 0 0 [.int .i64 (f : Nat), .slice none 0 0, .string m.put, .int .i64 0]).cell? ⟨w0.heap.size, o, none⟩ = wr.cell? ⟨w0.heap.size, o, none⟩ := fun o => puts_other B 0 _ o _ wr 0 (by omega)
  have q := h.cells
  have d := fun i hi => puts_at 0 [.int .i64 (f : Nat), .slice none 0 0, .string m.put, .int .i64 0] wr 0 ho (by simp) i hi
  exact ⟨puts_below (a := w0) _ (by omega) _ _ _ h.bel, own_puts_other 0 (by omega) _ wr 0 h.box, ⟨(c _).trans q.c0, (c _).trans q.c1, (c _).trans q.c2, (c _).trans q.c3, (c _).trans q.c4, (c _).trans q.c5, q.sized⟩, own_puts_other 0 (by omega) _ wr 0 h.res, hB, puts_own 0 _ _ _ ho, d 0 (by simp), d 1 (by simp), d 2 (by simp), d 3 (by simp), World.ownsRow_nil _ _ _ _⟩

theorem MInv.fin {w0 wr : World} {B : Nat} {m : Mnd} {x : Mng} {v : Value} (h : MInv w0 wr B m x v) (vs : List Value) (hv : vs = [.int .i64 (x.field : Nat), v, .string x.put, .int .i64 (x.frm : Nat)]) :
    (∀ i, i < 4 → (puts wr (w0.heap.size + 1) 0 0 vs).cell? ⟨w0.heap.size + 1, i, none⟩ = vs[i]?) ∧ NeedsOwn (puts wr (w0.heap.size + 1) 0 0 vs) w0.heap.size v x.needs ∧ Below w0.heap.size w0 (puts wr (w0.heap.size + 1) 0 0 vs) := by
  have hl : vs.length = 4 := by rw [hv]; rfl
  refine ⟨fun i hi => ?_, ?_, puts_below (a := w0) 0 (by omega) _ _ _ h.bel⟩
  · have := puts_at 0 vs wr 0 h.res (by omega) i (by omega)
    simpa using this
  · have : ∀ (us : List Value) (W : World) (j : Nat), W.ownsRow (w0.heap.size + 2) 173 3 v x.needs.length (needsCells x.needs) → (puts W (w0.heap.size + 1) 0 j us).ownsRow (w0.heap.size + 2) 173 3 v x.needs.length (needsCells x.needs) := by
      intro us
      induction us with
      | nil => intro W j h; exact h
      | cons u us ih => intro W j h; exact ih _ _ (owns_sc h (by omega) _ _)
    exact owns_low (this vs wr 0 h.needs) (by omega)

set_option maxRecDepth 8000 in
set_option maxHeartbeats 4000000 in
theorem mendingOf (fb : Nat) (fs : List Fld) (m : Mnd) (w : World) (h : FldsIn w fb fs) (hm : m.sized) (h0 : nameAt fs m.field < fs.length) (h1 : Pl.isEmp m.whn = false → nameAt fs m.whn < fs.length) (h2 : Pl.isEmp m.frm = false → nameAt fs m.frm < fs.length) :
    Calls Tryz.prog 107 #[.slice (some ⟨fb, 0, none⟩) fs.length fs.length, .agg #[.string m.kind, .string m.field, .string m.whn, .string m.is_, .string m.put, .string m.frm]] w fun e w' =>
      (∃ a n c, e = .returned (.agg #[.int .i64 ((mngOf fs m).field : Nat), .slice a n c, .string m.put, .int .i64 ((mngOf fs m).frm : Nat)]) ∧ NeedsOwn w' w.heap.size (.slice a n c) (needsOf fs m)) ∧ Below w.heap.size w w' := by
  have HF : Hid (∀ k W, Below w.heap.size w W → nameAt fs k < fs.length → Calls Tryz.prog 115 #[.slice (some ⟨fb, 0, none⟩) fs.length fs.length, .string k] W fun e w' => e = .returned (.int .i64 (nameAt fs k : Nat)) ∧ Below W.heap.size W w') := by
    intro k W hW hk
    refine (fieldPlace fb fs k W (h.later hW)).mono ?_
    rintro e w' ⟨⟨r, rfl, hr⟩, hb⟩
    rw [if_pos hk] at hr
    subst hr
    exact ⟨rfl, hb⟩
  have HP0 : Hid (MPre w ((w.alloc (.cells #[.string m.kind, .string m.field, .string m.whn, .string m.is_, .string m.put, .string m.frm] 104)).alloc (.cells #[.int .i64 0, .slice none 0 0, .string ⟨#[]⟩, .int .i64 0] 171)) m) := MPre.start w m hm
  have HN : Hid (nameAt fs m.field < fs.length ∧ (Pl.isEmp m.whn = false → nameAt fs m.whn < fs.length) ∧ (Pl.isEmp m.frm = false → nameAt fs m.frm < fs.length)) := ⟨h0, h1, h2⟩
  obtain ⟨i0, hi, hz0, hz1, hz2⟩ := info_parts Tryz.info173
  clear h hm h0 h1 h2
  obtain ⟨pf, hpf⟩ : ∃ pf, pf = nameAt fs m.field := ⟨_, rfl⟩
  have HPF : Hid (pf = nameAt fs m.field) := hpf
  clear hpf
  go_enter Tryz.func107, Tryz.ntmps107
  go_upto_region 1 with fail
  obtain ⟨W0, hW0⟩ : ∃ W0, W0 = ((w.alloc (.cells #[.string m.kind, .string m.field, .string m.whn, .string m.is_, .string m.put, .string m.frm] 104)).alloc (.cells #[.int .i64 0, .slice none 0 0, .string ⟨#[]⟩, .int .i64 0] 171)) := ⟨_, rfl⟩
  rw [← hW0] at HP0 ⊢
  clear hW0
  have e1 : W0.cell? ⟨w.heap.size, 1, none⟩ = some (.string m.field) := HP0.out.cells.c1
  have e4 : W0.cell? ⟨w.heap.size, 4, none⟩ = some (.string m.put) := HP0.out.cells.c4
  have hl0 : w.heap.size < W0.heap.size := HP0.out.box.lt
  have HB0 : Hid (Below w.heap.size w W0) := HP0.out.bel
  go_cut [5] (fun s wx => ∃ B, s = .pointer (some ⟨B, 0, none⟩) ∧ MInv w wx B m ⟨pf, [], m.put, 0⟩ (.slice none 0 0))
  case first =>
    have HF' : Hid (∀ W, Below w.heap.size w W → Calls Tryz.prog 115 #[.slice (some ⟨fb, 0, none⟩) fs.length fs.length, .string m.field] W fun e w' => e = .returned (.int .i64 (pf : Nat)) ∧ Below W.heap.size W w') := by
      intro W hW
      have := HF.out m.field W hW HN.out.1
      rw [← HPF.out] at this
      exact this
    clear HF
    go_region_with (go_at_call 115; refine (HF'.out _ ?_).mono ?_; (repeat (first | exact HB0.out | refine blw_alloc ?_ _ | refine Below.drew ?_)); rintro e w2 ⟨rfl, hb2⟩; have HP2 : Hid (MPre w w2 m) := HP0.out.later (blw_trans (by repeat (first | exact Below.refl _ _ | refine blw_alloc ?_ _ | refine Below.drew ?_)) hb2); have d4 : w2.cell? ⟨w.heap.size, 4, none⟩ = some (.string m.put) := HP2.out.cells.c4; have hl2 : w.heap.size < w2.heap.size := HP2.out.box.lt; (try have oA : Hid (OwnBlk w2 W0.heap.size 171 4) := OwnBlk.later (by exact OwnBlk.alloc W0 _ 171 4 rfl) hb2); (try (have hfA := oA.out.frozen; have zA := oA.out.lt; obtain ⟨y0, hy0⟩ := oA.out.cell 0 (by omega); obtain ⟨y1, hy1⟩ := oA.out.cell 1 (by omega); obtain ⟨y2, hy2⟩ := oA.out.cell 2 (by omega); obtain ⟨y3, hy3⟩ := oA.out.cell 3 (by omega))); clear hb2)
    all_goals (go_wp2_with fail; go_meet)
    all_goals
      refine ⟨_, rfl, ?_⟩
      first
      | exact HP2.out.out pf
      | exact HP2.out.put pf _ HP0.out.res.lt oA.out
  case rest =>
  obtain ⟨B, rfl, hM⟩ := hcut
  rename World => w1
  have HM : Hid (MInv w w1 B m ⟨pf, [], m.put, 0⟩ (.slice none 0 0)) := hM
  clear hM e1 e4 hl0 HB0 HP0
  have q1 := HM.out.c1
  have q0 := HM.out.c0
  have q2 := HM.out.c2
  have q3 := HM.out.c3
  have m2 : w1.cell? ⟨w.heap.size, 2, none⟩ = some (.string m.whn) := HM.out.cells.c2
  have m3 : w1.cell? ⟨w.heap.size, 3, none⟩ = some (.string m.is_) := HM.out.cells.c3
  have m5 : w1.cell? ⟨w.heap.size, 5, none⟩ = some (.string m.frm) := HM.out.cells.c5
  have zx := HM.out.box.lt
  have zr := HM.out.res.lt
  have zB := HM.out.own.lt
  have fB := HM.out.own.frozen
  have fr := HM.out.res.frozen
  obtain ⟨y0, hy0⟩ := HM.out.res.cell 0 (by omega)
  obtain ⟨y1, hy1⟩ := HM.out.res.cell 1 (by omega)
  obtain ⟨y2, hy2⟩ := HM.out.res.cell 2 (by omega)
  obtain ⟨y3, hy3⟩ := HM.out.res.cell 3 (by omega)
  have hBn : B ≠ w.heap.size := by have := HM.out.lt; omega
  have hBr : B ≠ w.heap.size + 1 := by have := HM.out.lt; omega
  cases hw : m.whn.toList.isEmpty
  · have HW : Hid (nameAt fs m.whn < fs.length) := HN.out.2.1 hw
    obtain ⟨pw, hpw⟩ : ∃ pw, pw = nameAt fs m.whn := ⟨_, rfl⟩
    go_wp2_with fail
    refine (HF.out m.whn _ HM.out.bel HW.out).mono ?_
    rintro e w2 ⟨rfl, hb2⟩
    rw [← hpw]
    have HPW : Hid (pw = nameAt fs m.whn) := hpw
    have HM2 : Hid (MInv w w2 B m ⟨pf, [], m.put, 0⟩ (.slice none 0 0)) := HM.out.later hb2
    clear hb2 hpw q0 q1 q2 q3 m2 m3 m5 zx zr zB fB fr hy0 hy1 hy2 hy3 HM
    have q1 := HM2.out.c1
    have q0 := HM2.out.c0
    have q2 := HM2.out.c2
    have q3 := HM2.out.c3
    have m2 : w2.cell? ⟨w.heap.size, 2, none⟩ = some (.string m.whn) := HM2.out.cells.c2
    have m3 : w2.cell? ⟨w.heap.size, 3, none⟩ = some (.string m.is_) := HM2.out.cells.c3
    have m5 : w2.cell? ⟨w.heap.size, 5, none⟩ = some (.string m.frm) := HM2.out.cells.c5
    have zx := HM2.out.box.lt
    have zr := HM2.out.res.lt
    have zB := HM2.out.own.lt
    have fB := HM2.out.own.frozen
    have fr := HM2.out.res.frozen
    obtain ⟨y0, hy0⟩ := HM2.out.res.cell 0 (by omega)
    obtain ⟨y1, hy1⟩ := HM2.out.res.cell 1 (by omega)
    obtain ⟨y2, hy2⟩ := HM2.out.res.cell 2 (by omega)
    obtain ⟨y3, hy3⟩ := HM2.out.res.cell 3 (by omega)
    go_wp2_with (at_builtin; refine wpList_append_own _ rfl _ _ 169 rfl (w.heap.size + 2) 173 i0 (.agg #[.int .i64 0, .bool false, .string ByteArray.empty]) 3 32 Tryz.underlying169 hi hz0 hz1 hz2 rfl (by decide) (.slice none 0 0) 0 (needsCells []) rfl ?c0a ⟨w2.heap.size, 0, none⟩ 1 1 (needCells ⟨pw, false, m.is_⟩) rfl ?c1a ?c2a ?c3a ?c4a ?c5a ?c6a ?_)
    case c0a => exact World.ownsRow_nil _ _ _ _
    case c1a => rfl
    case c2a =>
      intro j u hj
      match j, hj with
      | 0, hj => simp [needCells] at hj; subst hj; simp [Addr.add]
      | 1, hj => simp [needCells] at hj; subst hj; simp [Addr.add]
      | 2, hj => simp [needCells] at hj; subst hj; simp [Addr.add]
      | k + 3, hj => simp [needCells] at hj
    case c3a => intro u hu; simp [needCells] at hu; rcases hu with rfl | rfl | rfl <;> rfl
    case c4a => unfold maxLen; omega
    case c5a => omega
    case c6a => first | omega | (simp; omega)
    intro v' w3 hown hgrow _
    obtain ⟨a1, d1, hv1'⟩ := owns_slice hown
    have hv1 : v' = .slice a1 1 d1 := hv1'
    clear hv1'
    subst hv1
    have hbx : Below w2.heap.size w2 (w2.alloc (.cells #[.int .i64 (pw : Nat), .bool false, .string m.is_] 173)) := blw_alloc (Below.refl _ _) _
    have HM3 : Hid (MInv w (w3.setCell ⟨B, 1, none⟩ (.slice a1 1 d1)) B m ⟨pf, [⟨pw, false, m.is_⟩], m.put, 0⟩ (.slice a1 1 d1)) := HM2.out.add hbx hown hgrow
    have hmid := HM2.out.mid hbx hgrow
    have g1 := hmid.2
    have gf := hmid.1.frozen
    have gz := hmid.1.lt
    clear hmid hown hgrow q0 q1 q2 q3 m2 m3 m5 zx zr zB fB fr hy0 hy1 hy2 hy3 HM2 hbx
    go_upto_region 5 with fail
    obtain ⟨W3, hW3⟩ : ∃ W3, W3 = w3.setCell ⟨B, 1, none⟩ (.slice a1 1 d1) := ⟨_, rfl⟩
    rw [← hW3] at HM3 ⊢
    clear hW3 g1 gf gz
    have q1 := HM3.out.c1
    have q0 := HM3.out.c0
    have q2 := HM3.out.c2
    have q3 := HM3.out.c3
    have m2 : W3.cell? ⟨w.heap.size, 2, none⟩ = some (.string m.whn) := HM3.out.cells.c2
    have m3 : W3.cell? ⟨w.heap.size, 3, none⟩ = some (.string m.is_) := HM3.out.cells.c3
    have m5 : W3.cell? ⟨w.heap.size, 5, none⟩ = some (.string m.frm) := HM3.out.cells.c5
    have zx := HM3.out.box.lt
    have zr := HM3.out.res.lt
    have zB := HM3.out.own.lt
    have fB := HM3.out.own.frozen
    have fr := HM3.out.res.frozen
    obtain ⟨y0, hy0⟩ := HM3.out.res.cell 0 (by omega)
    obtain ⟨y1, hy1⟩ := HM3.out.res.cell 1 (by omega)
    obtain ⟨y2, hy2⟩ := HM3.out.res.cell 2 (by omega)
    obtain ⟨y3, hy3⟩ := HM3.out.res.cell 3 (by omega)
    cases hf : m.frm.toList.isEmpty
    · have HFR : Hid (nameAt fs m.frm < fs.length) := HN.out.2.2 hf
      obtain ⟨pr, hpr⟩ : ∃ pr, pr = nameAt fs m.frm := ⟨_, rfl⟩
      go_wp2_with fail
      refine (HF.out m.frm _ HM3.out.bel HFR.out).mono ?_
      rintro e w4 ⟨rfl, hb4⟩
      rw [← hpr]
      have HPR : Hid (pr = nameAt fs m.frm) := hpr
      have HM4 : Hid (MInv w w4 B m ⟨pf, [⟨pw, false, m.is_⟩], m.put, 0⟩ (.slice a1 1 d1)) := HM3.out.later hb4
      have HM5 : Hid (MInv w (w4.setCell ⟨B, 3, none⟩ (.int .i64 (pr : Nat))) B m ⟨pf, [⟨pw, false, m.is_⟩], m.put, pr⟩ (.slice a1 1 d1)) := HM4.out.setFrm pr
      clear hb4 hpr q0 q1 q2 q3 m2 m3 m5 zx zr zB fB fr hy0 hy1 hy2 hy3 HM3
      have q1 := HM4.out.c1
      have q0 := HM4.out.c0
      have q2 := HM4.out.c2
      have q3 := HM4.out.c3
      have m2 : w4.cell? ⟨w.heap.size, 2, none⟩ = some (.string m.whn) := HM4.out.cells.c2
      have m3 : w4.cell? ⟨w.heap.size, 3, none⟩ = some (.string m.is_) := HM4.out.cells.c3
      have m5 : w4.cell? ⟨w.heap.size, 5, none⟩ = some (.string m.frm) := HM4.out.cells.c5
      have zx := HM4.out.box.lt
      have zr := HM4.out.res.lt
      have zB := HM4.out.own.lt
      have fB := HM4.out.own.frozen
      have fr := HM4.out.res.frozen
      obtain ⟨y0, hy0⟩ := HM4.out.res.cell 0 (by omega)
      obtain ⟨y1, hy1⟩ := HM4.out.res.cell 1 (by omega)
      obtain ⟨y2, hy2⟩ := HM4.out.res.cell 2 (by omega)
      obtain ⟨y3, hy3⟩ := HM4.out.res.cell 3 (by omega)
      go_upto_region 7 with fail
      obtain ⟨W5, hW5⟩ : ∃ W5, W5 = w4.setCell ⟨B, 3, none⟩ (.int .i64 (pr : Nat)) := ⟨_, rfl⟩
      rw [← hW5] at HM5 ⊢
      clear hW5 q0 q1 q2 q3 m2 m3 m5 zx zr zB fB fr hy0 hy1 hy2 hy3 HM4
      have q1 := HM5.out.c1
      have q0 := HM5.out.c0
      have q2 := HM5.out.c2
      have q3 := HM5.out.c3
      have m2 : W5.cell? ⟨w.heap.size, 2, none⟩ = some (.string m.whn) := HM5.out.cells.c2
      have m3 : W5.cell? ⟨w.heap.size, 3, none⟩ = some (.string m.is_) := HM5.out.cells.c3
      have m5 : W5.cell? ⟨w.heap.size, 5, none⟩ = some (.string m.frm) := HM5.out.cells.c5
      have zx := HM5.out.box.lt
      have zr := HM5.out.res.lt
      have zB := HM5.out.own.lt
      have fB := HM5.out.own.frozen
      have fr := HM5.out.res.frozen
      obtain ⟨y0, hy0⟩ := HM5.out.res.cell 0 (by omega)
      obtain ⟨y1, hy1⟩ := HM5.out.res.cell 1 (by omega)
      obtain ⟨y2, hy2⟩ := HM5.out.res.cell 2 (by omega)
      obtain ⟨y3, hy3⟩ := HM5.out.res.cell 3 (by omega)
      go_wp2_with (at_builtin; refine wpList_append_own _ rfl _ _ 169 rfl (w.heap.size + 2) 173 i0 (.agg #[.int .i64 0, .bool false, .string ByteArray.empty]) 3 32 Tryz.underlying169 hi hz0 hz1 hz2 rfl (by decide) (.slice a1 1 d1) 1 (needsCells [⟨pw, false, m.is_⟩]) rfl ?c0b ⟨W5.heap.size, 0, none⟩ 1 1 (needCells ⟨pr, true, ByteArray.empty⟩) rfl ?c1b ?c2b ?c3b ?c4b ?c5b ?c6b ?_)
      case c0b => exact owns_later HM5.out.needs (blw_alloc (Below.refl _ _) _)
      case c1b => rfl
      case c2b =>
        intro j u hj
        match j, hj with
        | 0, hj => simp [needCells] at hj; subst hj; simp
        | 1, hj => simp [needCells] at hj; subst hj; simp
        | 2, hj => simp [needCells] at hj; subst hj; simp; rfl
        | k + 3, hj => simp [needCells] at hj
      case c3b => intro u hu; simp [needCells] at hu; rcases hu with rfl | rfl | rfl <;> rfl
      case c4b => unfold maxLen; omega
      case c6b => first | omega | (simp; omega)
      intro v' w6 hown hgrow _
      obtain ⟨a6, d6, hv6'⟩ := owns_slice hown
      have hv6 : v' = .slice a6 2 d6 := hv6'
      clear hv6'
      subst hv6
      have hbx : Below W5.heap.size W5 (W5.alloc (.cells #[.int .i64 (pr : Nat), .bool true, .string ⟨#[]⟩] 173)) := blw_alloc (Below.refl _ _) _
      have HM6 : Hid (MInv w (w6.setCell ⟨B, 1, none⟩ (.slice a6 2 d6)) B m ⟨pf, [⟨pw, false, m.is_⟩] ++ [⟨pr, true, ByteArray.empty⟩], m.put, pr⟩ (.slice a6 2 d6)) := HM5.out.add hbx hown hgrow
      have hmid := HM5.out.mid hbx hgrow
      have g1 := hmid.2
      have gf := hmid.1.frozen
      have gz := hmid.1.lt
      clear hmid hown hgrow q0 q1 q2 q3 m2 m3 m5 zx zr zB fB fr hy0 hy1 hy2 hy3 HM5 hbx
      go_upto_region 8 with fail
      obtain ⟨W6, hW6⟩ : ∃ W6, W6 = w6.setCell ⟨B, 1, none⟩ (.slice a6 2 d6) := ⟨_, rfl⟩
      rw [← hW6] at HM6 ⊢
      clear hW6 g1 gf gz
      have q1 := HM6.out.c1
      have q0 := HM6.out.c0
      have q2 := HM6.out.c2
      have q3 := HM6.out.c3
      have m2 : W6.cell? ⟨w.heap.size, 2, none⟩ = some (.string m.whn) := HM6.out.cells.c2
      have m3 : W6.cell? ⟨w.heap.size, 3, none⟩ = some (.string m.is_) := HM6.out.cells.c3
      have m5 : W6.cell? ⟨w.heap.size, 5, none⟩ = some (.string m.frm) := HM6.out.cells.c5
      have zx := HM6.out.box.lt
      have zr := HM6.out.res.lt
      have zB := HM6.out.own.lt
      have fB := HM6.out.own.frozen
      have fr := HM6.out.res.frozen
      obtain ⟨y0, hy0⟩ := HM6.out.res.cell 0 (by omega)
      obtain ⟨y1, hy1⟩ := HM6.out.res.cell 1 (by omega)
      obtain ⟨y2, hy2⟩ := HM6.out.res.cell 2 (by omega)
      obtain ⟨y3, hy3⟩ := HM6.out.res.cell 3 (by omega)
      go_wp2
      obtain ⟨r, t1, t2⟩ := HM6.out.fin [.int .i64 (pf : Nat), .slice a6 2 d6, .string m.put, .int .i64 (pr : Nat)] rfl
      have r0 : ((((W6.setCell ⟨w.heap.size + 1, 0, none⟩ (.int .i64 (pf : Nat))).setCell ⟨w.heap.size + 1, 1, none⟩ (.slice a6 2 d6)).setCell ⟨w.heap.size + 1, 2, none⟩ (.string m.put)).setCell ⟨w.heap.size + 1, 3, none⟩ (.int .i64 (pr : Nat))).cell? ⟨w.heap.size + 1, 0, none⟩ = some (.int .i64 (pf : Nat)) := r 0 (by omega)
      have r1 : ((((W6.setCell ⟨w.heap.size + 1, 0, none⟩ (.int .i64 (pf : Nat))).setCell ⟨w.heap.size + 1, 1, none⟩ (.slice a6 2 d6)).setCell ⟨w.heap.size + 1, 2, none⟩ (.string m.put)).setCell ⟨w.heap.size + 1, 3, none⟩ (.int .i64 (pr : Nat))).cell? ⟨w.heap.size + 1, 1, none⟩ = some (.slice a6 2 d6) := r 1 (by omega)
      have r2 : ((((W6.setCell ⟨w.heap.size + 1, 0, none⟩ (.int .i64 (pf : Nat))).setCell ⟨w.heap.size + 1, 1, none⟩ (.slice a6 2 d6)).setCell ⟨w.heap.size + 1, 2, none⟩ (.string m.put)).setCell ⟨w.heap.size + 1, 3, none⟩ (.int .i64 (pr : Nat))).cell? ⟨w.heap.size + 1, 2, none⟩ = some (.string m.put) := r 2 (by omega)
      have r3 : ((((W6.setCell ⟨w.heap.size + 1, 0, none⟩ (.int .i64 (pf : Nat))).setCell ⟨w.heap.size + 1, 1, none⟩ (.slice a6 2 d6)).setCell ⟨w.heap.size + 1, 2, none⟩ (.string m.put)).setCell ⟨w.heap.size + 1, 3, none⟩ (.int .i64 (pr : Nat))).cell? ⟨w.heap.size + 1, 3, none⟩ = some (.int .i64 (pr : Nat)) := r 3 (by omega)
      (try simp at r0 r1 r2 r3)
      refine bodyPost_ret (v := .agg #[.int .i64 (pf : Nat), .slice a6 2 d6, .string m.put, .int .i64 (pr : Nat)]) (by simp only [results, Tryz.results107]; simp [go_sem, r0, r1, r2, r3]) rfl ⟨⟨a6, 2, d6, ?_, ?_⟩, t2⟩
      · simp only [mngOf]; rw [← HPF.out]; simp [Pl.isEmp, hf, HPR.out]
      · have e : needsOf fs m = [⟨pw, false, m.is_⟩] ++ [⟨pr, true, ByteArray.empty⟩] := by simp [needsOf, Pl.isEmp, hw, hf, HPW.out, HPR.out]
        rw [e]; exact t1
    · obtain ⟨pr, hpr⟩ : ∃ pr : Nat, pr = 0 := ⟨_, rfl⟩
      have HPR : Hid (pr = 0) := hpr
      clear hpr
      go_wp2
      obtain ⟨r, t1, t2⟩ := HM3.out.fin [.int .i64 (pf : Nat), .slice a1 1 d1, .string m.put, .int .i64 (0 : Nat)] rfl
      have r0 : ((((W3.setCell ⟨w.heap.size + 1, 0, none⟩ (.int .i64 (pf : Nat))).setCell ⟨w.heap.size + 1, 1, none⟩ (.slice a1 1 d1)).setCell ⟨w.heap.size + 1, 2, none⟩ (.string m.put)).setCell ⟨w.heap.size + 1, 3, none⟩ (.int .i64 (0 : Nat))).cell? ⟨w.heap.size + 1, 0, none⟩ = some (.int .i64 (pf : Nat)) := r 0 (by omega)
      have r1 : ((((W3.setCell ⟨w.heap.size + 1, 0, none⟩ (.int .i64 (pf : Nat))).setCell ⟨w.heap.size + 1, 1, none⟩ (.slice a1 1 d1)).setCell ⟨w.heap.size + 1, 2, none⟩ (.string m.put)).setCell ⟨w.heap.size + 1, 3, none⟩ (.int .i64 (0 : Nat))).cell? ⟨w.heap.size + 1, 1, none⟩ = some (.slice a1 1 d1) := r 1 (by omega)
      have r2 : ((((W3.setCell ⟨w.heap.size + 1, 0, none⟩ (.int .i64 (pf : Nat))).setCell ⟨w.heap.size + 1, 1, none⟩ (.slice a1 1 d1)).setCell ⟨w.heap.size + 1, 2, none⟩ (.string m.put)).setCell ⟨w.heap.size + 1, 3, none⟩ (.int .i64 (0 : Nat))).cell? ⟨w.heap.size + 1, 2, none⟩ = some (.string m.put) := r 2 (by omega)
      have r3 : ((((W3.setCell ⟨w.heap.size + 1, 0, none⟩ (.int .i64 (pf : Nat))).setCell ⟨w.heap.size + 1, 1, none⟩ (.slice a1 1 d1)).setCell ⟨w.heap.size + 1, 2, none⟩ (.string m.put)).setCell ⟨w.heap.size + 1, 3, none⟩ (.int .i64 (0 : Nat))).cell? ⟨w.heap.size + 1, 3, none⟩ = some (.int .i64 (0 : Nat)) := r 3 (by omega)
      (try simp at r0 r1 r2 r3)
      refine bodyPost_ret (v := .agg #[.int .i64 (pf : Nat), .slice a1 1 d1, .string m.put, .int .i64 (0 : Nat)]) (by simp only [results, Tryz.results107]; simp [go_sem, r0, r1, r2, r3]) rfl ⟨⟨a1, 1, d1, ?_, ?_⟩, t2⟩
      · simp only [mngOf]; rw [← HPF.out]; simp [Pl.isEmp, hf]
      · have e : needsOf fs m = [⟨pw, false, m.is_⟩] := by simp [needsOf, Pl.isEmp, hw, hf, HPW.out]
        rw [e]; exact t1
  · obtain ⟨pw, hpw⟩ : ∃ pw : Nat, pw = 0 := ⟨_, rfl⟩
    have HPW : Hid (pw = 0) := hpw
    clear hpw
    go_upto_region 5 with fail
    cases hf : m.frm.toList.isEmpty
    · have HFR : Hid (nameAt fs m.frm < fs.length) := HN.out.2.2 hf
      obtain ⟨pr, hpr⟩ : ∃ pr, pr = nameAt fs m.frm := ⟨_, rfl⟩
      go_wp2_with fail
      refine (HF.out m.frm _ HM.out.bel HFR.out).mono ?_
      rintro e w4 ⟨rfl, hb4⟩
      rw [← hpr]
      have HPR : Hid (pr = nameAt fs m.frm) := hpr
      have HM4 : Hid (MInv w w4 B m ⟨pf, [], m.put, 0⟩ (.slice none 0 0)) := HM.out.later hb4
      have HM5 : Hid (MInv w (w4.setCell ⟨B, 3, none⟩ (.int .i64 (pr : Nat))) B m ⟨pf, [], m.put, pr⟩ (.slice none 0 0)) := HM4.out.setFrm pr
      clear hb4 hpr q0 q1 q2 q3 m2 m3 m5 zx zr zB fB fr hy0 hy1 hy2 hy3 HM
      have q1 := HM4.out.c1
      have q0 := HM4.out.c0
      have q2 := HM4.out.c2
      have q3 := HM4.out.c3
      have m2 : w4.cell? ⟨w.heap.size, 2, none⟩ = some (.string m.whn) := HM4.out.cells.c2
      have m3 : w4.cell? ⟨w.heap.size, 3, none⟩ = some (.string m.is_) := HM4.out.cells.c3
      have m5 : w4.cell? ⟨w.heap.size, 5, none⟩ = some (.string m.frm) := HM4.out.cells.c5
      have zx := HM4.out.box.lt
      have zr := HM4.out.res.lt
      have zB := HM4.out.own.lt
      have fB := HM4.out.own.frozen
      have fr := HM4.out.res.frozen
      obtain ⟨y0, hy0⟩ := HM4.out.res.cell 0 (by omega)
      obtain ⟨y1, hy1⟩ := HM4.out.res.cell 1 (by omega)
      obtain ⟨y2, hy2⟩ := HM4.out.res.cell 2 (by omega)
      obtain ⟨y3, hy3⟩ := HM4.out.res.cell 3 (by omega)
      go_upto_region 7 with fail
      obtain ⟨W5, hW5⟩ : ∃ W5, W5 = w4.setCell ⟨B, 3, none⟩ (.int .i64 (pr : Nat)) := ⟨_, rfl⟩
      rw [← hW5] at HM5 ⊢
      clear hW5 q0 q1 q2 q3 m2 m3 m5 zx zr zB fB fr hy0 hy1 hy2 hy3 HM4
      have q1 := HM5.out.c1
      have q0 := HM5.out.c0
      have q2 := HM5.out.c2
      have q3 := HM5.out.c3
      have m2 : W5.cell? ⟨w.heap.size, 2, none⟩ = some (.string m.whn) := HM5.out.cells.c2
      have m3 : W5.cell? ⟨w.heap.size, 3, none⟩ = some (.string m.is_) := HM5.out.cells.c3
      have m5 : W5.cell? ⟨w.heap.size, 5, none⟩ = some (.string m.frm) := HM5.out.cells.c5
      have zx := HM5.out.box.lt
      have zr := HM5.out.res.lt
      have zB := HM5.out.own.lt
      have fB := HM5.out.own.frozen
      have fr := HM5.out.res.frozen
      obtain ⟨y0, hy0⟩ := HM5.out.res.cell 0 (by omega)
      obtain ⟨y1, hy1⟩ := HM5.out.res.cell 1 (by omega)
      obtain ⟨y2, hy2⟩ := HM5.out.res.cell 2 (by omega)
      obtain ⟨y3, hy3⟩ := HM5.out.res.cell 3 (by omega)
      go_wp2_with (at_builtin; refine wpList_append_own _ rfl _ _ 169 rfl (w.heap.size + 2) 173 i0 (.agg #[.int .i64 0, .bool false, .string ByteArray.empty]) 3 32 Tryz.underlying169 hi hz0 hz1 hz2 rfl (by decide) (.slice none 0 0) 0 (needsCells []) rfl ?c0d ⟨W5.heap.size, 0, none⟩ 1 1 (needCells ⟨pr, true, ByteArray.empty⟩) rfl ?c1d ?c2d ?c3d ?c4d ?c5d ?c6d ?_)
      case c0d => exact owns_later HM5.out.needs (blw_alloc (Below.refl _ _) _)
      case c1d => rfl
      case c2d =>
        intro j u hj
        match j, hj with
        | 0, hj => simp [needCells] at hj; subst hj; simp
        | 1, hj => simp [needCells] at hj; subst hj; simp
        | 2, hj => simp [needCells] at hj; subst hj; simp; rfl
        | k + 3, hj => simp [needCells] at hj
      case c3d => intro u hu; simp [needCells] at hu; rcases hu with rfl | rfl | rfl <;> rfl
      case c4d => unfold maxLen; omega
      case c6d => first | omega | (simp; omega)
      intro v' w6 hown hgrow _
      obtain ⟨a6, d6, hv6'⟩ := owns_slice hown
      have hv6 : v' = .slice a6 1 d6 := hv6'
      clear hv6'
      subst hv6
      have hbx : Below W5.heap.size W5 (W5.alloc (.cells #[.int .i64 (pr : Nat), .bool true, .string ⟨#[]⟩] 173)) := blw_alloc (Below.refl _ _) _
      have HM6 : Hid (MInv w (w6.setCell ⟨B, 1, none⟩ (.slice a6 1 d6)) B m ⟨pf, [] ++ [⟨pr, true, ByteArray.empty⟩], m.put, pr⟩ (.slice a6 1 d6)) := HM5.out.add hbx hown hgrow
      have hmid := HM5.out.mid hbx hgrow
      have g1 := hmid.2
      have gf := hmid.1.frozen
      have gz := hmid.1.lt
      clear hmid hown hgrow q0 q1 q2 q3 m2 m3 m5 zx zr zB fB fr hy0 hy1 hy2 hy3 HM5 hbx
      go_upto_region 8 with fail
      obtain ⟨W6, hW6⟩ : ∃ W6, W6 = w6.setCell ⟨B, 1, none⟩ (.slice a6 1 d6) := ⟨_, rfl⟩
      rw [← hW6] at HM6 ⊢
      clear hW6 g1 gf gz
      have q1 := HM6.out.c1
      have q0 := HM6.out.c0
      have q2 := HM6.out.c2
      have q3 := HM6.out.c3
      have m2 : W6.cell? ⟨w.heap.size, 2, none⟩ = some (.string m.whn) := HM6.out.cells.c2
      have m3 : W6.cell? ⟨w.heap.size, 3, none⟩ = some (.string m.is_) := HM6.out.cells.c3
      have m5 : W6.cell? ⟨w.heap.size, 5, none⟩ = some (.string m.frm) := HM6.out.cells.c5
      have zx := HM6.out.box.lt
      have zr := HM6.out.res.lt
      have zB := HM6.out.own.lt
      have fB := HM6.out.own.frozen
      have fr := HM6.out.res.frozen
      obtain ⟨y0, hy0⟩ := HM6.out.res.cell 0 (by omega)
      obtain ⟨y1, hy1⟩ := HM6.out.res.cell 1 (by omega)
      obtain ⟨y2, hy2⟩ := HM6.out.res.cell 2 (by omega)
      obtain ⟨y3, hy3⟩ := HM6.out.res.cell 3 (by omega)
      go_wp2
      obtain ⟨r, t1, t2⟩ := HM6.out.fin [.int .i64 (pf : Nat), .slice a6 1 d6, .string m.put, .int .i64 (pr : Nat)] rfl
      have r0 : ((((W6.setCell ⟨w.heap.size + 1, 0, none⟩ (.int .i64 (pf : Nat))).setCell ⟨w.heap.size + 1, 1, none⟩ (.slice a6 1 d6)).setCell ⟨w.heap.size + 1, 2, none⟩ (.string m.put)).setCell ⟨w.heap.size + 1, 3, none⟩ (.int .i64 (pr : Nat))).cell? ⟨w.heap.size + 1, 0, none⟩ = some (.int .i64 (pf : Nat)) := r 0 (by omega)
      have r1 : ((((W6.setCell ⟨w.heap.size + 1, 0, none⟩ (.int .i64 (pf : Nat))).setCell ⟨w.heap.size + 1, 1, none⟩ (.slice a6 1 d6)).setCell ⟨w.heap.size + 1, 2, none⟩ (.string m.put)).setCell ⟨w.heap.size + 1, 3, none⟩ (.int .i64 (pr : Nat))).cell? ⟨w.heap.size + 1, 1, none⟩ = some (.slice a6 1 d6) := r 1 (by omega)
      have r2 : ((((W6.setCell ⟨w.heap.size + 1, 0, none⟩ (.int .i64 (pf : Nat))).setCell ⟨w.heap.size + 1, 1, none⟩ (.slice a6 1 d6)).setCell ⟨w.heap.size + 1, 2, none⟩ (.string m.put)).setCell ⟨w.heap.size + 1, 3, none⟩ (.int .i64 (pr : Nat))).cell? ⟨w.heap.size + 1, 2, none⟩ = some (.string m.put) := r 2 (by omega)
      have r3 : ((((W6.setCell ⟨w.heap.size + 1, 0, none⟩ (.int .i64 (pf : Nat))).setCell ⟨w.heap.size + 1, 1, none⟩ (.slice a6 1 d6)).setCell ⟨w.heap.size + 1, 2, none⟩ (.string m.put)).setCell ⟨w.heap.size + 1, 3, none⟩ (.int .i64 (pr : Nat))).cell? ⟨w.heap.size + 1, 3, none⟩ = some (.int .i64 (pr : Nat)) := r 3 (by omega)
      (try simp at r0 r1 r2 r3)
      refine bodyPost_ret (v := .agg #[.int .i64 (pf : Nat), .slice a6 1 d6, .string m.put, .int .i64 (pr : Nat)]) (by simp only [results, Tryz.results107]; simp [go_sem, r0, r1, r2, r3]) rfl ⟨⟨a6, 1, d6, ?_, ?_⟩, t2⟩
      · simp only [mngOf]; rw [← HPF.out]; simp [Pl.isEmp, hf, HPR.out]
      · have e : needsOf fs m = [] ++ [⟨pr, true, ByteArray.empty⟩] := by simp [needsOf, Pl.isEmp, hw, hf, HPR.out]
        rw [e]; exact t1
    · obtain ⟨pr, hpr⟩ : ∃ pr : Nat, pr = 0 := ⟨_, rfl⟩
      have HPR : Hid (pr = 0) := hpr
      clear hpr
      go_wp2
      obtain ⟨r, t1, t2⟩ := HM.out.fin [.int .i64 (pf : Nat), .slice none 0 0, .string m.put, .int .i64 (0 : Nat)] rfl
      have r0 : ((((w1.setCell ⟨w.heap.size + 1, 0, none⟩ (.int .i64 (pf : Nat))).setCell ⟨w.heap.size + 1, 1, none⟩ (.slice none 0 0)).setCell ⟨w.heap.size + 1, 2, none⟩ (.string m.put)).setCell ⟨w.heap.size + 1, 3, none⟩ (.int .i64 (0 : Nat))).cell? ⟨w.heap.size + 1, 0, none⟩ = some (.int .i64 (pf : Nat)) := r 0 (by omega)
      have r1 : ((((w1.setCell ⟨w.heap.size + 1, 0, none⟩ (.int .i64 (pf : Nat))).setCell ⟨w.heap.size + 1, 1, none⟩ (.slice none 0 0)).setCell ⟨w.heap.size + 1, 2, none⟩ (.string m.put)).setCell ⟨w.heap.size + 1, 3, none⟩ (.int .i64 (0 : Nat))).cell? ⟨w.heap.size + 1, 1, none⟩ = some (.slice none 0 0) := r 1 (by omega)
      have r2 : ((((w1.setCell ⟨w.heap.size + 1, 0, none⟩ (.int .i64 (pf : Nat))).setCell ⟨w.heap.size + 1, 1, none⟩ (.slice none 0 0)).setCell ⟨w.heap.size + 1, 2, none⟩ (.string m.put)).setCell ⟨w.heap.size + 1, 3, none⟩ (.int .i64 (0 : Nat))).cell? ⟨w.heap.size + 1, 2, none⟩ = some (.string m.put) := r 2 (by omega)
      have r3 : ((((w1.setCell ⟨w.heap.size + 1, 0, none⟩ (.int .i64 (pf : Nat))).setCell ⟨w.heap.size + 1, 1, none⟩ (.slice none 0 0)).setCell ⟨w.heap.size + 1, 2, none⟩ (.string m.put)).setCell ⟨w.heap.size + 1, 3, none⟩ (.int .i64 (0 : Nat))).cell? ⟨w.heap.size + 1, 3, none⟩ = some (.int .i64 (0 : Nat)) := r 3 (by omega)
      (try simp at r0 r1 r2 r3)
      refine bodyPost_ret (v := .agg #[.int .i64 (pf : Nat), .slice none 0 0, .string m.put, .int .i64 (0 : Nat)]) (by simp only [results, Tryz.results107]; simp [go_sem, r0, r1, r2, r3]) rfl ⟨⟨none, 0, 0, ?_, ?_⟩, t2⟩
      · simp only [mngOf]; rw [← HPF.out]; simp [Pl.isEmp, hf]
      · have e : needsOf fs m = [] := by simp [needsOf, Pl.isEmp, hw, hf]
        rw [e]; exact t1

end Go.Proofs.YtkjkklcflpchlaaGreat
