/-
  Walks over rows of numbers: what is in them.
-/
import Derived.Test.YtbannihkgglpaaaGreatWalkJ
import Derived.Test.YtbannihkgglpaaaGreatOwn
namespace Go.Proofs.YtbannihkgglpaaaGreat
open Go.RowKit Go.Deep

/-- A slice of numbers. -/
def IntsAt (w : World) (v : Value) (l : List Nat) : Prop :=
  (l = [] ∧ ∃ a c, v = .slice a 0 c) ∨ ∃ g c, v = .slice (some ⟨g, 0, none⟩) l.length c ∧ g < w.heap.size ∧ l.length ≤ 1048576 ∧ ∀ i, i < l.length → w.cell? ⟨g, i, none⟩ = some (.int .i64 (l.getD i 0 : Nat))

theorem IntsAt.later {w w' : World} {v : Value} {l : List Nat} (h : IntsAt w v l) (hb : Below w.heap.size w w') : IntsAt w' v l := by
  rcases h with h | ⟨g, c, rfl, h1, h2, h3⟩
  · exact Or.inl h
  · exact Or.inr ⟨g, c, rfl, Nat.lt_of_lt_of_le h1 hb.size, h2, fun i hi => (hb.cell (p := ⟨g, i, none⟩) h1).trans (h3 i hi)⟩

def inRow (l : List Nat) (x : Nat) : Bool := l.contains x

theorem has_take (l : List Nat) (x k : Nat) (hk : k < l.length) (h : inRow (l.take k) x = false) (hx : l.getD k 0 ≠ x) : inRow (l.take (k + 1)) x = false := by
  unfold inRow at h ⊢
  rw [List.take_succ_eq_append_getElem hk]
  have e : l.getD k 0 = l[k] := by simp [hk]
  rw [e] at hx
  rw [Bool.eq_false_iff] at h ⊢
  intro hc
  rw [List.contains_iff_mem, List.mem_append, List.mem_singleton] at hc
  rcases hc with hc | hc
  · exact h (List.contains_iff_mem.2 hc)
  · exact hx hc.symm

theorem has_hit (l : List Nat) (x k : Nat) (hk : k < l.length) (hx : l.getD k 0 = x) : inRow l x = true := by
  unfold inRow
  have e : l.getD k 0 = l[k] := by simp [hk]
  rw [List.contains_iff_mem, ← hx, e]
  exact List.getElem_mem hk

set_option maxHeartbeats 400000 in
theorem indexI_row (g c : Nat) (l : List Nat) (x : Nat) (w : World) (hl : l.length ≤ 1048576)
    (hc : ∀ i, i < l.length → w.cell? ⟨g, i, none⟩ = some (.int .i64 (l.getD i 0 : Nat))) :
    Calls Tryz.prog 101 #[.slice (some ⟨g, 0, none⟩) l.length c, .int .i64 x] w fun e w' => (∃ r : Int, e = .returned (.int .i64 r) ∧ decide (0 ≤ r) = inRow l x) ∧ w = w' := by
  go_enter Tryz.func101, Tryz.ntmps101
  go_wp2
  go_loop [8] (fun i => ∃ k : Nat, k ≤ l.length ∧ i = .int .i64 k ∧ inRow (l.take k) x = false) (fun i => l.length - (intOf i).toNat)
  case atStart => exact ⟨0, Nat.zero_le _, rfl, rfl⟩
  case round =>
    obtain ⟨k, hk, rfl, hall⟩ := hrel
    have HA : Hid (inRow (l.take k) x = false) := hall
    clear hall
    by_cases hlt : k < l.length
    · have hck := hc k hlt
      obtain ⟨y, hy⟩ : ∃ y, y = l.getD k 0 := ⟨_, rfl⟩
      rw [← hy] at hck
      have HY : Hid (y = l.getD k 0) := hy
      clear hy hc
      by_cases hq : (x : Int) = (y : Int)
      · have HQ : Hid (inRow l x = true) := has_hit l x k hlt (by rw [← HY.out]; omega)
        go_wp2
        go_ret
        exact ⟨⟨_, rfl, by rw [HQ.out]; simp⟩, rfl⟩
      · have HQ : Hid (inRow (l.take (k + 1)) x = false) := has_take l x k hlt HA.out (by rw [← HY.out]; omega)
        go_wp2
        go_round
        case rel => exact ⟨k + 1, by omega, by go_num, HQ.out⟩
        case measure => simp [intOf]; omega
    · have HQ : Hid (inRow l x = false) := by have := HA.out; rw [List.take_of_length_le (by omega)] at this; exact this
      go_wp2
      go_ret
      exact ⟨⟨_, rfl, by rw [HQ.out]; simp⟩, rfl⟩

set_option maxHeartbeats 400000 in
theorem indexI_nil (a : Option Addr) (c : Nat) (x : Nat) (w : World) :
    Calls Tryz.prog 101 #[.slice a 0 c, .int .i64 x] w fun e w' => (∃ r : Int, e = .returned (.int .i64 r) ∧ decide (0 ≤ r) = inRow [] x) ∧ w = w' := by
  go_enter Tryz.func101, Tryz.ntmps101
  go_wp2
  refine wp_loop_rounds 1 ?_
  rw [rounds_succ]
  go_wp2
  go_ret
  exact ⟨⟨_, rfl, by simp [inRow]⟩, rfl⟩

theorem indexI (v : Value) (l : List Nat) (x : Nat) (w : World) (h : IntsAt w v l) :
    Calls Tryz.prog 101 #[v, .int .i64 x] w fun e w' => (∃ r : Int, e = .returned (.int .i64 r) ∧ decide (0 ≤ r) = inRow l x) ∧ w = w' := by
  rcases h with ⟨rfl, a, c, rfl⟩ | ⟨g, c, rfl, _, h2, h3⟩
  · exact indexI_nil a c x w
  · exact indexI_row g c l x w h2 h3

set_option maxHeartbeats 400000 in
theorem containsI (v : Value) (l : List Nat) (x : Nat) (w : World) (h : IntsAt w v l) :
    Calls Tryz.prog 92 #[v, .int .i64 x] w fun e w' => e = .returned (.bool (inRow l x)) ∧ w = w' := by
  have HX : Hid (∀ W, W = w → Calls Tryz.prog 101 #[v, .int .i64 x] W fun e w' => (∃ r : Int, e = .returned (.int .i64 r) ∧ decide (0 ≤ r) = inRow l x) ∧ W = w') := by
    intro W e; subst e; exact indexI v l x W h
  clear h
  go_enter Tryz.func92, Tryz.ntmps92
  go_wp2_with fail
  refine (HX.out _ rfl).mono ?_
  rintro e w' ⟨⟨r, rfl, hr⟩, rfl⟩
  have HR : Hid (decide (0 ≤ r) = inRow l x) := hr
  clear hr
  go_wp2
  go_ret
  exact ⟨Pl.ret_bool HR.out, rfl⟩


set_option maxHeartbeats 400000 in
theorem missing (rb : Nat) (a : Option Addr) (n c : Nat) (l : List Nat) (x : Nat) (w : World) (hc : w.cell? ⟨rb, 0, none⟩ = some (.slice a n c)) (h : IntsAt w (.slice a n c) l) :
    Calls Tryz.prog 91 #[.int .i64 x, .pointer (some ⟨rb, 0, none⟩)] w fun e w' => e = .returned (.bool (!inRow l x)) ∧ w = w' := by
  have HX : Hid (IntsAt w (.slice a n c) l) := h
  obtain ⟨R, hR⟩ : ∃ R, R = inRow l x := ⟨_, rfl⟩
  have HR : Hid (R = inRow l x) := hR
  rw [← hR]
  clear h hR
  go_enter Tryz.func91, Tryz.ntmps91
  go_wp2_with fail
  refine (containsI (.slice a n c) l x w HX.out).mono ?_
  rintro e w' ⟨rfl, rfl⟩
  rw [← HR.out]
  go_wp2
  go_ret
  exact ⟨rfl, rfl⟩

/-- The place of the first number of which p holds; the row's length, if there is none. -/
def firstAt (p : Nat → Bool) (l : List Nat) : Nat := l.findIdx p

theorem firstAt_hit (p : Nat → Bool) (l : List Nat) (i : Nat) (hi : i < l.length) (hno : i ≤ firstAt p l) (h : p (l.getD i 0) = true) : firstAt p l = i := by
  have e : l.getD i 0 = l[i] := by simp [hi]
  rw [e] at h
  have : firstAt p l ≤ i := by
    unfold firstAt
    exact Nat.le_of_not_lt fun hlt => by
      have := List.not_of_lt_findIdx hlt
      simp [h] at this
  omega

theorem firstAt_miss (p : Nat → Bool) (l : List Nat) (i : Nat) (hi : i < l.length) (hno : i ≤ firstAt p l) (h : p (l.getD i 0) = false) : i + 1 ≤ firstAt p l := by
  have e : l.getD i 0 = l[i] := by simp [hi]
  rw [e] at h
  by_cases hq : firstAt p l = i
  · exfalso
    have hlt : firstAt p l < l.length := by omega
    have := List.findIdx_getElem (w := hlt)
    unfold firstAt at hq
    simp only [hq] at this
    rw [this] at h
    cases h
  · omega

set_option maxHeartbeats 1000000 in
theorem indexFuncM_row (rb : Nat) (p : Nat → Bool) (g c : Nat) (l : List Nat) (w : World) (hg : g < w.heap.size) (hl : l.length ≤ 1048576)
    (hc : ∀ i, i < l.length → w.cell? ⟨g, i, none⟩ = some (.int .i64 (l.getD i 0 : Nat)))
    (hp : ∀ (x : Nat) W, x ∈ l → Below w.heap.size w W → Calls Tryz.prog 91 #[.int .i64 x, .pointer (some ⟨rb, 0, none⟩)] W fun e w' => e = .returned (.bool (p x)) ∧ Below W.heap.size W w') :
    Calls Tryz.prog 94 #[.slice (some ⟨g, 0, none⟩) l.length c, .func (.func 91) #[] #[.pointer (some ⟨rb, 0, none⟩)]] w fun e w' => (∃ r : Int, e = .returned (.int .i64 r) ∧ r = (if firstAt p l < l.length then (firstAt p l : Int) else -1)) ∧ Below w.heap.size w w' := by
  have HC : Hid (∀ i, i < l.length → w.cell? ⟨g, i, none⟩ = some (.int .i64 (l.getD i 0 : Nat))) := hc
  have HP : Hid (∀ (x : Nat) W, x ∈ l → Below w.heap.size w W → Calls Tryz.prog 91 #[.int .i64 x, .pointer (some ⟨rb, 0, none⟩)] W fun e w' => e = .returned (.bool (p x)) ∧ Below W.heap.size W w') := hp
  obtain ⟨R, hR⟩ : ∃ R : Int, R = (if firstAt p l < l.length then (firstAt p l : Int) else -1) := ⟨_, rfl⟩
  rw [← hR]
  have HR : Hid (R = (if firstAt p l < l.length then (firstAt p l : Int) else -1)) := hR
  clear hc hp hR
  go_enter Tryz.func94, Tryz.ntmps94
  go_wp2
  go_loopw [8] (fun i wr => ∃ q : Nat, q ≤ l.length ∧ i = .int .i64 q ∧ q ≤ firstAt p l ∧ Below w.heap.size w wr) (fun i _ => l.length - (intOf i).toNat)
  case atStart => exact ⟨0, Nat.zero_le _, rfl, Nat.zero_le _, Below.refl _ _⟩
  case round =>
    obtain ⟨q, hq, rfl, hno, hW⟩ := hrel
    have HN : Hid (q ≤ firstAt p l) := hno
    clear hno
    by_cases hlt : q < l.length
    · have c0 := (hW.cell (p := ⟨g, q, none⟩) hg).trans (HC.out q hlt)
      obtain ⟨y, hy⟩ : ∃ y, y = l.getD q 0 := ⟨_, rfl⟩
      rw [← hy] at c0
      have HX : Hid (Calls Tryz.prog 91 #[.int .i64 y, .pointer (some ⟨rb, 0, none⟩)] wr fun e w' => e = .returned (.bool (p y)) ∧ Below wr.heap.size wr w') := HP.out y wr (by rw [hy]; simp [hlt]) hW
      have HG : Hid (y = l.getD q 0) := hy
      have hgw : g < wr.heap.size := Nat.lt_of_lt_of_le hg hW.size
      clear hy
      cases ht : p y
      · have HM : Hid (q + 1 ≤ firstAt p l) := firstAt_miss p l q hlt HN.out (by rw [← HG.out]; exact ht)
        go_wp2_with fail
        refine HX.out.mono ?_
        rintro e w2 ⟨rfl, hb2⟩
        rw [ht]
        have hB2 := blw_trans hW hb2
        clear hb2 c0 hgw
        go_wp2
        go_roundw
        case rel => exact ⟨q + 1, by omega, by go_num, HM.out, hB2⟩
        case measure => simp [intOf]; omega
      · have HM : Hid (firstAt p l = q) := firstAt_hit p l q hlt HN.out (by rw [← HG.out]; exact ht)
        go_wp2_with fail
        refine HX.out.mono ?_
        rintro e w2 ⟨rfl, hb2⟩
        rw [ht]
        have hB2 := blw_trans hW hb2
        clear hb2 c0 hgw
        go_wp2
        go_ret
        exact ⟨⟨_, rfl, by rw [HR.out, HM.out, if_pos hlt]⟩, hB2⟩
    · go_wp2
      go_ret
      exact ⟨⟨_, rfl, by rw [HR.out, if_neg (by have := HN.out; omega)]⟩, hW⟩

set_option maxHeartbeats 400000 in
theorem indexFuncM_nil (rb : Nat) (a : Option Addr) (c : Nat) (w : World) :
    Calls Tryz.prog 94 #[.slice a 0 c, .func (.func 91) #[] #[.pointer (some ⟨rb, 0, none⟩)]] w fun e w' => e = .returned (.int .i64 (-1)) ∧ w = w' := by
  go_enter Tryz.func94, Tryz.ntmps94
  go_wp2
  refine wp_loop_rounds 1 ?_
  rw [rounds_succ]
  go_wp2
  go_ret
  exact ⟨rfl, rfl⟩

theorem indexFuncM (rb : Nat) (p : Nat → Bool) (v : Value) (l : List Nat) (w : World) (h : IntsAt w v l)
    (hp : ∀ (x : Nat) W, x ∈ l → Below w.heap.size w W → Calls Tryz.prog 91 #[.int .i64 x, .pointer (some ⟨rb, 0, none⟩)] W fun e w' => e = .returned (.bool (p x)) ∧ Below W.heap.size W w') :
    Calls Tryz.prog 94 #[v, .func (.func 91) #[] #[.pointer (some ⟨rb, 0, none⟩)]] w fun e w' => (∃ r : Int, e = .returned (.int .i64 r) ∧ r = (if firstAt p l < l.length then (firstAt p l : Int) else -1)) ∧ Below w.heap.size w w' := by
  rcases h with ⟨rfl, a, c, rfl⟩ | ⟨g, c, rfl, h1, h2, h3⟩
  · refine (indexFuncM_nil rb a c w).mono ?_
    rintro e w' ⟨rfl, rfl⟩
    exact ⟨⟨_, rfl, by simp⟩, Below.refl _ _⟩
  · exact indexFuncM_row rb p g c l w h1 h2 h3 hp

set_option maxHeartbeats 1000000 in
theorem indexFuncR_row (rb fb : Nat) (p : Nat → Bool) (g c : Nat) (l : List Nat) (w : World) (hg : g < w.heap.size) (hl : l.length ≤ 1048576)
    (hc : ∀ i, i < l.length → w.cell? ⟨g, i, none⟩ = some (.int .i64 (l.getD i 0 : Nat)))
    (hp : ∀ (x : Nat) W, x ∈ l → Below w.heap.size w W → Calls Tryz.prog 90 #[.int .i64 x, .pointer (some ⟨rb, 0, none⟩), .pointer (some ⟨fb, 0, none⟩)] W fun e w' => e = .returned (.bool (p x)) ∧ Below W.heap.size W w') :
    Calls Tryz.prog 94 #[.slice (some ⟨g, 0, none⟩) l.length c, .func (.func 90) #[] #[.pointer (some ⟨rb, 0, none⟩), .pointer (some ⟨fb, 0, none⟩)]] w fun e w' => (∃ r : Int, e = .returned (.int .i64 r) ∧ r = (if firstAt p l < l.length then (firstAt p l : Int) else -1)) ∧ Below w.heap.size w w' := by
  have HC : Hid (∀ i, i < l.length → w.cell? ⟨g, i, none⟩ = some (.int .i64 (l.getD i 0 : Nat))) := hc
  have HP : Hid (∀ (x : Nat) W, x ∈ l → Below w.heap.size w W → Calls Tryz.prog 90 #[.int .i64 x, .pointer (some ⟨rb, 0, none⟩), .pointer (some ⟨fb, 0, none⟩)] W fun e w' => e = .returned (.bool (p x)) ∧ Below W.heap.size W w') := hp
  obtain ⟨R, hR⟩ : ∃ R : Int, R = (if firstAt p l < l.length then (firstAt p l : Int) else -1) := ⟨_, rfl⟩
  rw [← hR]
  have HR : Hid (R = (if firstAt p l < l.length then (firstAt p l : Int) else -1)) := hR
  clear hc hp hR
  go_enter Tryz.func94, Tryz.ntmps94
  go_wp2
  go_loopw [8] (fun i wr => ∃ q : Nat, q ≤ l.length ∧ i = .int .i64 q ∧ q ≤ firstAt p l ∧ Below w.heap.size w wr) (fun i _ => l.length - (intOf i).toNat)
  case atStart => exact ⟨0, Nat.zero_le _, rfl, Nat.zero_le _, Below.refl _ _⟩
  case round =>
    obtain ⟨q, hq, rfl, hno, hW⟩ := hrel
    have HN : Hid (q ≤ firstAt p l) := hno
    clear hno
    by_cases hlt : q < l.length
    · have c0 := (hW.cell (p := ⟨g, q, none⟩) hg).trans (HC.out q hlt)
      obtain ⟨y, hy⟩ : ∃ y, y = l.getD q 0 := ⟨_, rfl⟩
      rw [← hy] at c0
      have HX : Hid (Calls Tryz.prog 90 #[.int .i64 y, .pointer (some ⟨rb, 0, none⟩), .pointer (some ⟨fb, 0, none⟩)] wr fun e w' => e = .returned (.bool (p y)) ∧ Below wr.heap.size wr w') := HP.out y wr (by rw [hy]; simp [hlt]) hW
      have HG : Hid (y = l.getD q 0) := hy
      have hgw : g < wr.heap.size := Nat.lt_of_lt_of_le hg hW.size
      clear hy
      cases ht : p y
      · have HM : Hid (q + 1 ≤ firstAt p l) := firstAt_miss p l q hlt HN.out (by rw [← HG.out]; exact ht)
        go_wp2_with fail
        refine HX.out.mono ?_
        rintro e w2 ⟨rfl, hb2⟩
        rw [ht]
        have hB2 := blw_trans hW hb2
        clear hb2 c0 hgw
        go_wp2
        go_roundw
        case rel => exact ⟨q + 1, by omega, by go_num, HM.out, hB2⟩
        case measure => simp [intOf]; omega
      · have HM : Hid (firstAt p l = q) := firstAt_hit p l q hlt HN.out (by rw [← HG.out]; exact ht)
        go_wp2_with fail
        refine HX.out.mono ?_
        rintro e w2 ⟨rfl, hb2⟩
        rw [ht]
        have hB2 := blw_trans hW hb2
        clear hb2 c0 hgw
        go_wp2
        go_ret
        exact ⟨⟨_, rfl, by rw [HR.out, HM.out, if_pos hlt]⟩, hB2⟩
    · go_wp2
      go_ret
      exact ⟨⟨_, rfl, by rw [HR.out, if_neg (by have := HN.out; omega)]⟩, hW⟩

set_option maxHeartbeats 400000 in
theorem indexFuncR_nil (rb fb : Nat) (a : Option Addr) (c : Nat) (w : World) :
    Calls Tryz.prog 94 #[.slice a 0 c, .func (.func 90) #[] #[.pointer (some ⟨rb, 0, none⟩), .pointer (some ⟨fb, 0, none⟩)]] w fun e w' => e = .returned (.int .i64 (-1)) ∧ w = w' := by
  go_enter Tryz.func94, Tryz.ntmps94
  go_wp2
  refine wp_loop_rounds 1 ?_
  rw [rounds_succ]
  go_wp2
  go_ret
  exact ⟨rfl, rfl⟩

theorem indexFuncR (rb fb : Nat) (p : Nat → Bool) (v : Value) (l : List Nat) (w : World) (h : IntsAt w v l)
    (hp : ∀ (x : Nat) W, x ∈ l → Below w.heap.size w W → Calls Tryz.prog 90 #[.int .i64 x, .pointer (some ⟨rb, 0, none⟩), .pointer (some ⟨fb, 0, none⟩)] W fun e w' => e = .returned (.bool (p x)) ∧ Below W.heap.size W w') :
    Calls Tryz.prog 94 #[v, .func (.func 90) #[] #[.pointer (some ⟨rb, 0, none⟩), .pointer (some ⟨fb, 0, none⟩)]] w fun e w' => (∃ r : Int, e = .returned (.int .i64 r) ∧ r = (if firstAt p l < l.length then (firstAt p l : Int) else -1)) ∧ Below w.heap.size w w' := by
  rcases h with ⟨rfl, a, c, rfl⟩ | ⟨g, c, rfl, h1, h2, h3⟩
  · refine (indexFuncR_nil rb fb a c w).mono ?_
    rintro e w' ⟨rfl, rfl⟩
    exact ⟨⟨_, rfl, by simp⟩, Below.refl _ _⟩
  · exact indexFuncR_row rb fb p g c l w h1 h2 h3 hp

theorem any_first (p : Nat → Bool) (l : List Nat) : l.any p = decide (firstAt p l < l.length) := by
  unfold firstAt
  rw [Bool.eq_iff_iff, decide_eq_true_eq, List.any_eq_true, List.findIdx_lt_length]

set_option maxHeartbeats 400000 in
theorem containsFuncI (rb : Nat) (p : Nat → Bool) (v : Value) (l : List Nat) (w : World) (h : IntsAt w v l)
    (hp : ∀ (x : Nat) W, x ∈ l → Below w.heap.size w W → Calls Tryz.prog 91 #[.int .i64 x, .pointer (some ⟨rb, 0, none⟩)] W fun e w' => e = .returned (.bool (p x)) ∧ Below W.heap.size W w') :
    Calls Tryz.prog 93 #[v, .func (.func 91) #[] #[.pointer (some ⟨rb, 0, none⟩)]] w fun e w' => e = .returned (.bool (l.any p)) ∧ Below w.heap.size w w' := by
  have HX : Hid (Calls Tryz.prog 94 #[v, .func (.func 91) #[] #[.pointer (some ⟨rb, 0, none⟩)]] w fun e w' => (∃ r : Int, e = .returned (.int .i64 r) ∧ r = (if firstAt p l < l.length then (firstAt p l : Int) else -1)) ∧ Below w.heap.size w w') := indexFuncM rb p v l w h hp
  clear h hp
  go_enter Tryz.func93, Tryz.ntmps93
  go_wp2_with fail
  refine HX.out.mono ?_
  rintro e w' ⟨⟨r, rfl, hr⟩, hb⟩
  have HR : Hid (decide (0 ≤ r) = l.any p) := by
    show decide (0 ≤ r) = l.any p
    rw [any_first, hr]
    by_cases hq : firstAt p l < l.length
    · rw [if_pos hq]; simp [hq]
    · rw [if_neg hq]; simp [hq]
  clear hr
  go_wp2
  go_ret
  exact ⟨Pl.ret_bool HR.out, hb⟩

end Go.Proofs.YtbannihkgglpaaaGreat
