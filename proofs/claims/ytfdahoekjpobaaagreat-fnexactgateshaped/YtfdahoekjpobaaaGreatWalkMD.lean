/-
  Walks: putting things in a row.
-/
import Derived.Deep.RegionLaw
import Derived.Test.YtfdahoekjpobaaaGreatWalkJ
import Derived.Test.YtfdahoekjpobaaaGreatOwn
namespace Go.Proofs.YtfdahoekjpobaaaGreat
open Go.RowKit Go.Deep

/-- A slice of numbers. -/
def IntsAt (w : World) (v : Value) (l : List Nat) : Prop :=
  (l = [] ∧ ∃ a c, v = .slice a 0 c) ∨ ∃ g c, v = .slice (some ⟨g, 0, none⟩) l.length c ∧ g < w.heap.size ∧ l.length ≤ 1048576 ∧ ∀ i, i < l.length → w.cell? ⟨g, i, none⟩ = some (.int .i64 (l.getD i 0 : Nat))

theorem IntsAt.later {w w' : World} {v : Value} {l : List Nat} (h : IntsAt w v l) (hb : Below w.heap.size w w') : IntsAt w' v l := by
  rcases h with h | ⟨g, c, rfl, h1, h2, h3⟩
  · exact Or.inl h
  · exact Or.inr ⟨g, c, rfl, Nat.lt_of_lt_of_le h1 hb.size, h2, fun i hi => (hb.cell (p := ⟨g, i, none⟩) h1).trans (h3 i hi)⟩

def inRow (l : List Nat) (x : Nat) : Bool := l.contains x

theorem has_take (l : List Nat) (x k : Nat) (hk : k < l.length) (h : inRow (l.take k) x = false) (hx : l.getD k 0 ≠ x) : inRow (l.take (k + 1)) x = false := by
  unfold inRow at h ⊢
  rw [List.take_succ_eq_append_getElem hk]
  have e : l.getD k 0 = l[k] := by simp [hk]
  rw [e] at hx
  rw [Bool.eq_false_iff] at h ⊢
  intro hc
  rw [List.contains_iff_mem, List.mem_append, List.mem_singleton] at hc
  rcases hc with hc | hc
  · exact h (List.contains_iff_mem.2 hc)
  · exact hx hc.symm

theorem has_hit (l : List Nat) (x k : Nat) (hk : k < l.length) (hx : l.getD k 0 = x) : inRow l x = true := by
  unfold inRow
  have e : l.getD k 0 = l[k] := by simp [hk]
  rw [List.contains_iff_mem, ← hx, e]
  exact List.getElem_mem hk

set_option maxHeartbeats 400000 in
theorem indexI_row (g c : Nat) (l : List Nat) (x : Nat) (w : World) (hl : l.length ≤ 1048576)
    (hc : ∀ i, i < l.length → w.cell? ⟨g, i, none⟩ = some (.int .i64 (l.getD i 0 : Nat))) :
    Calls Tryz.prog 98 #[.slice (some ⟨g, 0, none⟩) l.length c, .int .i64 x] w fun e w' => (∃ r : Int, e = .returned (.int .i64 r) ∧ decide (0 ≤ r) = inRow l x) ∧ w = w' := by
  go_enter Tryz.func98, Tryz.ntmps98
  go_wp2
  go_loop [8] (fun i => ∃ k : Nat, k ≤ l.length ∧ i = .int .i64 k ∧ inRow (l.take k) x = false) (fun i => l.length - (intOf i).toNat)
  case atStart => exact ⟨0, Nat.zero_le _, rfl, rfl⟩
  case round =>
    obtain ⟨k, hk, rfl, hall⟩ := hrel
    have HA : Hid (inRow (l.take k) x = false) := hall
    clear hall
    by_cases hlt : k < l.length
    · have hck := hc k hlt
      obtain ⟨y, hy⟩ : ∃ y, y = l.getD k 0 := ⟨_, rfl⟩
      rw [← hy] at hck
      have HY : Hid (y = l.getD k 0) := hy
      clear hy hc
      by_cases hq : (x : Int) = (y : Int)
      · have HQ : Hid (inRow l x = true) := has_hit l x k hlt (by rw [← HY.out]; omega)
        go_wp2
        go_ret
        exact ⟨⟨_, rfl, by rw [HQ.out]; simp⟩, rfl⟩
      · have HQ : Hid (inRow (l.take (k + 1)) x = false) := has_take l x k hlt HA.out (by rw [← HY.out]; omega)
        go_wp2
        go_round
        case rel => exact ⟨k + 1, by omega, by go_num, HQ.out⟩
        case measure => simp [intOf]; omega
    · have HQ : Hid (inRow l x = false) := by have := HA.out; rw [List.take_of_length_le (by omega)] at this; exact this
      go_wp2
      go_ret
      exact ⟨⟨_, rfl, by rw [HQ.out]; simp⟩, rfl⟩

set_option maxHeartbeats 400000 in
theorem indexI_nil (a : Option Addr) (c : Nat) (x : Nat) (w : World) :
    Calls Tryz.prog 98 #[.slice a 0 c, .int .i64 x] w fun e w' => (∃ r : Int, e = .returned (.int .i64 r) ∧ decide (0 ≤ r) = inRow [] x) ∧ w = w' := by
  go_enter Tryz.func98, Tryz.ntmps98
  go_wp2
  refine wp_loop_rounds 1 ?_
  rw [rounds_succ]
  go_wp2
  go_ret
  exact ⟨⟨_, rfl, by simp [inRow]⟩, rfl⟩

theorem indexI (v : Value) (l : List Nat) (x : Nat) (w : World) (h : IntsAt w v l) :
    Calls Tryz.prog 98 #[v, .int .i64 x] w fun e w' => (∃ r : Int, e = .returned (.int .i64 r) ∧ decide (0 ≤ r) = inRow l x) ∧ w = w' := by
  rcases h with ⟨rfl, a, c, rfl⟩ | ⟨g, c, rfl, _, h2, h3⟩
  · exact indexI_nil a c x w
  · exact indexI_row g c l x w h2 h3

set_option maxHeartbeats 400000 in
theorem containsI (v : Value) (l : List Nat) (x : Nat) (w : World) (h : IntsAt w v l) :
    Calls Tryz.prog 88 #[v, .int .i64 x] w fun e w' => e = .returned (.bool (inRow l x)) ∧ w = w' := by
  have HX : Hid (∀ W, W = w → Calls Tryz.prog 98 #[v, .int .i64 x] W fun e w' => (∃ r : Int, e = .returned (.int .i64 r) ∧ decide (0 ≤ r) = inRow l x) ∧ W = w') := by
    intro W e; subst e; exact indexI v l x W h
  clear h
  go_enter Tryz.func88, Tryz.ntmps88
  go_wp2_with fail
  refine (HX.out _ rfl).mono ?_
  rintro e w' ⟨⟨r, rfl, hr⟩, rfl⟩
  have HR : Hid (decide (0 ≤ r) = inRow l x) := hr
  clear hr
  go_wp2
  go_ret
  exact ⟨Pl.ret_bool HR.out, rfl⟩


set_option maxHeartbeats 400000 in
theorem missing (rb : Nat) (a : Option Addr) (n c : Nat) (l : List Nat) (x : Nat) (w : World) (hc : w.cell? ⟨rb, 0, none⟩ = some (.slice a n c)) (h : IntsAt w (.slice a n c) l) :
    Calls Tryz.prog 87 #[.int .i64 x, .pointer (some ⟨rb, 0, none⟩)] w fun e w' => e = .returned (.bool (!inRow l x)) ∧ w = w' := by
  have HX : Hid (IntsAt w (.slice a n c) l) := h
  obtain ⟨R, hR⟩ : ∃ R, R = inRow l x := ⟨_, rfl⟩
  have HR : Hid (R = inRow l x) := hR
  rw [← hR]
  clear h hR
  go_enter Tryz.func87, Tryz.ntmps87
  go_wp2_with fail
  refine (containsI (.slice a n c) l x w HX.out).mono ?_
  rintro e w' ⟨rfl, rfl⟩
  rw [← HR.out]
  go_wp2
  go_ret
  exact ⟨rfl, rfl⟩

/-- The place of the first number of which p holds; the row's length, if there is none. -/
def firstAt (p : Nat → Bool) (l : List Nat) : Nat := l.findIdx p

theorem firstAt_hit (p : Nat → Bool) (l : List Nat) (i : Nat) (hi : i < l.length) (hno : i ≤ firstAt p l) (h : p (l.getD i 0) = true) : firstAt p l = i := by
  have e : l.getD i 0 = l[i] := by simp [hi]
  rw [e] at h
  have : firstAt p l ≤ i := by
    unfold firstAt
    exact Nat.le_of_not_lt fun hlt => by
      have := List.not_of_lt_findIdx hlt
      simp [h] at this
  omega

theorem firstAt_miss (p : Nat → Bool) (l : List Nat) (i : Nat) (hi : i < l.length) (hno : i ≤ firstAt p l) (h : p (l.getD i 0) = false) : i + 1 ≤ firstAt p l := by
  have e : l.getD i 0 = l[i] := by simp [hi]
  rw [e] at h
  by_cases hq : firstAt p l = i
  · exfalso
    have hlt : firstAt p l < l.length := by omega
    have := List.findIdx_getElem (w := hlt)
    unfold firstAt at hq
    simp only [hq] at this
    rw [this] at h
    cases h
  · omega

set_option maxHeartbeats 1000000 in
theorem indexFuncM_row (rb : Nat) (p : Nat → Bool) (g c : Nat) (l : List Nat) (w : World) (hg : g < w.heap.size) (hl : l.length ≤ 1048576)
    (hc : ∀ i, i < l.length → w.cell? ⟨g, i, none⟩ = some (.int .i64 (l.getD i 0 : Nat)))
    (hp : ∀ (x : Nat) W, x ∈ l → Below w.heap.size w W → Calls Tryz.prog 87 #[.int .i64 x, .pointer (some ⟨rb, 0, none⟩)] W fun e w' => e = .returned (.bool (p x)) ∧ Below W.heap.size W w') :
    Calls Tryz.prog 90 #[.slice (some ⟨g, 0, none⟩) l.length c, .func (.func 87) #[] #[.pointer (some ⟨rb, 0, none⟩)]] w fun e w' => (∃ r : Int, e = .returned (.int .i64 r) ∧ r = (if firstAt p l < l.length then (firstAt p l : Int) else -1)) ∧ Below w.heap.size w w' := by
  have HC : Hid (∀ i, i < l.length → w.cell? ⟨g, i, none⟩ = some (.int .i64 (l.getD i 0 : Nat))) := hc
  have HP : Hid (∀ (x : Nat) W, x ∈ l → Below w.heap.size w W → Calls Tryz.prog 87 #[.int .i64 x, .pointer (some ⟨rb, 0, none⟩)] W fun e w' => e = .returned (.bool (p x)) ∧ Below W.heap.size W w') := hp
  obtain ⟨R, hR⟩ : ∃ R : Int, R = (if firstAt p l < l.length then (firstAt p l : Int) else -1) := ⟨_, rfl⟩
  rw [← hR]
  have HR : Hid (R = (if firstAt p l < l.length then (firstAt p l : Int) else -1)) := hR
  clear hc hp hR
  go_enter Tryz.func90, Tryz.ntmps90
  go_wp2
  go_loopw [8] (fun i wr => ∃ q : Nat, q ≤ l.length ∧ i = .int .i64 q ∧ q ≤ firstAt p l ∧ Below w.heap.size w wr) (fun i _ => l.length - (intOf i).toNat)
  case atStart => exact ⟨0, Nat.zero_le _, rfl, Nat.zero_le _, Below.refl _ _⟩
  case round =>
    obtain ⟨q, hq, rfl, hno, hW⟩ := hrel
    have HN : Hid (q ≤ firstAt p l) := hno
    clear hno
    by_cases hlt : q < l.length
    · have c0 := (hW.cell (p := ⟨g, q, none⟩) hg).trans (HC.out q hlt)
      obtain ⟨y, hy⟩ : ∃ y, y = l.getD q 0 := ⟨_, rfl⟩
      rw [← hy] at c0
      have HX : Hid (Calls Tryz.prog 87 #[.int .i64 y, .pointer (some ⟨rb, 0, none⟩)] wr fun e w' => e = .returned (.bool (p y)) ∧ Below wr.heap.size wr w') := HP.out y wr (by rw [hy]; simp [hlt]) hW
      have HG : Hid (y = l.getD q 0) := hy
      have hgw : g < wr.heap.size := Nat.lt_of_lt_of_le hg hW.size
      clear hy
      cases ht : p y
      · have HM : Hid (q + 1 ≤ firstAt p l) := firstAt_miss p l q hlt HN.out (by rw [← HG.out]; exact ht)
        go_wp2_with fail
        refine HX.out.mono ?_
        rintro e w2 ⟨rfl, hb2⟩
        rw [ht]
        have hB2 := blw_trans hW hb2
        clear hb2 c0 hgw
        go_wp2
        go_roundw
        case rel => exact ⟨q + 1, by omega, by go_num, HM.out, hB2⟩
        case measure => simp [intOf]; omega
      · have HM : Hid (firstAt p l = q) := firstAt_hit p l q hlt HN.out (by rw [← HG.out]; exact ht)
        go_wp2_with fail
        refine HX.out.mono ?_
        rintro e w2 ⟨rfl, hb2⟩
        rw [ht]
        have hB2 := blw_trans hW hb2
        clear hb2 c0 hgw
        go_wp2
        go_ret
        exact ⟨⟨_, rfl, by rw [HR.out, HM.out, if_pos hlt]⟩, hB2⟩
    · go_wp2
      go_ret
      exact ⟨⟨_, rfl, by rw [HR.out, if_neg (by have := HN.out; omega)]⟩, hW⟩

set_option maxHeartbeats 400000 in
theorem indexFuncM_nil (rb : Nat) (a : Option Addr) (c : Nat) (w : World) :
    Calls Tryz.prog 90 #[.slice a 0 c, .func (.func 87) #[] #[.pointer (some ⟨rb, 0, none⟩)]] w fun e w' => e = .returned (.int .i64 (-1)) ∧ w = w' := by
  go_enter Tryz.func90, Tryz.ntmps90
  go_wp2
  refine wp_loop_rounds 1 ?_
  rw [rounds_succ]
  go_wp2
  go_ret
  exact ⟨rfl, rfl⟩

theorem indexFuncM (rb : Nat) (p : Nat → Bool) (v : Value) (l : List Nat) (w : World) (h : IntsAt w v l)
    (hp : ∀ (x : Nat) W, x ∈ l → Below w.heap.size w W → Calls Tryz.prog 87 #[.int .i64 x, .pointer (some ⟨rb, 0, none⟩)] W fun e w' => e = .returned (.bool (p x)) ∧ Below W.heap.size W w') :
    Calls Tryz.prog 90 #[v, .func (.func 87) #[] #[.pointer (some ⟨rb, 0, none⟩)]] w fun e w' => (∃ r : Int, e = .returned (.int .i64 r) ∧ r = (if firstAt p l < l.length then (firstAt p l : Int) else -1)) ∧ Below w.heap.size w w' := by
  rcases h with ⟨rfl, a, c, rfl⟩ | ⟨g, c, rfl, h1, h2, h3⟩
  · refine (indexFuncM_nil rb a c w).mono ?_
    rintro e w' ⟨rfl, rfl⟩
    exact ⟨⟨_, rfl, by simp⟩, Below.refl _ _⟩
  · exact indexFuncM_row rb p g c l w h1 h2 h3 hp

set_option maxHeartbeats 1000000 in
theorem indexFuncR_row (rb fb : Nat) (p : Nat → Bool) (g c : Nat) (l : List Nat) (w : World) (hg : g < w.heap.size) (hl : l.length ≤ 1048576)
    (hc : ∀ i, i < l.length → w.cell? ⟨g, i, none⟩ = some (.int .i64 (l.getD i 0 : Nat)))
    (hp : ∀ (x : Nat) W, x ∈ l → Below w.heap.size w W → Calls Tryz.prog 86 #[.int .i64 x, .pointer (some ⟨rb, 0, none⟩), .pointer (some ⟨fb, 0, none⟩)] W fun e w' => e = .returned (.bool (p x)) ∧ Below W.heap.size W w') :
    Calls Tryz.prog 90 #[.slice (some ⟨g, 0, none⟩) l.length c, .func (.func 86) #[] #[.pointer (some ⟨rb, 0, none⟩), .pointer (some ⟨fb, 0, none⟩)]] w fun e w' => (∃ r : Int, e = .returned (.int .i64 r) ∧ r = (if firstAt p l < l.length then (firstAt p l : Int) else -1)) ∧ Below w.heap.size w w' := by
  have HC : Hid (∀ i, i < l.length → w.cell? ⟨g, i, none⟩ = some (.int .i64 (l.getD i 0 : Nat))) := hc
  have HP : Hid (∀ (x : Nat) W, x ∈ l → Below w.heap.size w W → Calls Tryz.prog 86 #[.int .i64 x, .pointer (some ⟨rb, 0, none⟩), .pointer (some ⟨fb, 0, none⟩)] W fun e w' => e = .returned (.bool (p x)) ∧ Below W.heap.size W w') := hp
  obtain ⟨R, hR⟩ : ∃ R : Int, R = (if firstAt p l < l.length then (firstAt p l : Int) else -1) := ⟨_, rfl⟩
  rw [← hR]
  have HR : Hid (R = (if firstAt p l < l.length then (firstAt p l : Int) else -1)) := hR
  clear hc hp hR
  go_enter Tryz.func90, Tryz.ntmps90
  go_wp2
  go_loopw [8] (fun i wr => ∃ q : Nat, q ≤ l.length ∧ i = .int .i64 q ∧ q ≤ firstAt p l ∧ Below w.heap.size w wr) (fun i _ => l.length - (intOf i).toNat)
  case atStart => exact ⟨0, Nat.zero_le _, rfl, Nat.zero_le _, Below.refl _ _⟩
  case round =>
    obtain ⟨q, hq, rfl, hno, hW⟩ := hrel
    have HN : Hid (q ≤ firstAt p l) := hno
    clear hno
    by_cases hlt : q < l.length
    · have c0 := (hW.cell (p := ⟨g, q, none⟩) hg).trans (HC.out q hlt)
      obtain ⟨y, hy⟩ : ∃ y, y = l.getD q 0 := ⟨_, rfl⟩
      rw [← hy] at c0
      have HX : Hid (Calls Tryz.prog 86 #[.int .i64 y, .pointer (some ⟨rb, 0, none⟩), .pointer (some ⟨fb, 0, none⟩)] wr fun e w' => e = .returned (.bool (p y)) ∧ Below wr.heap.size wr w') := HP.out y wr (by rw [hy]; simp [hlt]) hW
      have HG : Hid (y = l.getD q 0) := hy
      have hgw : g < wr.heap.size := Nat.lt_of_lt_of_le hg hW.size
      clear hy
      cases ht : p y
      · have HM : Hid (q + 1 ≤ firstAt p l) := firstAt_miss p l q hlt HN.out (by rw [← HG.out]; exact ht)
        go_wp2_with fail
        refine HX.out.mono ?_
        rintro e w2 ⟨rfl, hb2⟩
        rw [ht]
        have hB2 := blw_trans hW hb2
        clear hb2 c0 hgw
        go_wp2
        go_roundw
        case rel => exact ⟨q + 1, by omega, by go_num, HM.out, hB2⟩
        case measure => simp [intOf]; omega
      · have HM : Hid (firstAt p l = q) := firstAt_hit p l q hlt HN.out (by rw [← HG.out]; exact ht)
        go_wp2_with fail
        refine HX.out.mono ?_
        rintro e w2 ⟨rfl, hb2⟩
        rw [ht]
        have hB2 := blw_trans hW hb2
        clear hb2 c0 hgw
        go_wp2
        go_ret
        exact ⟨⟨_, rfl, by rw [HR.out, HM.out, if_pos hlt]⟩, hB2⟩
    · go_wp2
      go_ret
      exact ⟨⟨_, rfl, by rw [HR.out, if_neg (by have := HN.out; omega)]⟩, hW⟩

set_option maxHeartbeats 400000 in
theorem indexFuncR_nil (rb fb : Nat) (a : Option Addr) (c : Nat) (w : World) :
    Calls Tryz.prog 90 #[.slice a 0 c, .func (.func 86) #[] #[.pointer (some ⟨rb, 0, none⟩), .pointer (some ⟨fb, 0, none⟩)]] w fun e w' => e = .returned (.int .i64 (-1)) ∧ w = w' := by
  go_enter Tryz.func90, Tryz.ntmps90
  go_wp2
  refine wp_loop_rounds 1 ?_
  rw [rounds_succ]
  go_wp2
  go_ret
  exact ⟨rfl, rfl⟩

theorem indexFuncR (rb fb : Nat) (p : Nat → Bool) (v : Value) (l : List Nat) (w : World) (h : IntsAt w v l)
    (hp : ∀ (x : Nat) W, x ∈ l → Below w.heap.size w W → Calls Tryz.prog 86 #[.int .i64 x, .pointer (some ⟨rb, 0, none⟩), .pointer (some ⟨fb, 0, none⟩)] W fun e w' => e = .returned (.bool (p x)) ∧ Below W.heap.size W w') :
    Calls Tryz.prog 90 #[v, .func (.func 86) #[] #[.pointer (some ⟨rb, 0, none⟩), .pointer (some ⟨fb, 0, none⟩)]] w fun e w' => (∃ r : Int, e = .returned (.int .i64 r) ∧ r = (if firstAt p l < l.length then (firstAt p l : Int) else -1)) ∧ Below w.heap.size w w' := by
  rcases h with ⟨rfl, a, c, rfl⟩ | ⟨g, c, rfl, h1, h2, h3⟩
  · refine (indexFuncR_nil rb fb a c w).mono ?_
    rintro e w' ⟨rfl, rfl⟩
    exact ⟨⟨_, rfl, by simp⟩, Below.refl _ _⟩
  · exact indexFuncR_row rb fb p g c l w h1 h2 h3 hp

theorem any_first (p : Nat → Bool) (l : List Nat) : l.any p = decide (firstAt p l < l.length) := by
  unfold firstAt
  rw [Bool.eq_iff_iff, decide_eq_true_eq, List.any_eq_true, List.findIdx_lt_length]

set_option maxHeartbeats 400000 in
theorem containsFuncI (rb : Nat) (p : Nat → Bool) (v : Value) (l : List Nat) (w : World) (h : IntsAt w v l)
    (hp : ∀ (x : Nat) W, x ∈ l → Below w.heap.size w W → Calls Tryz.prog 87 #[.int .i64 x, .pointer (some ⟨rb, 0, none⟩)] W fun e w' => e = .returned (.bool (p x)) ∧ Below W.heap.size W w') :
    Calls Tryz.prog 89 #[v, .func (.func 87) #[] #[.pointer (some ⟨rb, 0, none⟩)]] w fun e w' => e = .returned (.bool (l.any p)) ∧ Below w.heap.size w w' := by
  have HX : Hid (Calls Tryz.prog 90 #[v, .func (.func 87) #[] #[.pointer (some ⟨rb, 0, none⟩)]] w fun e w' => (∃ r : Int, e = .returned (.int .i64 r) ∧ r = (if firstAt p l < l.length then (firstAt p l : Int) else -1)) ∧ Below w.heap.size w w') := indexFuncM rb p v l w h hp
  clear h hp
  go_enter Tryz.func89, Tryz.ntmps89
  go_wp2_with fail
  refine HX.out.mono ?_
  rintro e w' ⟨⟨r, rfl, hr⟩, hb⟩
  have HR : Hid (decide (0 ≤ r) = l.any p) := by
    show decide (0 ≤ r) = l.any p
    rw [any_first, hr]
    by_cases hq : firstAt p l < l.length
    · rw [if_pos hq]; simp [hq]
    · rw [if_neg hq]; simp [hq]
  clear hr
  go_wp2
  go_ret
  exact ⟨Pl.ret_bool HR.out, hb⟩

end Go.Proofs.YtfdahoekjpobaaaGreat

namespace Go.Proofs.YtfdahoekjpobaaaGreat
open Go.RowKit Go.Deep

theorem step_append_own {P : Program} {ops : Array Oper} {o : Oper} {a : Act} {w : World} {K : Act → World → Prop} {Q : Exit → Act → World → Prop} {E : Prop}
    (hg : o.guard = none) (s x : Operand) (t : TypeId) (hop : o.op = Op.call { callee := Callee.builtin Builtin.append, args := #[s, x], argTypes := #[t, t] })
    (base : Nat) (e : TypeId) (i : TypeInfo) (z : Value) (size bytes : Nat) (h1 : P.underlying t = some (.slice e)) (h2 : P.info? e = some i) (h3 : i.zero = some z) (h4 : i.size = size) (h5 : i.bytes = bytes) (h6 : z.cells.size = size) (h7 : 0 < size)
    (v : Value) (n : Nat) (xs : List Value) (hs : a.eval s = v) (hown : w.ownsRow base e size v n xs)
    (ad : Addr) (m c : Nat) (news : List Value) (hx : a.eval x = .slice (some ad) m c) (hn : news.length = m * size) (hc : ∀ j u, news[j]? = some u → w.cell? (ad.add j) = some u) (h1c : ∀ u ∈ news, u.oneCell' = true)
    (b1 : n + m ≤ maxLen) (b2 : (n + m) * bytes ≤ 140737488355328) (hbase : base ≤ w.heap.size)
    (hK : ∀ v' w', w'.ownsRow base e size v' (n + m) (xs ++ news) → w.grownBy w' v.ownBlock → K (a.put o.dst v') w') :
    if Region.wanted o (yielded ops a.tmps) = true then Oper.wp P o a w K Q else E := by
  have hw : Region.wanted o (yielded ops a.tmps) = true := by simp [Region.wanted, hg]
  rw [if_pos hw]
  obtain ⟨v', w', hrun, r1, r2, _⟩ := run_append_own (P := P) w base t o.type e i z size bytes h1 h2 h3 h4 h5 h6 h7 v n xs hown ad m c news hn hc h1c b1 b2 hbase
  unfold Oper.wp
  simp [execOp, hop, resolve, invoke, builtin, hs, hx, hrun, Result.andThen]
  exact hK v' w' r1 r2

theorem grown_of_below {w w' : World} (h : Below w.heap.size w w') : w.grownBy w' none := ⟨h.os, h.tape, h.output, h.size, fun k hk _ => h.block k hk⟩

theorem owns_later {w w' : World} {lo : Nat} {e : TypeId} {size : Nat} {v : Value} {n : Nat} {xs : List Value} (h : w.ownsRow lo e size v n xs) (hb : Below w.heap.size w w') : w'.ownsRow lo e size v n xs :=
  h.kept (grown_of_below hb) (by cases hv : v.ownBlock <;> simp)

theorem owns_slice {w : World} {lo : Nat} {e : TypeId} {size : Nat} {v : Value} {n : Nat} {xs : List Value} (h : w.ownsRow lo e size v n xs) : ∃ a c, v = .slice a n c := by
  rcases h.2 with ⟨rfl, rfl⟩ | ⟨g, cap, cur, rfl, _⟩
  · exact ⟨_, _, rfl⟩
  · exact ⟨_, _, rfl⟩

/-- A slice of numbers of the call's own. -/
def IntsOwn (w : World) (lo : Nat) (v : Value) (l : List Nat) : Prop := w.ownsRow lo 3 1 v l.length (l.map fun n => Value.int .i64 (n : Nat))

theorem IntsOwn.at_ {w : World} {lo : Nat} {v : Value} {l : List Nat} (h : IntsOwn w lo v l) (hl : l.length ≤ 1048576) : IntsAt w v l := by
  have hcs : ∀ g, v.ownBlock = some g → ∀ j u, (l.map fun n => Value.int .i64 (n : Nat))[j]? = some u → w.cell? ((⟨g, 0, none⟩ : Addr).add j) = some u := fun g hg => World.ownsRow.cells h hg
  rcases h.2 with ⟨rfl, hn⟩ | ⟨g, cap, cur, rfl, _, hg, _⟩
  · exact Or.inl ⟨List.length_eq_zero_iff.1 hn, _, _, rfl⟩
  · refine Or.inr ⟨g, cap, rfl, (Array.getElem?_eq_some_iff.1 hg).1, hl, fun i hi => ?_⟩
    have := hcs g rfl i (.int .i64 (l.getD i 0 : Nat)) (by simp [hi])
    rw [Addr.add_lit, Nat.zero_add] at this
    exact this

def readyG (rd : Nat → List Nat) (row : List Nat) (x : Nat) : Bool := !inRow row x && !(rd x).any (fun y => !inRow row y)
def nextG (rd : Nat → List Nat) (n : Nat) (row : List Nat) : Nat := firstAt (readyG rd row) (List.range n)
def rowG (rd : Nat → List Nat) (n : Nat) : Nat → List Nat
  | 0 => []
  | j + 1 => if nextG rd n (rowG rd n j) < n then rowG rd n j ++ [nextG rd n (rowG rd n j)] else rowG rd n j
def rowOk (rd : Nat → List Nat) (n : Nat) : Bool := decide ((rowG rd n n).length = n)

theorem rowG_le (rd : Nat → List Nat) (n : Nat) : ∀ j, (rowG rd n j).length ≤ j
  | 0 => by simp [rowG]
  | j + 1 => by
    have := rowG_le rd n j
    rw [rowG]; split
    · simp; omega
    · omega

theorem rowG_stuck (rd : Nat → List Nat) (n j : Nat) (h : n ≤ nextG rd n (rowG rd n j)) : ∀ k, rowG rd n (j + k) = rowG rd n j
  | 0 => rfl
  | k + 1 => by
    have := rowG_stuck rd n j h k
    rw [← Nat.add_assoc, rowG, this, if_neg (by omega)]

theorem rowOk_false (rd : Nat → List Nat) (n j : Nat) (hj : j < n) (h : n ≤ nextG rd n (rowG rd n j)) : rowOk rd n = false := by
  have e := rowG_stuck rd n j h (n - j)
  rw [Nat.add_sub_of_le (Nat.le_of_lt hj)] at e
  have := rowG_le rd n j
  unfold rowOk
  rw [e]
  simp; omega

theorem rowG_next (rd : Nat → List Nat) (n j : Nat) (h : nextG rd n (rowG rd n j) < n) : rowG rd n (j + 1) = rowG rd n j ++ [nextG rd n (rowG rd n j)] := by
  rw [rowG, if_pos h]

set_option maxHeartbeats 1000000 in
theorem readyI (rb fb mb : Nat) (l rd : List Nat) (a : Option Addr) (n c x : Nat) (w : World) (hrb : rb < w.heap.size) (hc : w.cell? ⟨rb, 0, none⟩ = some (.slice a n c)) (h : IntsAt w (.slice a n c) l)
    (hf : w.cell? ⟨fb, 0, none⟩ = some (.func (.func 71) #[] #[.pointer (some ⟨mb, 0, none⟩)]))
    (hr : Calls Tryz.prog 71 #[.int .i64 x, .pointer (some ⟨mb, 0, none⟩)] w fun e w' => (∃ a n c, e = .returned (.slice a n c) ∧ IntsAt w' (.slice a n c) rd) ∧ Below w.heap.size w w') :
    Calls Tryz.prog 86 #[.int .i64 x, .pointer (some ⟨rb, 0, none⟩), .pointer (some ⟨fb, 0, none⟩)] w fun e w' => e = .returned (.bool (!inRow l x && !rd.any (fun y => !inRow l y))) ∧ Below w.heap.size w w' := by
  have HM : Hid (∀ y W, Below w.heap.size w W → Calls Tryz.prog 87 #[.int .i64 (y : Nat), .pointer (some ⟨rb, 0, none⟩)] W fun e w' => e = .returned (.bool (!inRow l y)) ∧ W = w') :=
    fun y W hW => missing rb a n c l y W ((hW.cell (p := ⟨rb, 0, none⟩) hrb).trans hc) (h.later hW)
  have HR : Hid (Calls Tryz.prog 71 #[.int .i64 x, .pointer (some ⟨mb, 0, none⟩)] w fun e w' => (∃ a n c, e = .returned (.slice a n c) ∧ IntsAt w' (.slice a n c) rd) ∧ Below w.heap.size w w') := hr
  clear h hr hc
  cases hin : inRow l x
  · obtain ⟨R, hR⟩ : ∃ R, R = rd.any (fun y => !inRow l y) := ⟨_, rfl⟩
    rw [← hR]
    have HRR : Hid (R = rd.any (fun y => !inRow l y)) := hR
    clear hR
    go_enter Tryz.func86, Tryz.ntmps86
    go_wp2_with fail
    refine (HM.out x w (Below.refl _ _)).mono ?_
    rintro e w' ⟨rfl, rfl⟩
    rw [hin]
    go_wp2_with fail
    refine HR.out.mono ?_
    rintro e w2 ⟨⟨a2, n2, c2, rfl, hi⟩, hb2⟩
    have HI : Hid (IntsAt w2 (.slice a2 n2 c2) rd) := hi
    have HB : Hid (Below w.heap.size w w2) := hb2
    clear hi hb2
    go_wp2_with fail
    refine (containsFuncI rb (fun y => !inRow l y) (.slice a2 n2 c2) rd w2 HI.out (fun y W _ hW => (HM.out y W (blw_trans HB.out hW)).mono ?_)).mono ?_
    · rintro e w' ⟨rfl, rfl⟩
      exact ⟨rfl, Below.refl _ _⟩
    rintro e w3 ⟨rfl, hb3⟩
    rw [← HRR.out]
    have hB3 := blw_trans HB.out hb3
    clear hb3
    go_wp2
    go_ret
    exact ⟨rfl, hB3⟩
  · go_enter Tryz.func86, Tryz.ntmps86
    go_wp2_with fail
    refine (HM.out x w (Below.refl _ _)).mono ?_
    rintro e w' ⟨rfl, rfl⟩
    rw [hin]
    go_wp2
    go_ret
    exact ⟨rfl, Below.refl _ _⟩

end Go.Proofs.YtfdahoekjpobaaaGreat
