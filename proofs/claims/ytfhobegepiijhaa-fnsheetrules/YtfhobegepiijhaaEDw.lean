/-
  Draws of sheets: kinds, words of a type, odd words.
-/
import Derived.Test.YtfhobegepiijhaaEDb
namespace Go.Proofs.Ytfhobegepiijhaa
open Go.RowKit Go.Deep

set_option maxRecDepth 8000 in
set_option maxHeartbeats 8000000 in
theorem drawWordOf (R : Nat) (v : Value) (len p : Nat) (t : Int) (W : World) (h : Rd W R v len p) (hp : p ≤ 900000) :
    Calls Try.prog 24 #[.pointer (some ⟨R, 0, none⟩), .int .i64 t] W fun e W' => (∃ s : ByteArray, e = .returned (.string s) ∧ s.size ≤ 4000) ∧ DrA R v len p W W' := by
  have HR := uh h
  clear h
  by_cases h1 : t = 1
  · subst h1
    go_enter Try.func24, Try.ntmps24
    have HP := uh (fun o => pick_any R v len p 6 (W.alloc o) (HR.out.later (blw_alloc (Below.refl _ _) o)) (by omega) (by omega))
    go_wp2_with fail
    refine (HP.out _).mono ?_
    rintro e W9 ⟨⟨r, rfl, hr⟩, hF9, hR9⟩
    obtain ⟨i, rfl, hi⟩ := hr.nat
    have hi8 : i < 6 := by have := hi (by omega); omega
    clear hr hi HP
    obtain ⟨l, hl⟩ : ∃ l : List ByteArray, l = [{ data := #[48] }, { data := #[49] }, { data := #[50] }, { data := #[55] }, { data := #[49, 48, 48] }, { data := #[49, 48, 48, 48, 48, 48, 48] }] := ⟨_, rfl⟩
    have hll : l.length = 6 := by rw [hl]; rfl
    have HLS : Hid (∀ x ∈ l, x.size ≤ 4000) := by
      intro x hx
      rw [hl] at hx
      simp only [List.mem_cons, List.mem_nil_iff, or_false] at hx
      rcases hx with rfl | rfl | rfl | rfl | rfl | rfl
      all_goals first | decide
    have hc : W9.cell? ⟨W.heap.size, i, none⟩ = some (.string (l.getD i ⟨#[]⟩)) := by
      refine (hF9.cell (HR.out.own.lt) (by simp)).trans ?_
      have := lit_at l W i (by omega)
      rw [hl] at this ⊢
      exact this
    obtain ⟨x, hx⟩ : ∃ x, x = l.getD i ⟨#[]⟩ := ⟨_, rfl⟩
    have HXS : Hid (x.size ≤ 4000) := by rw [hx]; exact getD_mem l i (by omega) 4000 HLS.out
    rw [← hx] at hc
    have HE : Hid (DrA R v len p W W9) := ⟨(Fr.of_below (blw_alloc (Below.refl _ _) _) HR.out.own.lt).trans hF9, p + 1, by omega, hR9⟩
    have hlt9 : W.heap.size < W9.heap.size := by have := hF9.bel.size; simp at this; omega
    have hi0 : (0 : Int) ≤ (i : Int) := by omega
    have hi1 : (i : Int) < 6 := by omega
    clear hx hl hll hF9 hR9 HLS HR
    go_wp2
    go_ret
    exact ⟨⟨x, rfl, HXS.out⟩, HE.out⟩
  by_cases h2 : t = 2
  · subst h2
    go_enter Try.func24, Try.ntmps24
    have HP := uh (fun o => pick_any R v len p 5 (W.alloc o) (HR.out.later (blw_alloc (Below.refl _ _) o)) (by omega) (by omega))
    go_wp2_with fail
    refine (HP.out _).mono ?_
    rintro e W9 ⟨⟨r, rfl, hr⟩, hF9, hR9⟩
    obtain ⟨i, rfl, hi⟩ := hr.nat
    have hi8 : i < 5 := by have := hi (by omega); omega
    clear hr hi HP
    obtain ⟨l, hl⟩ : ∃ l : List ByteArray, l = [{ data := #[48] }, { data := #[45, 49] }, { data := #[53] }, { data := #[45, 57] }, { data := #[45, 49, 48, 48, 48, 48, 48, 48] }] := ⟨_, rfl⟩
    have hll : l.length = 5 := by rw [hl]; rfl
    have HLS : Hid (∀ x ∈ l, x.size ≤ 4000) := by
      intro x hx
      rw [hl] at hx
      simp only [List.mem_cons, List.mem_nil_iff, or_false] at hx
      rcases hx with rfl | rfl | rfl | rfl | rfl
      all_goals first | decide
    have hc : W9.cell? ⟨W.heap.size, i, none⟩ = some (.string (l.getD i ⟨#[]⟩)) := by
      refine (hF9.cell (HR.out.own.lt) (by simp)).trans ?_
      have := lit_at l W i (by omega)
      rw [hl] at this ⊢
      exact this
    obtain ⟨x, hx⟩ : ∃ x, x = l.getD i ⟨#[]⟩ := ⟨_, rfl⟩
    have HXS : Hid (x.size ≤ 4000) := by rw [hx]; exact getD_mem l i (by omega) 4000 HLS.out
    rw [← hx] at hc
    have HE : Hid (DrA R v len p W W9) := ⟨(Fr.of_below (blw_alloc (Below.refl _ _) _) HR.out.own.lt).trans hF9, p + 1, by omega, hR9⟩
    have hlt9 : W.heap.size < W9.heap.size := by have := hF9.bel.size; simp at this; omega
    have hi0 : (0 : Int) ≤ (i : Int) := by omega
    have hi1 : (i : Int) < 5 := by omega
    clear hx hl hll hF9 hR9 HLS HR
    go_wp2
    go_ret
    exact ⟨⟨x, rfl, HXS.out⟩, HE.out⟩
  by_cases h3 : t = 3
  · subst h3
    go_enter Try.func24, Try.ntmps24
    have HP := uh (fun o => pick_any R v len p 4 (W.alloc o) (HR.out.later (blw_alloc (Below.refl _ _) o)) (by omega) (by omega))
    go_wp2_with fail
    refine (HP.out _).mono ?_
    rintro e W9 ⟨⟨r, rfl, hr⟩, hF9, hR9⟩
    obtain ⟨i, rfl, hi⟩ := hr.nat
    have hi8 : i < 4 := by have := hi (by omega); omega
    clear hr hi HP
    obtain ⟨l, hl⟩ : ∃ l : List ByteArray, l = [{ data := #[99, 111, 114, 101] }, { data := #[122] }, { data := #[101, 97, 115, 116] }, { data := #[97, 45, 49] }] := ⟨_, rfl⟩
    have hll : l.length = 4 := by rw [hl]; rfl
    have HLS : Hid (∀ x ∈ l, x.size ≤ 4000) := by
      intro x hx
      rw [hl] at hx
      simp only [List.mem_cons, List.mem_nil_iff, or_false] at hx
      rcases hx with rfl | rfl | rfl | rfl
      all_goals first | decide
    have hc : W9.cell? ⟨W.heap.size, i, none⟩ = some (.string (l.getD i ⟨#[]⟩)) := by
      refine (hF9.cell (HR.out.own.lt) (by simp)).trans ?_
      have := lit_at l W i (by omega)
      rw [hl] at this ⊢
      exact this
    obtain ⟨x, hx⟩ : ∃ x, x = l.getD i ⟨#[]⟩ := ⟨_, rfl⟩
    have HXS : Hid (x.size ≤ 4000) := by rw [hx]; exact getD_mem l i (by omega) 4000 HLS.out
    rw [← hx] at hc
    have HE : Hid (DrA R v len p W W9) := ⟨(Fr.of_below (blw_alloc (Below.refl _ _) _) HR.out.own.lt).trans hF9, p + 1, by omega, hR9⟩
    have hlt9 : W.heap.size < W9.heap.size := by have := hF9.bel.size; simp at this; omega
    have hi0 : (0 : Int) ≤ (i : Int) := by omega
    have hi1 : (i : Int) < 4 := by omega
    clear hx hl hll hF9 hR9 HLS HR
    go_wp2
    go_ret
    exact ⟨⟨x, rfl, HXS.out⟩, HE.out⟩
  by_cases h5 : t = 5
  · subst h5
    go_enter Try.func24, Try.ntmps24
    have HP := uh (fun o => pick_any R v len p 2 (W.alloc o) (HR.out.later (blw_alloc (Below.refl _ _) o)) (by omega) (by omega))
    go_wp2_with fail
    refine (HP.out _).mono ?_
    rintro e W9 ⟨⟨r, rfl, hr⟩, hF9, hR9⟩
    obtain ⟨i, rfl, hi⟩ := hr.nat
    have hi8 : i < 2 := by have := hi (by omega); omega
    clear hr hi HP
    obtain ⟨l, hl⟩ : ∃ l : List ByteArray, l = [{ data := #[121, 101, 115] }, { data := #[110, 111] }] := ⟨_, rfl⟩
    have hll : l.length = 2 := by rw [hl]; rfl
    have HLS : Hid (∀ x ∈ l, x.size ≤ 4000) := by
      intro x hx
      rw [hl] at hx
      simp only [List.mem_cons, List.mem_nil_iff, or_false] at hx
      rcases hx with rfl | rfl
      all_goals first | decide
    have hc : W9.cell? ⟨W.heap.size, i, none⟩ = some (.string (l.getD i ⟨#[]⟩)) := by
      refine (hF9.cell (HR.out.own.lt) (by simp)).trans ?_
      have := lit_at l W i (by omega)
      rw [hl] at this ⊢
      exact this
    obtain ⟨x, hx⟩ : ∃ x, x = l.getD i ⟨#[]⟩ := ⟨_, rfl⟩
    have HXS : Hid (x.size ≤ 4000) := by rw [hx]; exact getD_mem l i (by omega) 4000 HLS.out
    rw [← hx] at hc
    have HE : Hid (DrA R v len p W W9) := ⟨(Fr.of_below (blw_alloc (Below.refl _ _) _) HR.out.own.lt).trans hF9, p + 1, by omega, hR9⟩
    have hlt9 : W.heap.size < W9.heap.size := by have := hF9.bel.size; simp at this; omega
    have hi0 : (0 : Int) ≤ (i : Int) := by omega
    have hi1 : (i : Int) < 2 := by omega
    clear hx hl hll hF9 hR9 HLS HR
    go_wp2
    go_ret
    exact ⟨⟨x, rfl, HXS.out⟩, HE.out⟩
  by_cases h6 : t = 6
  · subst h6
    go_enter Try.func24, Try.ntmps24
    have HP := uh (fun o => pick_any R v len p 3 (W.alloc o) (HR.out.later (blw_alloc (Below.refl _ _) o)) (by omega) (by omega))
    go_wp2_with fail
    refine (HP.out _).mono ?_
    rintro e W9 ⟨⟨r, rfl, hr⟩, hF9, hR9⟩
    obtain ⟨i, rfl, hi⟩ := hr.nat
    have hi8 : i < 3 := by have := hi (by omega); omega
    clear hr hi HP
    obtain ⟨l, hl⟩ : ∃ l : List ByteArray, l = [{ data := #[110, 111, 110, 101] }, { data := #[98, 101, 114, 116, 104] }, { data := #[122, 111, 110, 101] }] := ⟨_, rfl⟩
    have hll : l.length = 3 := by rw [hl]; rfl
    have HLS : Hid (∀ x ∈ l, x.size ≤ 4000) := by
      intro x hx
      rw [hl] at hx
      simp only [List.mem_cons, List.mem_nil_iff, or_false] at hx
      rcases hx with rfl | rfl | rfl
      all_goals first | decide
    have hc : W9.cell? ⟨W.heap.size, i, none⟩ = some (.string (l.getD i ⟨#[]⟩)) := by
      refine (hF9.cell (HR.out.own.lt) (by simp)).trans ?_
      have := lit_at l W i (by omega)
      rw [hl] at this ⊢
      exact this
    obtain ⟨x, hx⟩ : ∃ x, x = l.getD i ⟨#[]⟩ := ⟨_, rfl⟩
    have HXS : Hid (x.size ≤ 4000) := by rw [hx]; exact getD_mem l i (by omega) 4000 HLS.out
    rw [← hx] at hc
    have HE : Hid (DrA R v len p W W9) := ⟨(Fr.of_below (blw_alloc (Below.refl _ _) _) HR.out.own.lt).trans hF9, p + 1, by omega, hR9⟩
    have hlt9 : W.heap.size < W9.heap.size := by have := hF9.bel.size; simp at this; omega
    have hi0 : (0 : Int) ≤ (i : Int) := by omega
    have hi1 : (i : Int) < 3 := by omega
    clear hx hl hll hF9 hR9 HLS HR
    go_wp2
    go_ret
    exact ⟨⟨x, rfl, HXS.out⟩, HE.out⟩
  have d1 : (t == 1) = false := by simp [h1]
  have d2 : (t == 2) = false := by simp [h2]
  have d3 : (t == 3) = false := by simp [h3]
  have d5 : (t == 5) = false := by simp [h5]
  have d6 : (t == 6) = false := by simp [h6]
  have HT := uh (drawText R v len p W HR.out hp)
  clear h1 h2 h3 h5 h6 HR
  go_enter Try.func24, Try.ntmps24
  go_wp2_with (go_at_call 33; refine HT.out.mono ?_; rintro e W1 ⟨⟨s, rfl, hs⟩, hd⟩)
  go_ret
  exact ⟨⟨s, rfl, hs⟩, hd⟩

set_option maxRecDepth 8000 in
set_option maxHeartbeats 8000000 in
theorem drawOdd (R : Nat) (v : Value) (len p : Nat) (W : World) (h : Rd W R v len p) (hp : p ≤ 900000) :
    Calls Try.prog 19 #[.pointer (some ⟨R, 0, none⟩)] W fun e W' => (∃ s : ByteArray, e = .returned (.string s) ∧ s.size ≤ 4000) ∧ DrA R v len p W W' := by
  have HP := uh (pick_any R v len p 2 W h (by omega) (by omega))
  clear h
  go_enter Try.func19, Try.ntmps19
  go_wp2_with fail
  refine HP.out.mono ?_
  rintro e W1 ⟨⟨r, rfl, hr⟩, hF1, hR1⟩
  obtain ⟨m, rfl, hm⟩ := hr.nat
  have hm2 : m < 2 := by have := hm (by omega); omega
  have HF1 := uh hF1
  have HR1 := uh hR1
  clear hr hm hF1 hR1 HP
  obtain ⟨m', hmm, hm'⟩ : ∃ m' : Nat, (20 : Int) + (m : Int) = (m' : Int) ∧ m' ≤ 21 := ⟨20 + m, by omega, by omega⟩
  have HM : Hid (∀ X, Calls Try.prog 25 #[.string { data := #[110] }, .int .i64 (m' : Int)] X fun e W' => (∃ s : ByteArray, e = .returned (.string s) ∧ s.size ≤ 4000) ∧ X = W') := fun X => many_any { data := #[110] } m' X (by decide) (by omega)
  have HM2 : Hid (∀ X, Calls Try.prog 25 #[.string { data := #[116] }, .int .i64 201] X fun e W' => (∃ s : ByteArray, e = .returned (.string s) ∧ s.size ≤ 4000) ∧ X = W') := fun X => many_any { data := #[116] } 201 X (by decide) (by decide)
  go_wp2_with fail
  refine (HM.out _).mono ?_
  rintro e WX ⟨⟨sn, rfl, hsn⟩, hwx⟩
  subst hwx
  clear HM hmm hm' hm2
  go_wp2_with fail
  refine (HM2.out _).mono ?_
  rintro e WX ⟨⟨st, rfl, hst⟩, hwx⟩
  subst hwx
  clear HM2
  have HP := uh (fun o => pick_any R v len (p + 1) 12 (W1.alloc o) (HR1.out.later (blw_alloc (Below.refl _ _) o)) (by omega) (by omega))
  go_wp2_with fail
  refine (HP.out _).mono ?_
  rintro e W9 ⟨⟨r, rfl, hr⟩, hF9, hR9⟩
  obtain ⟨i, rfl, hi⟩ := hr.nat
  have hi8 : i < 12 := by have := hi (by omega); omega
  clear hr hi HP
  obtain ⟨l, hl⟩ : ∃ l : List ByteArray, l = [{ data := #[] }, { data := #[48, 49] }, { data := #[45, 48] }, { data := #[49, 48, 48, 48, 48, 48, 49] }, { data := #[49, 50, 51, 52, 53, 54, 55, 56] }, { data := #[120, 32, 121] }, { data := #[67, 111, 114, 101] }, { data := #[109, 97, 121, 98, 101] }, sn, { data := #[45] }, { data := #[43, 49] }, st] := ⟨_, rfl⟩
  have hll : l.length = 12 := by rw [hl]; rfl
  have HLS : Hid (∀ x ∈ l, x.size ≤ 4000) := by
    intro x hx
    rw [hl] at hx
    simp only [List.mem_cons, List.mem_nil_iff, or_false] at hx
    rcases hx with rfl | rfl | rfl | rfl | rfl | rfl | rfl | rfl | rfl | rfl | rfl | rfl
    all_goals first | exact hsn | exact hst | decide
  have hc : W9.cell? ⟨W1.heap.size, i, none⟩ = some (.string (l.getD i ⟨#[]⟩)) := by
    refine (hF9.cell (HR1.out.own.lt) (by simp)).trans ?_
    have := lit_at l W1 i (by omega)
    rw [hl] at this ⊢
    exact this
  obtain ⟨x, hx⟩ : ∃ x, x = l.getD i ⟨#[]⟩ := ⟨_, rfl⟩
  have HXS : Hid (x.size ≤ 4000) := by rw [hx]; exact getD_mem l i (by omega) 4000 HLS.out
  rw [← hx] at hc
  have HE : Hid (DrA R v len p W W9) := ⟨(HF1.out.trans (Fr.of_below (blw_alloc (Below.refl _ _) _) HR1.out.own.lt)).trans hF9, p + 1 + 1, by omega, hR9⟩
  have hlt9 : W1.heap.size < W9.heap.size := by have := hF9.bel.size; simp at this; omega
  have hi0 : (0 : Int) ≤ (i : Int) := by omega
  have hi1 : (i : Int) < 12 := by omega
  clear hx hl hll hF9 hR9 HLS HF1 HR1
  go_wp2
  go_ret
  exact ⟨⟨x, rfl, HXS.out⟩, HE.out⟩

set_option maxRecDepth 8000 in
set_option maxHeartbeats 8000000 in
theorem drawKind (v : Value) (W : World) (h : CodeAt W v) :
    Calls Try.prog 4 #[v] W fun e W' => (∃ s : ByteArray, e = .returned (.string s) ∧ s.size ≤ 4000) ∧ Below W.heap.size W W' := by
  obtain ⟨l, hl⟩ : ∃ l : List ByteArray, l = [{ data := #[116, 101, 97, 109] }, { data := #[98, 101, 114, 116, 104] }, { data := #[115, 101, 114, 118, 105, 99, 101] }, { data := #[] }, { data := #[110, 111, 110, 101] }, { data := #[84, 101, 97, 109] }] := ⟨_, rfl⟩
  obtain ⟨W1, hW1⟩ : ∃ W1, W1 = W.alloc (.cells (l.map Value.string).toArray 9) := ⟨_, rfl⟩
  have hz1 : W1.heap.size = W.heap.size + 1 := by rw [hW1]; simp
  have hb1 : Below W.heap.size W W1 := by rw [hW1]; exact blw_alloc (Below.refl _ _) _
  have HO := uh (open_any v W1 (h.later hb1))
  obtain ⟨a, n, c, hv⟩ : ∃ a n c, v = .slice a n c := by rcases h with ⟨a, c, e⟩ | ⟨b, off, n, cap, e, _⟩; exact ⟨_, _, _, e⟩; exact ⟨_, _, _, e⟩
  subst hv
  have HLA : Hid (∀ i, i < 6 → W1.cell? ⟨W.heap.size, i, none⟩ = some (.string (l.getD i ⟨#[]⟩))) := fun i hi => by rw [hW1]; exact lit_at l W i (by rw [hl]; exact hi)
  have HLS : Hid (∀ x ∈ l, x.size ≤ 4000) := by rw [hl]; intro x hx; revert x; decide
  have HLL : Hid (l.length = 6) := by show _ = _; rw [hl]; rfl
  have hW1' : W.alloc (.cells #[.string { data := #[116, 101, 97, 109] }, .string { data := #[98, 101, 114, 116, 104] }, .string { data := #[115, 101, 114, 118, 105, 99, 101] }, .string { data := #[] }, .string { data := #[110, 111, 110, 101] }, .string { data := #[84, 101, 97, 109] }] 9) = W1 := by rw [hW1, hl]; rfl
  have HB1 := uh hb1
  have HZ1 := uh hz1
  clear h hl hW1 hb1 hz1
  go_enter Try.func4, Try.ntmps4
  go_wp2_with fail
  first | rw [hW1'] | skip
  clear hW1'
  refine HO.out.mono ?_
  rintro e W2 ⟨⟨v', len, rfl, hR⟩, hb⟩
  have HR := uh hR
  have HB2 := uh hb
  clear hR hb HO
  have HP := uh (pick_any W1.heap.size v' len 0 6 W2 HR.out (by omega) (by omega))
  go_wp2_with fail
  refine HP.out.mono ?_
  rintro e W3 ⟨⟨r, rfl, hr⟩, hF3, hR3⟩
  obtain ⟨i, rfl, hi⟩ := hr.nat
  have hi8 : i < 6 := by have := hi (by omega); omega
  clear hr hi HP
  have hc : W3.cell? ⟨W.heap.size, i, none⟩ = some (.string (l.getD i ⟨#[]⟩)) := (hF3.bel.cell (p := ⟨W.heap.size, i, none⟩) (by have := HZ1.out; show W.heap.size < _; omega)).trans ((HB2.out.cell (p := ⟨W.heap.size, i, none⟩) (by have := HZ1.out; show W.heap.size < _; omega)).trans (HLA.out i hi8))
  obtain ⟨x, hx⟩ : ∃ x, x = l.getD i ⟨#[]⟩ := ⟨_, rfl⟩
  have HXS : Hid (x.size ≤ 4000) := by rw [hx]; exact getD_mem l i (by have := HLL.out; omega) 4000 HLS.out
  rw [← hx] at hc
  have HE : Hid (Below W.heap.size W W3) := HB1.out.trans ((HB2.out.trans hF3.bel).mono (by have := HZ1.out; omega))
  have hlt : W.heap.size < W3.heap.size := by have := hF3.bel.size; have := HB2.out.size; have := HZ1.out; omega
  have hi0 : (0 : Int) ≤ (i : Int) := by omega
  have hi1 : (i : Int) < 6 := by omega
  clear hx hF3 hR3 HLS HLA HR HB2 HB1
  go_wp2
  go_ret
  exact ⟨⟨x, rfl, HXS.out⟩, HE.out⟩

end Go.Proofs.Ytfhobegepiijhaa
