/-
  Draws of sheets: texts.
-/
import Derived.Test.YtfhobegepiijhaaEDa
namespace Go.Proofs.Ytfhobegepiijhaa
open Go.RowKit Go.Deep

theorem lit_at (l : List ByteArray) (W : World) (i : Nat) (hi : i < l.length) : (W.alloc (.cells (l.map Value.string).toArray 9)).cell? ⟨W.heap.size, i, none⟩ = some (.string (l.getD i ⟨#[]⟩)) := by
  refine (World.cell?_alloc_at _ _ _ _ rfl).trans ?_
  simp [hi]
theorem getD_mem (l : List ByteArray) (i : Nat) (hi : i < l.length) (n : Nat) (h : ∀ x ∈ l, x.size ≤ n) : (l.getD i ⟨#[]⟩).size ≤ n := by
  have e : l.getD i ⟨#[]⟩ = l[i] := by simp [hi]
  rw [e]; exact h _ (List.getElem_mem hi)
theorem PickP.nat {n r : Int} (h : PickP n r) : ∃ k : Nat, r = (k : Int) ∧ (1 ≤ n → (k : Int) < n) := by
  obtain ⟨k, rfl⟩ := Int.eq_ofNat_of_zero_le h.1
  exact ⟨k, rfl, h.2.1⟩
/-- What a draw leaves: the reader, some places on. -/
def DrA (R : Nat) (v : Value) (len p : Nat) (W W' : World) : Prop := Fr R W W' ∧ ∃ p', p' ≤ p + 1000 ∧ Rd W' R v len p'

set_option maxRecDepth 8000 in
set_option maxHeartbeats 4000000 in
theorem drawText (R : Nat) (v : Value) (len p : Nat) (W : World) (h : Rd W R v len p) (hp : p ≤ 900000) :
    Calls Try.prog 33 #[.pointer (some ⟨R, 0, none⟩)] W fun e W' => (∃ s : ByteArray, e = .returned (.string s) ∧ s.size ≤ 4000) ∧ DrA R v len p W W' := by
  have HP := uh (pick_any R v len p 2 W h (by omega) (by omega))
  clear h
  go_enter Try.func33, Try.ntmps33
  go_wp2_with fail
  refine HP.out.mono ?_
  rintro e W1 ⟨⟨r, rfl, hr⟩, hF1, hR1⟩
  obtain ⟨k, rfl, hk⟩ := hr.nat
  have hk2 : k = 0 ∨ k = 1 := by have := hk (by omega); omega
  have HF1 := uh hF1
  have HR1 := uh hR1
  clear hr hk hF1 hR1 HP
  have HM0 : Hid (∀ X, Calls Try.prog 25 #[.string { data := #[116] }, .int .i64 200] X fun e W' => (∃ s : ByteArray, e = .returned (.string s) ∧ s.size ≤ 4000) ∧ X = W') := fun X => many_any { data := #[116] } 200 X (by decide) (by decide)
  have HM1 : Hid (∀ X, Calls Try.prog 25 #[.string { data := #[116] }, .int .i64 199] X fun e W' => (∃ s : ByteArray, e = .returned (.string s) ∧ s.size ≤ 4000) ∧ X = W') := fun X => many_any { data := #[116] } 199 X (by decide) (by decide)
  rcases hk2 with rfl | rfl
  · go_wp2_with fail
    refine (HM0.out _).mono ?_
    rintro e W2 ⟨⟨s, rfl, hs⟩, hw2⟩
    subst hw2
    have HP := uh (fun o => pick_any R v len (p + 1) 8 (W1.alloc o) (HR1.out.later (blw_alloc (Below.refl _ _) o)) (by omega) (by omega))
    clear HM0 HM1
    go_wp2_with fail
    refine (HP.out _).mono ?_
    rintro e W3 ⟨⟨r, rfl, hr⟩, hF3, hR3⟩
    obtain ⟨i, rfl, hi⟩ := hr.nat
    have hi8 : i < 8 := by have := hi (by omega); omega
    clear hr hi HP
    obtain ⟨l, hl⟩ : ∃ l : List ByteArray, l = [{ data := #[122, 111, 110, 101, 61, 101, 97, 115, 116] }, { data := #[115, 115, 100, 32, 124, 32, 33, 111, 108, 100] }, { data := #[] }, { data := #[113, 34, 117, 92, 111, 10, 255] }, { data := #[97, 35, 98] }, { data := #[120] }, { data := #[116, 119, 111, 32, 119, 111, 114, 100, 115] }, s] := ⟨_, rfl⟩
    have hll : l.length = 8 := by rw [hl]; rfl
    have HLS : Hid (∀ x ∈ l, x.size ≤ 4000) := by
      intro x hx
      rw [hl] at hx
      simp only [List.mem_cons, List.mem_nil_iff, or_false] at hx
      rcases hx with rfl | rfl | rfl | rfl | rfl | rfl | rfl | rfl
      all_goals first | exact hs | decide
    have hc : W3.cell? ⟨W1.heap.size, i, none⟩ = some (.string (l.getD i ⟨#[]⟩)) := by
      refine (hF3.cell (HR1.out.own.lt) (by simp)).trans ?_
      have := lit_at l W1 i (by omega)
      rw [hl] at this ⊢
      exact this
    obtain ⟨x, hx⟩ : ∃ x, x = l.getD i ⟨#[]⟩ := ⟨_, rfl⟩
    have HXS : Hid (x.size ≤ 4000) := by rw [hx]; exact getD_mem l i (by omega) 4000 HLS.out
    rw [← hx] at hc
    have HE : Hid (DrA R v len p W W3) := ⟨(HF1.out.trans (Fr.of_below (blw_alloc (Below.refl _ _) _) HR1.out.own.lt)).trans hF3, p + 1 + 1, by omega, hR3⟩
    have hlt3 : W1.heap.size < W3.heap.size := by have := hF3.bel.size; simp at this; omega
    have hi0 : (0 : Int) ≤ (i : Int) := by omega
    have hi1 : (i : Int) < 8 := by omega
    clear hx hl hll hF3 hR3 HF1 HR1 HLS
    go_wp2
    go_ret
    exact ⟨⟨x, rfl, HXS.out⟩, HE.out⟩
  · go_wp2_with fail
    refine (HM1.out _).mono ?_
    rintro e W2 ⟨⟨s, rfl, hs⟩, hw2⟩
    subst hw2
    have HP := uh (fun o => pick_any R v len (p + 1) 8 (W1.alloc o) (HR1.out.later (blw_alloc (Below.refl _ _) o)) (by omega) (by omega))
    clear HM0 HM1
    go_wp2_with fail
    refine (HP.out _).mono ?_
    rintro e W3 ⟨⟨r, rfl, hr⟩, hF3, hR3⟩
    obtain ⟨i, rfl, hi⟩ := hr.nat
    have hi8 : i < 8 := by have := hi (by omega); omega
    clear hr hi HP
    obtain ⟨l, hl⟩ : ∃ l : List ByteArray, l = [{ data := #[122, 111, 110, 101, 61, 101, 97, 115, 116] }, { data := #[115, 115, 100, 32, 124, 32, 33, 111, 108, 100] }, { data := #[] }, { data := #[113, 34, 117, 92, 111, 10, 255] }, { data := #[97, 35, 98] }, { data := #[120] }, { data := #[116, 119, 111, 32, 119, 111, 114, 100, 115] }, s] := ⟨_, rfl⟩
    have hll : l.length = 8 := by rw [hl]; rfl
    have HLS : Hid (∀ x ∈ l, x.size ≤ 4000) := by
      intro x hx
      rw [hl] at hx
      simp only [List.mem_cons, List.mem_nil_iff, or_false] at hx
      rcases hx with rfl | rfl | rfl | rfl | rfl | rfl | rfl | rfl
      all_goals first | exact hs | decide
    have hc : W3.cell? ⟨W1.heap.size, i, none⟩ = some (.string (l.getD i ⟨#[]⟩)) := by
      refine (hF3.cell (HR1.out.own.lt) (by simp)).trans ?_
      have := lit_at l W1 i (by omega)
      rw [hl] at this ⊢
      exact this
    obtain ⟨x, hx⟩ : ∃ x, x = l.getD i ⟨#[]⟩ := ⟨_, rfl⟩
    have HXS : Hid (x.size ≤ 4000) := by rw [hx]; exact getD_mem l i (by omega) 4000 HLS.out
    rw [← hx] at hc
    have HE : Hid (DrA R v len p W W3) := ⟨(HF1.out.trans (Fr.of_below (blw_alloc (Below.refl _ _) _) HR1.out.own.lt)).trans hF3, p + 1 + 1, by omega, hR3⟩
    have hlt3 : W1.heap.size < W3.heap.size := by have := hF3.bel.size; simp at this; omega
    have hi0 : (0 : Int) ≤ (i : Int) := by omega
    have hi1 : (i : Int) < 8 := by omega
    clear hx hl hll hF3 hR3 HF1 HR1 HLS
    go_wp2
    go_ret
    exact ⟨⟨x, rfl, HXS.out⟩, HE.out⟩

end Go.Proofs.Ytfhobegepiijhaa
