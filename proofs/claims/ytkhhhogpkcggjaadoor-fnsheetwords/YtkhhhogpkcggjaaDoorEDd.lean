/-
  Draws of sheets: a line, a word.
-/
import Derived.Test.YtkhhhogpkcggjaaDoorEDc
import Derived.Test.YtkhhhogpkcggjaaDoorEWb
namespace Go.Proofs.YtkhhhogpkcggjaaDoor
open Go.RowKit Go.Deep

theorem wordOut_size (s : ByteArray) : (Pl.wordOut s).size ≤ 3 * s.size + 2 := by
  have e : (Pl.wordOut s).size = (Pl.wordL s.data.toList).length := by unfold Pl.wordOut; rfl
  rw [e]
  unfold Pl.wordL
  have := Pl.esc_len s.data.toList
  rw [Pl.len_data] at this
  split
  · rw [Pl.len_data]; omega
  · simp only [List.length_cons, List.length_append, List.length_nil]; omega

set_option maxRecDepth 8000 in
set_option maxHeartbeats 4000000 in
theorem drawWord (v : Value) (W : World) (h : CodeAt W v) :
    Calls Tryd.prog 9 #[v] W fun e W' => (∃ s : ByteArray, e = .returned (.string s) ∧ s.size ≤ 100000) ∧ Below W.heap.size W W' := by
  have HO := uh (open_any v W h)
  obtain ⟨a, n, c, hv⟩ : ∃ a n c, v = .slice a n c := by rcases h with ⟨a, c, e⟩ | ⟨b, off, n, cap, e, _⟩; exact ⟨_, _, _, e⟩; exact ⟨_, _, _, e⟩
  subst hv
  clear h
  go_enter Tryd.func9, Tryd.ntmps9
  go_wp2_with fail
  refine HO.out.mono ?_
  rintro e W1 ⟨⟨v', len, rfl, hR⟩, hb⟩
  have HR := uh hR
  have HB := uh hb
  clear hR hb HO
  have HT := uh (drawText W.heap.size v' len 0 W1 HR.out (by omega))
  go_wp2_with fail
  refine HT.out.mono ?_
  rintro e W2 ⟨⟨s, rfl, hs⟩, hF2, p2, hp2, hR2⟩
  have HF2 := uh hF2
  clear HT hF2
  have HT := uh (drawBend W.heap.size v' len p2 s W2 hR2 (by omega) (by omega))
  clear hR2
  go_wp2_with fail
  refine HT.out.mono ?_
  rintro e W3 ⟨⟨x, rfl, hx⟩, hF3, p3, hp3, hR3⟩
  go_wp2
  go_ret
  exact ⟨⟨x, rfl, by omega⟩, HB.out.trans (HF2.out.trans hF3).bel⟩

set_option maxRecDepth 8000 in
set_option maxHeartbeats 8000000 in
theorem drawWords (v : Value) (W : World) (h : CodeAt W v) :
    Calls Tryd.prog 4 #[v] W fun e W' => (∃ s : ByteArray, e = .returned (.string s) ∧ s.size ≤ 200000) ∧ Below W.heap.size W W' := by
  have HO := uh (open_any v W h)
  obtain ⟨a, n, c, hv⟩ : ∃ a n c, v = .slice a n c := by rcases h with ⟨a, c, e⟩ | ⟨b, off, n, cap, e, _⟩; exact ⟨_, _, _, e⟩; exact ⟨_, _, _, e⟩
  subst hv
  clear h
  go_enter Tryd.func4, Tryd.ntmps4
  go_wp2_with fail
  refine HO.out.mono ?_
  rintro e W1 ⟨⟨v', len, rfl, hR⟩, hb⟩
  have HR := uh hR
  have HB := uh hb
  clear hR hb HO
  obtain ⟨R, hRe⟩ : ∃ R, R = W.heap.size := ⟨_, rfl⟩
  rw [← hRe] at HR HB ⊢
  have HRE := uh hRe
  clear hRe
  have HP := uh (pick_any R v' len 0 5 W1 HR.out (by omega) (by omega))
  go_wp2_with fail
  refine HP.out.mono ?_
  rintro e W2 ⟨⟨r, rfl, hr⟩, hF2, hR2⟩
  obtain ⟨k, rfl, hk⟩ := hr.nat
  have hk5 : k ≤ 4 := by have := hk (by omega); omega
  have HR2 := uh hR2
  have HB2 : Hid (Below R W W2) := HB.out.trans hF2.bel
  clear hr hk hF2 hR2 HP HR HB
  go_wp2
  go_loopw [4, 5] (fun o i wr => ∃ (ob : ByteArray) (n p : Nat), o = .string ob ∧ i = .int .i64 (n : Int) ∧ n ≤ 4 ∧ ob.size + n * 20000 ≤ 80000 ∧ p + n * 2000 ≤ 10000 ∧ Hid (Rd wr R v' len p ∧ Below R W wr)) (fun _ i _ => (intOf i).toNat)
  case atStart => exact ⟨⟨#[]⟩, k, 0 + 1, rfl, rfl, hk5, by have : (⟨#[]⟩ : ByteArray).size = 0 := rfl; omega, by omega, ⟨HR2.out, HB2.out⟩⟩
  case round =>
    obtain ⟨ob, n, p, rfl, rfl, hn, hob, hp, HRB⟩ := hrel
    clear HR2 HB2
    by_cases hn0 : n = 0
    rotate_left
    · have hn1 : (0 : Int) < (n : Int) := by omega
      have HP := uh (pick_any R v' len p 2 wr HRB.out.1 (by omega) (by omega))
      go_wp2_with fail
      refine HP.out.mono ?_
      rintro e W3 ⟨⟨r, rfl, hr⟩, hF3, hR3⟩
      obtain ⟨m, rfl, hm⟩ := hr.nat
      have hm2 : m < 2 := by have := hm (by omega); omega
      have HR3 := uh hR3
      have HB3 : Hid (Below R W W3) := HRB.out.2.trans hF3.bel
      clear hr hm hF3 hR3 HP HRB
      obtain ⟨m', hmm, hm'⟩ : ∃ m' : Nat, (1 : Int) + (m : Int) = (m' : Int) ∧ m' ≤ 2 := ⟨1 + m, by omega, by omega⟩
      have HM : Hid (∀ X, Calls Tryd.prog 13 #[.string { data := #[32] }, .int .i64 (m' : Int)] X fun e W' => (∃ s : ByteArray, e = .returned (.string s) ∧ s.size ≤ 4000) ∧ X = W') := fun X => many_any { data := #[32] } m' X (by decide) (by omega)
      go_wp2_with fail
      refine (HM.out _).mono ?_
      rintro e W4 ⟨⟨s1, rfl, hs1⟩, hw4⟩
      subst hw4
      have HT := uh (drawText R v' len (p + 1) W3 HR3.out (by omega))
      clear HM hmm
      go_wp2_with fail
      refine HT.out.mono ?_
      rintro e W5 ⟨⟨s2, rfl, hs2⟩, hF5, p5, hp5, hR5⟩
      have HB5 : Hid (Below R W W5) := HB3.out.trans hF5.bel
      have HR5 := uh hR5
      clear HT hF5 hR5 HB3 HR3
      have HW := uh (sheetWordS s2 W5 (by omega))
      have hwo := wordOut_size s2
      obtain ⟨s3, hs3⟩ : ∃ s3, s3 = Pl.wordOut s2 := ⟨_, rfl⟩
      rw [← hs3] at HW hwo
      clear hs3
      go_wp2_with fail
      refine HW.out.mono ?_
      rintro e W6 ⟨rfl, hb6⟩
      have HR6 := uh (HR5.out.later hb6)
      have HB6 : Hid (Below R W W6) := HB5.out.trans (hb6.mono (Nat.le_of_lt HR5.out.own.lt))
      clear HW hb6 HR5 HB5
      go_wp2
      go_roundw
      case rel => exact ⟨ob ++ s1 ++ s3, n - 1, p5, rfl, by go_num, by omega, by rw [ByteArray.size_append, ByteArray.size_append]; omega, by omega, ⟨HR6.out, HB6.out⟩⟩
      case measure => simp [intOf]; omega
    subst hn0
    have HP := uh (pick_any R v' len p 10 wr HRB.out.1 (by omega) (by omega))
    go_wp2_with fail
    refine HP.out.mono ?_
    rintro e W3 ⟨⟨r, rfl, hr⟩, hF3, hR3⟩
    obtain ⟨m, rfl, hm⟩ := hr.nat
    have hm2 : m < 10 := by have := hm (by omega); omega
    have HR3 := uh hR3
    have HB3 : Hid (Below R W W3) := HRB.out.2.trans hF3.bel
    clear hr hm hF3 hR3 HP HRB
    by_cases m0 : m = 0
    · subst m0
      go_wp2
      go_ret
      exact ⟨⟨_, rfl, by rw [ByteArray.size_append]; show _ + 16 ≤ _; omega⟩, by rw [← HRE.out]; exact HB3.out⟩
    by_cases m1 : m = 1
    · subst m1
      go_wp2
      go_ret
      exact ⟨⟨_, rfl, by rw [ByteArray.size_append]; show _ + 1 ≤ _; omega⟩, by rw [← HRE.out]; exact HB3.out⟩
    by_cases m2 : m = 2
    · subst m2
      have HT := uh (drawBend R v' len (p + 1) ob W3 HR3.out (by omega) (by omega))
      go_wp2_with fail
      refine HT.out.mono ?_
      rintro e W4 ⟨⟨x, rfl, hx⟩, hF4, p4, hp4, hR4⟩
      have HB4 : Hid (Below R W W4) := HB3.out.trans hF4.bel
      clear HT hF4 hR4
      go_wp2
      go_ret
      exact ⟨⟨x, rfl, by omega⟩, by rw [← HRE.out]; exact HB4.out⟩
    have d0 : ((m : Int) == 0) = false := by simp; omega
    have d1 : ((m : Int) == 1) = false := by simp; omega
    have d2 : ((m : Int) == 2) = false := by simp; omega
    by_cases m3 : m = 3
    rotate_left
    · have d3 : ((m : Int) == 3) = false := by simp; omega
      clear m0 m1 m2 m3
      go_wp2
      go_ret
      exact ⟨⟨ob, rfl, by omega⟩, by rw [← HRE.out]; exact HB3.out⟩
    subst m3
    clear d0 d1 d2
    have HP := uh (pick_any R v' len (p + 1) 2 W3 HR3.out (by omega) (by omega))
    go_wp2_with fail
    refine HP.out.mono ?_
    rintro e W4 ⟨⟨r, rfl, hr⟩, hF4, hR4⟩
    obtain ⟨m, rfl, hm⟩ := hr.nat
    have hm2 : m < 2 := by have := hm (by omega); omega
    have HR4 := uh hR4
    have HB4 : Hid (Below R W W4) := HB3.out.trans hF4.bel
    clear hr hm hF4 hR4 HP
    obtain ⟨m', hmm, hm'⟩ : ∃ m' : Nat, (200 : Int) + (m : Int) = (m' : Int) ∧ m' ≤ 201 := ⟨200 + m, by omega, by omega⟩
    have HM : Hid (∀ X, Calls Tryd.prog 13 #[.string { data := #[119] }, .int .i64 (m' : Int)] X fun e W' => (∃ s : ByteArray, e = .returned (.string s) ∧ s.size ≤ 4000) ∧ X = W') := fun X => many_any { data := #[119] } m' X (by decide) (by omega)
    go_wp2_with fail
    refine (HM.out _).mono ?_
    rintro e WX ⟨⟨sw, rfl, hsw⟩, hwx⟩
    subst hwx
    clear HM hmm hm' hm2
    have HP := uh (pick_any R v' len (p + 1 + 1) 2 W4 HR4.out (by omega) (by omega))
    go_wp2_with fail
    refine HP.out.mono ?_
    rintro e W5 ⟨⟨r, rfl, hr⟩, hF4, hR4⟩
    obtain ⟨m, rfl, hm⟩ := hr.nat
    have hm2 : m < 2 := by have := hm (by omega); omega
    have HR5 := uh hR4
    have HB5 : Hid (Below R W W5) := HB4.out.trans hF4.bel
    clear hr hm hF4 hR4 HP
    obtain ⟨m', hmm, hm'⟩ : ∃ m' : Nat, (200 : Int) + (m : Int) = (m' : Int) ∧ m' ≤ 201 := ⟨200 + m, by omega, by omega⟩
    have HM : Hid (∀ X, Calls Tryd.prog 13 #[.string { data := #[119] }, .int .i64 (m' : Int)] X fun e W' => (∃ s : ByteArray, e = .returned (.string s) ∧ s.size ≤ 4000) ∧ X = W') := fun X => many_any { data := #[119] } m' X (by decide) (by omega)
    go_wp2_with fail
    refine (HM.out _).mono ?_
    rintro e WX ⟨⟨s5, rfl, hs5⟩, hwx⟩
    subst hwx
    clear HM hmm hm' hm2
    have HP := uh (fun o => pick_any R v' len (p + 1 + 1 + 1) 16 (W5.alloc o) (HR5.out.later (blw_alloc (Below.refl _ _) o)) (by omega) (by omega))
    obtain ⟨sq, hsq⟩ : ∃ sq, sq = ({ data := #[34] } : ByteArray) ++ s5 ++ { data := #[34] } := ⟨_, rfl⟩
    have hsqs : sq.size ≤ 4100 := by rw [hsq, ByteArray.size_append, ByteArray.size_append]; show 1 + _ + 1 ≤ _; omega
    go_wp2_with fail
    rw [← hsq]
    clear hsq hs5
    refine (HP.out _).mono ?_
    rintro e W6 ⟨⟨r, rfl, hr⟩, hF6, hR6⟩
    obtain ⟨i, rfl, hi⟩ := hr.nat
    have hi16 : i < 16 := by have := hi (by omega); omega
    clear hr hi HP
    obtain ⟨l, hl⟩ : ∃ l : List ByteArray, l = [{ data := #[34, 92, 52, 49, 34] }, { data := #[34, 92, 52, 34] }, { data := #[34, 92] }, { data := #[34, 97, 34, 98] }, { data := #[97, 34, 98, 34] }, { data := #[97, 92, 98] }, { data := #[34, 97] }, { data := #[34, 92, 122, 122, 34] }, { data := #[9] }, { data := #[97, 127] }, { data := #[34, 92, 52, 65, 34] }, { data := #[49, 32, 50, 32, 51, 32, 52, 32, 53, 32, 54, 32, 55, 32, 56] }, { data := #[49, 32, 50, 32, 51, 32, 52, 32, 53, 32, 54, 32, 55, 32, 56, 32, 57] }, { data := #[49, 32, 50, 32, 51, 32, 52, 32, 53, 32, 54, 32, 55, 32, 56, 32, 35] }, sw, sq] := ⟨_, rfl⟩
    have hll : l.length = 16 := by rw [hl]; rfl
    have HLS : Hid (∀ x ∈ l, x.size ≤ 5000) := by
      intro x hx
      rw [hl] at hx
      simp only [List.mem_cons, List.mem_nil_iff, or_false] at hx
      rcases hx with rfl | rfl | rfl | rfl | rfl | rfl | rfl | rfl | rfl | rfl | rfl | rfl | rfl | rfl | rfl | rfl
      all_goals first | (show _ ≤ 5000; omega) | decide
    have hc : W6.cell? ⟨W5.heap.size, i, none⟩ = some (.string (l.getD i ⟨#[]⟩)) := by
      refine (hF6.cell (HR5.out.own.lt) (by simp)).trans ?_
      have := lit_at l W5 i (by omega)
      rw [hl] at this ⊢
      exact this
    obtain ⟨x, hx⟩ : ∃ x, x = l.getD i ⟨#[]⟩ := ⟨_, rfl⟩
    have HXS : Hid (x.size ≤ 5000) := by rw [hx]; exact getD_mem l i (by omega) 5000 HLS.out
    rw [← hx] at hc
    have HB6 : Hid (Below R W W6) := (HB5.out.trans ((blw_alloc (Below.refl _ _) _ : Below W5.heap.size W5 _).mono (Nat.le_of_lt HR5.out.own.lt))).trans hF6.bel
    have hlt6 : W5.heap.size < W6.heap.size := by have := hF6.bel.size; simp at this; omega
    have hi0 : (0 : Int) ≤ (i : Int) := by omega
    have hi1 : (i : Int) < 16 := by omega
    clear hx hl hll hF6 hR6 HLS HR3 HR4 HR5 HB3 HB4 HB5
    go_wp2
    go_ret
    exact ⟨⟨x, rfl, by have := HXS.out; omega⟩, by rw [← HRE.out]; exact HB6.out⟩

end Go.Proofs.YtkhhhogpkcggjaaDoor
