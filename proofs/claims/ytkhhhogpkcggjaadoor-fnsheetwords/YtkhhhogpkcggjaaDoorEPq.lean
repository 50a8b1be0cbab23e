/-
  Sheets: words written and cut again are the same: plain.
-/
import Derived.Test.YtkhhhogpkcggjaaDoorEPw
namespace Go.Proofs.YtkhhhogpkcggjaaDoor.Pl

theorem hexV_hexd : ∀ n : Fin 16, hexV (hexd n.1) = (n.1 : Int) := by decide +kernel
theorem quo_esc : ∀ (l t : List UInt8), quoL (l.flatMap escB ++ 34 :: t) = some (l, (l.flatMap escB).length + 1)
  | [], t => by rw [List.flatMap_nil, List.nil_append, quoL, if_pos (by decide)]; rfl
  | c :: l, t => by
    rw [List.flatMap_cons, List.append_assoc]
    by_cases hs : selfB c = true
    · have hs' : 32 ≤ c.toNat ∧ c.toNat ≤ 126 ∧ c.toNat ≠ 34 ∧ c.toNat ≠ 92 := by
        simp only [selfB, Bool.and_eq_true, decide_eq_true_eq, bne_iff_ne] at hs; exact ⟨hs.1.1.1, hs.1.1.2, hs.1.2, hs.2⟩
      have e : escB c = [c] := by unfold escB; rw [if_pos hs]
      rw [e, List.singleton_append, quoL, if_neg hs'.2.2.1, if_neg hs'.2.2.2, if_pos ⟨hs'.1, hs'.2.1⟩, quo_esc l t]
      simp
    · have e : escB c = [92, hexd (c.toNat / 16), hexd (c.toNat % 16)] := by unfold escB; rw [if_neg hs]
      have hc := u8lt c
      have h1 := hexV_hexd ⟨c.toNat / 16, by omega⟩
      have h2 := hexV_hexd ⟨c.toNat % 16, by omega⟩
      simp only at h1 h2
      rw [e]
      show quoL (92 :: (hexd (c.toNat / 16) :: hexd (c.toNat % 16) :: (l.flatMap escB ++ 34 :: t))) = _
      rw [quoL, if_neg (by decide), if_pos (by decide), List.getD_cons_zero, List.getD_cons_succ, List.getD_cons_zero, h1, h2, if_pos ⟨by simp, by omega, by omega⟩]
      have e3 : UInt8.ofNat (16 * ((c.toNat / 16 : Nat) : Int) + ((c.toNat % 16 : Nat) : Int)).toNat = c := by
        apply UInt8.toNat_inj.1
        rw [UInt8.toNat_ofNat']; omega
      rw [e3]
      simp only [List.drop_succ_cons, List.drop_zero]
      rw [quo_esc l t]
      simp
theorem tw_bare : ∀ (l t : List UInt8), l.all bareB = true → (l ++ 32 :: t).takeWhile bareB = l
  | [], t, _ => by rw [List.nil_append, List.takeWhile_cons]; rfl
  | c :: l, t, h => by
    rw [List.all_cons, Bool.and_eq_true] at h
    rw [List.cons_append, List.takeWhile_cons, if_pos h.1, tw_bare l t h.2]
theorem cut_word (l t : List UInt8) (m : Nat) (h : l.length ≤ 200) (hm : m < 8) : cutL (wordL l ++ 32 :: t) m = (cutL t (m + 1)).map (⟨l.toArray⟩ :: ·) := by
  have e32 : cutL (32 :: t) (m + 1) = cutL t (m + 1) := by rw [cutL, if_pos (by decide)]
  unfold wordL
  split
  · rename_i hb
    simp only [bareL, Bool.and_eq_true, decide_eq_true_eq] at hb
    cases l with
    | nil => simp at hb
    | cons c r =>
      have hc := hb.2
      rw [List.all_cons, Bool.and_eq_true] at hc
      have hcb := hc.1
      simp only [bareB, Bool.and_eq_true, decide_eq_true_eq, bne_iff_ne] at hcb
      have htw := tw_bare (c :: r) t hb.2
      rw [List.cons_append] at htw ⊢
      have hn : nextW c (r ++ 32 :: t) = some (c :: r, r.length) := by
        unfold nextW
        rw [if_neg (by omega), if_pos hc.1, htw]; rfl
      rw [cutY _ c m (c :: r) r.length (by omega) (by omega) hn (by rw [List.drop_left]; simp only [List.length_cons] at h; simp [behind, hm]; omega), List.drop_left, e32]
  · rw [List.cons_append, List.append_assoc]
    have hn : nextW 34 (l.flatMap escB ++ ([34] ++ 32 :: t)) = some (l, (l.flatMap escB).length + 1) := by
      unfold nextW
      rw [if_pos (by decide)]
      exact quo_esc l (32 :: t)
    have hd : (l.flatMap escB ++ ([34] ++ 32 :: t)).drop ((l.flatMap escB).length + 1) = 32 :: t := by
      rw [show l.flatMap escB ++ ([34] ++ 32 :: t) = (l.flatMap escB ++ [34]) ++ 32 :: t by simp]
      rw [show (l.flatMap escB).length + 1 = (l.flatMap escB ++ [34]).length by simp, List.drop_left]
    rw [cutY _ 34 m l _ (by decide) (by decide) hn (by rw [hd]; simp [behind, hm]; omega), hd, e32]
def lineL (ws : List ByteArray) : List UInt8 := ws.flatMap fun w => wordL w.data.toList ++ [32]
theorem cut_line : ∀ (ws : List ByteArray) (m : Nat), (∀ w ∈ ws, w.size ≤ 200) → m + ws.length ≤ 8 → cutL (lineL ws) m = some ws
  | [], m, _, _ => by rw [lineL, List.flatMap_nil, cutL]
  | w :: ws, m, h, hm => by
    rw [List.length_cons] at hm
    rw [lineL, List.flatMap_cons, List.append_assoc]
    have e : [32] ++ ws.flatMap (fun w => wordL w.data.toList ++ [32]) = 32 :: lineL ws := rfl
    rw [e, cut_word _ _ m (by rw [len_data]; exact h w (List.mem_cons_self ..)) (by omega), cut_line ws (m + 1) (fun x hx => h x (List.mem_cons_of_mem _ hx)) (by omega), back]
    rfl
theorem cut_sizes : ∀ (n : Nat) (l : List UInt8) (m : Nat), l.length ≤ n → ∀ ws, cutL l m = some ws → ∀ w ∈ ws, w.size ≤ 200
  | 0, [], m, _, ws, h => by rw [cutL] at h; injection h with h; subst h; intro w hw; cases hw
  | n + 1, [], m, _, ws, h => by rw [cutL] at h; injection h with h; subst h; intro w hw; cases hw
  | n + 1, c :: r, m, hl, ws, h => by
    rw [List.length_cons] at hl
    rw [cutL] at h
    split at h
    · exact cut_sizes n r m (by omega) ws h
    · split at h
      · injection h with h; subst h; intro w hw; cases hw
      · split at h
        · cases h
        · rename_i x k _
          split at h
          · rename_i hc
            simp only [Bool.and_eq_true, decide_eq_true_eq] at hc
            obtain ⟨y, h1, h2⟩ := Option.map_eq_some_iff.1 h
            subst h2
            intro w hw
            rcases List.mem_cons.1 hw with rfl | q
            · show x.toArray.size ≤ 200
              simpa using hc.1.2
            · exact cut_sizes n (r.drop k) (m + 1) (by rw [List.length_drop]; omega) y h1 w q
          · cases h

end Go.Proofs.YtkhhhogpkcggjaaDoor.Pl
