/-
  Sheets: numbers, names, what fits: the specification.
-/
import Derived.Test.YtfhobegepiijhaaEDe
namespace Go.Proofs.Ytfhobegepiijhaa
open Go.RowKit Go.Deep

set_option maxHeartbeats 2000000 in
theorem l38NameOkS (s : ByteArray) (w : World) (hs : s.size ≤ maxLen) :
    Calls Try.prog 27 #[.string s] w fun e w' => e = .returned (.bool (Pl.nameOk20 s)) ∧ w = w' := by
  unfold maxLen at hs
  by_cases hin : 1 ≤ s.size ∧ s.size ≤ 20
  · obtain ⟨h1, h2⟩ := hin
    have hb : (decide ((1 : Int) ≤ (s.size : Int)) && decide ((s.size : Int) ≤ 20)) = true := by simp; omega
    go_enter Try.func27, Try.ntmps27
    go_wp2_with (go_at_call 34; refine (l37In_any _ _ _ _).mono ?_; rintro e w' ⟨rfl, rfl⟩)
    go_loop [3] (fun i => ∃ k : Nat, k ≤ s.size ∧ i = .int .i64 k ∧ (s.data.toList.take k).all Pl.nameByte = true) (fun i => s.size - (intOf i).toNat)
    case atStart => exact ⟨0, Nat.zero_le _, rfl, rfl⟩
    case round =>
      obtain ⟨k, hk, rfl, hall⟩ := hrel
      have HA : Hid ((s.data.toList.take k).all Pl.nameByte = true) := hall
      clear hall
      by_cases hlt : k < s.size
      · have HSN : Hid ((s.data.toList.take (k + 1)).all Pl.nameByte = Pl.nameByte s[k]) := by show _ = _; rw [Pl.all_snoc _ _ _ hlt, HA.out]; rfl
        have HFN : Hid (Pl.nameByte s[k] = false → Pl.nameOk20 s = false) := fun h => by simp [Pl.nameOk20, Pl.nameBytes, Pl.all_false _ s k hlt h]
        obtain ⟨b, hb'⟩ : ∃ b, b = s[k] := ⟨_, rfl⟩
        have hix : s[k] = b := hb'.symm
        clear hb'
        rw [hix] at HSN HFN
        go_wp2
        all_goals simp only [Bool.not_eq_eq_eq_not, Bool.not_true, Bool.not_false, beq_iff_eq, beq_eq_false_iff_ne, decide_eq_true_eq, decide_eq_false_iff_not] at *
        all_goals first
          | (have hn : Pl.nameByte b = false := by rw [Bool.eq_false_iff]; simp [Pl.nameByte]; omega
             go_ret
             exact ⟨Pl.ret_bool (HFN.out hn).symm, rfl⟩)
          | (have hn : Pl.nameByte b = true := by simp [Pl.nameByte]; omega
             go_round
             case rel => exact ⟨k + 1, by omega, by go_num, by rw [HSN.out, hn]⟩
             case measure => simp [intOf]; omega)
      · have HF : Hid (Pl.nameOk20 s = true) := by
          show Pl.nameOk20 s = true
          have := Pl.all_whole Pl.nameByte s k (by omega)
          simp only [Pl.nameOk20, Pl.nameBytes, ← this, HA.out]
          simp; omega
        go_wp2
        go_ret
        exact ⟨Pl.ret_bool HF.out.symm, rfl⟩
  · have HF : Hid (Pl.nameOk20 s = false) := by
      show Pl.nameOk20 s = false
      have : (decide (1 ≤ s.size) && decide (s.size ≤ 20)) = false := by
        rw [Bool.eq_false_iff]; simp; omega
      simp [Pl.nameOk20, this]
    have hb : (decide ((1 : Int) ≤ (s.size : Int)) && decide ((s.size : Int) ≤ 20)) = false := by
      rw [Bool.eq_false_iff]; simp; omega
    clear hin
    go_enter Try.func27, Try.ntmps27
    go_wp2_with (go_at_call 34; refine (l37In_any _ _ _ _).mono ?_; rintro e w' ⟨rfl, rfl⟩)
    go_ret
    exact ⟨Pl.ret_bool HF.out.symm, rfl⟩

end Go.Proofs.Ytfhobegepiijhaa
