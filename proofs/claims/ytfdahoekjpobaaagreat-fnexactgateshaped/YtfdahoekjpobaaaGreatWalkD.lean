/-
  Walks over lists of texts: what is read.
-/
import Derived.WalkKit
import Derived.WalkSpells
import Derived.WalkLawsBesides
import Derived.BigQuiet
import Derived.Deep.QuietTactic
import Derived.Test.YtfdahoekjpobaaaGreatRows
import Derived.Test.YtfdahoekjpobaaaGreatPlain
namespace Go.Proofs.YtfdahoekjpobaaaGreat
open Go.RowKit

set_option maxHeartbeats 400000 in
theorem l1Has_row (b off cap : Nat) (ss : List ByteArray) (s : ByteArray) (w : World) (hl : ss.length ≤ maxLen)
    (hc : ∀ i, i < ss.length → w.cell? ⟨b, off + i, none⟩ = some (.string (ss.getD i ByteArray.empty))) :
    Calls Tryz.prog 61 #[.slice (some ⟨b, off, none⟩) ss.length cap, .string s] w fun e w' => e = .returned (.bool (Pl.has ss s)) ∧ w = w' := by
  unfold maxLen at hl
  go_enter Tryz.func61, Tryz.ntmps61
  go_wp2
  go_loop [5] (fun i => ∃ k : Nat, k ≤ ss.length ∧ i = .int .i64 k ∧ Pl.has (ss.take k) s = false) (fun i => ss.length - (intOf i).toNat)
  case atStart => exact ⟨0, Nat.zero_le _, rfl, rfl⟩
  case round =>
    obtain ⟨k, hk, rfl, hall⟩ := hrel
    have HA : Hid (Pl.has (ss.take k) s = false) := hall
    clear hall
    by_cases hlt : k < ss.length
    · have hck := hc k hlt
      have HT : Hid ((ss[k].toList == s.toList) = true → Pl.has ss s = true) := fun h => Pl.has_true ss s k hlt h
      have HN : Hid ((ss[k].toList == s.toList) = false → Pl.has (ss.take (k + 1)) s = false) := fun h => by rw [Pl.has_snoc ss s k hlt, HA.out, h]; rfl
      cases hq : (ss[k].toList == s.toList)
      · have HQ := HN.out hq
        have HQ' : Hid (Pl.has (ss.take (k + 1)) s = false) := HQ
        clear HQ HT HN
        go_wp2
        go_round
        case rel => exact ⟨k + 1, by omega, by go_num, HQ'.out⟩
        case measure => simp [intOf]; omega
      · have HQ := HT.out hq
        have HQ' : Hid (Pl.has ss s = true) := HQ
        clear HQ HT HN
        go_wp2
        go_ret
        exact ⟨Pl.ret_bool HQ'.out.symm, rfl⟩
    · have HQ' : Hid (Pl.has ss s = false) := by show Pl.has ss s = false; rw [← Pl.has_whole ss s k (by omega)]; exact HA.out
      go_wp2
      go_ret
      exact ⟨Pl.ret_bool HQ'.out.symm, rfl⟩

set_option maxHeartbeats 400000 in
theorem index_row (b off cap : Nat) (ss : List ByteArray) (s : ByteArray) (w : World) (hl : ss.length ≤ maxLen)
    (hc : ∀ i, i < ss.length → w.cell? ⟨b, off + i, none⟩ = some (.string (ss.getD i ByteArray.empty))) :
    Calls Tryz.prog 123 #[.slice (some ⟨b, off, none⟩) ss.length cap, .string s] w fun e w' => (∃ r : Int, e = .returned (.int .i64 r) ∧ decide (0 ≤ r) = Pl.has ss s) ∧ w = w' := by
  unfold maxLen at hl
  go_enter Tryz.func123, Tryz.ntmps123
  go_wp2
  go_loop [8] (fun i => ∃ k : Nat, k ≤ ss.length ∧ i = .int .i64 k ∧ Pl.has (ss.take k) s = false) (fun i => ss.length - (intOf i).toNat)
  case atStart => exact ⟨0, Nat.zero_le _, rfl, rfl⟩
  case round =>
    obtain ⟨k, hk, rfl, hall⟩ := hrel
    have HA : Hid (Pl.has (ss.take k) s = false) := hall
    clear hall
    by_cases hlt : k < ss.length
    · have hck := hc k hlt
      have HT : Hid ((s.toList == ss[k].toList) = true → Pl.has ss s = true) := fun h => Pl.has_true ss s k hlt (by rw [beq_iff_eq] at h ⊢; exact h.symm)
      have HN : Hid ((s.toList == ss[k].toList) = false → Pl.has (ss.take (k + 1)) s = false) := fun h => by
        have h' : (ss[k].toList == s.toList) = false := by rw [beq_eq_false_iff_ne] at h ⊢; exact fun e => h e.symm
        rw [Pl.has_snoc ss s k hlt, HA.out, h']; rfl
      cases hq : (s.toList == ss[k].toList)
      · have HQ := HN.out hq
        have HQ' : Hid (Pl.has (ss.take (k + 1)) s = false) := HQ
        clear HQ HT HN
        go_wp2
        go_round
        case rel => exact ⟨k + 1, by omega, by go_num, HQ'.out⟩
        case measure => simp [intOf]; omega
      · have HQ := HT.out hq
        have HQ' : Hid (Pl.has ss s = true) := HQ
        clear HQ HT HN
        go_wp2
        go_ret
        exact ⟨⟨_, rfl, by rw [HQ'.out]; simp⟩, rfl⟩
    · have HQ' : Hid (Pl.has ss s = false) := by show Pl.has ss s = false; rw [← Pl.has_whole ss s k (by omega)]; exact HA.out
      go_wp2
      go_ret
      exact ⟨⟨_, rfl, by rw [HQ'.out]; simp⟩, rfl⟩

set_option maxHeartbeats 400000 in
theorem contains_row (b off cap : Nat) (ss : List ByteArray) (s : ByteArray) (w : World) (hl : ss.length ≤ maxLen)
    (hc : ∀ i, i < ss.length → w.cell? ⟨b, off + i, none⟩ = some (.string (ss.getD i ByteArray.empty))) :
    Calls Tryz.prog 122 #[.slice (some ⟨b, off, none⟩) ss.length cap, .string s] w fun e w' => e = .returned (.bool (Pl.has ss s)) ∧ w = w' := by
  have HX : Hid (∀ W, W = w → Calls Tryz.prog 123 #[.slice (some ⟨b, off, none⟩) ss.length cap, .string s] W fun e w' => (∃ r : Int, e = .returned (.int .i64 r) ∧ decide (0 ≤ r) = Pl.has ss s) ∧ W = w') := by
    intro W e; subst e; exact index_row b off cap ss s W hl hc
  clear hc
  unfold maxLen at hl
  go_enter Tryz.func122, Tryz.ntmps122
  go_wp2_with fail
  refine (HX.out _ rfl).mono ?_
  rintro e w' ⟨⟨r, rfl, hr⟩, rfl⟩
  have HR : Hid (decide (0 ≤ r) = Pl.has ss s) := hr
  clear hr
  go_wp2
  go_ret
  exact ⟨Pl.ret_bool HR.out, rfl⟩

end Go.Proofs.YtfdahoekjpobaaaGreat
