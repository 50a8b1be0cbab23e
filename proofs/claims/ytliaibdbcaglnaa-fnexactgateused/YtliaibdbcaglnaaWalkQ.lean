/-
  Walks: the place of a kind; ascending names.
-/
import Derived.Test.YtliaibdbcaglnaaPlainC
import Derived.Test.YtliaibdbcaglnaaWalkA
import Derived.Deep.RegionWith
import Derived.BigQuiet
import Derived.Deep.QuietTactic
namespace Go.Proofs.Ytliaibdbcaglnaa
open Go.RowKit Go.Deep

set_option maxHeartbeats 1000000 in
theorem l1Shape_any (B : Nat) (ss : List Shp) (k : ByteArray) (w : World) (h : ShpsIn w B ss) :
    Calls Try.prog 51 #[.slice (some ⟨B, 0, none⟩) ss.length ss.length, .string k] w fun e w' => e = .returned (.int .i64 (if kindAt ss k < ss.length then (kindAt ss k : Int) else -1)) ∧ w = w' := by
  have hl := h.len
  obtain ⟨r, hr⟩ : ∃ r : Int, r = (if kindAt ss k < ss.length then (kindAt ss k : Int) else -1) := ⟨_, rfl⟩
  have HR : Hid (r = (if kindAt ss k < ss.length then (kindAt ss k : Int) else -1)) := hr
  rw [← hr]
  clear hr
  go_enter Try.func51, Try.ntmps51
  go_wp2
  go_loop [5] (fun i => ∃ q : Nat, q ≤ ss.length ∧ i = .int .i64 q ∧ q ≤ kindAt ss k) (fun i => ss.length - (intOf i).toNat)
  case atStart => exact ⟨0, Nat.zero_le _, rfl, Nat.zero_le _⟩
  case round =>
    obtain ⟨q, hq, rfl, hno⟩ := hrel
    have HN : Hid (q ≤ kindAt ss k) := hno
    clear hno
    by_cases hlt : q < ss.length
    · obtain ⟨b, _, _, _, _, c0, c1, _⟩ := h.at_ q hlt
      obtain ⟨s, hs⟩ : ∃ s, s = ss.getD q Shp.none := ⟨_, rfl⟩
      rw [← hs] at c0 c1
      cases ht : (s.kind.toList == k.toList)
      · have HM : Hid (q + 1 ≤ kindAt ss k) := kindAt_miss ss k q hlt HN.out (by rw [← hs]; exact ht)
        clear hs h
        go_wp2
        go_round
        case rel => exact ⟨q + 1, by omega, by go_num, HM.out⟩
        case measure => simp [intOf]; omega
      · have HM : Hid (kindAt ss k = q) := kindAt_hit ss k q hlt HN.out (by rw [← hs]; exact ht)
        clear hs h
        go_wp2
        go_ret
        exact ⟨Pl.ret_int (by rw [HR.out, HM.out, if_pos hlt]), rfl⟩
    · clear h
      go_wp2
      go_ret
      exact ⟨Pl.ret_int (by rw [HR.out, if_neg (by have := HN.out; omega)]), rfl⟩

theorem asc_false {ss : List ByteArray} {k : Nat} (hk : k < ss.length) (h : Pl.ascAt ss k = false) : Pl.asc ss = false := Pl.to_false _ _ k hk h
theorem asc_step {ss : List ByteArray} {k : Nat} (h : Pl.ascTo ss k = true) (ha : Pl.ascAt ss k = true) : Pl.ascTo ss (k + 1) = true := by
  unfold Pl.ascTo at h ⊢; rw [Pl.to_succ, h, ha]; rfl

end Go.Proofs.Ytliaibdbcaglnaa
