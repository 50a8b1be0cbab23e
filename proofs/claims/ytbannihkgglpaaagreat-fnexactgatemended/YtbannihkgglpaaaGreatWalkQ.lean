/-
  Walks: the place of a kind; ascending names.
-/
import Derived.Test.YtbannihkgglpaaaGreatPlainC
import Derived.Test.YtbannihkgglpaaaGreatWalkA
import Derived.Deep.RegionWith
import Derived.BigQuiet
import Derived.Deep.QuietTactic
namespace Go.Proofs.YtbannihkgglpaaaGreat
open Go.RowKit Go.Deep

set_option maxHeartbeats 1000000 in
theorem l1Shape_any (B : Nat) (ss : List Shp) (k : ByteArray) (w : World) (h : ShpsIn w B ss) :
    Calls Tryz.prog 48 #[.slice (some ⟨B, 0, none⟩) ss.length ss.length, .string k] w fun e w' => e = .returned (.int .i64 (if kindAt ss k < ss.length then (kindAt ss k : Int) else -1)) ∧ w = w' := by
  have hl := h.len
  obtain ⟨r, hr⟩ : ∃ r : Int, r = (if kindAt ss k < ss.length then (kindAt ss k : Int) else -1) := ⟨_, rfl⟩
  have HR : Hid (r = (if kindAt ss k < ss.length then (kindAt ss k : Int) else -1)) := hr
  rw [← hr]
  clear hr
  go_enter Tryz.func48, Tryz.ntmps48
  go_wp2
  go_loop [5] (fun i => ∃ q : Nat, q ≤ ss.length ∧ i = .int .i64 q ∧ q ≤ kindAt ss k) (fun i => ss.length - (intOf i).toNat)
  case atStart => exact ⟨0, Nat.zero_le _, rfl, Nat.zero_le _⟩
  case round =>
    obtain ⟨q, hq, rfl, hno⟩ := hrel
    have HN : Hid (q ≤ kindAt ss k) := hno
    clear hno
    by_cases hlt : q < ss.length
    · obtain ⟨b, _, _, _, _, c0, c1, _⟩ := h.at_ q hlt
      obtain ⟨s, hs⟩ : ∃ s, s = ss.getD q Shp.none := ⟨_, rfl⟩
      rw [← hs] at c0 c1
      cases ht : (s.kind.toList == k.toList)
      · have HM : Hid (q + 1 ≤ kindAt ss k) := kindAt_miss ss k q hlt HN.out (by rw [← hs]; exact ht)
        clear hs h
        go_wp2
        go_round
        case rel => exact ⟨q + 1, by omega, by go_num, HM.out⟩
        case measure => simp [intOf]; omega
      · have HM : Hid (kindAt ss k = q) := kindAt_hit ss k q hlt HN.out (by rw [← hs]; exact ht)
        clear hs h
        go_wp2
        go_ret
        exact ⟨Pl.ret_int (by rw [HR.out, HM.out, if_pos hlt]), rfl⟩
    · clear h
      go_wp2
      go_ret
      exact ⟨Pl.ret_int (by rw [HR.out, if_neg (by have := HN.out; omega)]), rfl⟩

theorem nameOk_same (s : ByteArray) (w : World) (hs : s.size ≤ maxLen) :
    Calls Tryz.prog 64 #[.string s] w fun e w' => e = .returned (.bool (Pl.nameOk s)) ∧ w' = w := (l1NameOk_any s w hs).mono fun _ _ h => ⟨h.1, h.2.symm⟩

theorem asc_false {ss : List ByteArray} {k : Nat} (hk : k < ss.length) (h : Pl.ascAt ss k = false) : Pl.asc ss = false := Pl.to_false _ _ k hk h
theorem asc_step {ss : List ByteArray} {k : Nat} (h : Pl.ascTo ss k = true) (ha : Pl.ascAt ss k = true) : Pl.ascTo ss (k + 1) = true := by
  unfold Pl.ascTo at h ⊢; rw [Pl.to_succ, h, ha]; rfl

set_option maxHeartbeats 2000000 in
theorem l1Asc_row (b cap : Nat) (ss : List ByteArray) (w : World) (hl : ss.length ≤ 1048576) (hb : b < w.heap.size) (hs : ∀ i, i < ss.length → (ss.getD i ByteArray.empty).size ≤ maxLen)
    (hc : ∀ i, i < ss.length → w.cell? ⟨b, 0 + i, none⟩ = some (.string (ss.getD i ByteArray.empty))) :
    Calls Tryz.prog 83 #[.slice (some ⟨b, 0, none⟩) ss.length cap] w fun e w' => e = .returned (.bool (Pl.asc ss)) ∧ Below w.heap.size w w' := by
  go_enter Tryz.func83, Tryz.ntmps83
  go_wp2
  go_loopw [3] (fun i wr => ∃ k : Nat, k ≤ ss.length ∧ i = .int .i64 k ∧ Pl.ascTo ss k = true ∧ Below w.heap.size w wr) (fun i _ => ss.length - (intOf i).toNat)
  case atStart => exact ⟨0, Nat.zero_le _, rfl, rfl, Below.refl _ _⟩
  case round =>
    obtain ⟨k, hk, rfl, hall, hW⟩ := hrel
    have HA : Hid (Pl.ascTo ss k = true) := hall
    clear hall
    by_cases hlt : k < ss.length
    · obtain ⟨s, hss⟩ : ∃ s, s = ss.getD k ByteArray.empty := ⟨_, rfl⟩
      have hck : wr.cell? ⟨b, k, none⟩ = some (.string s) := by rw [hss, hW.cell (p := ⟨b, k, none⟩) hb]; simpa using hc k hlt
      have HX : Hid (s.size ≤ maxLen) := by show s.size ≤ maxLen; rw [hss]; exact hs k hlt
      by_cases h0 : k = 0
      · subst h0
        have HT : Hid (Pl.ascAt ss 0 = Pl.nameOk s) := by show Pl.ascAt ss 0 = Pl.nameOk s; rw [hss]; simp [Pl.ascAt]
        clear hc hs hss
        cases hn : Pl.nameOk s
        · have HF : Hid (Pl.asc ss = false) := asc_false hlt (by rw [HT.out, hn])
          go_wp2_with fail
          go_quiet ((go_at_call 64; exact Calls.quiet_of_same (nameOk_same _ _ HX.out)))
          go_wp2
          go_ret
          exact ⟨Pl.ret_bool HF.out.symm, blw_drewN hW _⟩
        · have HF : Hid (Pl.ascTo ss 1 = true) := asc_step HA.out (by rw [HT.out, hn])
          go_wp2_with fail
          go_quiet ((go_at_call 64; exact Calls.quiet_of_same (nameOk_same _ _ HX.out)))
          go_wp2
          go_roundw
          case rel => exact ⟨1, by omega, by go_num, HF.out, blw_drewN hW _⟩
          case measure => simp [intOf]; omega
      · obtain ⟨p, hpp⟩ : ∃ p, p = ss.getD (k - 1) ByteArray.empty := ⟨_, rfl⟩
        obtain ⟨m, rfl⟩ : ∃ m, k = m + 1 := ⟨k - 1, by omega⟩
        have hcp : wr.cell? ⟨b, m, none⟩ = some (.string p) := by rw [hpp, hW.cell (p := ⟨b, m, none⟩) hb]; simpa using hc m (by omega)
        have HT : Hid (Pl.ascAt ss (m + 1) = (Pl.nameOk s && Op.bytesLess p.toList s.toList)) := by show Pl.ascAt ss (m + 1) = _; rw [hss, hpp]; simp [Pl.ascAt, Pl.less]
        clear hc hs hss hpp h0
        cases hn : Pl.nameOk s
        · have HF : Hid (Pl.asc ss = false) := asc_false hlt (by rw [HT.out, hn]; rfl)
          go_wp2_with fail
          go_quiet ((go_at_call 64; exact Calls.quiet_of_same (nameOk_same _ _ HX.out)))
          go_wp2
          go_ret
          exact ⟨Pl.ret_bool HF.out.symm, blw_drewN hW _⟩
        · cases hq : Op.bytesLess p.toList s.toList
          · have HF : Hid (Pl.asc ss = false) := asc_false hlt (by rw [HT.out, hn, hq]; rfl)
            go_wp2_with fail
            go_quiet ((go_at_call 64; exact Calls.quiet_of_same (nameOk_same _ _ HX.out)))
            go_wp2
            go_ret
            exact ⟨Pl.ret_bool HF.out.symm, blw_drewN hW _⟩
          · have HF : Hid (Pl.ascTo ss (m + 1 + 1) = true) := asc_step HA.out (by rw [HT.out, hn, hq]; rfl)
            go_wp2_with fail
            go_quiet ((go_at_call 64; exact Calls.quiet_of_same (nameOk_same _ _ HX.out)))
            go_wp2
            go_roundw
            case rel => exact ⟨m + 1 + 1, by omega, by go_num, HF.out, blw_drewN hW _⟩
            case measure => simp [intOf]; omega
    · have HF : Hid (Pl.asc ss = true) := by
        obtain rfl : k = ss.length := by omega
        exact HA.out
      go_wp2
      go_ret
      exact ⟨Pl.ret_bool HF.out.symm, hW⟩
end Go.Proofs.YtbannihkgglpaaaGreat
