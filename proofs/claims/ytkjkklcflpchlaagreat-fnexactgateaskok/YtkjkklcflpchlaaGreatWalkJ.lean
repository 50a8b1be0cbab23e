/-
  Walks over lists of texts: sizes, copies, equality.
-/
import Derived.Test.YtkjkklcflpchlaaGreatProg
import Derived.RowKit
import Derived.WalkKit
import Derived.WalkSpells
import Derived.WalkLawsBesides
import Derived.BigQuiet
import Derived.Deep.QuietTactic
import Derived.Deep.OwnRows
import Derived.Test.YtkjkklcflpchlaaGreatPlain
import Derived.Test.YtkjkklcflpchlaaGreatMap
namespace Go.Proofs.YtkjkklcflpchlaaGreat
open Go.RowKit

set_option maxHeartbeats 400000 in
theorem l1Has_row (b off cap : Nat) (ss : List ByteArray) (s : ByteArray) (w : World) (hl : ss.length ≤ maxLen)
    (hc : ∀ i, i < ss.length → w.cell? ⟨b, off + i, none⟩ = some (.string (ss.getD i ByteArray.empty))) :
    Calls Tryz.prog 99 #[.slice (some ⟨b, off, none⟩) ss.length cap, .string s] w fun e w' => e = .returned (.bool (Pl.has ss s)) ∧ w = w' := by
  unfold maxLen at hl
  go_enter Tryz.func99, Tryz.ntmps99
  go_wp2
  go_loop [5] (fun i => ∃ k : Nat, k ≤ ss.length ∧ i = .int .i64 k ∧ Pl.has (ss.take k) s = false) (fun i => ss.length - (intOf i).toNat)
  case atStart => exact ⟨0, Nat.zero_le _, rfl, rfl⟩
  case round =>
    obtain ⟨k, hk, rfl, hall⟩ := hrel
    have HA : Hid (Pl.has (ss.take k) s = false) := hall
    clear hall
    by_cases hlt : k < ss.length
    · have hck := hc k hlt
      have HT : Hid ((ss[k].toList == s.toList) = true → Pl.has ss s = true) := fun h => Pl.has_true ss s k hlt h
      have HN : Hid ((ss[k].toList == s.toList) = false → Pl.has (ss.take (k + 1)) s = false) := fun h => by rw [Pl.has_snoc ss s k hlt, HA.out, h]; rfl
      cases hq : (ss[k].toList == s.toList)
      · have HQ := HN.out hq
        have HQ' : Hid (Pl.has (ss.take (k + 1)) s = false) := HQ
        clear HQ HT HN
        go_wp2
        go_round
        case rel => exact ⟨k + 1, by omega, by go_num, HQ'.out⟩
        case measure => simp [intOf]; omega
      · have HQ := HT.out hq
        have HQ' : Hid (Pl.has ss s = true) := HQ
        clear HQ HT HN
        go_wp2
        go_ret
        exact ⟨Pl.ret_bool HQ'.out.symm, rfl⟩
    · have HQ' : Hid (Pl.has ss s = false) := by show Pl.has ss s = false; rw [← Pl.has_whole ss s k (by omega)]; exact HA.out
      go_wp2
      go_ret
      exact ⟨Pl.ret_bool HQ'.out.symm, rfl⟩

set_option maxHeartbeats 400000 in
theorem index_row (b off cap : Nat) (ss : List ByteArray) (s : ByteArray) (w : World) (hl : ss.length ≤ maxLen)
    (hc : ∀ i, i < ss.length → w.cell? ⟨b, off + i, none⟩ = some (.string (ss.getD i ByteArray.empty))) :
    Calls Tryz.prog 176 #[.slice (some ⟨b, off, none⟩) ss.length cap, .string s] w fun e w' => (∃ r : Int, e = .returned (.int .i64 r) ∧ decide (0 ≤ r) = Pl.has ss s) ∧ w = w' := by
  unfold maxLen at hl
  go_enter Tryz.func176, Tryz.ntmps176
  go_wp2
  go_loop [8] (fun i => ∃ k : Nat, k ≤ ss.length ∧ i = .int .i64 k ∧ Pl.has (ss.take k) s = false) (fun i => ss.length - (intOf i).toNat)
  case atStart => exact ⟨0, Nat.zero_le _, rfl, rfl⟩
  case round =>
    obtain ⟨k, hk, rfl, hall⟩ := hrel
    have HA : Hid (Pl.has (ss.take k) s = false) := hall
    clear hall
    by_cases hlt : k < ss.length
    · have hck := hc k hlt
      have HT : Hid ((s.toList == ss[k].toList) = true → Pl.has ss s = true) := fun h => Pl.has_true ss s k hlt (by rw [beq_iff_eq] at h ⊢; exact h.symm)
      have HN : Hid ((s.toList == ss[k].toList) = false → Pl.has (ss.take (k + 1)) s = false) := fun h => by
        have h' : (ss[k].toList == s.toList) = false := by rw [beq_eq_false_iff_ne] at h ⊢; exact fun e => h e.symm
        rw [Pl.has_snoc ss s k hlt, HA.out, h']; rfl
      cases hq : (s.toList == ss[k].toList)
      · have HQ := HN.out hq
        have HQ' : Hid (Pl.has (ss.take (k + 1)) s = false) := HQ
        clear HQ HT HN
        go_wp2
        go_round
        case rel => exact ⟨k + 1, by omega, by go_num, HQ'.out⟩
        case measure => simp [intOf]; omega
      · have HQ := HT.out hq
        have HQ' : Hid (Pl.has ss s = true) := HQ
        clear HQ HT HN
        go_wp2
        go_ret
        exact ⟨⟨_, rfl, by rw [HQ'.out]; simp⟩, rfl⟩
    · have HQ' : Hid (Pl.has ss s = false) := by show Pl.has ss s = false; rw [← Pl.has_whole ss s k (by omega)]; exact HA.out
      go_wp2
      go_ret
      exact ⟨⟨_, rfl, by rw [HQ'.out]; simp⟩, rfl⟩

set_option maxHeartbeats 400000 in
theorem contains_row (b off cap : Nat) (ss : List ByteArray) (s : ByteArray) (w : World) (hl : ss.length ≤ maxLen)
    (hc : ∀ i, i < ss.length → w.cell? ⟨b, off + i, none⟩ = some (.string (ss.getD i ByteArray.empty))) :
    Calls Tryz.prog 175 #[.slice (some ⟨b, off, none⟩) ss.length cap, .string s] w fun e w' => e = .returned (.bool (Pl.has ss s)) ∧ w = w' := by
  have HX : Hid (∀ W, W = w → Calls Tryz.prog 176 #[.slice (some ⟨b, off, none⟩) ss.length cap, .string s] W fun e w' => (∃ r : Int, e = .returned (.int .i64 r) ∧ decide (0 ≤ r) = Pl.has ss s) ∧ W = w') := by
    intro W e; subst e; exact index_row b off cap ss s W hl hc
  clear hc
  unfold maxLen at hl
  go_enter Tryz.func175, Tryz.ntmps175
  go_wp2_with fail
  refine (HX.out _ rfl).mono ?_
  rintro e w' ⟨⟨r, rfl, hr⟩, rfl⟩
  have HR : Hid (decide (0 ≤ r) = Pl.has ss s) := hr
  clear hr
  go_wp2
  go_ret
  exact ⟨Pl.ret_bool HR.out, rfl⟩

end Go.Proofs.YtkjkklcflpchlaaGreat

namespace Go.Proofs.YtkjkklcflpchlaaGreat
open Go.RowKit Go.Deep

theorem blw_drewN {a w : World} (h : Below a.heap.size a w) (n : Nat) : Below a.heap.size a (w.drewN n) := ⟨h.os, h.tape, h.output, h.size, h.block⟩

theorem Tryz.info9 : (Tryz.prog.info? 9).map (fun i => (i.zero, i.size, i.bytes)) = some (some (.string ByteArray.empty), 1, 16) := by kernel_rfl
theorem Tryz.underlying27' : Tryz.prog.underlying 27 = some (.slice 9) := by kernel_rfl

theorem make_texts (n : Nat) (h : n ≤ 1048576) (W : World) :
    (Instr.makeSlice 27 (.int .i64 (n : Int)) (.int .i64 (n : Int))).run Tryz.prog W = .ok (.slice (some ⟨W.heap.size, 0, none⟩) n n) (W.alloc (.cells (madeCells #[.string ByteArray.empty] n) 9)) :=
  run_make_row' 27 9 (.string ByteArray.empty) 16 Tryz.underlying27' Tryz.info9 rfl .i64 .i64 n (by omega) (by omega) W

theorem put_cells (cs : Array Value) (ss : List ByteArray) (k : Nat) (s : ByteArray) (hk : k < ss.length) (hs : ss.getD k ByteArray.empty = s) (hsz : cs.size = ss.length)
    (h : ∀ j, j < k → cs[j]? = some (.string (ss.getD j ByteArray.empty))) :
    (cs.setIfInBounds k (.string s)).size = ss.length ∧ ∀ j, j < k + 1 → (cs.setIfInBounds k (.string s))[j]? = some (.string (ss.getD j ByteArray.empty)) := by
  refine ⟨by simpa using hsz, fun j hj => ?_⟩
  rw [Array.getElem?_setIfInBounds]
  by_cases e : k = j
  · subst e; rw [if_pos rfl, if_pos (by omega), hs]
  · rw [if_neg e]; exact h j (by omega)

set_option maxHeartbeats 400000 in
theorem toTexts_row (b off cap : Nat) (ss : List ByteArray) (w : World) (hb : b < w.heap.size) (hl : ss.length ≤ 1048576)
    (hc : ∀ i, i < ss.length → w.cell? ⟨b, off + i, none⟩ = some (.string (ss.getD i ByteArray.empty))) :
    Calls Tryz.prog 28 #[.slice (some ⟨b, off, none⟩) ss.length cap] w fun e w' => ∃ cs : Array Value, e = .returned (.slice (some ⟨w.heap.size, 0, none⟩) ss.length ss.length) ∧ w' = w.alloc (.cells cs 9) ∧ cs.size = ss.length ∧
      ∀ j, j < ss.length → cs[j]? = some (.string (ss.getD j ByteArray.empty)) := by
  have hmk := make_texts ss.length hl
  have HC : Hid (∀ o i, i < ss.length → (w.alloc o).cell? ⟨b, off + i, none⟩ = some (.string (ss.getD i ByteArray.empty))) := by
    intro o i hi
    rw [← hc i hi]
    exact (blw_alloc (Below.refl _ _) o : Below w.heap.size w _).cell (p := ⟨b, off + i, none⟩) hb
  clear hc
  go_enter Tryz.func28, Tryz.ntmps28
  go_wp2
  go_loopw [4] (fun i wr => ∃ (k : Nat) (cs : Array Value), k ≤ ss.length ∧ i = .int .i64 k ∧ wr = w.alloc (.cells cs 9) ∧ cs.size = ss.length ∧ ∀ j, j < k → cs[j]? = some (.string (ss.getD j ByteArray.empty))) (fun i _ => ss.length - (intOf i).toNat)
  case atStart => exact ⟨0, _, Nat.zero_le _, rfl, rfl, size_madeCells _ _, fun j hj => absurd hj (Nat.not_lt_zero j)⟩
  case round =>
    obtain ⟨k, cs, hk, rfl, rfl, hsz, hall⟩ := hrel
    have HA : Hid (cs.size = ss.length ∧ ∀ j, j < k → cs[j]? = some (.string (ss.getD j ByteArray.empty))) := ⟨hsz, hall⟩
    clear hall hsz
    by_cases hlt : k < ss.length
    · have hck := HC.out (.cells cs 9) k hlt
      have hold : ∃ v, cs[k]? = some v := ⟨_, Array.getElem?_eq_getElem (by rw [HA.out.1]; exact hlt)⟩
      obtain ⟨v, hv⟩ := hold
      have HP : Hid ((cs.setIfInBounds k (.string ss[k])).size = ss.length ∧ ∀ j, j < k + 1 → (cs.setIfInBounds k (.string ss[k]))[j]? = some (.string (ss.getD j ByteArray.empty))) :=
        put_cells cs ss k ss[k] hlt (by simp [hlt]) HA.out.1 HA.out.2
      go_wp2
      go_roundw
      case rel => exact ⟨k + 1, _, by omega, by go_num, rfl, HP.out.1, HP.out.2⟩
      case measure => simp [intOf]; omega
    · obtain rfl : k = ss.length := by omega
      go_wp2
      go_ret
      exact ⟨cs, rfl, rfl, HA.out.1, HA.out.2⟩

set_option maxHeartbeats 400000 in
theorem toTexts_nil (a : Option Addr) (cap : Nat) (w : World) :
    Calls Tryz.prog 28 #[.slice a 0 cap] w fun e w' => e = .returned (.slice (some ⟨w.heap.size, 0, none⟩) 0 0) ∧ w' = w.alloc (.cells #[] 9) := by
  have hmk : ∀ W : World, (Instr.makeSlice 27 (.int .i64 0) (.int .i64 0)).run Tryz.prog W = .ok (.slice (some ⟨W.heap.size, 0, none⟩) 0 0) (W.alloc (.cells #[] 9)) := by
    intro W
    have h := make_texts 0 (by omega) W
    have h0 : madeCells #[.string ByteArray.empty] 0 = #[] := by simp [madeCells]
    rw [h0] at h
    exact h
  go_enter Tryz.func28, Tryz.ntmps28
  go_wp2
  refine wp_loop_rounds 1 ?_
  rw [rounds_succ]
  go_wp2
  go_ret
  exact ⟨rfl, rfl⟩

/-- What szStringS answers of n texts. -/
def szPost (n : Nat) (left r : Int) : Prop := -1 ≤ r ∧ r ≤ left ∧ (0 ≤ r → (n : Int) ≤ left)

set_option maxHeartbeats 400000 in
theorem szTexts_row (b off cap : Nat) (ss : List ByteArray) (left : Int) (w : World) (h0 : 0 ≤ left) (h1 : left ≤ 1048576) (hl : ss.length ≤ maxLen)
    (hs : ∀ i, i < ss.length → (ss.getD i ByteArray.empty).size ≤ maxLen)
    (hc : ∀ i, i < ss.length → w.cell? ⟨b, off + i, none⟩ = some (.string (ss.getD i ByteArray.empty))) :
    Calls Tryz.prog 21 #[.slice (some ⟨b, off, none⟩) ss.length cap, .int .i64 left] w fun e w' => (∃ r : Int, e = .returned (.int .i64 r) ∧ szPost ss.length left r) ∧ w = w' := by
  unfold maxLen at hl
  by_cases hneg : left < (ss.length : Int)
  · go_enter Tryz.func21, Tryz.ntmps21
    go_wp2
    go_ret
    exact ⟨⟨_, rfl, by unfold szPost; omega⟩, rfl⟩
  · go_enter Tryz.func21, Tryz.ntmps21
    go_wp2
    go_loop [1, 5] (fun l i => ∃ (k : Nat) (r : Int), k ≤ ss.length ∧ i = .int .i64 k ∧ l = .int .i64 r ∧ 0 ≤ r ∧ r ≤ left) (fun _ i => ss.length - (intOf i).toNat)
    case atStart => exact ⟨0, _, Nat.zero_le _, rfl, rfl, by omega, by omega⟩
    case round =>
      obtain ⟨k, r, hk, rfl, rfl, r0, r1⟩ := hrel
      by_cases hlt : k < ss.length
      · have hck := hc k hlt
        have hsk := hs k hlt
        have e : ss.getD k ByteArray.empty = ss[k] := by simp [hlt]
        rw [e] at hck hsk
        unfold maxLen at hsk
        clear e hs hc
        by_cases hq : r < (ss[k].size : Int)
        · go_wp2
          go_ret
          exact ⟨⟨_, rfl, by unfold szPost; omega⟩, rfl⟩
        · go_wp2
          go_round
          case rel => exact ⟨k + 1, _, by omega, by go_num, rfl, by omega, by omega⟩
          case measure => simp [intOf]; omega
      · go_wp2
        go_ret
        exact ⟨⟨_, rfl, by unfold szPost; omega⟩, rfl⟩

set_option maxHeartbeats 400000 in
theorem szTexts_nil (a : Option Addr) (cap : Nat) (left : Int) (w : World) (h0 : 0 ≤ left) (h1 : left ≤ 1048576) :
    Calls Tryz.prog 21 #[.slice a 0 cap, .int .i64 left] w fun e w' => (∃ r : Int, e = .returned (.int .i64 r) ∧ szPost 0 left r) ∧ w = w' := by
  go_enter Tryz.func21, Tryz.ntmps21
  go_wp2
  refine wp_loop_rounds 1 ?_
  rw [rounds_succ]
  go_wp2
  go_ret
  exact ⟨⟨_, rfl, by unfold szPost; omega⟩, rfl⟩

set_option maxHeartbeats 1000000 in
theorem eqTexts_row (b off cap b' off' cap' : Nat) (ss : List ByteArray) (w : World) (hl : ss.length ≤ maxLen)
    (hc : ∀ i, i < ss.length → w.cell? ⟨b, off + i, none⟩ = some (.string (ss.getD i ByteArray.empty)))
    (hc' : ∀ i, i < ss.length → w.cell? ⟨b', off' + i, none⟩ = some (.string (ss.getD i ByteArray.empty))) :
    Calls Tryz.prog 35 #[.slice (some ⟨b, off, none⟩) ss.length cap, .slice (some ⟨b', off', none⟩) ss.length cap'] w fun e w' => e = .returned (.bool true) ∧ Below w.heap.size w w' := by
  unfold maxLen at hl
  go_enter Tryz.func35, Tryz.ntmps35
  go_wp2
  go_loopw [5] (fun i wr => ∃ k : Nat, k ≤ ss.length ∧ i = .int .i64 k ∧ ∃ n, wr = w.drewN n) (fun i _ => ss.length - (intOf i).toNat)
  case atStart => exact ⟨0, Nat.zero_le _, rfl, 0, rfl⟩
  case round =>
    obtain ⟨k, hk, rfl, n, rfl⟩ := hrel
    by_cases hlt : k < ss.length
    · have hck : w.cell? ⟨b, off + k, none⟩ = some (.string ss[k]) := by have := hc k hlt; simpa [hlt] using this
      have hck' : w.cell? ⟨b', off' + k, none⟩ = some (.string ss[k]) := by have := hc' k hlt; simpa [hlt] using this
      clear hc hc'
      go_wp2
      go_quiet (fail)
      go_wp2
      go_roundw
      case rel => exact ⟨k + 1, by omega, by go_num, _, rfl⟩
      case measure => simp [intOf]; omega
    · go_wp2
      go_ret
      exact ⟨rfl, blw_drewN (Below.refl _ _) n⟩
end Go.Proofs.YtkjkklcflpchlaaGreat
