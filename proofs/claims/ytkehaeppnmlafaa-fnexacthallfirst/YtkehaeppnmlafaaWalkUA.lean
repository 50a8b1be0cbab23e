/-
  Walks: what stands over a team, and under what.
-/
import Derived.Test.YtkehaeppnmlafaaPlainT
import Derived.Test.YtkehaeppnmlafaaWalkA
namespace Go.Proofs.Ytkehaeppnmlafaa
open Go.RowKit Go.Deep

variable {CT CR CV CQ CL : Nat}

theorem ret_str {a b : ByteArray} (h : a = b) : Ending.returned (.string a) = .returned (.string b) := by rw [h]

set_option maxHeartbeats 1000000 in
theorem l4Over_any (B : Nat) (ts : List Tm) (n : ByteArray) (w : World) (h : TmsIn w B ts) :
    Calls Try.prog 70 #[.slice (some ⟨B, 0, none⟩) ts.length CT, .string n] w fun e w' => e = .returned (.string (overOf ts n)) ∧ w = w' := by
  have hl := h.len
  obtain ⟨R, hR⟩ : ∃ R, R = overOf ts n := ⟨_, rfl⟩
  have HR : Hid (R = overOf ts n) := hR
  rw [← hR]
  clear hR
  go_enter Try.func70, Try.ntmps70
  go_wp2
  go_loop [5] (fun i => ∃ k : Nat, k ≤ ts.length ∧ i = .int .i64 k ∧ overOf (ts.drop k) n = R) (fun i => ts.length - (intOf i).toNat)
  case atStart => exact ⟨0, Nat.zero_le _, rfl, HR.out.symm⟩
  case round =>
    obtain ⟨k, hk, rfl, hq⟩ := hrel
    have HQ : Hid (overOf (ts.drop k) n = R) := hq
    clear hq
    by_cases hlt : k < ts.length
    · obtain ⟨t, ht⟩ : ∃ t, t = ts.getD k Tm.none := ⟨_, rfl⟩
      have hc := h.at_ k hlt
      have hd := overOf_at ts n k hlt
      rw [← ht] at hc hd
      obtain ⟨c0, c1, _⟩ := hc
      have HD : Hid (R = if (t.nm.toList == n.toList) = true then t.ov else overOf (ts.drop (k + 1)) n) := by show R = _; rw [← HQ.out, hd]
      clear hd ht h
      cases hn : (t.nm.toList == n.toList)
      · have HE : Hid (overOf (ts.drop (k + 1)) n = R) := by have := HD.out; rw [hn] at this; exact this.symm
        go_wp2
        go_round
        case rel => exact ⟨k + 1, by omega, by go_num, HE.out⟩
        case measure => simp [intOf]; omega
      · have HE : Hid (t.ov = R) := by have := HD.out; rw [hn] at this; exact this.symm
        go_wp2
        go_ret
        exact ⟨ret_str HE.out, rfl⟩
    · have HE : Hid (R = ByteArray.empty) := by show R = _; rw [← HQ.out, overOf_end ts n k (by omega)]
      clear h
      go_wp2
      go_ret
      exact ⟨ret_str HE.out.symm, rfl⟩

set_option maxHeartbeats 1000000 in
theorem over_any (B : Nat) (ts : List Tm) (n : ByteArray) (w : World) (h : TmsIn w B ts) :
    Calls Try.prog 92 #[.slice (some ⟨B, 0, none⟩) ts.length CT, .string n] w fun e w' => e = .returned (.string (overOf ts n)) ∧ Below w.heap.size w w' := by
  have hl := h.len
  obtain ⟨R, hR⟩ : ∃ R, R = overOf ts n := ⟨_, rfl⟩
  have HR : Hid (R = overOf ts n) := hR
  rw [← hR]
  clear hR
  go_enter Try.func92, Try.ntmps92
  go_wp2
  go_loopw [9] (fun i wr => ∃ k : Nat, k ≤ ts.length ∧ i = .int .i64 k ∧ overOf (ts.drop k) n = R ∧ Below w.heap.size w wr) (fun i _ => ts.length - (intOf i).toNat)
  case atStart => exact ⟨0, Nat.zero_le _, rfl, HR.out.symm, Below.refl _ _⟩
  case round =>
    obtain ⟨k, hk, rfl, hq, hW⟩ := hrel
    have HQ : Hid (overOf (ts.drop k) n = R) := hq
    clear hq
    by_cases hlt : k < ts.length
    · obtain ⟨t, ht⟩ : ∃ t, t = ts.getD k Tm.none := ⟨_, rfl⟩
      have hc := (h.later hW).at_ k hlt
      have hd := overOf_at ts n k hlt
      rw [← ht] at hc hd
      obtain ⟨c0, c1, _⟩ := hc
      have HD : Hid (R = if (t.nm.toList == n.toList) = true then t.ov else overOf (ts.drop (k + 1)) n) := by show R = _; rw [← HQ.out, hd]
      clear hd ht
      cases hn : (t.nm.toList == n.toList)
      · have HE : Hid (overOf (ts.drop (k + 1)) n = R) := by have := HD.out; rw [hn] at this; exact this.symm
        clear h
        go_wp2
        go_roundw
        case rel => exact ⟨k + 1, by omega, by go_num, HE.out, blw_alloc hW _⟩
        case measure => simp [intOf]; omega
      · have HE : Hid (t.ov = R) := by have := HD.out; rw [hn] at this; exact this.symm
        clear h
        go_wp2
        go_ret
        exact ⟨ret_str HE.out, blw_alloc hW _⟩
    · have HE : Hid (R = ByteArray.empty) := by show R = _; rw [← HQ.out, overOf_end ts n k (by omega)]
      clear h
      go_wp2
      go_ret
      exact ⟨ret_str HE.out.symm, hW⟩

end Go.Proofs.Ytkehaeppnmlafaa
