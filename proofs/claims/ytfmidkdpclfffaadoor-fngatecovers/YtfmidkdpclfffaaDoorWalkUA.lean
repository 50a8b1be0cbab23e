/-
  Walks: what stands over a team, and under what.
-/
import Derived.Test.YtfmidkdpclfffaaDoorPlainT
import Derived.Test.YtfmidkdpclfffaaDoorWalkA
namespace Go.Proofs.YtfmidkdpclfffaaDoor
open Go.RowKit Go.Deep

variable {CT CR CV CQ CL : Nat}

theorem ret_str {a b : ByteArray} (h : a = b) : Ending.returned (.string a) = .returned (.string b) := by rw [h]

set_option maxHeartbeats 1000000 in
theorem l4Over_any (B : Nat) (ts : List Tm) (n : ByteArray) (w : World) (h : TmsIn w B ts) :
    Calls Tryd.prog 64 #[.slice (some ⟨B, 0, none⟩) ts.length CT, .string n] w fun e w' => e = .returned (.string (overOf ts n)) ∧ w = w' := by
  have hl := h.len
  obtain ⟨R, hR⟩ : ∃ R, R = overOf ts n := ⟨_, rfl⟩
  have HR : Hid (R = overOf ts n) := hR
  rw [← hR]
  clear hR
  go_enter Tryd.func64, Tryd.ntmps64
  go_wp2
  go_loop [5] (fun i => ∃ k : Nat, k ≤ ts.length ∧ i = .int .i64 k ∧ overOf (ts.drop k) n = R) (fun i => ts.length - (intOf i).toNat)
  case atStart => exact ⟨0, Nat.zero_le _, rfl, HR.out.symm⟩
  case round =>
    obtain ⟨k, hk, rfl, hq⟩ := hrel
    have HQ : Hid (overOf (ts.drop k) n = R) := hq
    clear hq
    by_cases hlt : k < ts.length
    · obtain ⟨t, ht⟩ : ∃ t, t = ts.getD k Tm.none := ⟨_, rfl⟩
      have hc := h.at_ k hlt
      have hd := overOf_at ts n k hlt
      rw [← ht] at hc hd
      obtain ⟨c0, c1, _⟩ := hc
      have HD : Hid (R = if (t.nm.toList == n.toList) = true then t.ov else overOf (ts.drop (k + 1)) n) := by show R = _; rw [← HQ.out, hd]
      clear hd ht h
      cases hn : (t.nm.toList == n.toList)
      · have HE : Hid (overOf (ts.drop (k + 1)) n = R) := by have := HD.out; rw [hn] at this; exact this.symm
        go_wp2
        go_round
        case rel => exact ⟨k + 1, by omega, by go_num, HE.out⟩
        case measure => simp [intOf]; omega
      · have HE : Hid (t.ov = R) := by have := HD.out; rw [hn] at this; exact this.symm
        go_wp2
        go_ret
        exact ⟨ret_str HE.out, rfl⟩
    · have HE : Hid (R = ByteArray.empty) := by show R = _; rw [← HQ.out, overOf_end ts n k (by omega)]
      clear h
      go_wp2
      go_ret
      exact ⟨ret_str HE.out.symm, rfl⟩

set_option maxHeartbeats 1000000 in
theorem over_any (B : Nat) (ts : List Tm) (n : ByteArray) (w : World) (h : TmsIn w B ts) :
    Calls Tryd.prog 67 #[.slice (some ⟨B, 0, none⟩) ts.length CT, .string n] w fun e w' => e = .returned (.string (overOf ts n)) ∧ Below w.heap.size w w' := by
  have hl := h.len
  obtain ⟨R, hR⟩ : ∃ R, R = overOf ts n := ⟨_, rfl⟩
  have HR : Hid (R = overOf ts n) := hR
  rw [← hR]
  clear hR
  go_enter Tryd.func67, Tryd.ntmps67
  go_wp2
  go_loopw [9] (fun i wr => ∃ k : Nat, k ≤ ts.length ∧ i = .int .i64 k ∧ overOf (ts.drop k) n = R ∧ Below w.heap.size w wr) (fun i _ => ts.length - (intOf i).toNat)
  case atStart => exact ⟨0, Nat.zero_le _, rfl, HR.out.symm, Below.refl _ _⟩
  case round =>
    obtain ⟨k, hk, rfl, hq, hW⟩ := hrel
    have HQ : Hid (overOf (ts.drop k) n = R) := hq
    clear hq
    by_cases hlt : k < ts.length
    · obtain ⟨t, ht⟩ : ∃ t, t = ts.getD k Tm.none := ⟨_, rfl⟩
      have hc := (h.later hW).at_ k hlt
      have hd := overOf_at ts n k hlt
      rw [← ht] at hc hd
      obtain ⟨c0, c1, _⟩ := hc
      have HD : Hid (R = if (t.nm.toList == n.toList) = true then t.ov else overOf (ts.drop (k + 1)) n) := by show R = _; rw [← HQ.out, hd]
      clear hd ht
      cases hn : (t.nm.toList == n.toList)
      · have HE : Hid (overOf (ts.drop (k + 1)) n = R) := by have := HD.out; rw [hn] at this; exact this.symm
        clear h
        go_wp2
        go_roundw
        case rel => exact ⟨k + 1, by omega, by go_num, HE.out, blw_alloc hW _⟩
        case measure => simp [intOf]; omega
      · have HE : Hid (t.ov = R) := by have := HD.out; rw [hn] at this; exact this.symm
        clear h
        go_wp2
        go_ret
        exact ⟨ret_str HE.out, blw_alloc hW _⟩
    · have HE : Hid (R = ByteArray.empty) := by show R = _; rw [← HQ.out, overOf_end ts n k (by omega)]
      clear h
      go_wp2
      go_ret
      exact ⟨ret_str HE.out.symm, hW⟩

set_option maxHeartbeats 1000000 in
theorem underS (B : Nat) (ts : List Tm) (a b : ByteArray) (w : World) (h : TmsIn w B ts) :
    Calls Tryd.prog 49 #[.slice (some ⟨B, 0, none⟩) ts.length CT, .string a, .string b] w fun e w' => e = .returned (.bool (under ts a b)) ∧ w = w' := by
  have HS : Hid (TmsIn w B ts) := h
  have hl := h.len
  clear h
  cases hab : (a.toList == b.toList)
  case true =>
    have HR : Hid (under ts a b = true) := by show under ts a b = true; rw [under, hab]; rfl
    go_enter Tryd.func49, Tryd.ntmps49
    go_wp2
    go_ret
    exact ⟨Pl.ret_bool HR.out.symm, rfl⟩
  obtain ⟨R, hR⟩ : ∃ R, R = under ts a b := ⟨_, rfl⟩
  have HR : Hid (upTo ts 4 a b = R) := by show _ = R; rw [hR, under, hab]; rfl
  rw [← hR]
  clear hR
  go_enter Tryd.func49, Tryd.ntmps49
  go_wp2
  clear hab
  go_loop [1, 7] (fun v i => ∃ (k : Nat) (x : ByteArray), k ≤ 4 ∧ i = .int .i64 k ∧ v = .string x ∧ upTo ts (4 - k) x b = R) (fun _ i => 4 - (intOf i).toNat)
  case atStart => exact ⟨0, a, Nat.zero_le _, rfl, rfl, HR.out⟩
  case round =>
    obtain ⟨k, x, hk, rfl, rfl, hq⟩ := hrel
    have HQ : Hid (upTo ts (4 - k) x b = R) := hq
    clear hq
    by_cases hlt : k < 4
    · have HU : Hid (R = if Pl.isEmp (overOf ts x) = true then false else if ((overOf ts x).toList == b.toList) = true then true else upTo ts (4 - (k + 1)) (overOf ts x) b) := by
        show R = _
        rw [← HQ.out, show 4 - k = (4 - (k + 1)) + 1 by omega, upTo]
      clear HQ
      go_wp2_with fail
      refine (l4Over_any B ts x w HS.out).mono ?_
      rintro e w' ⟨rfl, rfl⟩
      obtain ⟨y, hy⟩ : ∃ y, y = overOf ts x := ⟨_, rfl⟩
      rw [← hy] at HU ⊢
      clear hy
      cases he : y.toList.isEmpty
      · cases hb : (y.toList == b.toList)
        · have HE : Hid (upTo ts (4 - (k + 1)) y b = R) := by have := HU.out; rw [Pl.isEmp, he, hb] at this; exact this.symm
          go_wp2
          go_round
          case rel => exact ⟨k + 1, y, by omega, by go_num, rfl, HE.out⟩
          case measure => simp [intOf]; omega
        · have HE : Hid (true = R) := by have := HU.out; rw [Pl.isEmp, he, hb] at this; exact this.symm
          go_wp2
          go_ret
          exact ⟨Pl.ret_bool HE.out, rfl⟩
      · have HE : Hid (false = R) := by have := HU.out; rw [Pl.isEmp, he] at this; exact this.symm
        go_wp2
        go_ret
        exact ⟨Pl.ret_bool HE.out, rfl⟩
    · have HE : Hid (false = R) := by show false = R; rw [← HQ.out, show 4 - k = 0 by omega, upTo]
      go_wp2
      go_ret
      exact ⟨Pl.ret_bool HE.out, rfl⟩

set_option maxHeartbeats 1000000 in
theorem underI (B : Nat) (ts : List Tm) (a b : ByteArray) (w : World) (h : TmsIn w B ts) :
    Calls Tryd.prog 55 #[.slice (some ⟨B, 0, none⟩) ts.length CT, .string a, .string b] w fun e w' => e = .returned (.bool (under ts a b)) ∧ Below w.heap.size w w' := by
  have HS : Hid (TmsIn w B ts) := h
  have hl := h.len
  clear h
  cases hab : (a.toList == b.toList)
  case true =>
    have HR : Hid (under ts a b = true) := by show under ts a b = true; rw [under, hab]; rfl
    go_enter Tryd.func55, Tryd.ntmps55
    go_wp2
    go_ret
    exact ⟨Pl.ret_bool HR.out.symm, Below.refl _ _⟩
  obtain ⟨R, hR⟩ : ∃ R, R = under ts a b := ⟨_, rfl⟩
  have HR : Hid (upTo ts 4 a b = R) := by show _ = R; rw [hR, under, hab]; rfl
  rw [← hR]
  clear hR
  go_enter Tryd.func55, Tryd.ntmps55
  go_wp2
  clear hab
  go_loopw [1, 10] (fun v i wr => ∃ (k : Nat) (x : ByteArray), k ≤ 4 ∧ i = .int .i64 k ∧ v = .string x ∧ upTo ts (4 - k) x b = R ∧ Below w.heap.size w wr) (fun _ i _ => 4 - (intOf i).toNat)
  case atStart => exact ⟨0, a, Nat.zero_le _, rfl, rfl, HR.out, Below.refl _ _⟩
  case round =>
    obtain ⟨k, x, hk, rfl, rfl, hq, hW⟩ := hrel
    have HQ : Hid (upTo ts (4 - k) x b = R) := hq
    clear hq
    by_cases hlt : k < 4
    · have HU : Hid (R = if Pl.isEmp (overOf ts x) = true then false else if ((overOf ts x).toList == b.toList) = true then true else upTo ts (4 - (k + 1)) (overOf ts x) b) := by
        show R = _
        rw [← HQ.out, show 4 - k = (4 - (k + 1)) + 1 by omega, upTo]
      clear HQ
      go_wp2_with fail
      refine (over_any B ts x wr (HS.out.later hW)).mono ?_
      rintro e w' ⟨rfl, hb2⟩
      have hW2 := blw_trans hW hb2
      clear hb2
      obtain ⟨y, hy⟩ : ∃ y, y = overOf ts x := ⟨_, rfl⟩
      rw [← hy] at HU ⊢
      clear hy
      cases he : y.toList.isEmpty
      · cases hb : (y.toList == b.toList)
        · have HE : Hid (upTo ts (4 - (k + 1)) y b = R) := by have := HU.out; rw [Pl.isEmp, he, hb] at this; exact this.symm
          go_wp2
          go_roundw
          case rel => exact ⟨k + 1, y, by omega, by go_num, rfl, HE.out, hW2⟩
          case measure => simp [intOf]; omega
        · have HE : Hid (true = R) := by have := HU.out; rw [Pl.isEmp, he, hb] at this; exact this.symm
          go_wp2
          go_ret
          exact ⟨Pl.ret_bool HE.out, hW2⟩
      · have HE : Hid (false = R) := by have := HU.out; rw [Pl.isEmp, he] at this; exact this.symm
        go_wp2
        go_ret
        exact ⟨Pl.ret_bool HE.out, hW2⟩
    · have HE : Hid (false = R) := by show false = R; rw [← HQ.out, show 4 - k = 0 by omega, upTo]
      go_wp2
      go_ret
      exact ⟨Pl.ret_bool HE.out, hW⟩

end Go.Proofs.YtfmidkdpclfffaaDoor
