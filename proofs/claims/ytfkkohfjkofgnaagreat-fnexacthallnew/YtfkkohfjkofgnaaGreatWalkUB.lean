/-
  Walks: whether there is a team of a name; how many teams are over one.
-/
import Derived.Test.YtfkkohfjkofgnaaGreatProg
import Derived.RowKit
import Derived.WalkKit
import Derived.WalkSpells
import Derived.WalkLawsBesides
import Derived.Test.YtfkkohfjkofgnaaGreatPlain
import Derived.Test.YtfkkohfjkofgnaaGreatPlainT
namespace Go.Proofs.YtfkkohfjkofgnaaGreat
open Go.RowKit

set_option maxHeartbeats 400000 in
theorem l1In_any (n lo hi : Int) (w : World) :
    Calls Tryz.prog 16 #[.int .i64 n, .int .i64 lo, .int .i64 hi] w fun e w' => e = .returned (.bool (decide (lo ≤ n) && decide (n ≤ hi))) ∧ w = w' := by
  by_cases h : lo ≤ n
  · go_enter Tryz.func16, Tryz.ntmps16
    go_wp2
    go_ret
    exact ⟨Pl.ret_bool (by simp [h]), rfl⟩
  · go_enter Tryz.func16, Tryz.ntmps16
    go_wp2
    go_ret
    exact ⟨Pl.ret_bool (by rw [Bool.eq_iff_iff]; simp; omega), rfl⟩

set_option maxHeartbeats 400000 in
theorem l1Byte_any (c : UInt8) (w : World) :
    Calls Tryz.prog 71 #[.int .u8 c.toNat] w fun e w' => e = .returned (.bool (Pl.nameByte c)) ∧ w = w' := by
  go_enter Tryz.func71, Tryz.ntmps71
  go_wp2
  all_goals go_ret
  all_goals exact ⟨Pl.ret_bool (by rw [Bool.eq_iff_iff]; simp [Pl.nameByte]; omega), rfl⟩

set_option maxHeartbeats 400000 in
theorem l1NameOk_any (s : ByteArray) (w : World) (hs : s.size ≤ maxLen) :
    Calls Tryz.prog 38 #[.string s] w fun e w' => e = .returned (.bool (Pl.nameOk s)) ∧ w = w' := by
  unfold maxLen at hs
  by_cases hin : 1 ≤ s.size ∧ s.size ≤ 16
  · obtain ⟨h1, h2⟩ := hin
    have hb : (decide ((1 : Int) ≤ (s.size : Int)) && decide ((s.size : Int) ≤ 16)) = true := by simp; omega
    go_enter Tryz.func38, Tryz.ntmps38
    go_wp2_with (go_at_call 16; refine (l1In_any _ _ _ _).mono ?_; rintro e w' ⟨rfl, rfl⟩)
    go_loop [3] (fun i => ∃ k : Nat, k ≤ s.size ∧ i = .int .i64 k ∧ (s.data.toList.take k).all Pl.nameByte = true) (fun i => s.size - (intOf i).toNat)
    case atStart => exact ⟨0, Nat.zero_le _, rfl, rfl⟩
    case round =>
      obtain ⟨k, hk, rfl, hall⟩ := hrel
      have HA : Hid ((s.data.toList.take k).all Pl.nameByte = true) := hall
      clear hall
      by_cases hlt : k < s.size
      · by_cases hn : Pl.nameByte s[k] = true
        · go_wp2_with (go_at_call 71; refine (l1Byte_any _ _).mono ?_; rintro e w' ⟨rfl, rfl⟩)
          go_round
          case rel => exact ⟨k + 1, by omega, by go_num, by rw [Pl.all_snoc _ _ _ hlt, HA.out, hn]; rfl⟩
          case measure => simp [intOf]; omega
        · have hn' : Pl.nameByte s[k] = false := by simpa using hn
          have HF : Hid (Pl.nameOk s = false) := by show Pl.nameOk s = false; simp [Pl.nameOk, Pl.nameBytes, Pl.all_false _ s k hlt hn']
          go_wp2_with (go_at_call 71; refine (l1Byte_any _ _).mono ?_; rintro e w' ⟨rfl, rfl⟩)
          go_ret
          exact ⟨Pl.ret_bool HF.out.symm, rfl⟩
      · have HF : Hid (Pl.nameOk s = true) := by
          show Pl.nameOk s = true
          have := Pl.all_whole Pl.nameByte s k (by omega)
          simp only [Pl.nameOk, Pl.nameBytes, ← this, HA.out]
          simp; omega
        go_wp2
        go_ret
        exact ⟨Pl.ret_bool HF.out.symm, rfl⟩
  · have HF : Hid (Pl.nameOk s = false) := by
      show Pl.nameOk s = false
      have : (decide (1 ≤ s.size) && decide (s.size ≤ 16)) = false := by
        rw [Bool.eq_false_iff]; simp; omega
      simp [Pl.nameOk, this]
    have hb : (decide ((1 : Int) ≤ (s.size : Int)) && decide ((s.size : Int) ≤ 16)) = false := by
      rw [Bool.eq_false_iff]; simp; omega
    clear hin
    go_enter Tryz.func38, Tryz.ntmps38
    go_wp2_with (go_at_call 16; refine (l1In_any _ _ _ _).mono ?_; rintro e w' ⟨rfl, rfl⟩)
    go_ret
    exact ⟨Pl.ret_bool HF.out.symm, rfl⟩

set_option maxHeartbeats 1000000 in
theorem nameBytes_any (s : ByteArray) (w : World) (hs : s.size ≤ maxLen) :
    Calls Tryz.prog 76 #[.string s] w fun e w' => e = .returned (.bool (Pl.nameBytes s)) ∧ w = w' := by
  unfold maxLen at hs
  go_enter Tryz.func76, Tryz.ntmps76
  go_wp2
  go_loop [7] (fun i => ∃ k : Nat, k ≤ s.size ∧ i = .int .i64 k ∧ (s.data.toList.take k).all Pl.nameByte = true) (fun i => s.size - (intOf i).toNat)
  case atStart => exact ⟨0, Nat.zero_le _, rfl, rfl⟩
  case round =>
    obtain ⟨k, hk, rfl, hall⟩ := hrel
    have HA : Hid ((s.data.toList.take k).all Pl.nameByte = true) := hall
    clear hall
    by_cases hlt : k < s.size
    · go_wp2
      all_goals simp only [Bool.not_eq_eq_eq_not, Bool.not_true, Bool.not_false, beq_iff_eq, beq_eq_false_iff_ne, decide_eq_true_eq, decide_eq_false_iff_not] at *
      all_goals first
        | (go_ret
           have hn : Pl.nameByte s[k] = false := by rw [Bool.eq_false_iff]; simp [Pl.nameByte]; omega
           exact ⟨Pl.ret_bool (Pl.all_false _ s k hlt hn).symm, rfl⟩)
        | (have hn : Pl.nameByte s[k] = true := by simp [Pl.nameByte]; omega
           go_round
           case rel => exact ⟨k + 1, by omega, by go_num, by rw [Pl.all_snoc _ _ _ hlt, HA.out, hn]; rfl⟩
           case measure => simp [intOf]; omega)
    · have HF : Hid (Pl.nameBytes s = true) := by
        show Pl.nameBytes s = true
        have := Pl.all_whole Pl.nameByte s k (by omega)
        simp only [Pl.nameBytes, ← this, HA.out]
      go_wp2
      go_ret
      exact ⟨Pl.ret_bool HF.out.symm, rfl⟩

set_option maxHeartbeats 400000 in
theorem isName_any (s : ByteArray) (w : World) (hs : s.size ≤ maxLen) :
    Calls Tryz.prog 48 #[.string s] w fun e w' => e = .returned (.bool (Pl.nameOk s)) ∧ w = w' := by
  have hs' := hs
  unfold maxLen at hs
  by_cases h1 : 1 ≤ s.size
  · by_cases h2 : s.size ≤ 16
    · have HF : Hid (Pl.nameOk s = Pl.nameBytes s) := by show Pl.nameOk s = Pl.nameBytes s; simp [Pl.nameOk, h1, h2]
      go_enter Tryz.func48, Tryz.ntmps48
      go_wp2_with (go_at_call 76; refine (nameBytes_any _ _ hs').mono ?_; rintro e w' ⟨rfl, rfl⟩)
      go_ret
      exact ⟨Pl.ret_bool HF.out.symm, rfl⟩
    · have HF : Hid (Pl.nameOk s = false) := by show Pl.nameOk s = false; simp [Pl.nameOk, h2]
      go_enter Tryz.func48, Tryz.ntmps48
      go_wp2
      go_ret
      exact ⟨Pl.ret_bool HF.out.symm, rfl⟩
  · have HF : Hid (Pl.nameOk s = false) := by show Pl.nameOk s = false; simp [Pl.nameOk, h1]
    go_enter Tryz.func48, Tryz.ntmps48
    go_wp2
    go_ret
    exact ⟨Pl.ret_bool HF.out.symm, rfl⟩

end Go.Proofs.YtfkkohfjkofgnaaGreat

namespace Go.Proofs.YtfkkohfjkofgnaaGreat
open Go.RowKit Go.Deep

variable {CT CR CV CQ CL : Nat}

theorem ret_str {a b : ByteArray} (h : a = b) : Ending.returned (.string a) = .returned (.string b) := by rw [h]

set_option maxHeartbeats 1000000 in
theorem l4Over_any (B : Nat) (ts : List Tm) (n : ByteArray) (w : World) (h : TmsIn w B ts) :
    Calls Tryz.prog 70 #[.slice (some ⟨B, 0, none⟩) ts.length CT, .string n] w fun e w' => e = .returned (.string (overOf ts n)) ∧ w = w' := by
  have hl := h.len
  obtain ⟨R, hR⟩ : ∃ R, R = overOf ts n := ⟨_, rfl⟩
  have HR : Hid (R = overOf ts n) := hR
  rw [← hR]
  clear hR
  go_enter Tryz.func70, Tryz.ntmps70
  go_wp2
  go_loop [5] (fun i => ∃ k : Nat, k ≤ ts.length ∧ i = .int .i64 k ∧ overOf (ts.drop k) n = R) (fun i => ts.length - (intOf i).toNat)
  case atStart => exact ⟨0, Nat.zero_le _, rfl, HR.out.symm⟩
  case round =>
    obtain ⟨k, hk, rfl, hq⟩ := hrel
    have HQ : Hid (overOf (ts.drop k) n = R) := hq
    clear hq
    by_cases hlt : k < ts.length
    · obtain ⟨t, ht⟩ : ∃ t, t = ts.getD k Tm.none := ⟨_, rfl⟩
      have hc := h.at_ k hlt
      have hd := overOf_at ts n k hlt
      rw [← ht] at hc hd
      obtain ⟨c0, c1, _⟩ := hc
      have HD : Hid (R = if (t.nm.toList == n.toList) = true then t.ov else overOf (ts.drop (k + 1)) n) := by show R = _; rw [← HQ.out, hd]
      clear hd ht h
      cases hn : (t.nm.toList == n.toList)
      · have HE : Hid (overOf (ts.drop (k + 1)) n = R) := by have := HD.out; rw [hn] at this; exact this.symm
        go_wp2
        go_round
        case rel => exact ⟨k + 1, by omega, by go_num, HE.out⟩
        case measure => simp [intOf]; omega
      · have HE : Hid (t.ov = R) := by have := HD.out; rw [hn] at this; exact this.symm
        go_wp2
        go_ret
        exact ⟨ret_str HE.out, rfl⟩
    · have HE : Hid (R = ByteArray.empty) := by show R = _; rw [← HQ.out, overOf_end ts n k (by omega)]
      clear h
      go_wp2
      go_ret
      exact ⟨ret_str HE.out.symm, rfl⟩

set_option maxHeartbeats 1000000 in
theorem over_any (B : Nat) (ts : List Tm) (n : ByteArray) (w : World) (h : TmsIn w B ts) :
    Calls Tryz.prog 95 #[.slice (some ⟨B, 0, none⟩) ts.length CT, .string n] w fun e w' => e = .returned (.string (overOf ts n)) ∧ Below w.heap.size w w' := by
  have hl := h.len
  obtain ⟨R, hR⟩ : ∃ R, R = overOf ts n := ⟨_, rfl⟩
  have HR : Hid (R = overOf ts n) := hR
  rw [← hR]
  clear hR
  go_enter Tryz.func95, Tryz.ntmps95
  go_wp2
  go_loopw [9] (fun i wr => ∃ k : Nat, k ≤ ts.length ∧ i = .int .i64 k ∧ overOf (ts.drop k) n = R ∧ Below w.heap.size w wr) (fun i _ => ts.length - (intOf i).toNat)
  case atStart => exact ⟨0, Nat.zero_le _, rfl, HR.out.symm, Below.refl _ _⟩
  case round =>
    obtain ⟨k, hk, rfl, hq, hW⟩ := hrel
    have HQ : Hid (overOf (ts.drop k) n = R) := hq
    clear hq
    by_cases hlt : k < ts.length
    · obtain ⟨t, ht⟩ : ∃ t, t = ts.getD k Tm.none := ⟨_, rfl⟩
      have hc := (h.later hW).at_ k hlt
      have hd := overOf_at ts n k hlt
      rw [← ht] at hc hd
      obtain ⟨c0, c1, _⟩ := hc
      have HD : Hid (R = if (t.nm.toList == n.toList) = true then t.ov else overOf (ts.drop (k + 1)) n) := by show R = _; rw [← HQ.out, hd]
      clear hd ht
      cases hn : (t.nm.toList == n.toList)
      · have HE : Hid (overOf (ts.drop (k + 1)) n = R) := by have := HD.out; rw [hn] at this; exact this.symm
        clear h
        go_wp2
        go_roundw
        case rel => exact ⟨k + 1, by omega, by go_num, HE.out, blw_alloc hW _⟩
        case measure => simp [intOf]; omega
      · have HE : Hid (t.ov = R) := by have := HD.out; rw [hn] at this; exact this.symm
        clear h
        go_wp2
        go_ret
        exact ⟨ret_str HE.out, blw_alloc hW _⟩
    · have HE : Hid (R = ByteArray.empty) := by show R = _; rw [← HQ.out, overOf_end ts n k (by omega)]
      clear h
      go_wp2
      go_ret
      exact ⟨ret_str HE.out.symm, hW⟩

end Go.Proofs.YtfkkohfjkofgnaaGreat

namespace Go.Proofs.YtfkkohfjkofgnaaGreat
open Go.RowKit Go.Deep

variable {CT CR CV CQ CL : Nat}

set_option maxHeartbeats 1000000 in
theorem l4Team_any (B : Nat) (ts : List Tm) (n : ByteArray) (w : World) (h : TmsIn w B ts) :
    Calls Tryz.prog 69 #[.slice (some ⟨B, 0, none⟩) ts.length CT, .string n] w fun e w' => e = .returned (.bool (isTeam ts n)) ∧ w = w' := by
  have hl := h.len
  obtain ⟨R, hR⟩ : ∃ R, R = isTeam ts n := ⟨_, rfl⟩
  have HR : Hid (R = isTeam ts n) := hR
  rw [← hR]
  clear hR
  go_enter Tryz.func69, Tryz.ntmps69
  go_wp2
  go_loop [5] (fun i => ∃ k : Nat, k ≤ ts.length ∧ i = .int .i64 k ∧ isTeam (ts.take k) n = false) (fun i => ts.length - (intOf i).toNat)
  case atStart => exact ⟨0, Nat.zero_le _, rfl, rfl⟩
  case round =>
    obtain ⟨k, hk, rfl, hq⟩ := hrel
    have HQ : Hid (isTeam (ts.take k) n = false) := hq
    clear hq
    by_cases hlt : k < ts.length
    · obtain ⟨t, ht⟩ : ∃ t, t = ts.getD k Tm.none := ⟨_, rfl⟩
      have hc := h.at_ k hlt
      rw [← ht] at hc
      obtain ⟨c0, c1, _⟩ := hc
      cases hn : (t.nm.toList == n.toList)
      · have HE : Hid (isTeam (ts.take (k + 1)) n = false) := isTeam_snoc ts n k hlt HQ.out (by rw [← ht]; exact hn)
        clear ht h
        go_wp2
        go_round
        case rel => exact ⟨k + 1, by omega, by go_num, HE.out⟩
        case measure => simp [intOf]; omega
      · have HE : Hid (R = true) := by show R = true; rw [HR.out]; exact isTeam_hit ts n k hlt (by rw [← ht]; exact hn)
        clear ht h
        go_wp2
        go_ret
        exact ⟨Pl.ret_bool HE.out.symm, rfl⟩
    · have HE : Hid (R = false) := by show R = false; rw [HR.out]; exact isTeam_all ts n k (by omega) HQ.out
      clear h
      go_wp2
      go_ret
      exact ⟨Pl.ret_bool HE.out.symm, rfl⟩

set_option maxHeartbeats 400000 in
theorem isTeam1 (rb : Nat) (t : Tm) (n : ByteArray) (w : World) (hc : w.cell? ⟨rb, 0, none⟩ = some (.string n)) (hlt : rb < w.heap.size) :
    Calls Tryz.prog 94 #[.agg #[.string t.nm, .string t.ov], .pointer (some ⟨rb, 0, none⟩)] w fun e w' => e = .returned (.bool (t.nm.toList == n.toList)) ∧ Below w.heap.size w w' := by
  go_enter Tryz.func94, Tryz.ntmps94
  go_wp2
  go_ret
  exact ⟨rfl, blw_alloc (Below.refl _ _) _⟩

set_option maxHeartbeats 1000000 in
theorem indexT (rb B : Nat) (ts : List Tm) (n : ByteArray) (w : World) (h : TmsIn w B ts) (hc : w.cell? ⟨rb, 0, none⟩ = some (.string n)) (hrb : rb < w.heap.size) :
    Calls Tryz.prog 101 #[.slice (some ⟨B, 0, none⟩) ts.length CT, .func (.func 94) #[] #[.pointer (some ⟨rb, 0, none⟩)]] w fun e w' => (∃ r : Int, e = .returned (.int .i64 r) ∧ decide (0 ≤ r) = isTeam ts n) ∧ Below w.heap.size w w' := by
  have HC : Hid (TmsIn w B ts ∧ w.cell? ⟨rb, 0, none⟩ = some (.string n) ∧ rb < w.heap.size) := ⟨h, hc, hrb⟩
  have hl := h.len
  obtain ⟨R, hR⟩ : ∃ R, R = isTeam ts n := ⟨_, rfl⟩
  have HR : Hid (R = isTeam ts n) := hR
  rw [← hR]
  clear hR h hc hrb
  go_enter Tryz.func101, Tryz.ntmps101
  go_wp2
  go_loopw [8] (fun i wr => ∃ k : Nat, k ≤ ts.length ∧ i = .int .i64 k ∧ isTeam (ts.take k) n = false ∧ Below w.heap.size w wr) (fun i _ => ts.length - (intOf i).toNat)
  case atStart => exact ⟨0, Nat.zero_le _, rfl, rfl, Below.refl _ _⟩
  case round =>
    obtain ⟨k, hk, rfl, hq, hW⟩ := hrel
    have HQ : Hid (isTeam (ts.take k) n = false) := hq
    clear hq
    by_cases hlt : k < ts.length
    · obtain ⟨t, ht⟩ : ∃ t, t = ts.getD k Tm.none := ⟨_, rfl⟩
      have hc := (HC.out.1.later hW).at_ k hlt
      have hgw : B < wr.heap.size := Nat.lt_of_lt_of_le HC.out.1.lt hW.size
      rw [← ht] at hc
      obtain ⟨c0, c1, _⟩ := hc
      have HX : Hid (Calls Tryz.prog 94 #[.agg #[.string t.nm, .string t.ov], .pointer (some ⟨rb, 0, none⟩)] wr fun e w' => e = .returned (.bool (t.nm.toList == n.toList)) ∧ Below wr.heap.size wr w') :=
        isTeam1 rb t n wr ((hW.cell (p := ⟨rb, 0, none⟩) HC.out.2.2).trans HC.out.2.1) (Nat.lt_of_lt_of_le HC.out.2.2 hW.size)
      have HG : Hid (t = ts.getD k Tm.none) := ht
      clear ht
      go_wp2_with fail
      refine HX.out.mono ?_
      rintro e w2 ⟨rfl, hb2⟩
      have hB2 := blw_trans hW hb2
      clear hb2 c0 c1 hgw HX
      cases hn : (t.nm.toList == n.toList)
      · have HE : Hid (isTeam (ts.take (k + 1)) n = false) := isTeam_snoc ts n k hlt HQ.out (by rw [← HG.out]; exact hn)
        go_wp2
        go_roundw
        case rel => exact ⟨k + 1, by omega, by go_num, HE.out, hB2⟩
        case measure => simp [intOf]; omega
      · have HE : Hid (R = true) := by show R = true; rw [HR.out]; exact isTeam_hit ts n k hlt (by rw [← HG.out]; exact hn)
        go_wp2
        go_ret
        exact ⟨⟨_, rfl, by rw [HE.out]; simp⟩, hB2⟩
    · have HE : Hid (R = false) := by show R = false; rw [HR.out]; exact isTeam_all ts n k (by omega) HQ.out
      go_wp2
      go_ret
      exact ⟨⟨_, rfl, by rw [HE.out]; simp⟩, hW⟩

set_option maxHeartbeats 400000 in
theorem containsT (rb B : Nat) (ts : List Tm) (n : ByteArray) (w : World) (h : TmsIn w B ts) (hc : w.cell? ⟨rb, 0, none⟩ = some (.string n)) (hrb : rb < w.heap.size) :
    Calls Tryz.prog 93 #[.slice (some ⟨B, 0, none⟩) ts.length CT, .func (.func 94) #[] #[.pointer (some ⟨rb, 0, none⟩)]] w fun e w' => e = .returned (.bool (isTeam ts n)) ∧ Below w.heap.size w w' := by
  have HX : Hid (Calls Tryz.prog 101 #[.slice (some ⟨B, 0, none⟩) ts.length CT, .func (.func 94) #[] #[.pointer (some ⟨rb, 0, none⟩)]] w fun e w' => (∃ r : Int, e = .returned (.int .i64 r) ∧ decide (0 ≤ r) = isTeam ts n) ∧ Below w.heap.size w w') := indexT rb B ts n w h hc hrb
  clear h hc hrb
  go_enter Tryz.func93, Tryz.ntmps93
  go_wp2_with fail
  refine HX.out.mono ?_
  rintro e w' ⟨⟨r, rfl, hr⟩, hb⟩
  have HR : Hid (decide (0 ≤ r) = isTeam ts n) := hr
  clear hr
  go_wp2
  go_ret
  exact ⟨Pl.ret_bool HR.out, hb⟩

set_option maxHeartbeats 400000 in
theorem gateIsTeam (B : Nat) (ts : List Tm) (n : ByteArray) (w : World) (h : TmsIn w B ts) :
    Calls Tryz.prog 74 #[.slice (some ⟨B, 0, none⟩) ts.length CT, .string n] w fun e w' => e = .returned (.bool (isTeam ts n)) ∧ Below w.heap.size w w' := by
  have hbx : Below w.heap.size w (w.alloc (.cells #[.string n] 9)) := blw_alloc (Below.refl _ _) _
  have HX : Hid (Calls Tryz.prog 93 #[.slice (some ⟨B, 0, none⟩) ts.length CT, .func (.func 94) #[] #[.pointer (some ⟨w.heap.size, 0, none⟩)]] (w.alloc (.cells #[.string n] 9)) fun e w' => e = .returned (.bool (isTeam ts n)) ∧ Below (w.alloc (.cells #[.string n] 9)).heap.size (w.alloc (.cells #[.string n] 9)) w') :=
    containsT w.heap.size B ts n _ (h.later hbx) (by simp) (by simp)
  have HB : Hid (Below w.heap.size w (w.alloc (.cells #[.string n] 9))) := hbx
  clear h hbx
  go_enter Tryz.func74, Tryz.ntmps74
  go_wp2_with fail
  refine HX.out.mono ?_
  rintro e w2 ⟨rfl, hb2⟩
  have hB2 := blw_trans HB.out hb2
  clear hb2
  go_wp2
  go_ret
  exact ⟨rfl, hB2⟩

set_option maxHeartbeats 1000000 in
theorem gateHeight (B : Nat) (ts : List Tm) (a : ByteArray) (w : World) (h : TmsIn w B ts) :
    Calls Tryz.prog 75 #[.slice (some ⟨B, 0, none⟩) ts.length CT, .string a] w fun e w' => (∃ r : Int, e = .returned (.int .i64 r) ∧ 0 ≤ r ∧ r ≤ 5 ∧ decide (4 < r) = !high ts 5 a) ∧ Below w.heap.size w w' := by
  have HS : Hid (TmsIn w B ts) := h
  have hl := h.len
  clear h
  obtain ⟨R, hR⟩ : ∃ R, R = high ts 5 a := ⟨_, rfl⟩
  have HR : Hid (R = high ts 5 a) := hR
  rw [← hR]
  clear hR
  go_enter Tryz.func75, Tryz.ntmps75
  go_wp2
  go_loopw [1, 6] (fun v i wr => ∃ (k : Nat) (x : ByteArray), k ≤ 5 ∧ i = .int .i64 k ∧ v = .string x ∧ high ts (5 - k) x = R ∧ Below w.heap.size w wr) (fun _ i _ => 5 - (intOf i).toNat)
  case atStart => exact ⟨0, a, Nat.zero_le _, rfl, rfl, HR.out.symm, Below.refl _ _⟩
  case round =>
    obtain ⟨k, x, hk, rfl, rfl, hq, hW⟩ := hrel
    have HQ : Hid (high ts (5 - k) x = R) := hq
    clear hq
    by_cases hlt : k < 5
    · have HU : Hid (R = if Pl.isEmp (overOf ts x) = true then true else high ts (5 - (k + 1)) (overOf ts x)) := by
        show R = _
        rw [← HQ.out, show 5 - k = (5 - (k + 1)) + 1 by omega, high]
      clear HQ
      go_wp2_with fail
      refine (over_any B ts x wr (HS.out.later hW)).mono ?_
      rintro e w' ⟨rfl, hb2⟩
      have hW2 := blw_trans hW hb2
      clear hb2
      obtain ⟨y, hy⟩ : ∃ y, y = overOf ts x := ⟨_, rfl⟩
      rw [← hy] at HU ⊢
      clear hy
      cases he : y.toList.isEmpty
      · have HE : Hid (high ts (5 - (k + 1)) y = R) := by have := HU.out; rw [Pl.isEmp, he] at this; exact this.symm
        go_wp2
        go_roundw
        case rel => exact ⟨k + 1, y, by omega, by go_num, rfl, HE.out, hW2⟩
        case measure => simp [intOf]; omega
      · have HE : Hid (R = true) := by have := HU.out; rw [Pl.isEmp, he] at this; exact this
        go_wp2
        go_ret
        exact ⟨⟨_, rfl, by omega, by omega, by rw [HE.out]; simp; omega⟩, hW2⟩
    · have HE : Hid (R = false) := by show R = false; rw [← HQ.out, show 5 - k = 0 by omega, high]
      go_wp2
      go_ret
      exact ⟨⟨_, rfl, by omega, by omega, by rw [HE.out]; rfl⟩, hW⟩

end Go.Proofs.YtfkkohfjkofgnaaGreat
