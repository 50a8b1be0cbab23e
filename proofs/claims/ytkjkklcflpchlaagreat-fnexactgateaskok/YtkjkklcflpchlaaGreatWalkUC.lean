/-
  Walks: teams that are ok: the specification.
-/
import Derived.Test.YtkjkklcflpchlaaGreatPlainT
import Derived.Test.YtkjkklcflpchlaaGreatWalkA
namespace Go.Proofs.YtkjkklcflpchlaaGreat
open Go.RowKit Go.Deep

theorem ret_strR {a b : ByteArray} (h : a = b) : Ending.returned (.string a) = .returned (.string b) := by rw [h]

set_option maxHeartbeats 1000000 in
theorem l4Over_any (B : Nat) (ts : List Tm) (n : ByteArray) (w : World) (h : TmsIn w B ts) :
    Calls Tryz.prog 79 #[.slice (some ⟨B, 0, none⟩) ts.length ts.length, .string n] w fun e w' => e = .returned (.string (overOf ts n)) ∧ w = w' := by
  have hl := h.len
  obtain ⟨R, hR⟩ : ∃ R, R = overOf ts n := ⟨_, rfl⟩
  have HR : Hid (R = overOf ts n) := hR
  rw [← hR]
  clear hR
  go_enter Tryz.func79, Tryz.ntmps79
  go_wp2
  go_loop [5] (fun i => ∃ k : Nat, k ≤ ts.length ∧ i = .int .i64 k ∧ overOf (ts.drop k) n = R) (fun i => ts.length - (intOf i).toNat)
  case atStart => exact ⟨0, Nat.zero_le _, rfl, HR.out.symm⟩
  case round =>
    obtain ⟨k, hk, rfl, hq⟩ := hrel
    have HQ : Hid (overOf (ts.drop k) n = R) := hq
    clear hq
    by_cases hlt : k < ts.length
    · obtain ⟨t, ht⟩ : ∃ t, t = ts.getD k Tm.none := ⟨_, rfl⟩
      have hc := h.at_ k hlt
      have hd := overOf_at ts n k hlt
      rw [← ht] at hc hd
      obtain ⟨c0, c1, _⟩ := hc
      have HD : Hid (R = if (t.nm.toList == n.toList) = true then t.ov else overOf (ts.drop (k + 1)) n) := by show R = _; rw [← HQ.out, hd]
      clear hd ht h
      cases hn : (t.nm.toList == n.toList)
      · have HE : Hid (overOf (ts.drop (k + 1)) n = R) := by have := HD.out; rw [hn] at this; exact this.symm
        go_wp2
        go_round
        case rel => exact ⟨k + 1, by omega, by go_num, HE.out⟩
        case measure => simp [intOf]; omega
      · have HE : Hid (t.ov = R) := by have := HD.out; rw [hn] at this; exact this.symm
        go_wp2
        go_ret
        exact ⟨ret_strR HE.out, rfl⟩
    · have HE : Hid (R = ByteArray.empty) := by show R = _; rw [← HQ.out, overOf_end ts n k (by omega)]
      clear h
      go_wp2
      go_ret
      exact ⟨ret_strR HE.out.symm, rfl⟩

set_option maxHeartbeats 1000000 in
theorem over_any (B : Nat) (ts : List Tm) (n : ByteArray) (w : World) (h : TmsIn w B ts) :
    Calls Tryz.prog 110 #[.slice (some ⟨B, 0, none⟩) ts.length ts.length, .string n] w fun e w' => e = .returned (.string (overOf ts n)) ∧ Below w.heap.size w w' := by
  have hl := h.len
  obtain ⟨R, hR⟩ : ∃ R, R = overOf ts n := ⟨_, rfl⟩
  have HR : Hid (R = overOf ts n) := hR
  rw [← hR]
  clear hR
  go_enter Tryz.func110, Tryz.ntmps110
  go_wp2
  go_loopw [9] (fun i wr => ∃ k : Nat, k ≤ ts.length ∧ i = .int .i64 k ∧ overOf (ts.drop k) n = R ∧ Below w.heap.size w wr) (fun i _ => ts.length - (intOf i).toNat)
  case atStart => exact ⟨0, Nat.zero_le _, rfl, HR.out.symm, Below.refl _ _⟩
  case round =>
    obtain ⟨k, hk, rfl, hq, hW⟩ := hrel
    have HQ : Hid (overOf (ts.drop k) n = R) := hq
    clear hq
    by_cases hlt : k < ts.length
    · obtain ⟨t, ht⟩ : ∃ t, t = ts.getD k Tm.none := ⟨_, rfl⟩
      have hc := (h.later hW).at_ k hlt
      have hd := overOf_at ts n k hlt
      rw [← ht] at hc hd
      obtain ⟨c0, c1, _⟩ := hc
      have HD : Hid (R = if (t.nm.toList == n.toList) = true then t.ov else overOf (ts.drop (k + 1)) n) := by show R = _; rw [← HQ.out, hd]
      clear hd ht
      cases hn : (t.nm.toList == n.toList)
      · have HE : Hid (overOf (ts.drop (k + 1)) n = R) := by have := HD.out; rw [hn] at this; exact this.symm
        clear h
        go_wp2
        go_roundw
        case rel => exact ⟨k + 1, by omega, by go_num, HE.out, blw_alloc hW _⟩
        case measure => simp [intOf]; omega
      · have HE : Hid (t.ov = R) := by have := HD.out; rw [hn] at this; exact this.symm
        clear h
        go_wp2
        go_ret
        exact ⟨ret_strR HE.out, blw_alloc hW _⟩
    · have HE : Hid (R = ByteArray.empty) := by show R = _; rw [← HQ.out, overOf_end ts n k (by omega)]
      clear h
      go_wp2
      go_ret
      exact ⟨ret_strR HE.out.symm, hW⟩

end Go.Proofs.YtkjkklcflpchlaaGreat

namespace Go.Proofs.YtkjkklcflpchlaaGreat
open Go.RowKit Go.Deep

set_option maxHeartbeats 1000000 in
theorem l4Team_any (B : Nat) (ts : List Tm) (n : ByteArray) (w : World) (h : TmsIn w B ts) :
    Calls Tryz.prog 53 #[.slice (some ⟨B, 0, none⟩) ts.length ts.length, .string n] w fun e w' => e = .returned (.bool (isTeam ts n)) ∧ w = w' := by
  have hl := h.len
  obtain ⟨R, hR⟩ : ∃ R, R = isTeam ts n := ⟨_, rfl⟩
  have HR : Hid (R = isTeam ts n) := hR
  rw [← hR]
  clear hR
  go_enter Tryz.func53, Tryz.ntmps53
  go_wp2
  go_loop [5] (fun i => ∃ k : Nat, k ≤ ts.length ∧ i = .int .i64 k ∧ isTeam (ts.take k) n = false) (fun i => ts.length - (intOf i).toNat)
  case atStart => exact ⟨0, Nat.zero_le _, rfl, rfl⟩
  case round =>
    obtain ⟨k, hk, rfl, hq⟩ := hrel
    have HQ : Hid (isTeam (ts.take k) n = false) := hq
    clear hq
    by_cases hlt : k < ts.length
    · obtain ⟨t, ht⟩ : ∃ t, t = ts.getD k Tm.none := ⟨_, rfl⟩
      have hc := h.at_ k hlt
      rw [← ht] at hc
      obtain ⟨c0, c1, _⟩ := hc
      cases hn : (t.nm.toList == n.toList)
      · have HE : Hid (isTeam (ts.take (k + 1)) n = false) := isTeam_snoc ts n k hlt HQ.out (by rw [← ht]; exact hn)
        clear ht h
        go_wp2
        go_round
        case rel => exact ⟨k + 1, by omega, by go_num, HE.out⟩
        case measure => simp [intOf]; omega
      · have HE : Hid (R = true) := by show R = true; rw [HR.out]; exact isTeam_hit ts n k hlt (by rw [← ht]; exact hn)
        clear ht h
        go_wp2
        go_ret
        exact ⟨Pl.ret_bool HE.out.symm, rfl⟩
    · have HE : Hid (R = false) := by show R = false; rw [HR.out]; exact isTeam_all ts n k (by omega) HQ.out
      clear h
      go_wp2
      go_ret
      exact ⟨Pl.ret_bool HE.out.symm, rfl⟩

set_option maxHeartbeats 400000 in
theorem isTeam1 (rb : Nat) (t : Tm) (n : ByteArray) (w : World) (hc : w.cell? ⟨rb, 0, none⟩ = some (.string n)) (hlt : rb < w.heap.size) :
    Calls Tryz.prog 109 #[.agg #[.string t.nm, .string t.ov], .pointer (some ⟨rb, 0, none⟩)] w fun e w' => e = .returned (.bool (t.nm.toList == n.toList)) ∧ Below w.heap.size w w' := by
  go_enter Tryz.func109, Tryz.ntmps109
  go_wp2
  go_ret
  exact ⟨rfl, blw_alloc (Below.refl _ _) _⟩

set_option maxHeartbeats 1000000 in
theorem indexT (rb B : Nat) (ts : List Tm) (n : ByteArray) (w : World) (h : TmsIn w B ts) (hc : w.cell? ⟨rb, 0, none⟩ = some (.string n)) (hrb : rb < w.heap.size) :
    Calls Tryz.prog 124 #[.slice (some ⟨B, 0, none⟩) ts.length ts.length, .func (.func 109) #[] #[.pointer (some ⟨rb, 0, none⟩)]] w fun e w' => (∃ r : Int, e = .returned (.int .i64 r) ∧ decide (0 ≤ r) = isTeam ts n) ∧ Below w.heap.size w w' := by
  have HC : Hid (TmsIn w B ts ∧ w.cell? ⟨rb, 0, none⟩ = some (.string n) ∧ rb < w.heap.size) := ⟨h, hc, hrb⟩
  have hl := h.len
  obtain ⟨R, hR⟩ : ∃ R, R = isTeam ts n := ⟨_, rfl⟩
  have HR : Hid (R = isTeam ts n) := hR
  rw [← hR]
  clear hR h hc hrb
  go_enter Tryz.func124, Tryz.ntmps124
  go_wp2
  go_loopw [8] (fun i wr => ∃ k : Nat, k ≤ ts.length ∧ i = .int .i64 k ∧ isTeam (ts.take k) n = false ∧ Below w.heap.size w wr) (fun i _ => ts.length - (intOf i).toNat)
  case atStart => exact ⟨0, Nat.zero_le _, rfl, rfl, Below.refl _ _⟩
  case round =>
    obtain ⟨k, hk, rfl, hq, hW⟩ := hrel
    have HQ : Hid (isTeam (ts.take k) n = false) := hq
    clear hq
    by_cases hlt : k < ts.length
    · obtain ⟨t, ht⟩ : ∃ t, t = ts.getD k Tm.none := ⟨_, rfl⟩
      have hc := (HC.out.1.later hW).at_ k hlt
      have hgw : B < wr.heap.size := Nat.lt_of_lt_of_le HC.out.1.lt hW.size
      rw [← ht] at hc
      obtain ⟨c0, c1, _⟩ := hc
      have HX : Hid (Calls Tryz.prog 109 #[.agg #[.string t.nm, .string t.ov], .pointer (some ⟨rb, 0, none⟩)] wr fun e w' => e = .returned (.bool (t.nm.toList == n.toList)) ∧ Below wr.heap.size wr w') :=
        isTeam1 rb t n wr ((hW.cell (p := ⟨rb, 0, none⟩) HC.out.2.2).trans HC.out.2.1) (Nat.lt_of_lt_of_le HC.out.2.2 hW.size)
      have HG : Hid (t = ts.getD k Tm.none) := ht
      clear ht
      go_wp2_with fail
      refine HX.out.mono ?_
      rintro e w2 ⟨rfl, hb2⟩
      have hB2 := blw_trans hW hb2
      clear hb2 c0 c1 hgw HX
      cases hn : (t.nm.toList == n.toList)
      · have HE : Hid (isTeam (ts.take (k + 1)) n = false) := isTeam_snoc ts n k hlt HQ.out (by rw [← HG.out]; exact hn)
        go_wp2
        go_roundw
        case rel => exact ⟨k + 1, by omega, by go_num, HE.out, hB2⟩
        case measure => simp [intOf]; omega
      · have HE : Hid (R = true) := by show R = true; rw [HR.out]; exact isTeam_hit ts n k hlt (by rw [← HG.out]; exact hn)
        go_wp2
        go_ret
        exact ⟨⟨_, rfl, by rw [HE.out]; simp⟩, hB2⟩
    · have HE : Hid (R = false) := by show R = false; rw [HR.out]; exact isTeam_all ts n k (by omega) HQ.out
      go_wp2
      go_ret
      exact ⟨⟨_, rfl, by rw [HE.out]; simp⟩, hW⟩

set_option maxHeartbeats 400000 in
theorem containsT (rb B : Nat) (ts : List Tm) (n : ByteArray) (w : World) (h : TmsIn w B ts) (hc : w.cell? ⟨rb, 0, none⟩ = some (.string n)) (hrb : rb < w.heap.size) :
    Calls Tryz.prog 108 #[.slice (some ⟨B, 0, none⟩) ts.length ts.length, .func (.func 109) #[] #[.pointer (some ⟨rb, 0, none⟩)]] w fun e w' => e = .returned (.bool (isTeam ts n)) ∧ Below w.heap.size w w' := by
  have HX : Hid (Calls Tryz.prog 124 #[.slice (some ⟨B, 0, none⟩) ts.length ts.length, .func (.func 109) #[] #[.pointer (some ⟨rb, 0, none⟩)]] w fun e w' => (∃ r : Int, e = .returned (.int .i64 r) ∧ decide (0 ≤ r) = isTeam ts n) ∧ Below w.heap.size w w') := indexT rb B ts n w h hc hrb
  clear h hc hrb
  go_enter Tryz.func108, Tryz.ntmps108
  go_wp2_with fail
  refine HX.out.mono ?_
  rintro e w' ⟨⟨r, rfl, hr⟩, hb⟩
  have HR : Hid (decide (0 ≤ r) = isTeam ts n) := hr
  clear hr
  go_wp2
  go_ret
  exact ⟨Pl.ret_bool HR.out, hb⟩

set_option maxHeartbeats 400000 in
theorem gateIsTeam (B : Nat) (ts : List Tm) (n : ByteArray) (w : World) (h : TmsIn w B ts) :
    Calls Tryz.prog 87 #[.slice (some ⟨B, 0, none⟩) ts.length ts.length, .string n] w fun e w' => e = .returned (.bool (isTeam ts n)) ∧ Below w.heap.size w w' := by
  have hbx : Below w.heap.size w (w.alloc (.cells #[.string n] 9)) := blw_alloc (Below.refl _ _) _
  have HX : Hid (Calls Tryz.prog 108 #[.slice (some ⟨B, 0, none⟩) ts.length ts.length, .func (.func 109) #[] #[.pointer (some ⟨w.heap.size, 0, none⟩)]] (w.alloc (.cells #[.string n] 9)) fun e w' => e = .returned (.bool (isTeam ts n)) ∧ Below (w.alloc (.cells #[.string n] 9)).heap.size (w.alloc (.cells #[.string n] 9)) w') :=
    containsT w.heap.size B ts n _ (h.later hbx) (by simp) (by simp)
  have HB : Hid (Below w.heap.size w (w.alloc (.cells #[.string n] 9))) := hbx
  clear h hbx
  go_enter Tryz.func87, Tryz.ntmps87
  go_wp2_with fail
  refine HX.out.mono ?_
  rintro e w2 ⟨rfl, hb2⟩
  have hB2 := blw_trans HB.out hb2
  clear hb2
  go_wp2
  go_ret
  exact ⟨rfl, hB2⟩

set_option maxHeartbeats 1000000 in
theorem gateHeight (B : Nat) (ts : List Tm) (a : ByteArray) (w : World) (h : TmsIn w B ts) :
    Calls Tryz.prog 88 #[.slice (some ⟨B, 0, none⟩) ts.length ts.length, .string a] w fun e w' => (∃ r : Int, e = .returned (.int .i64 r) ∧ 0 ≤ r ∧ r ≤ 5 ∧ decide (4 < r) = !high ts 5 a) ∧ Below w.heap.size w w' := by
  have HS : Hid (TmsIn w B ts) := h
  have hl := h.len
  clear h
  obtain ⟨R, hR⟩ : ∃ R, R = high ts 5 a := ⟨_, rfl⟩
  have HR : Hid (R = high ts 5 a) := hR
  rw [← hR]
  clear hR
  go_enter Tryz.func88, Tryz.ntmps88
  go_wp2
  go_loopw [1, 6] (fun v i wr => ∃ (k : Nat) (x : ByteArray), k ≤ 5 ∧ i = .int .i64 k ∧ v = .string x ∧ high ts (5 - k) x = R ∧ Below w.heap.size w wr) (fun _ i _ => 5 - (intOf i).toNat)
  case atStart => exact ⟨0, a, Nat.zero_le _, rfl, rfl, HR.out.symm, Below.refl _ _⟩
  case round =>
    obtain ⟨k, x, hk, rfl, rfl, hq, hW⟩ := hrel
    have HQ : Hid (high ts (5 - k) x = R) := hq
    clear hq
    by_cases hlt : k < 5
    · have HU : Hid (R = if Pl.isEmp (overOf ts x) = true then true else high ts (5 - (k + 1)) (overOf ts x)) := by
        show R = _
        rw [← HQ.out, show 5 - k = (5 - (k + 1)) + 1 by omega, high]
      clear HQ
      go_wp2_with fail
      refine (over_any B ts x wr (HS.out.later hW)).mono ?_
      rintro e w' ⟨rfl, hb2⟩
      have hW2 := blw_trans hW hb2
      clear hb2
      obtain ⟨y, hy⟩ : ∃ y, y = overOf ts x := ⟨_, rfl⟩
      rw [← hy] at HU ⊢
      clear hy
      cases he : y.toList.isEmpty
      · have HE : Hid (high ts (5 - (k + 1)) y = R) := by have := HU.out; rw [Pl.isEmp, he] at this; exact this.symm
        go_wp2
        go_roundw
        case rel => exact ⟨k + 1, y, by omega, by go_num, rfl, HE.out, hW2⟩
        case measure => simp [intOf]; omega
      · have HE : Hid (R = true) := by have := HU.out; rw [Pl.isEmp, he] at this; exact this
        go_wp2
        go_ret
        exact ⟨⟨_, rfl, by omega, by omega, by rw [HE.out]; simp; omega⟩, hW2⟩
    · have HE : Hid (R = false) := by show R = false; rw [← HQ.out, show 5 - k = 0 by omega, high]
      go_wp2
      go_ret
      exact ⟨⟨_, rfl, by omega, by omega, by rw [HE.out]; rfl⟩, hW⟩

end Go.Proofs.YtkjkklcflpchlaaGreat

namespace Go.Proofs.YtkjkklcflpchlaaGreat
open Go.RowKit Go.Deep

theorem nameOk_sameR (s : ByteArray) (w : World) (hs : s.size ≤ maxLen) :
    Calls Tryz.prog 48 #[.string s] w fun e w' => e = .returned (.bool (Pl.nameOk s)) ∧ w' = w := (l1NameOk_any s w hs).mono fun _ _ h => ⟨h.1, h.2.symm⟩
theorem isName_sameR (s : ByteArray) (w : World) (hs : s.size ≤ maxLen) :
    Calls Tryz.prog 62 #[.string s] w fun e w' => e = .returned (.bool (Pl.nameOk s)) ∧ w' = w := (isName_any s w hs).mono fun _ _ h => ⟨h.1, h.2.symm⟩
theorem l4Team_same (B : Nat) (ts : List Tm) (n : ByteArray) (w : World) (h : TmsIn w B ts) :
    Calls Tryz.prog 53 #[.slice (some ⟨B, 0, none⟩) ts.length ts.length, .string n] w fun e w' => e = .returned (.bool (isTeam ts n)) ∧ w' = w := (l4Team_any B ts n w h).mono fun _ _ h => ⟨h.1, h.2.symm⟩

theorem not_beq_empty (s : ByteArray) : (s.toList != []) = !s.toList.isEmpty := by cases s.toList <;> rfl

/-- The climb of the specification's loop. -/
def climbs (ts : List Tm) (nm : ByteArray) (k : Nat) (x : ByteArray) : Prop := (x.toList.isEmpty = true → high ts 5 nm = true) ∧ (x.toList.isEmpty = false → high ts (5 - k) x = high ts 5 nm)

theorem climbs_step {ts : List Tm} {nm : ByteArray} {k : Nat} {x : ByteArray} (h : climbs ts nm k x) (hk : k < 5) (he : x.toList.isEmpty = false) : climbs ts nm (k + 1) (overOf ts x) := by
  have h2 := h.2 he
  rw [show 5 - k = (5 - (k + 1)) + 1 by omega, high] at h2
  constructor
  · intro e
    rw [Pl.isEmp, e] at h2
    exact h2.symm
  · intro e
    rw [Pl.isEmp, e] at h2
    exact h2

theorem climbs_end {ts : List Tm} {nm : ByteArray} {k : Nat} {x : ByteArray} (h : climbs ts nm k x) (hk : ¬ k < 5) (he : x.toList.isEmpty = false) : high ts 5 nm = false := by
  have h2 := h.2 he
  rw [show 5 - k = 0 by omega, high] at h2
  exact h2.symm

theorem teamAt_eq {ts : List Tm} {k : Nat} {t : Tm} (ht : t = ts.getD k Tm.none) (P : Bool) (hP : P = (decide (k = 0) || Pl.less (ts.getD (k - 1) Tm.none).nm t.nm)) :
    teamAt ts k = (Pl.nameOk t.nm && P && (t.ov.toList.isEmpty || isTeam ts t.ov) && high ts 5 t.nm) := by
  rw [teamAt, ← ht, hP]; rfl

set_option maxHeartbeats 8000000 in
theorem teamsOkS (B : Nat) (ts : List Tm) (w : World) (h : TmsIn w B ts) :
    Calls Tryz.prog 47 #[.slice (some ⟨B, 0, none⟩) ts.length ts.length] w fun e w' => e = .returned (.bool (teamsOk ts)) ∧ Below w.heap.size w w' := by
  have HS : Hid (TmsIn w B ts) := h
  have hl := h.len
  clear h
  by_cases h12 : ts.length ≤ 12
  case neg =>
    have HR : Hid (teamsOk ts = false) := by show teamsOk ts = _; simp [teamsOk, h12]
    go_enter Tryz.func47, Tryz.ntmps47
    go_wp2
    go_ret
    exact ⟨Pl.ret_bool HR.out.symm, Below.refl _ _⟩
  obtain ⟨R, hR⟩ : ∃ R, R = teamsOk ts := ⟨_, rfl⟩
  have HR : Hid (R = teamsOk ts) := hR
  rw [← hR]
  clear hR
  go_enter Tryz.func47, Tryz.ntmps47
  go_wp2
  go_loopw [3] (fun i wr => ∃ k : Nat, k ≤ ts.length ∧ i = .int .i64 k ∧ teamsTo ts k = true ∧ Below w.heap.size w wr) (fun i _ => ts.length - (intOf i).toNat)
  case atStart => exact ⟨0, Nat.zero_le _, rfl, rfl, Below.refl _ _⟩
  case round =>
    obtain ⟨k, hk, rfl, hall, hW⟩ := hrel
    obtain ⟨wo, rfl⟩ : ∃ wo : World, wo = wr := ⟨_, rfl⟩
    have HA : Hid (teamsTo ts k = true) := hall
    clear hall
    by_cases hlt : k < ts.length
    · obtain ⟨t, ht⟩ : ∃ t, t = ts.getD k Tm.none := ⟨_, rfl⟩
      have hc := (HS.out.later hW).at_ k hlt
      rw [← ht] at hc
      obtain ⟨c0, c1, hsz⟩ := hc
      have HN : Hid (t.nm.size ≤ maxLen ∧ t.ov.size ≤ maxLen) := hsz
      have hbx : Below wo.heap.size wo (wo.alloc (.cells #[.string t.nm, .string t.ov] 106)) := blw_alloc (Below.refl _ _) _
      have HX : Hid (∀ W, Below wo.heap.size wo W → TmsIn W B ts) := fun W hW2 => (HS.out.later hW).later hW2
      have HF : Hid (teamAt ts k = false → R = false) := fun hf => by rw [HR.out]; exact teamsOk_false hlt hf
      have hp : ∃ P : Bool, P = (decide (k = 0) || Pl.less (ts.getD (k - 1) Tm.none).nm t.nm) ∧ ((k = 0 ∧ P = true) ∨ ∃ (m : Nat) (p : ByteArray), k = m + 1 ∧ wo.cell? ⟨B, m * 2, none⟩ = some (.string p) ∧ Op.bytesLess p.toList t.nm.toList = P) := by
        refine ⟨_, rfl, ?_⟩
        by_cases h0 : k = 0
        · exact Or.inl ⟨h0, by simp [h0]⟩
        · refine Or.inr ⟨k - 1, (ts.getD (k - 1) Tm.none).nm, by omega, ((HS.out.later hW).at_ (k - 1) (by omega)).c0, by simp [h0, Pl.less]⟩
      obtain ⟨P, hP, hcase⟩ := hp
      have HT : Hid (teamAt ts k = (Pl.nameOk t.nm && P && (t.ov.toList.isEmpty || isTeam ts t.ov) && high ts 5 t.nm)) := teamAt_eq ht P hP
      clear hP ht hsz
      rcases hcase with ⟨rfl, rfl⟩ | ⟨m, p, rfl, hcp, hq⟩
      · cases hn : Pl.nameOk t.nm
        · have HE : Hid (R = false) := HF.out (by rw [HT.out, hn]; rfl)
          go_wp2_with fail
          go_quiet (first | (go_at_call 48; exact Calls.quiet_of_same (nameOk_sameR _ _ HN.out.1)) | (go_at_call 53; refine Calls.quiet_of_same (l4Team_same B ts t.ov _ (HX.out _ ?_)); first | exact hbx | exact blw_drewN hbx _))
          go_wp2
          go_ret
          exact ⟨Pl.ret_bool HE.out.symm, blw_drewN (blw_trans hW hbx) _⟩
        · cases he : t.ov.toList.isEmpty
          · cases hi : isTeam ts t.ov
            · have HE : Hid (R = false) := HF.out (by rw [HT.out, he, hi]; simp)
              go_wp2_with fail
              go_quiet (first | (go_at_call 48; exact Calls.quiet_of_same (nameOk_sameR _ _ HN.out.1)) | (go_at_call 53; refine Calls.quiet_of_same (l4Team_same B ts t.ov _ (HX.out _ ?_)); first | exact hbx | exact blw_drewN hbx _))
              go_wp2
              go_ret
              exact ⟨Pl.ret_bool HE.out.symm, blw_drewN (blw_trans hW hbx) _⟩
            · have hor : (t.ov.toList.isEmpty || isTeam ts t.ov) = true := by rw [hi]; simp
              have HK : Hid (high ts 5 t.nm = true → teamsTo ts (0 + 1) = true) := fun hh => teamsTo_step HA.out (by rw [HT.out, hn, hh, he, hi]; simp)
              have HC0 : Hid (climbs ts t.nm 0 t.nm) := ⟨fun e => (by rw [Pl.name_full hn] at e; cases e), fun _ => rfl⟩
              have HJ : Hid (high ts 5 t.nm = false → R = false) := fun hh => HF.out (by rw [HT.out, hh]; simp)
              go_wp2_with fail
              go_quiet (first | (go_at_call 48; exact Calls.quiet_of_same (nameOk_sameR _ _ HN.out.1)) | (go_at_call 53; refine Calls.quiet_of_same (l4Team_same B ts t.ov _ (HX.out _ ?_)); first | exact hbx | exact blw_drewN hbx _))
              go_wp2
              clear hn hor he hi
              go_loop [5, 6] (fun v i => ∃ (q : Nat) (x : ByteArray), q ≤ 5 ∧ i = .int .i64 q ∧ v = .string x ∧ climbs ts t.nm q x) (fun _ i => 5 - (intOf i).toNat)
              case atStart => exact ⟨0, t.nm, Nat.zero_le _, rfl, rfl, HC0.out⟩
              case round =>
                obtain ⟨q, x, hq5, rfl, rfl, hcl⟩ := hrel
                have HCL : Hid (climbs ts t.nm q x) := hcl
                clear hcl
                cases hx : x.toList.isEmpty
                · by_cases hlq : q < 5
                  · have HST : Hid (climbs ts t.nm (q + 1) (overOf ts x)) := climbs_step HCL.out hlq hx
                    go_wp2_with fail
                    refine (l4Over_any B ts x _ (HX.out _ (blw_drewN hbx _))).mono ?_
                    rintro e w' ⟨rfl, rfl⟩
                    clear hx
                    go_wp2
                    go_round
                    case rel => first | exact ⟨q + 1, _, by omega, by go_num, rfl, HST.out⟩ | ((repeat apply Exists.intro); exact ⟨⟨q + 1, _, by omega, by go_num, rfl, HST.out⟩, rfl⟩) | (refine ⟨trivial, ?_⟩; (repeat apply Exists.intro); exact ⟨⟨q + 1, _, by omega, by go_num, rfl, HST.out⟩, rfl⟩)
                    case measure => simp [intOf]; omega
                  · have HE : Hid (R = false) := HJ.out (climbs_end HCL.out hlq hx)
                    go_wp2
                    go_ret
                    exact ⟨Pl.ret_bool HE.out.symm, blw_drewN (blw_trans hW hbx) _⟩
                · have HE : Hid (teamsTo ts (0 + 1) = true) := HK.out (HCL.out.1 hx)
                  by_cases hlq : q < 5
                  all_goals
                    go_wp2
                    go_roundw
                    case rel => first | exact ⟨0 + 1, by omega, by go_num, HE.out, blw_drewN (blw_trans hW hbx) _⟩ | ((repeat apply Exists.intro); exact ⟨⟨0 + 1, by omega, by go_num, HE.out, blw_drewN (blw_trans hW hbx) _⟩, rfl⟩)
                    case measure => simp [intOf]; omega
          · have hor : (t.ov.toList.isEmpty || isTeam ts t.ov) = true := by rw [he]; rfl
            have HK : Hid (high ts 5 t.nm = true → teamsTo ts (0 + 1) = true) := fun hh => teamsTo_step HA.out (by rw [HT.out, hn, hh, he]; simp)
            have HC0 : Hid (climbs ts t.nm 0 t.nm) := ⟨fun e => (by rw [Pl.name_full hn] at e; cases e), fun _ => rfl⟩
            have HJ : Hid (high ts 5 t.nm = false → R = false) := fun hh => HF.out (by rw [HT.out, hh]; simp)
            go_wp2_with fail
            go_quiet (first | (go_at_call 48; exact Calls.quiet_of_same (nameOk_sameR _ _ HN.out.1)) | (go_at_call 53; refine Calls.quiet_of_same (l4Team_same B ts t.ov _ (HX.out _ ?_)); first | exact hbx | exact blw_drewN hbx _))
            go_wp2
            clear hn hor he
            go_loop [5, 6] (fun v i => ∃ (q : Nat) (x : ByteArray), q ≤ 5 ∧ i = .int .i64 q ∧ v = .string x ∧ climbs ts t.nm q x) (fun _ i => 5 - (intOf i).toNat)
            case atStart => exact ⟨0, t.nm, Nat.zero_le _, rfl, rfl, HC0.out⟩
            case round =>
              obtain ⟨q, x, hq5, rfl, rfl, hcl⟩ := hrel
              have HCL : Hid (climbs ts t.nm q x) := hcl
              clear hcl
              cases hx : x.toList.isEmpty
              · by_cases hlq : q < 5
                · have HST : Hid (climbs ts t.nm (q + 1) (overOf ts x)) := climbs_step HCL.out hlq hx
                  go_wp2_with fail
                  refine (l4Over_any B ts x _ (HX.out _ (blw_drewN hbx _))).mono ?_
                  rintro e w' ⟨rfl, rfl⟩
                  clear hx
                  go_wp2
                  go_round
                  case rel => first | exact ⟨q + 1, _, by omega, by go_num, rfl, HST.out⟩ | ((repeat apply Exists.intro); exact ⟨⟨q + 1, _, by omega, by go_num, rfl, HST.out⟩, rfl⟩) | (refine ⟨trivial, ?_⟩; (repeat apply Exists.intro); exact ⟨⟨q + 1, _, by omega, by go_num, rfl, HST.out⟩, rfl⟩)
                  case measure => simp [intOf]; omega
                · have HE : Hid (R = false) := HJ.out (climbs_end HCL.out hlq hx)
                  go_wp2
                  go_ret
                  exact ⟨Pl.ret_bool HE.out.symm, blw_drewN (blw_trans hW hbx) _⟩
              · have HE : Hid (teamsTo ts (0 + 1) = true) := HK.out (HCL.out.1 hx)
                by_cases hlq : q < 5
                all_goals
                  go_wp2
                  go_roundw
                  case rel => first | exact ⟨0 + 1, by omega, by go_num, HE.out, blw_drewN (blw_trans hW hbx) _⟩ | ((repeat apply Exists.intro); exact ⟨⟨0 + 1, by omega, by go_num, HE.out, blw_drewN (blw_trans hW hbx) _⟩, rfl⟩)
                  case measure => simp [intOf]; omega
      · have hBl : B < wo.heap.size := Nat.lt_of_lt_of_le HS.out.lt hW.size
        have hmi : decide ((m : Int) + 1 < (ts.length : Int)) = true := by simp; omega
        cases hn : Pl.nameOk t.nm
        · have HE : Hid (R = false) := HF.out (by rw [HT.out, hn]; rfl)
          go_wp2_with fail
          go_quiet (first | (go_at_call 48; exact Calls.quiet_of_same (nameOk_sameR _ _ HN.out.1)) | (go_at_call 53; refine Calls.quiet_of_same (l4Team_same B ts t.ov _ (HX.out _ ?_)); first | exact hbx | exact blw_drewN hbx _))
          go_wp2
          go_ret
          exact ⟨Pl.ret_bool HE.out.symm, blw_drewN (blw_trans hW hbx) _⟩
        · cases P
          · have HE : Hid (R = false) := HF.out (by rw [HT.out]; simp)
            go_wp2_with fail
            go_quiet (first | (go_at_call 48; exact Calls.quiet_of_same (nameOk_sameR _ _ HN.out.1)) | (go_at_call 53; refine Calls.quiet_of_same (l4Team_same B ts t.ov _ (HX.out _ ?_)); first | exact hbx | exact blw_drewN hbx _))
            go_wp2
            go_ret
            exact ⟨Pl.ret_bool HE.out.symm, blw_drewN (blw_trans hW hbx) _⟩
          · cases he : t.ov.toList.isEmpty
            · cases hi : isTeam ts t.ov
              · have HE : Hid (R = false) := HF.out (by rw [HT.out, he, hi]; simp)
                go_wp2_with fail
                go_quiet (first | (go_at_call 48; exact Calls.quiet_of_same (nameOk_sameR _ _ HN.out.1)) | (go_at_call 53; refine Calls.quiet_of_same (l4Team_same B ts t.ov _ (HX.out _ ?_)); first | exact hbx | exact blw_drewN hbx _))
                go_wp2
                go_ret
                exact ⟨Pl.ret_bool HE.out.symm, blw_drewN (blw_trans hW hbx) _⟩
              · have hor : (t.ov.toList.isEmpty || isTeam ts t.ov) = true := by rw [hi]; simp
                have HK : Hid (high ts 5 t.nm = true → teamsTo ts ((m + 1) + 1) = true) := fun hh => teamsTo_step HA.out (by rw [HT.out, hn, hh, he, hi]; simp)
                have HC0 : Hid (climbs ts t.nm 0 t.nm) := ⟨fun e => (by rw [Pl.name_full hn] at e; cases e), fun _ => rfl⟩
                have HJ : Hid (high ts 5 t.nm = false → R = false) := fun hh => HF.out (by rw [HT.out, hh]; simp)
                go_wp2_with fail
                go_quiet (first | (go_at_call 48; exact Calls.quiet_of_same (nameOk_sameR _ _ HN.out.1)) | (go_at_call 53; refine Calls.quiet_of_same (l4Team_same B ts t.ov _ (HX.out _ ?_)); first | exact hbx | exact blw_drewN hbx _))
                go_wp2
                clear hn hor hcp hq he hi
                go_loop [5, 6] (fun v i => ∃ (q : Nat) (x : ByteArray), q ≤ 5 ∧ i = .int .i64 q ∧ v = .string x ∧ climbs ts t.nm q x) (fun _ i => 5 - (intOf i).toNat)
                case atStart => exact ⟨0, t.nm, Nat.zero_le _, rfl, rfl, HC0.out⟩
                case round =>
                  obtain ⟨q, x, hq5, rfl, rfl, hcl⟩ := hrel
                  have HCL : Hid (climbs ts t.nm q x) := hcl
                  clear hcl
                  cases hx : x.toList.isEmpty
                  · by_cases hlq : q < 5
                    · have HST : Hid (climbs ts t.nm (q + 1) (overOf ts x)) := climbs_step HCL.out hlq hx
                      go_wp2_with fail
                      refine (l4Over_any B ts x _ (HX.out _ (blw_drewN hbx _))).mono ?_
                      rintro e w' ⟨rfl, rfl⟩
                      clear hx
                      go_wp2
                      go_round
                      case rel => first | exact ⟨q + 1, _, by omega, by go_num, rfl, HST.out⟩ | ((repeat apply Exists.intro); exact ⟨⟨q + 1, _, by omega, by go_num, rfl, HST.out⟩, rfl⟩) | (refine ⟨trivial, ?_⟩; (repeat apply Exists.intro); exact ⟨⟨q + 1, _, by omega, by go_num, rfl, HST.out⟩, rfl⟩)
                      case measure => simp [intOf]; omega
                    · have HE : Hid (R = false) := HJ.out (climbs_end HCL.out hlq hx)
                      go_wp2
                      go_ret
                      exact ⟨Pl.ret_bool HE.out.symm, blw_drewN (blw_trans hW hbx) _⟩
                  · have HE : Hid (teamsTo ts ((m + 1) + 1) = true) := HK.out (HCL.out.1 hx)
                    by_cases hlq : q < 5
                    all_goals
                      go_wp2
                      go_roundw
                      case rel => first | exact ⟨(m + 1) + 1, by omega, by go_num, HE.out, blw_drewN (blw_trans hW hbx) _⟩ | ((repeat apply Exists.intro); exact ⟨⟨(m + 1) + 1, by omega, by go_num, HE.out, blw_drewN (blw_trans hW hbx) _⟩, rfl⟩)
                      case measure => simp [intOf]; omega
            · have hor : (t.ov.toList.isEmpty || isTeam ts t.ov) = true := by rw [he]; rfl
              have HK : Hid (high ts 5 t.nm = true → teamsTo ts ((m + 1) + 1) = true) := fun hh => teamsTo_step HA.out (by rw [HT.out, hn, hh, he]; simp)
              have HC0 : Hid (climbs ts t.nm 0 t.nm) := ⟨fun e => (by rw [Pl.name_full hn] at e; cases e), fun _ => rfl⟩
              have HJ : Hid (high ts 5 t.nm = false → R = false) := fun hh => HF.out (by rw [HT.out, hh]; simp)
              go_wp2_with fail
              go_quiet (first | (go_at_call 48; exact Calls.quiet_of_same (nameOk_sameR _ _ HN.out.1)) | (go_at_call 53; refine Calls.quiet_of_same (l4Team_same B ts t.ov _ (HX.out _ ?_)); first | exact hbx | exact blw_drewN hbx _))
              go_wp2
              clear hn hor hcp hq he
              go_loop [5, 6] (fun v i => ∃ (q : Nat) (x : ByteArray), q ≤ 5 ∧ i = .int .i64 q ∧ v = .string x ∧ climbs ts t.nm q x) (fun _ i => 5 - (intOf i).toNat)
              case atStart => exact ⟨0, t.nm, Nat.zero_le _, rfl, rfl, HC0.out⟩
              case round =>
                obtain ⟨q, x, hq5, rfl, rfl, hcl⟩ := hrel
                have HCL : Hid (climbs ts t.nm q x) := hcl
                clear hcl
                cases hx : x.toList.isEmpty
                · by_cases hlq : q < 5
                  · have HST : Hid (climbs ts t.nm (q + 1) (overOf ts x)) := climbs_step HCL.out hlq hx
                    go_wp2_with fail
                    refine (l4Over_any B ts x _ (HX.out _ (blw_drewN hbx _))).mono ?_
                    rintro e w' ⟨rfl, rfl⟩
                    clear hx
                    go_wp2
                    go_round
                    case rel => first | exact ⟨q + 1, _, by omega, by go_num, rfl, HST.out⟩ | ((repeat apply Exists.intro); exact ⟨⟨q + 1, _, by omega, by go_num, rfl, HST.out⟩, rfl⟩) | (refine ⟨trivial, ?_⟩; (repeat apply Exists.intro); exact ⟨⟨q + 1, _, by omega, by go_num, rfl, HST.out⟩, rfl⟩)
                    case measure => simp [intOf]; omega
                  · have HE : Hid (R = false) := HJ.out (climbs_end HCL.out hlq hx)
                    go_wp2
                    go_ret
                    exact ⟨Pl.ret_bool HE.out.symm, blw_drewN (blw_trans hW hbx) _⟩
                · have HE : Hid (teamsTo ts ((m + 1) + 1) = true) := HK.out (HCL.out.1 hx)
                  by_cases hlq : q < 5
                  all_goals
                    go_wp2
                    go_roundw
                    case rel => first | exact ⟨(m + 1) + 1, by omega, by go_num, HE.out, blw_drewN (blw_trans hW hbx) _⟩ | ((repeat apply Exists.intro); exact ⟨⟨(m + 1) + 1, by omega, by go_num, HE.out, blw_drewN (blw_trans hW hbx) _⟩, rfl⟩)
                    case measure => simp [intOf]; omega
    · have HE : Hid (R = true) := by
        show R = true
        obtain rfl : k = ts.length := by omega
        rw [HR.out, teamsOk, HA.out]; simp [h12]
      go_wp2
      go_ret
      exact ⟨Pl.ret_bool HE.out.symm, hW⟩

end Go.Proofs.YtkjkklcflpchlaaGreat
