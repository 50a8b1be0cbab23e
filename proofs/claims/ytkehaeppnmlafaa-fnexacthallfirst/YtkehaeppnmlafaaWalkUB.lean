/-
  Walks: whether there is a team of a name; how many teams are over one.
-/
import Derived.Test.YtkehaeppnmlafaaWalkUA
namespace Go.Proofs.Ytkehaeppnmlafaa
open Go.RowKit Go.Deep

variable {CT CR CV CQ CL : Nat}

set_option maxHeartbeats 1000000 in
theorem l4Team_any (B : Nat) (ts : List Tm) (n : ByteArray) (w : World) (h : TmsIn w B ts) :
    Calls Try.prog 69 #[.slice (some ⟨B, 0, none⟩) ts.length CT, .string n] w fun e w' => e = .returned (.bool (isTeam ts n)) ∧ w = w' := by
  have hl := h.len
  obtain ⟨R, hR⟩ : ∃ R, R = isTeam ts n := ⟨_, rfl⟩
  have HR : Hid (R = isTeam ts n) := hR
  rw [← hR]
  clear hR
  go_enter Try.func69, Try.ntmps69
  go_wp2
  go_loop [5] (fun i => ∃ k : Nat, k ≤ ts.length ∧ i = .int .i64 k ∧ isTeam (ts.take k) n = false) (fun i => ts.length - (intOf i).toNat)
  case atStart => exact ⟨0, Nat.zero_le _, rfl, rfl⟩
  case round =>
    obtain ⟨k, hk, rfl, hq⟩ := hrel
    have HQ : Hid (isTeam (ts.take k) n = false) := hq
    clear hq
    by_cases hlt : k < ts.length
    · obtain ⟨t, ht⟩ : ∃ t, t = ts.getD k Tm.none := ⟨_, rfl⟩
      have hc := h.at_ k hlt
      rw [← ht] at hc
      obtain ⟨c0, c1, _⟩ := hc
      cases hn : (t.nm.toList == n.toList)
      · have HE : Hid (isTeam (ts.take (k + 1)) n = false) := isTeam_snoc ts n k hlt HQ.out (by rw [← ht]; exact hn)
        clear ht h
        go_wp2
        go_round
        case rel => exact ⟨k + 1, by omega, by go_num, HE.out⟩
        case measure => simp [intOf]; omega
      · have HE : Hid (R = true) := by show R = true; rw [HR.out]; exact isTeam_hit ts n k hlt (by rw [← ht]; exact hn)
        clear ht h
        go_wp2
        go_ret
        exact ⟨Pl.ret_bool HE.out.symm, rfl⟩
    · have HE : Hid (R = false) := by show R = false; rw [HR.out]; exact isTeam_all ts n k (by omega) HQ.out
      clear h
      go_wp2
      go_ret
      exact ⟨Pl.ret_bool HE.out.symm, rfl⟩

set_option maxHeartbeats 400000 in
theorem isTeam1 (rb : Nat) (t : Tm) (n : ByteArray) (w : World) (hc : w.cell? ⟨rb, 0, none⟩ = some (.string n)) (hlt : rb < w.heap.size) :
    Calls Try.prog 91 #[.agg #[.string t.nm, .string t.ov], .pointer (some ⟨rb, 0, none⟩)] w fun e w' => e = .returned (.bool (t.nm.toList == n.toList)) ∧ Below w.heap.size w w' := by
  go_enter Try.func91, Try.ntmps91
  go_wp2
  go_ret
  exact ⟨rfl, blw_alloc (Below.refl _ _) _⟩

set_option maxHeartbeats 1000000 in
theorem indexT (rb B : Nat) (ts : List Tm) (n : ByteArray) (w : World) (h : TmsIn w B ts) (hc : w.cell? ⟨rb, 0, none⟩ = some (.string n)) (hrb : rb < w.heap.size) :
    Calls Try.prog 95 #[.slice (some ⟨B, 0, none⟩) ts.length CT, .func (.func 91) #[] #[.pointer (some ⟨rb, 0, none⟩)]] w fun e w' => (∃ r : Int, e = .returned (.int .i64 r) ∧ decide (0 ≤ r) = isTeam ts n) ∧ Below w.heap.size w w' := by
  have HC : Hid (TmsIn w B ts ∧ w.cell? ⟨rb, 0, none⟩ = some (.string n) ∧ rb < w.heap.size) := ⟨h, hc, hrb⟩
  have hl := h.len
  obtain ⟨R, hR⟩ : ∃ R, R = isTeam ts n := ⟨_, rfl⟩
  have HR : Hid (R = isTeam ts n) := hR
  rw [← hR]
  clear hR h hc hrb
  go_enter Try.func95, Try.ntmps95
  go_wp2
  go_loopw [8] (fun i wr => ∃ k : Nat, k ≤ ts.length ∧ i = .int .i64 k ∧ isTeam (ts.take k) n = false ∧ Below w.heap.size w wr) (fun i _ => ts.length - (intOf i).toNat)
  case atStart => exact ⟨0, Nat.zero_le _, rfl, rfl, Below.refl _ _⟩
  case round =>
    obtain ⟨k, hk, rfl, hq, hW⟩ := hrel
    have HQ : Hid (isTeam (ts.take k) n = false) := hq
    clear hq
    by_cases hlt : k < ts.length
    · obtain ⟨t, ht⟩ : ∃ t, t = ts.getD k Tm.none := ⟨_, rfl⟩
      have hc := (HC.out.1.later hW).at_ k hlt
      have hgw : B < wr.heap.size := Nat.lt_of_lt_of_le HC.out.1.lt hW.size
      rw [← ht] at hc
      obtain ⟨c0, c1, _⟩ := hc
      have HX : Hid (Calls Try.prog 91 #[.agg #[.string t.nm, .string t.ov], .pointer (some ⟨rb, 0, none⟩)] wr fun e w' => e = .returned (.bool (t.nm.toList == n.toList)) ∧ Below wr.heap.size wr w') :=
        isTeam1 rb t n wr ((hW.cell (p := ⟨rb, 0, none⟩) HC.out.2.2).trans HC.out.2.1) (Nat.lt_of_lt_of_le HC.out.2.2 hW.size)
      have HG : Hid (t = ts.getD k Tm.none) := ht
      clear ht
      go_wp2_with fail
      refine HX.out.mono ?_
      rintro e w2 ⟨rfl, hb2⟩
      have hB2 := blw_trans hW hb2
      clear hb2 c0 c1 hgw HX
      cases hn : (t.nm.toList == n.toList)
      · have HE : Hid (isTeam (ts.take (k + 1)) n = false) := isTeam_snoc ts n k hlt HQ.out (by rw [← HG.out]; exact hn)
        go_wp2
        go_roundw
        case rel => exact ⟨k + 1, by omega, by go_num, HE.out, hB2⟩
        case measure => simp [intOf]; omega
      · have HE : Hid (R = true) := by show R = true; rw [HR.out]; exact isTeam_hit ts n k hlt (by rw [← HG.out]; exact hn)
        go_wp2
        go_ret
        exact ⟨⟨_, rfl, by rw [HE.out]; simp⟩, hB2⟩
    · have HE : Hid (R = false) := by show R = false; rw [HR.out]; exact isTeam_all ts n k (by omega) HQ.out
      go_wp2
      go_ret
      exact ⟨⟨_, rfl, by rw [HE.out]; simp⟩, hW⟩

set_option maxHeartbeats 400000 in
theorem containsT (rb B : Nat) (ts : List Tm) (n : ByteArray) (w : World) (h : TmsIn w B ts) (hc : w.cell? ⟨rb, 0, none⟩ = some (.string n)) (hrb : rb < w.heap.size) :
    Calls Try.prog 90 #[.slice (some ⟨B, 0, none⟩) ts.length CT, .func (.func 91) #[] #[.pointer (some ⟨rb, 0, none⟩)]] w fun e w' => e = .returned (.bool (isTeam ts n)) ∧ Below w.heap.size w w' := by
  have HX : Hid (Calls Try.prog 95 #[.slice (some ⟨B, 0, none⟩) ts.length CT, .func (.func 91) #[] #[.pointer (some ⟨rb, 0, none⟩)]] w fun e w' => (∃ r : Int, e = .returned (.int .i64 r) ∧ decide (0 ≤ r) = isTeam ts n) ∧ Below w.heap.size w w') := indexT rb B ts n w h hc hrb
  clear h hc hrb
  go_enter Try.func90, Try.ntmps90
  go_wp2_with fail
  refine HX.out.mono ?_
  rintro e w' ⟨⟨r, rfl, hr⟩, hb⟩
  have HR : Hid (decide (0 ≤ r) = isTeam ts n) := hr
  clear hr
  go_wp2
  go_ret
  exact ⟨Pl.ret_bool HR.out, hb⟩

set_option maxHeartbeats 400000 in
theorem gateIsTeam (B : Nat) (ts : List Tm) (n : ByteArray) (w : World) (h : TmsIn w B ts) :
    Calls Try.prog 74 #[.slice (some ⟨B, 0, none⟩) ts.length CT, .string n] w fun e w' => e = .returned (.bool (isTeam ts n)) ∧ Below w.heap.size w w' := by
  have hbx : Below w.heap.size w (w.alloc (.cells #[.string n] 9)) := blw_alloc (Below.refl _ _) _
  have HX : Hid (Calls Try.prog 90 #[.slice (some ⟨B, 0, none⟩) ts.length CT, .func (.func 91) #[] #[.pointer (some ⟨w.heap.size, 0, none⟩)]] (w.alloc (.cells #[.string n] 9)) fun e w' => e = .returned (.bool (isTeam ts n)) ∧ Below (w.alloc (.cells #[.string n] 9)).heap.size (w.alloc (.cells #[.string n] 9)) w') :=
    containsT w.heap.size B ts n _ (h.later hbx) (by simp) (by simp)
  have HB : Hid (Below w.heap.size w (w.alloc (.cells #[.string n] 9))) := hbx
  clear h hbx
  go_enter Try.func74, Try.ntmps74
  go_wp2_with fail
  refine HX.out.mono ?_
  rintro e w2 ⟨rfl, hb2⟩
  have hB2 := blw_trans HB.out hb2
  clear hb2
  go_wp2
  go_ret
  exact ⟨rfl, hB2⟩

set_option maxHeartbeats 1000000 in
theorem gateHeight (B : Nat) (ts : List Tm) (a : ByteArray) (w : World) (h : TmsIn w B ts) :
    Calls Try.prog 75 #[.slice (some ⟨B, 0, none⟩) ts.length CT, .string a] w fun e w' => (∃ r : Int, e = .returned (.int .i64 r) ∧ 0 ≤ r ∧ r ≤ 5 ∧ decide (4 < r) = !high ts 5 a) ∧ Below w.heap.size w w' := by
  have HS : Hid (TmsIn w B ts) := h
  have hl := h.len
  clear h
  obtain ⟨R, hR⟩ : ∃ R, R = high ts 5 a := ⟨_, rfl⟩
  have HR : Hid (R = high ts 5 a) := hR
  rw [← hR]
  clear hR
  go_enter Try.func75, Try.ntmps75
  go_wp2
  go_loopw [1, 6] (fun v i wr => ∃ (k : Nat) (x : ByteArray), k ≤ 5 ∧ i = .int .i64 k ∧ v = .string x ∧ high ts (5 - k) x = R ∧ Below w.heap.size w wr) (fun _ i _ => 5 - (intOf i).toNat)
  case atStart => exact ⟨0, a, Nat.zero_le _, rfl, rfl, HR.out.symm, Below.refl _ _⟩
  case round =>
    obtain ⟨k, x, hk, rfl, rfl, hq, hW⟩ := hrel
    have HQ : Hid (high ts (5 - k) x = R) := hq
    clear hq
    by_cases hlt : k < 5
    · have HU : Hid (R = if Pl.isEmp (overOf ts x) = true then true else high ts (5 - (k + 1)) (overOf ts x)) := by
        show R = _
        rw [← HQ.out, show 5 - k = (5 - (k + 1)) + 1 by omega, high]
      clear HQ
      go_wp2_with fail
      refine (over_any B ts x wr (HS.out.later hW)).mono ?_
      rintro e w' ⟨rfl, hb2⟩
      have hW2 := blw_trans hW hb2
      clear hb2
      obtain ⟨y, hy⟩ : ∃ y, y = overOf ts x := ⟨_, rfl⟩
      rw [← hy] at HU ⊢
      clear hy
      cases he : y.toList.isEmpty
      · have HE : Hid (high ts (5 - (k + 1)) y = R) := by have := HU.out; rw [Pl.isEmp, he] at this; exact this.symm
        go_wp2
        go_roundw
        case rel => exact ⟨k + 1, y, by omega, by go_num, rfl, HE.out, hW2⟩
        case measure => simp [intOf]; omega
      · have HE : Hid (R = true) := by have := HU.out; rw [Pl.isEmp, he] at this; exact this
        go_wp2
        go_ret
        exact ⟨⟨_, rfl, by omega, by omega, by rw [HE.out]; simp; omega⟩, hW2⟩
    · have HE : Hid (R = false) := by show R = false; rw [← HQ.out, show 5 - k = 0 by omega, high]
      go_wp2
      go_ret
      exact ⟨⟨_, rfl, by omega, by omega, by rw [HE.out]; rfl⟩, hW⟩

end Go.Proofs.Ytkehaeppnmlafaa
