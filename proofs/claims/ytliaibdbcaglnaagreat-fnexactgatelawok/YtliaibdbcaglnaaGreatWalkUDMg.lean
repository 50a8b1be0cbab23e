/-
  Walks: teams that are ok: the program.
-/
import Derived.Test.YtliaibdbcaglnaaGreatMemT
import Derived.Test.YtliaibdbcaglnaaGreatPlainC
import Derived.Test.YtliaibdbcaglnaaGreatWalkA
/-
  Plain functions: what stands under what; when teams are ok.
-/
namespace Go.Proofs.YtliaibdbcaglnaaGreat
open Go.RowKit Go.Deep

namespace Pl
theorem name_full {s : ByteArray} (h : nameOk s = true) : s.toList.isEmpty = false := by
  simp only [nameOk, Bool.and_eq_true, decide_eq_true_eq] at h
  exact empty_no s h.1.1
end Pl

/-- What the first team of a name stands in. -/
def overOf : List Tm → ByteArray → ByteArray
  | [], _ => ByteArray.empty
  | t :: ts, n => if (t.nm.toList == n.toList) = true then t.ov else overOf ts n

theorem overOf_at (ts : List Tm) (n : ByteArray) (k : Nat) (hk : k < ts.length) :
    overOf (ts.drop k) n = if ((ts.getD k Tm.none).nm.toList == n.toList) = true then (ts.getD k Tm.none).ov else overOf (ts.drop (k + 1)) n := by
  have e : ts.getD k Tm.none = ts[k] := by simp [hk]
  rw [List.drop_eq_getElem_cons hk, e, overOf]

theorem overOf_end (ts : List Tm) (n : ByteArray) (k : Nat) (hk : ts.length ≤ k) : overOf (ts.drop k) n = ByteArray.empty := by
  rw [List.drop_of_length_le hk, overOf]

theorem overOf_size (n : ByteArray) : ∀ ts : List Tm, (∀ t ∈ ts, t.sized) → (overOf ts n).size ≤ maxLen
  | [], _ => by simp [overOf, maxLen]
  | t :: ts, h => by
    rw [overOf]
    split
    · exact (h t (by simp)).2
    · exact overOf_size n ts fun x hx => h x (by simp [hx])

theorem TmsIn.sized {w : World} {B : Nat} {ts : List Tm} (h : TmsIn w B ts) : ∀ t ∈ ts, t.sized := by
  intro t ht
  obtain ⟨i, hi, rfl⟩ := List.getElem_of_mem ht
  have := (h.at_ i hi).sized
  simpa [hi] using this

/-- Whether b is met in k steps from a. -/
def upTo (ts : List Tm) : Nat → ByteArray → ByteArray → Bool
  | 0, _, _ => false
  | k + 1, a, b => if Pl.isEmp (overOf ts a) = true then false else if ((overOf ts a).toList == b.toList) = true then true else upTo ts k (overOf ts a) b
def under (ts : List Tm) (a b : ByteArray) : Bool := (a.toList == b.toList) || upTo ts 4 a b

/-- Whether there is an end within k steps from a. -/
def high (ts : List Tm) : Nat → ByteArray → Bool
  | 0, _ => false
  | k + 1, a => if Pl.isEmp (overOf ts a) = true then true else high ts k (overOf ts a)

def isTeam (ts : List Tm) (n : ByteArray) : Bool := ts.any (fun t => t.nm.toList == n.toList)

def teamAt (ts : List Tm) (i : Nat) : Bool :=
  Pl.nameOk (ts.getD i Tm.none).nm && (decide (i = 0) || Pl.less (ts.getD (i - 1) Tm.none).nm (ts.getD i Tm.none).nm) && (Pl.isEmp (ts.getD i Tm.none).ov || isTeam ts (ts.getD i Tm.none).ov) && high ts 5 (ts.getD i Tm.none).nm
def teamsTo (ts : List Tm) (k : Nat) : Bool := (List.range k).all (teamAt ts)
def teamsOk (ts : List Tm) : Bool := decide (ts.length ≤ 12) && teamsTo ts ts.length

theorem teamsOk_false {ts : List Tm} {k : Nat} (hk : k < ts.length) (h : teamAt ts k = false) : teamsOk ts = false := by
  rw [teamsOk, teamsTo, Pl.to_false _ _ k hk h]; simp
theorem teamsTo_step {ts : List Tm} {k : Nat} (h : teamsTo ts k = true) (ha : teamAt ts k = true) : teamsTo ts (k + 1) = true := by
  unfold teamsTo at h ⊢; rw [Pl.to_succ, h, ha]; rfl

theorem isTeam_snoc (ts : List Tm) (n : ByteArray) (k : Nat) (h : k < ts.length) (hq : isTeam (ts.take k) n = false) (hn : ((ts.getD k Tm.none).nm.toList == n.toList) = false) : isTeam (ts.take (k + 1)) n = false := by
  have e : ts.getD k Tm.none = ts[k] := by simp [h]
  rw [e] at hn
  unfold isTeam at hq ⊢
  rw [List.take_succ_eq_append_getElem h, List.any_append, hq]; simp [hn]
theorem isTeam_hit (ts : List Tm) (n : ByteArray) (k : Nat) (h : k < ts.length) (hn : ((ts.getD k Tm.none).nm.toList == n.toList) = true) : isTeam ts n = true := by
  have e : ts.getD k Tm.none = ts[k] := by simp [h]
  rw [e] at hn
  unfold isTeam
  rw [List.any_eq_true]
  exact ⟨ts[k], List.getElem_mem h, hn⟩
theorem isTeam_all (ts : List Tm) (n : ByteArray) (k : Nat) (h : ts.length ≤ k) (hq : isTeam (ts.take k) n = false) : isTeam ts n = false := by
  rw [List.take_of_length_le h] at hq; exact hq

end Go.Proofs.YtliaibdbcaglnaaGreat

/-
  Walks: what stands over a team, and under what.
-/
namespace Go.Proofs.YtliaibdbcaglnaaGreat
open Go.RowKit Go.Deep

theorem ret_strR {a b : ByteArray} (h : a = b) : Ending.returned (.string a) = .returned (.string b) := by rw [h]

set_option maxHeartbeats 1000000 in
theorem l4Over_any (B : Nat) (ts : List Tm) (n : ByteArray) (w : World) (h : TmsIn w B ts) :
    Calls Tryz.prog 58 #[.slice (some ⟨B, 0, none⟩) ts.length ts.length, .string n] w fun e w' => e = .returned (.string (overOf ts n)) ∧ w = w' := by
  have hl := h.len
  obtain ⟨R, hR⟩ : ∃ R, R = overOf ts n := ⟨_, rfl⟩
  have HR : Hid (R = overOf ts n) := hR
  rw [← hR]
  clear hR
  go_enter Tryz.func58, Tryz.ntmps58
  go_wp2
  go_loop [5] (fun i => ∃ k : Nat, k ≤ ts.length ∧ i = .int .i64 k ∧ overOf (ts.drop k) n = R) (fun i => ts.length - (intOf i).toNat)
  case atStart => exact ⟨0, Nat.zero_le _, rfl, HR.out.symm⟩
  case round =>
    obtain ⟨k, hk, rfl, hq⟩ := hrel
    have HQ : Hid (overOf (ts.drop k) n = R) := hq
    clear hq
    by_cases hlt : k < ts.length
    · obtain ⟨t, ht⟩ : ∃ t, t = ts.getD k Tm.none := ⟨_, rfl⟩
      have hc := h.at_ k hlt
      have hd := overOf_at ts n k hlt
      rw [← ht] at hc hd
      obtain ⟨c0, c1, _⟩ := hc
      have HD : Hid (R = if (t.nm.toList == n.toList) = true then t.ov else overOf (ts.drop (k + 1)) n) := by show R = _; rw [← HQ.out, hd]
      clear hd ht h
      cases hn : (t.nm.toList == n.toList)
      · have HE : Hid (overOf (ts.drop (k + 1)) n = R) := by have := HD.out; rw [hn] at this; exact this.symm
        go_wp2
        go_round
        case rel => exact ⟨k + 1, by omega, by go_num, HE.out⟩
        case measure => simp [intOf]; omega
      · have HE : Hid (t.ov = R) := by have := HD.out; rw [hn] at this; exact this.symm
        go_wp2
        go_ret
        exact ⟨ret_strR HE.out, rfl⟩
    · have HE : Hid (R = ByteArray.empty) := by show R = _; rw [← HQ.out, overOf_end ts n k (by omega)]
      clear h
      go_wp2
      go_ret
      exact ⟨ret_strR HE.out.symm, rfl⟩

set_option maxHeartbeats 1000000 in
theorem over_any (B : Nat) (ts : List Tm) (n : ByteArray) (w : World) (h : TmsIn w B ts) :
    Calls Tryz.prog 128 #[.slice (some ⟨B, 0, none⟩) ts.length ts.length, .string n] w fun e w' => e = .returned (.string (overOf ts n)) ∧ Below w.heap.size w w' := by
  have hl := h.len
  obtain ⟨R, hR⟩ : ∃ R, R = overOf ts n := ⟨_, rfl⟩
  have HR : Hid (R = overOf ts n) := hR
  rw [← hR]
  clear hR
  go_enter Tryz.func128, Tryz.ntmps128
  go_wp2
  go_loopw [9] (fun i wr => ∃ k : Nat, k ≤ ts.length ∧ i = .int .i64 k ∧ overOf (ts.drop k) n = R ∧ Below w.heap.size w wr) (fun i _ => ts.length - (intOf i).toNat)
  case atStart => exact ⟨0, Nat.zero_le _, rfl, HR.out.symm, Below.refl _ _⟩
  case round =>
    obtain ⟨k, hk, rfl, hq, hW⟩ := hrel
    have HQ : Hid (overOf (ts.drop k) n = R) := hq
    clear hq
    by_cases hlt : k < ts.length
    · obtain ⟨t, ht⟩ : ∃ t, t = ts.getD k Tm.none := ⟨_, rfl⟩
      have hc := (h.later hW).at_ k hlt
      have hd := overOf_at ts n k hlt
      rw [← ht] at hc hd
      obtain ⟨c0, c1, _⟩ := hc
      have HD : Hid (R = if (t.nm.toList == n.toList) = true then t.ov else overOf (ts.drop (k + 1)) n) := by show R = _; rw [← HQ.out, hd]
      clear hd ht
      cases hn : (t.nm.toList == n.toList)
      · have HE : Hid (overOf (ts.drop (k + 1)) n = R) := by have := HD.out; rw [hn] at this; exact this.symm
        clear h
        go_wp2
        go_roundw
        case rel => exact ⟨k + 1, by omega, by go_num, HE.out, blw_alloc hW _⟩
        case measure => simp [intOf]; omega
      · have HE : Hid (t.ov = R) := by have := HD.out; rw [hn] at this; exact this.symm
        clear h
        go_wp2
        go_ret
        exact ⟨ret_strR HE.out, blw_alloc hW _⟩
    · have HE : Hid (R = ByteArray.empty) := by show R = _; rw [← HQ.out, overOf_end ts n k (by omega)]
      clear h
      go_wp2
      go_ret
      exact ⟨ret_strR HE.out.symm, hW⟩

set_option maxHeartbeats 1000000 in
theorem underS (B : Nat) (ts : List Tm) (a b : ByteArray) (w : World) (h : TmsIn w B ts) :
    Calls Tryz.prog 136 #[.slice (some ⟨B, 0, none⟩) ts.length ts.length, .string a, .string b] w fun e w' => e = .returned (.bool (under ts a b)) ∧ w = w' := by
  have HS : Hid (TmsIn w B ts) := h
  have hl := h.len
  clear h
  cases hab : (a.toList == b.toList)
  case true =>
    have HR : Hid (under ts a b = true) := by show under ts a b = true; rw [under, hab]; rfl
    go_enter Tryz.func136, Tryz.ntmps136
    go_wp2
    go_ret
    exact ⟨Pl.ret_bool HR.out.symm, rfl⟩
  obtain ⟨R, hR⟩ : ∃ R, R = under ts a b := ⟨_, rfl⟩
  have HR : Hid (upTo ts 4 a b = R) := by show _ = R; rw [hR, under, hab]; rfl
  rw [← hR]
  clear hR
  go_enter Tryz.func136, Tryz.ntmps136
  go_wp2
  clear hab
  go_loop [1, 7] (fun v i => ∃ (k : Nat) (x : ByteArray), k ≤ 4 ∧ i = .int .i64 k ∧ v = .string x ∧ upTo ts (4 - k) x b = R) (fun _ i => 4 - (intOf i).toNat)
  case atStart => exact ⟨0, a, Nat.zero_le _, rfl, rfl, HR.out⟩
  case round =>
    obtain ⟨k, x, hk, rfl, rfl, hq⟩ := hrel
    have HQ : Hid (upTo ts (4 - k) x b = R) := hq
    clear hq
    by_cases hlt : k < 4
    · have HU : Hid (R = if Pl.isEmp (overOf ts x) = true then false else if ((overOf ts x).toList == b.toList) = true then true else upTo ts (4 - (k + 1)) (overOf ts x) b) := by
        show R = _
        rw [← HQ.out, show 4 - k = (4 - (k + 1)) + 1 by omega, upTo]
      clear HQ
      go_wp2_with fail
      refine (l4Over_any B ts x w HS.out).mono ?_
      rintro e w' ⟨rfl, rfl⟩
      obtain ⟨y, hy⟩ : ∃ y, y = overOf ts x := ⟨_, rfl⟩
      rw [← hy] at HU ⊢
      clear hy
      cases he : y.toList.isEmpty
      · cases hb : (y.toList == b.toList)
        · have HE : Hid (upTo ts (4 - (k + 1)) y b = R) := by have := HU.out; rw [Pl.isEmp, he, hb] at this; exact this.symm
          go_wp2
          go_round
          case rel => exact ⟨k + 1, y, by omega, by go_num, rfl, HE.out⟩
          case measure => simp [intOf]; omega
        · have HE : Hid (true = R) := by have := HU.out; rw [Pl.isEmp, he, hb] at this; exact this.symm
          go_wp2
          go_ret
          exact ⟨Pl.ret_bool HE.out, rfl⟩
      · have HE : Hid (false = R) := by have := HU.out; rw [Pl.isEmp, he] at this; exact this.symm
        go_wp2
        go_ret
        exact ⟨Pl.ret_bool HE.out, rfl⟩
    · have HE : Hid (false = R) := by show false = R; rw [← HQ.out, show 4 - k = 0 by omega, upTo]
      go_wp2
      go_ret
      exact ⟨Pl.ret_bool HE.out, rfl⟩

set_option maxHeartbeats 1000000 in
theorem underI (B : Nat) (ts : List Tm) (a b : ByteArray) (w : World) (h : TmsIn w B ts) :
    Calls Tryz.prog 183 #[.slice (some ⟨B, 0, none⟩) ts.length ts.length, .string a, .string b] w fun e w' => e = .returned (.bool (under ts a b)) ∧ Below w.heap.size w w' := by
  have HS : Hid (TmsIn w B ts) := h
  have hl := h.len
  clear h
  cases hab : (a.toList == b.toList)
  case true =>
    have HR : Hid (under ts a b = true) := by show under ts a b = true; rw [under, hab]; rfl
    go_enter Tryz.func183, Tryz.ntmps183
    go_wp2
    go_ret
    exact ⟨Pl.ret_bool HR.out.symm, Below.refl _ _⟩
  obtain ⟨R, hR⟩ : ∃ R, R = under ts a b := ⟨_, rfl⟩
  have HR : Hid (upTo ts 4 a b = R) := by show _ = R; rw [hR, under, hab]; rfl
  rw [← hR]
  clear hR
  go_enter Tryz.func183, Tryz.ntmps183
  go_wp2
  clear hab
  go_loopw [1, 10] (fun v i wr => ∃ (k : Nat) (x : ByteArray), k ≤ 4 ∧ i = .int .i64 k ∧ v = .string x ∧ upTo ts (4 - k) x b = R ∧ Below w.heap.size w wr) (fun _ i _ => 4 - (intOf i).toNat)
  case atStart => exact ⟨0, a, Nat.zero_le _, rfl, rfl, HR.out, Below.refl _ _⟩
  case round =>
    obtain ⟨k, x, hk, rfl, rfl, hq, hW⟩ := hrel
    have HQ : Hid (upTo ts (4 - k) x b = R) := hq
    clear hq
    by_cases hlt : k < 4
    · have HU : Hid (R = if Pl.isEmp (overOf ts x) = true then false else if ((overOf ts x).toList == b.toList) = true then true else upTo ts (4 - (k + 1)) (overOf ts x) b) := by
        show R = _
        rw [← HQ.out, show 4 - k = (4 - (k + 1)) + 1 by omega, upTo]
      clear HQ
      go_wp2_with fail
      refine (over_any B ts x wr (HS.out.later hW)).mono ?_
      rintro e w' ⟨rfl, hb2⟩
      have hW2 := blw_trans hW hb2
      clear hb2
      obtain ⟨y, hy⟩ : ∃ y, y = overOf ts x := ⟨_, rfl⟩
      rw [← hy] at HU ⊢
      clear hy
      cases he : y.toList.isEmpty
      · cases hb : (y.toList == b.toList)
        · have HE : Hid (upTo ts (4 - (k + 1)) y b = R) := by have := HU.out; rw [Pl.isEmp, he, hb] at this; exact this.symm
          go_wp2
          go_roundw
          case rel => exact ⟨k + 1, y, by omega, by go_num, rfl, HE.out, hW2⟩
          case measure => simp [intOf]; omega
        · have HE : Hid (true = R) := by have := HU.out; rw [Pl.isEmp, he, hb] at this; exact this.symm
          go_wp2
          go_ret
          exact ⟨Pl.ret_bool HE.out, hW2⟩
      · have HE : Hid (false = R) := by have := HU.out; rw [Pl.isEmp, he] at this; exact this.symm
        go_wp2
        go_ret
        exact ⟨Pl.ret_bool HE.out, hW2⟩
    · have HE : Hid (false = R) := by show false = R; rw [← HQ.out, show 4 - k = 0 by omega, upTo]
      go_wp2
      go_ret
      exact ⟨Pl.ret_bool HE.out, hW⟩

end Go.Proofs.YtliaibdbcaglnaaGreat

/-
  Walks: whether there is a team of a name; how many teams are over one.
-/
namespace Go.Proofs.YtliaibdbcaglnaaGreat
open Go.RowKit Go.Deep

set_option maxHeartbeats 1000000 in
theorem l4Team_any (B : Nat) (ts : List Tm) (n : ByteArray) (w : World) (h : TmsIn w B ts) :
    Calls Tryz.prog 57 #[.slice (some ⟨B, 0, none⟩) ts.length ts.length, .string n] w fun e w' => e = .returned (.bool (isTeam ts n)) ∧ w = w' := by
  have hl := h.len
  obtain ⟨R, hR⟩ : ∃ R, R = isTeam ts n := ⟨_, rfl⟩
  have HR : Hid (R = isTeam ts n) := hR
  rw [← hR]
  clear hR
  go_enter Tryz.func57, Tryz.ntmps57
  go_wp2
  go_loop [5] (fun i => ∃ k : Nat, k ≤ ts.length ∧ i = .int .i64 k ∧ isTeam (ts.take k) n = false) (fun i => ts.length - (intOf i).toNat)
  case atStart => exact ⟨0, Nat.zero_le _, rfl, rfl⟩
  case round =>
    obtain ⟨k, hk, rfl, hq⟩ := hrel
    have HQ : Hid (isTeam (ts.take k) n = false) := hq
    clear hq
    by_cases hlt : k < ts.length
    · obtain ⟨t, ht⟩ : ∃ t, t = ts.getD k Tm.none := ⟨_, rfl⟩
      have hc := h.at_ k hlt
      rw [← ht] at hc
      obtain ⟨c0, c1, _⟩ := hc
      cases hn : (t.nm.toList == n.toList)
      · have HE : Hid (isTeam (ts.take (k + 1)) n = false) := isTeam_snoc ts n k hlt HQ.out (by rw [← ht]; exact hn)
        clear ht h
        go_wp2
        go_round
        case rel => exact ⟨k + 1, by omega, by go_num, HE.out⟩
        case measure => simp [intOf]; omega
      · have HE : Hid (R = true) := by show R = true; rw [HR.out]; exact isTeam_hit ts n k hlt (by rw [← ht]; exact hn)
        clear ht h
        go_wp2
        go_ret
        exact ⟨Pl.ret_bool HE.out.symm, rfl⟩
    · have HE : Hid (R = false) := by show R = false; rw [HR.out]; exact isTeam_all ts n k (by omega) HQ.out
      clear h
      go_wp2
      go_ret
      exact ⟨Pl.ret_bool HE.out.symm, rfl⟩

set_option maxHeartbeats 400000 in
theorem isTeam1 (rb : Nat) (t : Tm) (n : ByteArray) (w : World) (hc : w.cell? ⟨rb, 0, none⟩ = some (.string n)) (hlt : rb < w.heap.size) :
    Calls Tryz.prog 127 #[.agg #[.string t.nm, .string t.ov], .pointer (some ⟨rb, 0, none⟩)] w fun e w' => e = .returned (.bool (t.nm.toList == n.toList)) ∧ Below w.heap.size w w' := by
  go_enter Tryz.func127, Tryz.ntmps127
  go_wp2
  go_ret
  exact ⟨rfl, blw_alloc (Below.refl _ _) _⟩

set_option maxHeartbeats 1000000 in
theorem indexT (rb B : Nat) (ts : List Tm) (n : ByteArray) (w : World) (h : TmsIn w B ts) (hc : w.cell? ⟨rb, 0, none⟩ = some (.string n)) (hrb : rb < w.heap.size) :
    Calls Tryz.prog 166 #[.slice (some ⟨B, 0, none⟩) ts.length ts.length, .func (.func 127) #[] #[.pointer (some ⟨rb, 0, none⟩)]] w fun e w' => (∃ r : Int, e = .returned (.int .i64 r) ∧ decide (0 ≤ r) = isTeam ts n) ∧ Below w.heap.size w w' := by
  have HC : Hid (TmsIn w B ts ∧ w.cell? ⟨rb, 0, none⟩ = some (.string n) ∧ rb < w.heap.size) := ⟨h, hc, hrb⟩
  have hl := h.len
  obtain ⟨R, hR⟩ : ∃ R, R = isTeam ts n := ⟨_, rfl⟩
  have HR : Hid (R = isTeam ts n) := hR
  rw [← hR]
  clear hR h hc hrb
  go_enter Tryz.func166, Tryz.ntmps166
  go_wp2
  go_loopw [8] (fun i wr => ∃ k : Nat, k ≤ ts.length ∧ i = .int .i64 k ∧ isTeam (ts.take k) n = false ∧ Below w.heap.size w wr) (fun i _ => ts.length - (intOf i).toNat)
  case atStart => exact ⟨0, Nat.zero_le _, rfl, rfl, Below.refl _ _⟩
  case round =>
    obtain ⟨k, hk, rfl, hq, hW⟩ := hrel
    have HQ : Hid (isTeam (ts.take k) n = false) := hq
    clear hq
    by_cases hlt : k < ts.length
    · obtain ⟨t, ht⟩ : ∃ t, t = ts.getD k Tm.none := ⟨_, rfl⟩
      have hc := (HC.out.1.later hW).at_ k hlt
      have hgw : B < wr.heap.size := Nat.lt_of_lt_of_le HC.out.1.lt hW.size
      rw [← ht] at hc
      obtain ⟨c0, c1, _⟩ := hc
      have HX : Hid (Calls Tryz.prog 127 #[.agg #[.string t.nm, .string t.ov], .pointer (some ⟨rb, 0, none⟩)] wr fun e w' => e = .returned (.bool (t.nm.toList == n.toList)) ∧ Below wr.heap.size wr w') :=
        isTeam1 rb t n wr ((hW.cell (p := ⟨rb, 0, none⟩) HC.out.2.2).trans HC.out.2.1) (Nat.lt_of_lt_of_le HC.out.2.2 hW.size)
      have HG : Hid (t = ts.getD k Tm.none) := ht
      clear ht
      go_wp2_with fail
      refine HX.out.mono ?_
      rintro e w2 ⟨rfl, hb2⟩
      have hB2 := blw_trans hW hb2
      clear hb2 c0 c1 hgw HX
      cases hn : (t.nm.toList == n.toList)
      · have HE : Hid (isTeam (ts.take (k + 1)) n = false) := isTeam_snoc ts n k hlt HQ.out (by rw [← HG.out]; exact hn)
        go_wp2
        go_roundw
        case rel => exact ⟨k + 1, by omega, by go_num, HE.out, hB2⟩
        case measure => simp [intOf]; omega
      · have HE : Hid (R = true) := by show R = true; rw [HR.out]; exact isTeam_hit ts n k hlt (by rw [← HG.out]; exact hn)
        go_wp2
        go_ret
        exact ⟨⟨_, rfl, by rw [HE.out]; simp⟩, hB2⟩
    · have HE : Hid (R = false) := by show R = false; rw [HR.out]; exact isTeam_all ts n k (by omega) HQ.out
      go_wp2
      go_ret
      exact ⟨⟨_, rfl, by rw [HE.out]; simp⟩, hW⟩

set_option maxHeartbeats 400000 in
theorem containsT (rb B : Nat) (ts : List Tm) (n : ByteArray) (w : World) (h : TmsIn w B ts) (hc : w.cell? ⟨rb, 0, none⟩ = some (.string n)) (hrb : rb < w.heap.size) :
    Calls Tryz.prog 126 #[.slice (some ⟨B, 0, none⟩) ts.length ts.length, .func (.func 127) #[] #[.pointer (some ⟨rb, 0, none⟩)]] w fun e w' => e = .returned (.bool (isTeam ts n)) ∧ Below w.heap.size w w' := by
  have HX : Hid (Calls Tryz.prog 166 #[.slice (some ⟨B, 0, none⟩) ts.length ts.length, .func (.func 127) #[] #[.pointer (some ⟨rb, 0, none⟩)]] w fun e w' => (∃ r : Int, e = .returned (.int .i64 r) ∧ decide (0 ≤ r) = isTeam ts n) ∧ Below w.heap.size w w') := indexT rb B ts n w h hc hrb
  clear h hc hrb
  go_enter Tryz.func126, Tryz.ntmps126
  go_wp2_with fail
  refine HX.out.mono ?_
  rintro e w' ⟨⟨r, rfl, hr⟩, hb⟩
  have HR : Hid (decide (0 ≤ r) = isTeam ts n) := hr
  clear hr
  go_wp2
  go_ret
  exact ⟨Pl.ret_bool HR.out, hb⟩

set_option maxHeartbeats 400000 in
theorem gateIsTeam (B : Nat) (ts : List Tm) (n : ByteArray) (w : World) (h : TmsIn w B ts) :
    Calls Tryz.prog 68 #[.slice (some ⟨B, 0, none⟩) ts.length ts.length, .string n] w fun e w' => e = .returned (.bool (isTeam ts n)) ∧ Below w.heap.size w w' := by
  have hbx : Below w.heap.size w (w.alloc (.cells #[.string n] 9)) := blw_alloc (Below.refl _ _) _
  have HX : Hid (Calls Tryz.prog 126 #[.slice (some ⟨B, 0, none⟩) ts.length ts.length, .func (.func 127) #[] #[.pointer (some ⟨w.heap.size, 0, none⟩)]] (w.alloc (.cells #[.string n] 9)) fun e w' => e = .returned (.bool (isTeam ts n)) ∧ Below (w.alloc (.cells #[.string n] 9)).heap.size (w.alloc (.cells #[.string n] 9)) w') :=
    containsT w.heap.size B ts n _ (h.later hbx) (by simp) (by simp)
  have HB : Hid (Below w.heap.size w (w.alloc (.cells #[.string n] 9))) := hbx
  clear h hbx
  go_enter Tryz.func68, Tryz.ntmps68
  go_wp2_with fail
  refine HX.out.mono ?_
  rintro e w2 ⟨rfl, hb2⟩
  have hB2 := blw_trans HB.out hb2
  clear hb2
  go_wp2
  go_ret
  exact ⟨rfl, hB2⟩

set_option maxHeartbeats 1000000 in
theorem gateHeight (B : Nat) (ts : List Tm) (a : ByteArray) (w : World) (h : TmsIn w B ts) :
    Calls Tryz.prog 69 #[.slice (some ⟨B, 0, none⟩) ts.length ts.length, .string a] w fun e w' => (∃ r : Int, e = .returned (.int .i64 r) ∧ 0 ≤ r ∧ r ≤ 5 ∧ decide (4 < r) = !high ts 5 a) ∧ Below w.heap.size w w' := by
  have HS : Hid (TmsIn w B ts) := h
  have hl := h.len
  clear h
  obtain ⟨R, hR⟩ : ∃ R, R = high ts 5 a := ⟨_, rfl⟩
  have HR : Hid (R = high ts 5 a) := hR
  rw [← hR]
  clear hR
  go_enter Tryz.func69, Tryz.ntmps69
  go_wp2
  go_loopw [1, 6] (fun v i wr => ∃ (k : Nat) (x : ByteArray), k ≤ 5 ∧ i = .int .i64 k ∧ v = .string x ∧ high ts (5 - k) x = R ∧ Below w.heap.size w wr) (fun _ i _ => 5 - (intOf i).toNat)
  case atStart => exact ⟨0, a, Nat.zero_le _, rfl, rfl, HR.out.symm, Below.refl _ _⟩
  case round =>
    obtain ⟨k, x, hk, rfl, rfl, hq, hW⟩ := hrel
    have HQ : Hid (high ts (5 - k) x = R) := hq
    clear hq
    by_cases hlt : k < 5
    · have HU : Hid (R = if Pl.isEmp (overOf ts x) = true then true else high ts (5 - (k + 1)) (overOf ts x)) := by
        show R = _
        rw [← HQ.out, show 5 - k = (5 - (k + 1)) + 1 by omega, high]
      clear HQ
      go_wp2_with fail
      refine (over_any B ts x wr (HS.out.later hW)).mono ?_
      rintro e w' ⟨rfl, hb2⟩
      have hW2 := blw_trans hW hb2
      clear hb2
      obtain ⟨y, hy⟩ : ∃ y, y = overOf ts x := ⟨_, rfl⟩
      rw [← hy] at HU ⊢
      clear hy
      cases he : y.toList.isEmpty
      · have HE : Hid (high ts (5 - (k + 1)) y = R) := by have := HU.out; rw [Pl.isEmp, he] at this; exact this.symm
        go_wp2
        go_roundw
        case rel => exact ⟨k + 1, y, by omega, by go_num, rfl, HE.out, hW2⟩
        case measure => simp [intOf]; omega
      · have HE : Hid (R = true) := by have := HU.out; rw [Pl.isEmp, he] at this; exact this
        go_wp2
        go_ret
        exact ⟨⟨_, rfl, by omega, by omega, by rw [HE.out]; simp; omega⟩, hW2⟩
    · have HE : Hid (R = false) := by show R = false; rw [← HQ.out, show 5 - k = 0 by omega, high]
      go_wp2
      go_ret
      exact ⟨⟨_, rfl, by omega, by omega, by rw [HE.out]; rfl⟩, hW⟩

end Go.Proofs.YtliaibdbcaglnaaGreat

/-
  Walks: teams that are ok: the specification.
-/
namespace Go.Proofs.YtliaibdbcaglnaaGreat
open Go.RowKit Go.Deep

theorem nameOk_sameR (s : ByteArray) (w : World) (hs : s.size ≤ maxLen) :
    Calls Tryz.prog 56 #[.string s] w fun e w' => e = .returned (.bool (Pl.nameOk s)) ∧ w' = w := (l1NameOk_any s w hs).mono fun _ _ h => ⟨h.1, h.2.symm⟩
theorem isName_sameR (s : ByteArray) (w : World) (hs : s.size ≤ maxLen) :
    Calls Tryz.prog 67 #[.string s] w fun e w' => e = .returned (.bool (Pl.nameOk s)) ∧ w' = w := (isName_any s w hs).mono fun _ _ h => ⟨h.1, h.2.symm⟩
theorem l4Team_same (B : Nat) (ts : List Tm) (n : ByteArray) (w : World) (h : TmsIn w B ts) :
    Calls Tryz.prog 57 #[.slice (some ⟨B, 0, none⟩) ts.length ts.length, .string n] w fun e w' => e = .returned (.bool (isTeam ts n)) ∧ w' = w := (l4Team_any B ts n w h).mono fun _ _ h => ⟨h.1, h.2.symm⟩

theorem not_beq_empty (s : ByteArray) : (s.toList != []) = !s.toList.isEmpty := by cases s.toList <;> rfl

/-- The climb of the specification's loop. -/
def climbs (ts : List Tm) (nm : ByteArray) (k : Nat) (x : ByteArray) : Prop := (x.toList.isEmpty = true → high ts 5 nm = true) ∧ (x.toList.isEmpty = false → high ts (5 - k) x = high ts 5 nm)

theorem climbs_step {ts : List Tm} {nm : ByteArray} {k : Nat} {x : ByteArray} (h : climbs ts nm k x) (hk : k < 5) (he : x.toList.isEmpty = false) : climbs ts nm (k + 1) (overOf ts x) := by
  have h2 := h.2 he
  rw [show 5 - k = (5 - (k + 1)) + 1 by omega, high] at h2
  constructor
  · intro e
    rw [Pl.isEmp, e] at h2
    exact h2.symm
  · intro e
    rw [Pl.isEmp, e] at h2
    exact h2

theorem climbs_end {ts : List Tm} {nm : ByteArray} {k : Nat} {x : ByteArray} (h : climbs ts nm k x) (hk : ¬ k < 5) (he : x.toList.isEmpty = false) : high ts 5 nm = false := by
  have h2 := h.2 he
  rw [show 5 - k = 0 by omega, high] at h2
  exact h2.symm

theorem teamAt_eq {ts : List Tm} {k : Nat} {t : Tm} (ht : t = ts.getD k Tm.none) (P : Bool) (hP : P = (decide (k = 0) || Pl.less (ts.getD (k - 1) Tm.none).nm t.nm)) :
    teamAt ts k = (Pl.nameOk t.nm && P && (t.ov.toList.isEmpty || isTeam ts t.ov) && high ts 5 t.nm) := by
  rw [teamAt, ← ht, hP]; rfl

set_option maxHeartbeats 8000000 in
theorem teamsOkS (B : Nat) (ts : List Tm) (w : World) (h : TmsIn w B ts) :
    Calls Tryz.prog 19 #[.slice (some ⟨B, 0, none⟩) ts.length ts.length] w fun e w' => e = .returned (.bool (teamsOk ts)) ∧ Below w.heap.size w w' := by
  have HS : Hid (TmsIn w B ts) := h
  have hl := h.len
  clear h
  by_cases h12 : ts.length ≤ 12
  case neg =>
    have HR : Hid (teamsOk ts = false) := by show teamsOk ts = _; simp [teamsOk, h12]
    go_enter Tryz.func19, Tryz.ntmps19
    go_wp2
    go_ret
    exact ⟨Pl.ret_bool HR.out.symm, Below.refl _ _⟩
  obtain ⟨R, hR⟩ : ∃ R, R = teamsOk ts := ⟨_, rfl⟩
  have HR : Hid (R = teamsOk ts) := hR
  rw [← hR]
  clear hR
  go_enter Tryz.func19, Tryz.ntmps19
  go_wp2
  go_loopw [3] (fun i wr => ∃ k : Nat, k ≤ ts.length ∧ i = .int .i64 k ∧ teamsTo ts k = true ∧ Below w.heap.size w wr) (fun i _ => ts.length - (intOf i).toNat)
  case atStart => exact ⟨0, Nat.zero_le _, rfl, rfl, Below.refl _ _⟩
  case round =>
    obtain ⟨k, hk, rfl, hall, hW⟩ := hrel
    obtain ⟨wo, rfl⟩ : ∃ wo : World, wo = wr := ⟨_, rfl⟩
    have HA : Hid (teamsTo ts k = true) := hall
    clear hall
    by_cases hlt : k < ts.length
    · obtain ⟨t, ht⟩ : ∃ t, t = ts.getD k Tm.none := ⟨_, rfl⟩
      have hc := (HS.out.later hW).at_ k hlt
      rw [← ht] at hc
      obtain ⟨c0, c1, hsz⟩ := hc
      have HN : Hid (t.nm.size ≤ maxLen ∧ t.ov.size ≤ maxLen) := hsz
      have hbx : Below wo.heap.size wo (wo.alloc (.cells #[.string t.nm, .string t.ov] 97)) := blw_alloc (Below.refl _ _) _
      have HX : Hid (∀ W, Below wo.heap.size wo W → TmsIn W B ts) := fun W hW2 => (HS.out.later hW).later hW2
      have HF : Hid (teamAt ts k = false → R = false) := fun hf => by rw [HR.out]; exact teamsOk_false hlt hf
      have hp : ∃ P : Bool, P = (decide (k = 0) || Pl.less (ts.getD (k - 1) Tm.none).nm t.nm) ∧ ((k = 0 ∧ P = true) ∨ ∃ (m : Nat) (p : ByteArray), k = m + 1 ∧ wo.cell? ⟨B, m * 2, none⟩ = some (.string p) ∧ Op.bytesLess p.toList t.nm.toList = P) := by
        refine ⟨_, rfl, ?_⟩
        by_cases h0 : k = 0
        · exact Or.inl ⟨h0, by simp [h0]⟩
        · refine Or.inr ⟨k - 1, (ts.getD (k - 1) Tm.none).nm, by omega, ((HS.out.later hW).at_ (k - 1) (by omega)).c0, by simp [h0, Pl.less]⟩
      obtain ⟨P, hP, hcase⟩ := hp
      have HT : Hid (teamAt ts k = (Pl.nameOk t.nm && P && (t.ov.toList.isEmpty || isTeam ts t.ov) && high ts 5 t.nm)) := teamAt_eq ht P hP
      clear hP ht hsz
      rcases hcase with ⟨rfl, rfl⟩ | ⟨m, p, rfl, hcp, hq⟩
      · cases hn : Pl.nameOk t.nm
        · have HE : Hid (R = false) := HF.out (by rw [HT.out, hn]; rfl)
          go_wp2_with fail
          go_quiet (first | (go_at_call 56; exact Calls.quiet_of_same (nameOk_sameR _ _ HN.out.1)) | (go_at_call 57; refine Calls.quiet_of_same (l4Team_same B ts t.ov _ (HX.out _ ?_)); first | exact hbx | exact blw_drewN hbx _))
          go_wp2
          go_ret
          exact ⟨Pl.ret_bool HE.out.symm, blw_drewN (blw_trans hW hbx) _⟩
        · cases he : t.ov.toList.isEmpty
          · cases hi : isTeam ts t.ov
            · have HE : Hid (R = false) := HF.out (by rw [HT.out, he, hi]; simp)
              go_wp2_with fail
              go_quiet (first | (go_at_call 56; exact Calls.quiet_of_same (nameOk_sameR _ _ HN.out.1)) | (go_at_call 57; refine Calls.quiet_of_same (l4Team_same B ts t.ov _ (HX.out _ ?_)); first | exact hbx | exact blw_drewN hbx _))
              go_wp2
              go_ret
              exact ⟨Pl.ret_bool HE.out.symm, blw_drewN (blw_trans hW hbx) _⟩
            · have hor : (t.ov.toList.isEmpty || isTeam ts t.ov) = true := by rw [hi]; simp
              have HK : Hid (high ts 5 t.nm = true → teamsTo ts (0 + 1) = true) := fun hh => teamsTo_step HA.out (by rw [HT.out, hn, hh, he, hi]; simp)
              have HC0 : Hid (climbs ts t.nm 0 t.nm) := ⟨fun e => (by rw [Pl.name_full hn] at e; cases e), fun _ => rfl⟩
              have HJ : Hid (high ts 5 t.nm = false → R = false) := fun hh => HF.out (by rw [HT.out, hh]; simp)
              go_wp2_with fail
              go_quiet (first | (go_at_call 56; exact Calls.quiet_of_same (nameOk_sameR _ _ HN.out.1)) | (go_at_call 57; refine Calls.quiet_of_same (l4Team_same B ts t.ov _ (HX.out _ ?_)); first | exact hbx | exact blw_drewN hbx _))
              go_wp2
              clear hn hor he hi
              go_loop [5, 6] (fun v i => ∃ (q : Nat) (x : ByteArray), q ≤ 5 ∧ i = .int .i64 q ∧ v = .string x ∧ climbs ts t.nm q x) (fun _ i => 5 - (intOf i).toNat)
              case atStart => exact ⟨0, t.nm, Nat.zero_le _, rfl, rfl, HC0.out⟩
              case round =>
                obtain ⟨q, x, hq5, rfl, rfl, hcl⟩ := hrel
                have HCL : Hid (climbs ts t.nm q x) := hcl
                clear hcl
                cases hx : x.toList.isEmpty
                · by_cases hlq : q < 5
                  · have HST : Hid (climbs ts t.nm (q + 1) (overOf ts x)) := climbs_step HCL.out hlq hx
                    go_wp2_with fail
                    refine (l4Over_any B ts x _ (HX.out _ (blw_drewN hbx _))).mono ?_
                    rintro e w' ⟨rfl, rfl⟩
                    clear hx
                    go_wp2
                    go_round
                    case rel => first | exact ⟨q + 1, _, by omega, by go_num, rfl, HST.out⟩ | ((repeat apply Exists.intro); exact ⟨⟨q + 1, _, by omega, by go_num, rfl, HST.out⟩, rfl⟩) | (refine ⟨trivial, ?_⟩; (repeat apply Exists.intro); exact ⟨⟨q + 1, _, by omega, by go_num, rfl, HST.out⟩, rfl⟩)
                    case measure => simp [intOf]; omega
                  · have HE : Hid (R = false) := HJ.out (climbs_end HCL.out hlq hx)
                    go_wp2
                    go_ret
                    exact ⟨Pl.ret_bool HE.out.symm, blw_drewN (blw_trans hW hbx) _⟩
                · have HE : Hid (teamsTo ts (0 + 1) = true) := HK.out (HCL.out.1 hx)
                  by_cases hlq : q < 5
                  all_goals
                    go_wp2
                    go_roundw
                    case rel => first | exact ⟨0 + 1, by omega, by go_num, HE.out, blw_drewN (blw_trans hW hbx) _⟩ | ((repeat apply Exists.intro); exact ⟨⟨0 + 1, by omega, by go_num, HE.out, blw_drewN (blw_trans hW hbx) _⟩, rfl⟩)
                    case measure => simp [intOf]; omega
          · have hor : (t.ov.toList.isEmpty || isTeam ts t.ov) = true := by rw [he]; rfl
            have HK : Hid (high ts 5 t.nm = true → teamsTo ts (0 + 1) = true) := fun hh => teamsTo_step HA.out (by rw [HT.out, hn, hh, he]; simp)
            have HC0 : Hid (climbs ts t.nm 0 t.nm) := ⟨fun e => (by rw [Pl.name_full hn] at e; cases e), fun _ => rfl⟩
            have HJ : Hid (high ts 5 t.nm = false → R = false) := fun hh => HF.out (by rw [HT.out, hh]; simp)
            go_wp2_with fail
            go_quiet (first | (go_at_call 56; exact Calls.quiet_of_same (nameOk_sameR _ _ HN.out.1)) | (go_at_call 57; refine Calls.quiet_of_same (l4Team_same B ts t.ov _ (HX.out _ ?_)); first | exact hbx | exact blw_drewN hbx _))
            go_wp2
            clear hn hor he
            go_loop [5, 6] (fun v i => ∃ (q : Nat) (x : ByteArray), q ≤ 5 ∧ i = .int .i64 q ∧ v = .string x ∧ climbs ts t.nm q x) (fun _ i => 5 - (intOf i).toNat)
            case atStart => exact ⟨0, t.nm, Nat.zero_le _, rfl, rfl, HC0.out⟩
            case round =>
              obtain ⟨q, x, hq5, rfl, rfl, hcl⟩ := hrel
              have HCL : Hid (climbs ts t.nm q x) := hcl
              clear hcl
              cases hx : x.toList.isEmpty
              · by_cases hlq : q < 5
                · have HST : Hid (climbs ts t.nm (q + 1) (overOf ts x)) := climbs_step HCL.out hlq hx
                  go_wp2_with fail
                  refine (l4Over_any B ts x _ (HX.out _ (blw_drewN hbx _))).mono ?_
                  rintro e w' ⟨rfl, rfl⟩
                  clear hx
                  go_wp2
                  go_round
                  case rel => first | exact ⟨q + 1, _, by omega, by go_num, rfl, HST.out⟩ | ((repeat apply Exists.intro); exact ⟨⟨q + 1, _, by omega, by go_num, rfl, HST.out⟩, rfl⟩) | (refine ⟨trivial, ?_⟩; (repeat apply Exists.intro); exact ⟨⟨q + 1, _, by omega, by go_num, rfl, HST.out⟩, rfl⟩)
                  case measure => simp [intOf]; omega
                · have HE : Hid (R = false) := HJ.out (climbs_end HCL.out hlq hx)
                  go_wp2
                  go_ret
                  exact ⟨Pl.ret_bool HE.out.symm, blw_drewN (blw_trans hW hbx) _⟩
              · have HE : Hid (teamsTo ts (0 + 1) = true) := HK.out (HCL.out.1 hx)
                by_cases hlq : q < 5
                all_goals
                  go_wp2
                  go_roundw
                  case rel => first | exact ⟨0 + 1, by omega, by go_num, HE.out, blw_drewN (blw_trans hW hbx) _⟩ | ((repeat apply Exists.intro); exact ⟨⟨0 + 1, by omega, by go_num, HE.out, blw_drewN (blw_trans hW hbx) _⟩, rfl⟩)
                  case measure => simp [intOf]; omega
      · have hBl : B < wo.heap.size := Nat.lt_of_lt_of_le HS.out.lt hW.size
        have hmi : decide ((m : Int) + 1 < (ts.length : Int)) = true := by simp; omega
        cases hn : Pl.nameOk t.nm
        · have HE : Hid (R = false) := HF.out (by rw [HT.out, hn]; rfl)
          go_wp2_with fail
          go_quiet (first | (go_at_call 56; exact Calls.quiet_of_same (nameOk_sameR _ _ HN.out.1)) | (go_at_call 57; refine Calls.quiet_of_same (l4Team_same B ts t.ov _ (HX.out _ ?_)); first | exact hbx | exact blw_drewN hbx _))
          go_wp2
          go_ret
          exact ⟨Pl.ret_bool HE.out.symm, blw_drewN (blw_trans hW hbx) _⟩
        · cases P
          · have HE : Hid (R = false) := HF.out (by rw [HT.out]; simp)
            go_wp2_with fail
            go_quiet (first | (go_at_call 56; exact Calls.quiet_of_same (nameOk_sameR _ _ HN.out.1)) | (go_at_call 57; refine Calls.quiet_of_same (l4Team_same B ts t.ov _ (HX.out _ ?_)); first | exact hbx | exact blw_drewN hbx _))
            go_wp2
            go_ret
            exact ⟨Pl.ret_bool HE.out.symm, blw_drewN (blw_trans hW hbx) _⟩
          · cases he : t.ov.toList.isEmpty
            · cases hi : isTeam ts t.ov
              · have HE : Hid (R = false) := HF.out (by rw [HT.out, he, hi]; simp)
                go_wp2_with fail
                go_quiet (first | (go_at_call 56; exact Calls.quiet_of_same (nameOk_sameR _ _ HN.out.1)) | (go_at_call 57; refine Calls.quiet_of_same (l4Team_same B ts t.ov _ (HX.out _ ?_)); first | exact hbx | exact blw_drewN hbx _))
                go_wp2
                go_ret
                exact ⟨Pl.ret_bool HE.out.symm, blw_drewN (blw_trans hW hbx) _⟩
              · have hor : (t.ov.toList.isEmpty || isTeam ts t.ov) = true := by rw [hi]; simp
                have HK : Hid (high ts 5 t.nm = true → teamsTo ts ((m + 1) + 1) = true) := fun hh => teamsTo_step HA.out (by rw [HT.out, hn, hh, he, hi]; simp)
                have HC0 : Hid (climbs ts t.nm 0 t.nm) := ⟨fun e => (by rw [Pl.name_full hn] at e; cases e), fun _ => rfl⟩
                have HJ : Hid (high ts 5 t.nm = false → R = false) := fun hh => HF.out (by rw [HT.out, hh]; simp)
                go_wp2_with fail
                go_quiet (first | (go_at_call 56; exact Calls.quiet_of_same (nameOk_sameR _ _ HN.out.1)) | (go_at_call 57; refine Calls.quiet_of_same (l4Team_same B ts t.ov _ (HX.out _ ?_)); first | exact hbx | exact blw_drewN hbx _))
                go_wp2
                clear hn hor hcp hq he hi
                go_loop [5, 6] (fun v i => ∃ (q : Nat) (x : ByteArray), q ≤ 5 ∧ i = .int .i64 q ∧ v = .string x ∧ climbs ts t.nm q x) (fun _ i => 5 - (intOf i).toNat)
                case atStart => exact ⟨0, t.nm, Nat.zero_le _, rfl, rfl, HC0.out⟩
                case round =>
                  obtain ⟨q, x, hq5, rfl, rfl, hcl⟩ := hrel
                  have HCL : Hid (climbs ts t.nm q x) := hcl
                  clear hcl
                  cases hx : x.toList.isEmpty
                  · by_cases hlq : q < 5
                    · have HST : Hid (climbs ts t.nm (q + 1) (overOf ts x)) := climbs_step HCL.out hlq hx
                      go_wp2_with fail
                      refine (l4Over_any B ts x _ (HX.out _ (blw_drewN hbx _))).mono ?_
                      rintro e w' ⟨rfl, rfl⟩
                      clear hx
                      go_wp2
                      go_round
                      case rel => first | exact ⟨q + 1, _, by omega, by go_num, rfl, HST.out⟩ | ((repeat apply Exists.intro); exact ⟨⟨q + 1, _, by omega, by go_num, rfl, HST.out⟩, rfl⟩) | (refine ⟨trivial, ?_⟩; (repeat apply Exists.intro); exact ⟨⟨q + 1, _, by omega, by go_num, rfl, HST.out⟩, rfl⟩)
                      case measure => simp [intOf]; omega
                    · have HE : Hid (R = false) := HJ.out (climbs_end HCL.out hlq hx)
                      go_wp2
                      go_ret
                      exact ⟨Pl.ret_bool HE.out.symm, blw_drewN (blw_trans hW hbx) _⟩
                  · have HE : Hid (teamsTo ts ((m + 1) + 1) = true) := HK.out (HCL.out.1 hx)
                    by_cases hlq : q < 5
                    all_goals
                      go_wp2
                      go_roundw
                      case rel => first | exact ⟨(m + 1) + 1, by omega, by go_num, HE.out, blw_drewN (blw_trans hW hbx) _⟩ | ((repeat apply Exists.intro); exact ⟨⟨(m + 1) + 1, by omega, by go_num, HE.out, blw_drewN (blw_trans hW hbx) _⟩, rfl⟩)
                      case measure => simp [intOf]; omega
            · have hor : (t.ov.toList.isEmpty || isTeam ts t.ov) = true := by rw [he]; rfl
              have HK : Hid (high ts 5 t.nm = true → teamsTo ts ((m + 1) + 1) = true) := fun hh => teamsTo_step HA.out (by rw [HT.out, hn, hh, he]; simp)
              have HC0 : Hid (climbs ts t.nm 0 t.nm) := ⟨fun e => (by rw [Pl.name_full hn] at e; cases e), fun _ => rfl⟩
              have HJ : Hid (high ts 5 t.nm = false → R = false) := fun hh => HF.out (by rw [HT.out, hh]; simp)
              go_wp2_with fail
              go_quiet (first | (go_at_call 56; exact Calls.quiet_of_same (nameOk_sameR _ _ HN.out.1)) | (go_at_call 57; refine Calls.quiet_of_same (l4Team_same B ts t.ov _ (HX.out _ ?_)); first | exact hbx | exact blw_drewN hbx _))
              go_wp2
              clear hn hor hcp hq he
              go_loop [5, 6] (fun v i => ∃ (q : Nat) (x : ByteArray), q ≤ 5 ∧ i = .int .i64 q ∧ v = .string x ∧ climbs ts t.nm q x) (fun _ i => 5 - (intOf i).toNat)
              case atStart => exact ⟨0, t.nm, Nat.zero_le _, rfl, rfl, HC0.out⟩
              case round =>
                obtain ⟨q, x, hq5, rfl, rfl, hcl⟩ := hrel
                have HCL : Hid (climbs ts t.nm q x) := hcl
                clear hcl
                cases hx : x.toList.isEmpty
                · by_cases hlq : q < 5
                  · have HST : Hid (climbs ts t.nm (q + 1) (overOf ts x)) := climbs_step HCL.out hlq hx
                    go_wp2_with fail
                    refine (l4Over_any B ts x _ (HX.out _ (blw_drewN hbx _))).mono ?_
                    rintro e w' ⟨rfl, rfl⟩
                    clear hx
                    go_wp2
                    go_round
                    case rel => first | exact ⟨q + 1, _, by omega, by go_num, rfl, HST.out⟩ | ((repeat apply Exists.intro); exact ⟨⟨q + 1, _, by omega, by go_num, rfl, HST.out⟩, rfl⟩) | (refine ⟨trivial, ?_⟩; (repeat apply Exists.intro); exact ⟨⟨q + 1, _, by omega, by go_num, rfl, HST.out⟩, rfl⟩)
                    case measure => simp [intOf]; omega
                  · have HE : Hid (R = false) := HJ.out (climbs_end HCL.out hlq hx)
                    go_wp2
                    go_ret
                    exact ⟨Pl.ret_bool HE.out.symm, blw_drewN (blw_trans hW hbx) _⟩
                · have HE : Hid (teamsTo ts ((m + 1) + 1) = true) := HK.out (HCL.out.1 hx)
                  by_cases hlq : q < 5
                  all_goals
                    go_wp2
                    go_roundw
                    case rel => first | exact ⟨(m + 1) + 1, by omega, by go_num, HE.out, blw_drewN (blw_trans hW hbx) _⟩ | ((repeat apply Exists.intro); exact ⟨⟨(m + 1) + 1, by omega, by go_num, HE.out, blw_drewN (blw_trans hW hbx) _⟩, rfl⟩)
                    case measure => simp [intOf]; omega
    · have HE : Hid (R = true) := by
        show R = true
        obtain rfl : k = ts.length := by omega
        rw [HR.out, teamsOk, HA.out]; simp [h12]
      go_wp2
      go_ret
      exact ⟨Pl.ret_bool HE.out.symm, hW⟩

end Go.Proofs.YtliaibdbcaglnaaGreat

namespace Go.Proofs.YtliaibdbcaglnaaGreat
open Go.RowKit Go.Deep

set_option maxHeartbeats 8000000 in
theorem teamsOkI (B : Nat) (ts : List Tm) (w : World) (h : TmsIn w B ts) :
    Calls Tryz.prog 24 #[.slice (some ⟨B, 0, none⟩) ts.length ts.length] w fun e w' => e = .returned (.bool (teamsOk ts)) ∧ Below w.heap.size w w' := by
  have HS : Hid (TmsIn w B ts) := h
  have hl := h.len
  clear h
  by_cases h12 : ts.length ≤ 12
  case neg =>
    have HR : Hid (teamsOk ts = false) := by show teamsOk ts = _; simp [teamsOk, h12]
    go_enter Tryz.func24, Tryz.ntmps24
    go_wp2
    go_ret
    exact ⟨Pl.ret_bool HR.out.symm, Below.refl _ _⟩
  obtain ⟨R, hR⟩ : ∃ R, R = teamsOk ts := ⟨_, rfl⟩
  have HR : Hid (R = teamsOk ts) := hR
  rw [← hR]
  clear hR
  go_enter Tryz.func24, Tryz.ntmps24
  go_wp2
  go_loopw [10] (fun i wr => ∃ k : Nat, k ≤ ts.length ∧ i = .int .i64 k ∧ teamsTo ts k = true ∧ Below w.heap.size w wr) (fun i _ => ts.length - (intOf i).toNat)
  case atStart => exact ⟨0, Nat.zero_le _, rfl, rfl, Below.refl _ _⟩
  case round =>
    obtain ⟨k, hk, rfl, hall, hW⟩ := hrel
    obtain ⟨wo, rfl⟩ : ∃ wo : World, wo = wr := ⟨_, rfl⟩
    have HA : Hid (teamsTo ts k = true) := hall
    clear hall
    by_cases hlt : k < ts.length
    · obtain ⟨t, ht⟩ : ∃ t, t = ts.getD k Tm.none := ⟨_, rfl⟩
      have hc := (HS.out.later hW).at_ k hlt
      rw [← ht] at hc
      obtain ⟨c0, c1, hsz⟩ := hc
      have HN : Hid (t.nm.size ≤ maxLen ∧ t.ov.size ≤ maxLen) := hsz
      have hbx : Below wo.heap.size wo (wo.alloc (.cells #[.string t.nm, .string t.ov] 97)) := blw_alloc (Below.refl _ _) _
      have HX : Hid (∀ W, Below wo.heap.size wo W → TmsIn W B ts) := fun W hW2 => (HS.out.later hW).later hW2
      have HF : Hid (teamAt ts k = false → R = false) := fun hf => by rw [HR.out]; exact teamsOk_false hlt hf
      have hp : ∃ P : Bool, P = (decide (k = 0) || Pl.less (ts.getD (k - 1) Tm.none).nm t.nm) ∧ ((k = 0 ∧ P = true) ∨ ∃ (m : Nat) (p : ByteArray), k = m + 1 ∧ wo.cell? ⟨B, m * 2, none⟩ = some (.string p) ∧ Op.bytesLess p.toList t.nm.toList = P) := by
        refine ⟨_, rfl, ?_⟩
        by_cases h0 : k = 0
        · exact Or.inl ⟨h0, by simp [h0]⟩
        · refine Or.inr ⟨k - 1, (ts.getD (k - 1) Tm.none).nm, by omega, ((HS.out.later hW).at_ (k - 1) (by omega)).c0, by simp [h0, Pl.less]⟩
      obtain ⟨P, hP, hcase⟩ := hp
      have HT : Hid (teamAt ts k = (Pl.nameOk t.nm && P && (t.ov.toList.isEmpty || isTeam ts t.ov) && high ts 5 t.nm)) := teamAt_eq ht P hP
      clear hP ht hsz
      rcases hcase with ⟨rfl, rfl⟩ | ⟨m, p, rfl, hcp, hq⟩
      · cases hn : Pl.nameOk t.nm
        · have HE : Hid (R = false) := HF.out (by rw [HT.out, hn]; rfl)
          go_wp2_with fail
          go_quiet ((go_at_call 67; exact Calls.quiet_of_same (isName_sameR _ _ HN.out.1)))
          go_wp2
          go_ret
          exact ⟨Pl.ret_bool HE.out.symm, blw_drewN (blw_trans hW hbx) _⟩
        · cases he : t.ov.toList.isEmpty
          · go_wp2_with fail
            go_quiet ((go_at_call 67; exact Calls.quiet_of_same (isName_sameR _ _ HN.out.1)))
            go_wp2_with fail
            refine (gateIsTeam B ts t.ov _ (HX.out _ (blw_drewN hbx _))).mono ?_
            rintro e w4 ⟨rfl, hb4⟩
            have HB4 : Hid (Below wo.heap.size wo w4) := blw_trans (blw_drewN hbx _) hb4
            have k0 : w4.cell? ⟨wo.heap.size, 0, none⟩ = some (.string t.nm) := (hb4.cell (p := ⟨wo.heap.size, 0, none⟩) (by show wo.heap.size < (wo.alloc (.cells #[.string t.nm, .string t.ov] 97)).heap.size; simp)).trans (by show (wo.alloc (.cells #[.string t.nm, .string t.ov] 97)).cell? _ = _; simp)
            clear hb4
            cases hi : isTeam ts t.ov
            · have HE : Hid (R = false) := HF.out (by rw [HT.out, he, hi]; simp)
              go_wp2
              go_ret
              exact ⟨Pl.ret_bool HE.out.symm, blw_trans hW HB4.out⟩
            · have HK : Hid (high ts 5 t.nm = true → teamsTo ts (0 + 1) = true) := fun hh => teamsTo_step HA.out (by rw [HT.out, hn, hh, he, hi]; simp)
              have HJ : Hid (high ts 5 t.nm = false → R = false) := fun hh => HF.out (by rw [HT.out, hh]; simp)
              clear hn  hi he
              go_wp2_with fail
              refine (gateHeight B ts t.nm _ (HX.out _ HB4.out)).mono ?_
              rintro e w5 ⟨⟨r, rfl, r0, r5, hr⟩, hb5⟩
              have HB5 : Hid (Below w.heap.size w w5) := blw_trans (blw_trans hW HB4.out) hb5
              have HRR : Hid (decide (4 < r) = !high ts 5 t.nm) := hr
              clear hb5 hr HB4
              by_cases hr4 : 4 < r
              · have HE : Hid (R = false) := HJ.out (by have := HRR.out; rw [decide_eq_true hr4] at this; simpa using this.symm)
                go_wp2
                go_ret
                exact ⟨Pl.ret_bool HE.out.symm, HB5.out⟩
              · have HE : Hid (teamsTo ts (0 + 1) = true) := HK.out (by have := HRR.out; rw [decide_eq_false hr4] at this; simpa using this.symm)
                go_wp2
                go_roundw
                case rel => first | exact ⟨0 + 1, by omega, by go_num, HE.out, HB5.out⟩ | ((repeat apply Exists.intro); exact ⟨⟨0 + 1, by omega, by go_num, HE.out, HB5.out⟩, rfl⟩)
                case measure => simp [intOf]; omega
          · have HK : Hid (high ts 5 t.nm = true → teamsTo ts (0 + 1) = true) := fun hh => teamsTo_step HA.out (by rw [HT.out, hn, hh, he]; simp)
            have HJ : Hid (high ts 5 t.nm = false → R = false) := fun hh => HF.out (by rw [HT.out, hh]; simp)
            go_wp2_with fail
            go_quiet ((go_at_call 67; exact Calls.quiet_of_same (isName_sameR _ _ HN.out.1)))
            have HB4 : Hid (Below wo.heap.size wo (wo.alloc (.cells #[.string t.nm, .string t.ov] 97))) := hbx
            go_wp2_with fail
            clear hn  he
            refine (gateHeight B ts t.nm _ (HX.out _ (blw_drewN hbx _))).mono ?_
            rintro e w5 ⟨⟨r, rfl, r0, r5, hr⟩, hb5⟩
            have HB5 : Hid (Below w.heap.size w w5) := blw_trans (blw_trans hW (blw_drewN HB4.out _)) hb5
            have HRR : Hid (decide (4 < r) = !high ts 5 t.nm) := hr
            clear hb5 hr HB4
            by_cases hr4 : 4 < r
            · have HE : Hid (R = false) := HJ.out (by have := HRR.out; rw [decide_eq_true hr4] at this; simpa using this.symm)
              go_wp2
              go_ret
              exact ⟨Pl.ret_bool HE.out.symm, HB5.out⟩
            · have HE : Hid (teamsTo ts (0 + 1) = true) := HK.out (by have := HRR.out; rw [decide_eq_false hr4] at this; simpa using this.symm)
              go_wp2
              go_roundw
              case rel => first | exact ⟨0 + 1, by omega, by go_num, HE.out, HB5.out⟩ | ((repeat apply Exists.intro); exact ⟨⟨0 + 1, by omega, by go_num, HE.out, HB5.out⟩, rfl⟩)
              case measure => simp [intOf]; omega
      · have hBl : B < wo.heap.size := Nat.lt_of_lt_of_le HS.out.lt hW.size
        have hmi : decide ((m : Int) + 1 < (ts.length : Int)) = true := by simp; omega
        cases hn : Pl.nameOk t.nm
        · have HE : Hid (R = false) := HF.out (by rw [HT.out, hn]; rfl)
          go_wp2_with fail
          go_quiet ((go_at_call 67; exact Calls.quiet_of_same (isName_sameR _ _ HN.out.1)))
          go_wp2
          go_ret
          exact ⟨Pl.ret_bool HE.out.symm, blw_drewN (blw_trans hW hbx) _⟩
        · cases P
          · have HE : Hid (R = false) := HF.out (by rw [HT.out]; simp)
            go_wp2_with fail
            go_quiet ((go_at_call 67; exact Calls.quiet_of_same (isName_sameR _ _ HN.out.1)))
            go_wp2
            go_ret
            exact ⟨Pl.ret_bool HE.out.symm, blw_drewN (blw_trans hW hbx) _⟩
          · cases he : t.ov.toList.isEmpty
            · go_wp2_with fail
              go_quiet ((go_at_call 67; exact Calls.quiet_of_same (isName_sameR _ _ HN.out.1)))
              go_wp2_with fail
              refine (gateIsTeam B ts t.ov _ (HX.out _ (blw_drewN hbx _))).mono ?_
              rintro e w4 ⟨rfl, hb4⟩
              have HB4 : Hid (Below wo.heap.size wo w4) := blw_trans (blw_drewN hbx _) hb4
              have k0 : w4.cell? ⟨wo.heap.size, 0, none⟩ = some (.string t.nm) := (hb4.cell (p := ⟨wo.heap.size, 0, none⟩) (by show wo.heap.size < (wo.alloc (.cells #[.string t.nm, .string t.ov] 97)).heap.size; simp)).trans (by show (wo.alloc (.cells #[.string t.nm, .string t.ov] 97)).cell? _ = _; simp)
              clear hb4
              cases hi : isTeam ts t.ov
              · have HE : Hid (R = false) := HF.out (by rw [HT.out, he, hi]; simp)
                go_wp2
                go_ret
                exact ⟨Pl.ret_bool HE.out.symm, blw_trans hW HB4.out⟩
              · have HK : Hid (high ts 5 t.nm = true → teamsTo ts ((m + 1) + 1) = true) := fun hh => teamsTo_step HA.out (by rw [HT.out, hn, hh, he, hi]; simp)
                have HJ : Hid (high ts 5 t.nm = false → R = false) := fun hh => HF.out (by rw [HT.out, hh]; simp)
                clear hn hcp hq hi he
                go_wp2_with fail
                refine (gateHeight B ts t.nm _ (HX.out _ HB4.out)).mono ?_
                rintro e w5 ⟨⟨r, rfl, r0, r5, hr⟩, hb5⟩
                have HB5 : Hid (Below w.heap.size w w5) := blw_trans (blw_trans hW HB4.out) hb5
                have HRR : Hid (decide (4 < r) = !high ts 5 t.nm) := hr
                clear hb5 hr HB4
                by_cases hr4 : 4 < r
                · have HE : Hid (R = false) := HJ.out (by have := HRR.out; rw [decide_eq_true hr4] at this; simpa using this.symm)
                  go_wp2
                  go_ret
                  exact ⟨Pl.ret_bool HE.out.symm, HB5.out⟩
                · have HE : Hid (teamsTo ts ((m + 1) + 1) = true) := HK.out (by have := HRR.out; rw [decide_eq_false hr4] at this; simpa using this.symm)
                  go_wp2
                  go_roundw
                  case rel => first | exact ⟨(m + 1) + 1, by omega, by go_num, HE.out, HB5.out⟩ | ((repeat apply Exists.intro); exact ⟨⟨(m + 1) + 1, by omega, by go_num, HE.out, HB5.out⟩, rfl⟩)
                  case measure => simp [intOf]; omega
            · have HK : Hid (high ts 5 t.nm = true → teamsTo ts ((m + 1) + 1) = true) := fun hh => teamsTo_step HA.out (by rw [HT.out, hn, hh, he]; simp)
              have HJ : Hid (high ts 5 t.nm = false → R = false) := fun hh => HF.out (by rw [HT.out, hh]; simp)
              go_wp2_with fail
              go_quiet ((go_at_call 67; exact Calls.quiet_of_same (isName_sameR _ _ HN.out.1)))
              have HB4 : Hid (Below wo.heap.size wo (wo.alloc (.cells #[.string t.nm, .string t.ov] 97))) := hbx
              go_wp2_with fail
              clear hn hcp hq he
              refine (gateHeight B ts t.nm _ (HX.out _ (blw_drewN hbx _))).mono ?_
              rintro e w5 ⟨⟨r, rfl, r0, r5, hr⟩, hb5⟩
              have HB5 : Hid (Below w.heap.size w w5) := blw_trans (blw_trans hW (blw_drewN HB4.out _)) hb5
              have HRR : Hid (decide (4 < r) = !high ts 5 t.nm) := hr
              clear hb5 hr HB4
              by_cases hr4 : 4 < r
              · have HE : Hid (R = false) := HJ.out (by have := HRR.out; rw [decide_eq_true hr4] at this; simpa using this.symm)
                go_wp2
                go_ret
                exact ⟨Pl.ret_bool HE.out.symm, HB5.out⟩
              · have HE : Hid (teamsTo ts ((m + 1) + 1) = true) := HK.out (by have := HRR.out; rw [decide_eq_false hr4] at this; simpa using this.symm)
                go_wp2
                go_roundw
                case rel => first | exact ⟨(m + 1) + 1, by omega, by go_num, HE.out, HB5.out⟩ | ((repeat apply Exists.intro); exact ⟨⟨(m + 1) + 1, by omega, by go_num, HE.out, HB5.out⟩, rfl⟩)
                case measure => simp [intOf]; omega
    · have HE : Hid (R = true) := by
        show R = true
        obtain rfl : k = ts.length := by omega
        rw [HR.out, teamsOk, HA.out]; simp [h12]
      go_wp2
      go_ret
      exact ⟨Pl.ret_bool HE.out.symm, hW⟩

end Go.Proofs.YtliaibdbcaglnaaGreat
