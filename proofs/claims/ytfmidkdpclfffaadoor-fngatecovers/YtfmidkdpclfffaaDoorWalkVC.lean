/-
  Walks: the first numbered name that is not taken: the program.
-/
import Derived.Test.YtfmidkdpclfffaaDoorWalkVB
import Derived.Test.YtfmidkdpclfffaaDoorShelf
import Derived.Test.YtfmidkdpclfffaaDoorWalkSC
namespace Go.Proofs.YtfmidkdpclfffaaDoor
open Go.RowKit Go.Deep Go.Sort

variable {CT CR CV CQ CL : Nat}

/-- The table of the powers of ten. -/
def Tab (w : World) : Prop := Lib.TabIs Tryd.prog w "internal/strconv.uint64pow10" .u64 Lib.pow10Tab

theorem Tab.later {w w' : World} (h : Tab w) (hb : Below w.heap.size w w') : Tab w' := by
  unfold Tab Lib.TabIs World.var? at h ⊢
  cases hg : Tryd.prog.globalNamed "internal/strconv.uint64pow10" with
  | none => rw [hg] at h; cases h
  | some g =>
    rw [hg] at h
    simp only [Option.bind_some] at h ⊢
    have hlt : g < w.heap.size := by
      by_cases hl : g < w.heap.size
      · exact hl
      · rw [Array.getElem?_eq_none (by omega)] at h; cases h
    rw [hb.block g hlt]
    exact h

theorem blw_grow (w : World) (k : Nat) (os : Array Obj) : Below w.heap.size w (grow (w.drewN k) os) :=
  ⟨rfl, rfl, rfl, by rw [size_grow]; exact Nat.le_add_right _ _, fun b hb => by show (w.heap ++ os)[b]? = _; rw [Array.getElem?_append_left hb]⟩

theorem itoaI (k : Nat) (hk : k ≤ 1000000000) (w : World) (h : Tab w) :
    Calls Tryd.prog 42 #[.int .i64 (k : Nat)] w fun e w' => e = .returned (.string ⟨(Lib.decDigits k).toArray⟩) ∧ Below w.heap.size w w' := by
  refine (Tryd.strconv_Itoa (k : Int) (by omega) (by omega) w h).mono ?_
  rintro e w' ⟨rfl, j, os, rfl⟩
  exact ⟨by rw [Lib.itoa_nonneg], blw_grow w j os⟩

set_option maxHeartbeats 400000 in
theorem one_kind (bx bq : Nat) (q : Rul) (n : ByteArray) (w : World) (hc : w.cell? ⟨bx, 0, none⟩ = some (.string n)) (hlt : bx < w.heap.size) :
    Calls Tryd.prog 22 #[.agg #[.slice (some ⟨bq, 0, none⟩) q.verbs.length CQ, .string q.kind, .string q.team, .string q.pre], .pointer (some ⟨bx, 0, none⟩)] w fun e w' => e = .returned (.bool (q.kind.toList == n.toList)) ∧ Below w.heap.size w w' := by
  go_enter Tryd.func22, Tryd.ntmps22
  go_wp2
  go_ret
  exact ⟨rfl, blw_alloc (Below.refl _ _) _⟩

set_option maxHeartbeats 1000000 in
theorem index_kind (bx Br : Nat) (rs : List Rul) (n : ByteArray) (w : World) (h : RulsIn w Br rs) (hc : w.cell? ⟨bx, 0, none⟩ = some (.string n)) (hbx : bx < w.heap.size) :
    Calls Tryd.prog 43 #[.slice (some ⟨Br, 0, none⟩) rs.length CR, .func (.func 22) #[] #[.pointer (some ⟨bx, 0, none⟩)]] w fun e w' => (∃ r : Int, e = .returned (.int .i64 r) ∧ decide (0 ≤ r) = rs.any (fun r => r.kind.toList == n.toList)) ∧ Below w.heap.size w w' := by
  have HC : Hid (RulsIn w Br rs ∧ w.cell? ⟨bx, 0, none⟩ = some (.string n) ∧ bx < w.heap.size) := ⟨h, hc, hbx⟩
  have hl := h.len
  obtain ⟨R, hR⟩ : ∃ R, R = rs.any (fun r => r.kind.toList == n.toList) := ⟨_, rfl⟩
  have HR : Hid (R = rs.any (fun r => r.kind.toList == n.toList)) := hR
  rw [← hR]
  clear hR h hc hbx
  go_enter Tryd.func43, Tryd.ntmps43
  go_wp2
  go_loopw [8] (fun i wr => ∃ k : Nat, k ≤ rs.length ∧ i = .int .i64 k ∧ (rs.take k).any (fun r => r.kind.toList == n.toList) = false ∧ Below w.heap.size w wr) (fun i _ => rs.length - (intOf i).toNat)
  case atStart => exact ⟨0, Nat.zero_le _, rfl, rfl, Below.refl _ _⟩
  case round =>
    obtain ⟨k, hk, rfl, hq, hW⟩ := hrel
    have HQ : Hid ((rs.take k).any (fun r => r.kind.toList == n.toList) = false) := hq
    clear hq
    by_cases hlt : k < rs.length
    · obtain ⟨q, hqq⟩ : ∃ q, q = rs.getD k Rul.none := ⟨_, rfl⟩
      have hf := (HC.out.1.later hW).at_ k hlt
      have hgw : Br < wr.heap.size := Nat.lt_of_lt_of_le HC.out.1.lt hW.size
      rw [← hqq] at hf
      obtain ⟨bq, CQ, c0, c1, c2, c3, _, _⟩ := hf
      have HX : Hid (Calls Tryd.prog 22 #[.agg #[.slice (some ⟨bq, 0, none⟩) q.verbs.length CQ, .string q.kind, .string q.team, .string q.pre], .pointer (some ⟨bx, 0, none⟩)] wr fun e w' => e = .returned (.bool (q.kind.toList == n.toList)) ∧ Below wr.heap.size wr w') :=
        one_kind bx bq q n wr ((hW.cell (p := ⟨bx, 0, none⟩) HC.out.2.2).trans HC.out.2.1) (Nat.lt_of_lt_of_le HC.out.2.2 hW.size)
      have HS : Hid ((rs.take (k + 1)).any (fun r => r.kind.toList == n.toList) = (q.kind.toList == n.toList)) := by show _ = _; rw [any_snoc _ _ _ hlt, HQ.out, ← hqq]; rfl
      have HH : Hid ((q.kind.toList == n.toList) = true → R = true) := by
        intro e
        rw [HR.out, List.any_eq_true]
        have e2 : rs.getD k Rul.none = rs[k] := by simp [hlt]
        exact ⟨rs[k], List.getElem_mem hlt, by rw [← e2, ← hqq]; exact e⟩
      clear hqq
      go_wp2_with fail
      refine HX.out.mono ?_
      rintro e w2 ⟨rfl, hb2⟩
      have hB2 := blw_trans hW hb2
      clear hb2 c0 c1 c2 c3 hgw HX
      cases hn : (q.kind.toList == n.toList)
      · have HE : Hid ((rs.take (k + 1)).any (fun r => r.kind.toList == n.toList) = false) := by show _ = false; rw [HS.out, hn]
        go_wp2
        go_roundw
        case rel => exact ⟨k + 1, by omega, by go_num, HE.out, hB2⟩
        case measure => simp [intOf]; omega
      · have HE : Hid (R = true) := HH.out hn
        go_wp2
        go_ret
        exact ⟨⟨_, rfl, by rw [HE.out]; simp⟩, hB2⟩
    · have HE : Hid (R = false) := by
        show R = false
        have := HQ.out
        rw [List.take_of_length_le (by omega)] at this
        rw [HR.out, this]
      go_wp2
      go_ret
      exact ⟨⟨_, rfl, by rw [HE.out]; simp⟩, hW⟩

set_option maxHeartbeats 400000 in
theorem contains_kind (bx Br : Nat) (rs : List Rul) (n : ByteArray) (w : World) (h : RulsIn w Br rs) (hc : w.cell? ⟨bx, 0, none⟩ = some (.string n)) (hbx : bx < w.heap.size) :
    Calls Tryd.prog 21 #[.slice (some ⟨Br, 0, none⟩) rs.length CR, .func (.func 22) #[] #[.pointer (some ⟨bx, 0, none⟩)]] w fun e w' => e = .returned (.bool (rs.any (fun r => r.kind.toList == n.toList))) ∧ Below w.heap.size w w' := by
  have HX : Hid (Calls Tryd.prog 43 #[.slice (some ⟨Br, 0, none⟩) rs.length CR, .func (.func 22) #[] #[.pointer (some ⟨bx, 0, none⟩)]] w fun e w' => (∃ r : Int, e = .returned (.int .i64 r) ∧ decide (0 ≤ r) = rs.any (fun r => r.kind.toList == n.toList)) ∧ Below w.heap.size w w') := index_kind bx Br rs n w h hc hbx
  clear h hc hbx
  go_enter Tryd.func21, Tryd.ntmps21
  go_wp2_with fail
  refine HX.out.mono ?_
  rintro e w' ⟨⟨r, rfl, hr⟩, hb⟩
  have HR : Hid (decide (0 ≤ r) = rs.any (fun r => r.kind.toList == n.toList)) := hr
  clear hr
  go_wp2
  go_ret
  exact ⟨Pl.ret_bool HR.out, hb⟩

set_option maxHeartbeats 400000 in
theorem one_team (bx bq : Nat) (q : Rul) (n : ByteArray) (w : World) (hc : w.cell? ⟨bx, 0, none⟩ = some (.string n)) (hlt : bx < w.heap.size) :
    Calls Tryd.prog 25 #[.agg #[.slice (some ⟨bq, 0, none⟩) q.verbs.length CQ, .string q.kind, .string q.team, .string q.pre], .pointer (some ⟨bx, 0, none⟩)] w fun e w' => e = .returned (.bool (q.team.toList == n.toList)) ∧ Below w.heap.size w w' := by
  go_enter Tryd.func25, Tryd.ntmps25
  go_wp2
  go_ret
  exact ⟨rfl, blw_alloc (Below.refl _ _) _⟩

set_option maxHeartbeats 1000000 in
theorem index_team (bx Br : Nat) (rs : List Rul) (n : ByteArray) (w : World) (h : RulsIn w Br rs) (hc : w.cell? ⟨bx, 0, none⟩ = some (.string n)) (hbx : bx < w.heap.size) :
    Calls Tryd.prog 43 #[.slice (some ⟨Br, 0, none⟩) rs.length CR, .func (.func 25) #[] #[.pointer (some ⟨bx, 0, none⟩)]] w fun e w' => (∃ r : Int, e = .returned (.int .i64 r) ∧ decide (0 ≤ r) = rs.any (fun r => r.team.toList == n.toList)) ∧ Below w.heap.size w w' := by
  have HC : Hid (RulsIn w Br rs ∧ w.cell? ⟨bx, 0, none⟩ = some (.string n) ∧ bx < w.heap.size) := ⟨h, hc, hbx⟩
  have hl := h.len
  obtain ⟨R, hR⟩ : ∃ R, R = rs.any (fun r => r.team.toList == n.toList) := ⟨_, rfl⟩
  have HR : Hid (R = rs.any (fun r => r.team.toList == n.toList)) := hR
  rw [← hR]
  clear hR h hc hbx
  go_enter Tryd.func43, Tryd.ntmps43
  go_wp2
  go_loopw [8] (fun i wr => ∃ k : Nat, k ≤ rs.length ∧ i = .int .i64 k ∧ (rs.take k).any (fun r => r.team.toList == n.toList) = false ∧ Below w.heap.size w wr) (fun i _ => rs.length - (intOf i).toNat)
  case atStart => exact ⟨0, Nat.zero_le _, rfl, rfl, Below.refl _ _⟩
  case round =>
    obtain ⟨k, hk, rfl, hq, hW⟩ := hrel
    have HQ : Hid ((rs.take k).any (fun r => r.team.toList == n.toList) = false) := hq
    clear hq
    by_cases hlt : k < rs.length
    · obtain ⟨q, hqq⟩ : ∃ q, q = rs.getD k Rul.none := ⟨_, rfl⟩
      have hf := (HC.out.1.later hW).at_ k hlt
      have hgw : Br < wr.heap.size := Nat.lt_of_lt_of_le HC.out.1.lt hW.size
      rw [← hqq] at hf
      obtain ⟨bq, CQ, c0, c1, c2, c3, _, _⟩ := hf
      have HX : Hid (Calls Tryd.prog 25 #[.agg #[.slice (some ⟨bq, 0, none⟩) q.verbs.length CQ, .string q.kind, .string q.team, .string q.pre], .pointer (some ⟨bx, 0, none⟩)] wr fun e w' => e = .returned (.bool (q.team.toList == n.toList)) ∧ Below wr.heap.size wr w') :=
        one_team bx bq q n wr ((hW.cell (p := ⟨bx, 0, none⟩) HC.out.2.2).trans HC.out.2.1) (Nat.lt_of_lt_of_le HC.out.2.2 hW.size)
      have HS : Hid ((rs.take (k + 1)).any (fun r => r.team.toList == n.toList) = (q.team.toList == n.toList)) := by show _ = _; rw [any_snoc _ _ _ hlt, HQ.out, ← hqq]; rfl
      have HH : Hid ((q.team.toList == n.toList) = true → R = true) := by
        intro e
        rw [HR.out, List.any_eq_true]
        have e2 : rs.getD k Rul.none = rs[k] := by simp [hlt]
        exact ⟨rs[k], List.getElem_mem hlt, by rw [← e2, ← hqq]; exact e⟩
      clear hqq
      go_wp2_with fail
      refine HX.out.mono ?_
      rintro e w2 ⟨rfl, hb2⟩
      have hB2 := blw_trans hW hb2
      clear hb2 c0 c1 c2 c3 hgw HX
      cases hn : (q.team.toList == n.toList)
      · have HE : Hid ((rs.take (k + 1)).any (fun r => r.team.toList == n.toList) = false) := by show _ = false; rw [HS.out, hn]
        go_wp2
        go_roundw
        case rel => exact ⟨k + 1, by omega, by go_num, HE.out, hB2⟩
        case measure => simp [intOf]; omega
      · have HE : Hid (R = true) := HH.out hn
        go_wp2
        go_ret
        exact ⟨⟨_, rfl, by rw [HE.out]; simp⟩, hB2⟩
    · have HE : Hid (R = false) := by
        show R = false
        have := HQ.out
        rw [List.take_of_length_le (by omega)] at this
        rw [HR.out, this]
      go_wp2
      go_ret
      exact ⟨⟨_, rfl, by rw [HE.out]; simp⟩, hW⟩

set_option maxHeartbeats 400000 in
theorem contains_team (bx Br : Nat) (rs : List Rul) (n : ByteArray) (w : World) (h : RulsIn w Br rs) (hc : w.cell? ⟨bx, 0, none⟩ = some (.string n)) (hbx : bx < w.heap.size) :
    Calls Tryd.prog 21 #[.slice (some ⟨Br, 0, none⟩) rs.length CR, .func (.func 25) #[] #[.pointer (some ⟨bx, 0, none⟩)]] w fun e w' => e = .returned (.bool (rs.any (fun r => r.team.toList == n.toList))) ∧ Below w.heap.size w w' := by
  have HX : Hid (Calls Tryd.prog 43 #[.slice (some ⟨Br, 0, none⟩) rs.length CR, .func (.func 25) #[] #[.pointer (some ⟨bx, 0, none⟩)]] w fun e w' => (∃ r : Int, e = .returned (.int .i64 r) ∧ decide (0 ≤ r) = rs.any (fun r => r.team.toList == n.toList)) ∧ Below w.heap.size w w') := index_team bx Br rs n w h hc hbx
  clear h hc hbx
  go_enter Tryd.func21, Tryd.ntmps21
  go_wp2_with fail
  refine HX.out.mono ?_
  rintro e w' ⟨⟨r, rfl, hr⟩, hb⟩
  have HR : Hid (decide (0 ≤ r) = rs.any (fun r => r.team.toList == n.toList)) := hr
  clear hr
  go_wp2
  go_ret
  exact ⟨Pl.ret_bool HR.out, hb⟩

set_option maxHeartbeats 1000000 in
theorem taken_kind (rb Br : Nat) (rs : List Rul) (s : ByteArray) (w : World) (h : RulsIn w Br rs) (hc : w.cell? ⟨rb, 0, none⟩ = some (.slice (some ⟨Br, 0, none⟩) rs.length CR)) (hrb : rb < w.heap.size) :
    Calls Tryd.prog 20 #[.string s, .pointer (some ⟨rb, 0, none⟩)] w fun e w' => e = .returned (.bool (Pl.has (kindsOf rs) s)) ∧ Below w.heap.size w w' := by
  have hbx : Below w.heap.size w (w.alloc (.cells #[.string s] 9)) := blw_alloc (Below.refl _ _) _
  have HX : Hid (Calls Tryd.prog 21 #[.slice (some ⟨Br, 0, none⟩) rs.length CR, .func (.func 22) #[] #[.pointer (some ⟨w.heap.size, 0, none⟩)]] (w.alloc (.cells #[.string s] 9)) fun e w' => e = .returned (.bool (Pl.has (kindsOf rs) s)) ∧ Below (w.alloc (.cells #[.string s] 9)).heap.size (w.alloc (.cells #[.string s] 9)) w') := by
    rw [has_kinds]
    exact contains_kind w.heap.size Br rs s _ (h.later hbx) (by simp) (by simp)
  have HB : Hid (Below w.heap.size w (w.alloc (.cells #[.string s] 9))) := hbx
  obtain ⟨R, hR⟩ : ∃ R, R = Pl.has (kindsOf rs) s := ⟨_, rfl⟩
  rw [← hR] at HX ⊢
  clear h hbx hR
  go_enter Tryd.func20, Tryd.ntmps20
  go_wp2_with fail
  refine HX.out.mono ?_
  rintro e w2 ⟨rfl, hb2⟩
  have hB2 := blw_trans HB.out hb2
  clear hb2
  go_wp2
  go_ret
  exact ⟨rfl, hB2⟩

set_option maxHeartbeats 1000000 in
theorem taken_name (tb rb B Br : Nat) (ts : List Tm) (rs : List Rul) (s : ByteArray) (w : World) (hT : TmsIn w B ts) (h : RulsIn w Br rs) (ht : w.cell? ⟨tb, 0, none⟩ = some (.slice (some ⟨B, 0, none⟩) ts.length CT)) (htb : tb < w.heap.size) (hc : w.cell? ⟨rb, 0, none⟩ = some (.slice (some ⟨Br, 0, none⟩) rs.length CR)) (hrb : rb < w.heap.size) :
    Calls Tryd.prog 23 #[.string s, .pointer (some ⟨tb, 0, none⟩), .pointer (some ⟨rb, 0, none⟩)] w fun e w' => e = .returned (.bool (Pl.has (namesOf ts rs) s)) ∧ Below w.heap.size w w' := by
  have HB : Hid (Below w.heap.size w (w.alloc (.cells #[.string s] 9))) := blw_alloc (Below.refl _ _) _
  have HM : Hid (∀ W, Below w.heap.size w W → TmsIn W B ts ∧ RulsIn W Br rs ∧ W.cell? ⟨rb, 0, none⟩ = some (.slice (some ⟨Br, 0, none⟩) rs.length CR) ∧ rb < W.heap.size) := fun W hW => ⟨hT.later hW, h.later hW, (hW.cell (p := ⟨rb, 0, none⟩) hrb).trans hc, Nat.lt_of_lt_of_le hrb hW.size⟩
  obtain ⟨R, hR⟩ : ∃ R, R = Pl.has (namesOf ts rs) s := ⟨_, rfl⟩
  have HR : Hid (R = (isTeam ts s || rs.any (fun r => r.team.toList == s.toList))) := by show R = _; rw [hR, has_names]
  rw [← hR]
  clear hT h hc hrb hR
  go_enter Tryd.func23, Tryd.ntmps23
  go_wp2_with fail
  refine (gateIsTeam B ts s _ (HM.out _ HB.out).1).mono ?_
  rintro e w2 ⟨rfl, hb2⟩
  have HB2 : Hid (Below w.heap.size w w2) := blw_trans HB.out hb2
  have HX2 : Hid (w2.cell? ⟨w.heap.size, 0, none⟩ = some (.string s) ∧ w.heap.size < w2.heap.size) := ⟨(hb2.cell (p := ⟨w.heap.size, 0, none⟩) (by simp)).trans (by simp), Nat.lt_of_lt_of_le (by simp) hb2.size⟩
  clear hb2 HB ht htb
  cases hi : isTeam ts s
  · have HE : Hid (R = rs.any (fun r => r.team.toList == s.toList)) := by show R = _; rw [HR.out, hi]; rfl
    have c0 := (HM.out _ HB2.out).2.2.1
    have c1 := (HM.out _ HB2.out).2.2.2
    clear hi
    go_wp2_with fail
    refine (contains_team w.heap.size Br rs s w2 (HM.out _ HB2.out).2.1 HX2.out.1 HX2.out.2).mono ?_
    rintro e w3 ⟨rfl, hb3⟩
    have HB3 : Hid (Below w.heap.size w w3) := blw_trans HB2.out hb3
    rw [← HE.out]
    clear hb3 c0 c1
    go_wp2
    go_ret
    exact ⟨rfl, HB3.out⟩
  · have HE : Hid (R = true) := by show R = true; rw [HR.out, hi]; rfl
    go_wp2
    go_ret
    exact ⟨Pl.ret_bool HE.out.symm, HB2.out⟩

set_option maxHeartbeats 2000000 in
theorem fresh_kind (letter : ByteArray) (rb : Nat) (used : List ByteArray) (w : World) (hls : letter.size ≤ 16) (hu : used.length ≤ 4000000) (ht : Tab w)
    (hp : ∀ (s : ByteArray) (W : World), Below w.heap.size w W → Calls Tryd.prog 20 #[.string s, .pointer (some ⟨rb, 0, none⟩)] W fun e w' => e = .returned (.bool (Pl.has used s)) ∧ Below W.heap.size W w') :
    Calls Tryd.prog 19 #[.string letter, .func (.func 20) #[] #[.pointer (some ⟨rb, 0, none⟩)]] w fun e w' => e = .returned (.string (fresh letter used)) ∧ Below w.heap.size w w' := by
  have HP : Hid (∀ (s : ByteArray) (W : World), Below w.heap.size w W → Calls Tryd.prog 20 #[.string s, .pointer (some ⟨rb, 0, none⟩)] W fun e w' => e = .returned (.bool (Pl.has used s)) ∧ Below W.heap.size W w') := hp
  have HT : Hid (Tab w) := ht
  obtain ⟨F, hF⟩ : ∃ F, F = freshN letter used := ⟨_, rfl⟩
  have hF4 : F ≤ 4000000 := by rw [hF]; have := fresh_lt letter used; omega
  have HF : Hid (F = freshN letter used) := hF
  clear hp ht hF
  go_enter Tryd.func19, Tryd.ntmps19
  go_wp2
  go_loopw [5] (fun i wr => ∃ k : Nat, k ≤ F ∧ i = .int .i64 k ∧ Below w.heap.size w wr) (fun i _ => F + 1 - (intOf i).toNat)
  case atStart => exact ⟨0, Nat.zero_le _, rfl, Below.refl _ _⟩
  case round =>
    obtain ⟨k, hk, rfl, hW⟩ := hrel
    have hlen : ¬ (9223372036854775807 < letter.size + (Lib.decDigits k).length) := by have := dec_len k (by omega); omega
    go_wp2_with fail
    refine (itoaI k (by omega) wr (HT.out.later hW)).mono ?_
    rintro e w2 ⟨rfl, hb2⟩
    have hW2 := blw_trans hW hb2
    clear hb2
    go_wp2_with fail
    rw [numb_eq]
    refine (HP.out (numb letter k) w2 hW2).mono ?_
    rintro e w3 ⟨rfl, hb3⟩
    have hW3 := blw_trans hW2 hb3
    clear hb3 hW2
    cases hp : Pl.has used (numb letter k)
    · have HE : Hid (k = F) := by show k = F; rw [HF.out]; exact fresh_end (by rw [← HF.out]; exact hk) hp
      clear hp
      go_wp2_with fail
      refine (itoaI k (by omega) w3 (HT.out.later hW3)).mono ?_
      rintro e w4 ⟨rfl, hb4⟩
      have hW4 := blw_trans hW3 hb4
      clear hb4
      go_wp2
      go_ret
      refine ⟨?_, hW4⟩
      rw [fresh, ← HF.out, ← HE.out]
      rfl
    · have HE : Hid (k + 1 ≤ F) := by show k + 1 ≤ F; rw [HF.out]; exact fresh_on (by rw [← HF.out]; exact hk) hp
      clear hp
      go_wp2
      go_roundw
      case rel => exact ⟨k + 1, HE.out, by go_num, hW3⟩
      case measure => have := HE.out; simp [intOf]; omega

set_option maxHeartbeats 2000000 in
theorem fresh_name (letter : ByteArray) (tb rb : Nat) (used : List ByteArray) (w : World) (hls : letter.size ≤ 16) (hu : used.length ≤ 4000000) (ht : Tab w)
    (hp : ∀ (s : ByteArray) (W : World), Below w.heap.size w W → Calls Tryd.prog 23 #[.string s, .pointer (some ⟨tb, 0, none⟩), .pointer (some ⟨rb, 0, none⟩)] W fun e w' => e = .returned (.bool (Pl.has used s)) ∧ Below W.heap.size W w') :
    Calls Tryd.prog 19 #[.string letter, .func (.func 23) #[] #[.pointer (some ⟨tb, 0, none⟩), .pointer (some ⟨rb, 0, none⟩)]] w fun e w' => e = .returned (.string (fresh letter used)) ∧ Below w.heap.size w w' := by
  have HP : Hid (∀ (s : ByteArray) (W : World), Below w.heap.size w W → Calls Tryd.prog 23 #[.string s, .pointer (some ⟨tb, 0, none⟩), .pointer (some ⟨rb, 0, none⟩)] W fun e w' => e = .returned (.bool (Pl.has used s)) ∧ Below W.heap.size W w') := hp
  have HT : Hid (Tab w) := ht
  obtain ⟨F, hF⟩ : ∃ F, F = freshN letter used := ⟨_, rfl⟩
  have hF4 : F ≤ 4000000 := by rw [hF]; have := fresh_lt letter used; omega
  have HF : Hid (F = freshN letter used) := hF
  clear hp ht hF
  go_enter Tryd.func19, Tryd.ntmps19
  go_wp2
  go_loopw [5] (fun i wr => ∃ k : Nat, k ≤ F ∧ i = .int .i64 k ∧ Below w.heap.size w wr) (fun i _ => F + 1 - (intOf i).toNat)
  case atStart => exact ⟨0, Nat.zero_le _, rfl, Below.refl _ _⟩
  case round =>
    obtain ⟨k, hk, rfl, hW⟩ := hrel
    have hlen : ¬ (9223372036854775807 < letter.size + (Lib.decDigits k).length) := by have := dec_len k (by omega); omega
    go_wp2_with fail
    refine (itoaI k (by omega) wr (HT.out.later hW)).mono ?_
    rintro e w2 ⟨rfl, hb2⟩
    have hW2 := blw_trans hW hb2
    clear hb2
    go_wp2_with fail
    rw [numb_eq]
    refine (HP.out (numb letter k) w2 hW2).mono ?_
    rintro e w3 ⟨rfl, hb3⟩
    have hW3 := blw_trans hW2 hb3
    clear hb3 hW2
    cases hp : Pl.has used (numb letter k)
    · have HE : Hid (k = F) := by show k = F; rw [HF.out]; exact fresh_end (by rw [← HF.out]; exact hk) hp
      clear hp
      go_wp2_with fail
      refine (itoaI k (by omega) w3 (HT.out.later hW3)).mono ?_
      rintro e w4 ⟨rfl, hb4⟩
      have hW4 := blw_trans hW3 hb4
      clear hb4
      go_wp2
      go_ret
      refine ⟨?_, hW4⟩
      rw [fresh, ← HF.out, ← HE.out]
      rfl
    · have HE : Hid (k + 1 ≤ F) := by show k + 1 ≤ F; rw [HF.out]; exact fresh_on (by rw [← HF.out]; exact hk) hp
      clear hp
      go_wp2
      go_roundw
      case rel => exact ⟨k + 1, HE.out, by go_num, hW3⟩
      case measure => have := HE.out; simp [intOf]; omega

end Go.Proofs.YtfmidkdpclfffaaDoor
