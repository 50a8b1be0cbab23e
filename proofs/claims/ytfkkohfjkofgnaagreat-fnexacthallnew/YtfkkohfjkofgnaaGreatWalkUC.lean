/-
  Walks: teams that are ok: the specification.
-/
import Derived.Test.YtfkkohfjkofgnaaGreatWalkUB
namespace Go.Proofs.YtfkkohfjkofgnaaGreat
open Go.RowKit Go.Deep

variable {CT CR CV CQ CL : Nat}

theorem nameOk_same (s : ByteArray) (w : World) (hs : s.size ≤ maxLen) :
    Calls Tryz.prog 38 #[.string s] w fun e w' => e = .returned (.bool (Pl.nameOk s)) ∧ w' = w := (l1NameOk_any s w hs).mono fun _ _ h => ⟨h.1, h.2.symm⟩
theorem isName_same (s : ByteArray) (w : World) (hs : s.size ≤ maxLen) :
    Calls Tryz.prog 48 #[.string s] w fun e w' => e = .returned (.bool (Pl.nameOk s)) ∧ w' = w := (isName_any s w hs).mono fun _ _ h => ⟨h.1, h.2.symm⟩
theorem l4Team_same (B : Nat) (ts : List Tm) (n : ByteArray) (w : World) (h : TmsIn w B ts) :
    Calls Tryz.prog 69 #[.slice (some ⟨B, 0, none⟩) ts.length CT, .string n] w fun e w' => e = .returned (.bool (isTeam ts n)) ∧ w' = w := (l4Team_any B ts n w h).mono fun _ _ h => ⟨h.1, h.2.symm⟩

theorem not_beq_empty (s : ByteArray) : (s.toList != []) = !s.toList.isEmpty := by cases s.toList <;> rfl

/-- The climb of the specification's loop. -/
def climbs (ts : List Tm) (nm : ByteArray) (k : Nat) (x : ByteArray) : Prop := (x.toList.isEmpty = true → high ts 5 nm = true) ∧ (x.toList.isEmpty = false → high ts (5 - k) x = high ts 5 nm)

theorem climbs_step {ts : List Tm} {nm : ByteArray} {k : Nat} {x : ByteArray} (h : climbs ts nm k x) (hk : k < 5) (he : x.toList.isEmpty = false) : climbs ts nm (k + 1) (overOf ts x) := by
  have h2 := h.2 he
  rw [show 5 - k = (5 - (k + 1)) + 1 by omega, high] at h2
  constructor
  · intro e
    rw [Pl.isEmp, e] at h2
    exact h2.symm
  · intro e
    rw [Pl.isEmp, e] at h2
    exact h2

theorem climbs_end {ts : List Tm} {nm : ByteArray} {k : Nat} {x : ByteArray} (h : climbs ts nm k x) (hk : ¬ k < 5) (he : x.toList.isEmpty = false) : high ts 5 nm = false := by
  have h2 := h.2 he
  rw [show 5 - k = 0 by omega, high] at h2
  exact h2.symm

theorem teamAt_eq {ts : List Tm} {k : Nat} {t : Tm} (ht : t = ts.getD k Tm.none) (P : Bool) (hP : P = (decide (k = 0) || Pl.less (ts.getD (k - 1) Tm.none).nm t.nm)) :
    teamAt ts k = (Pl.nameOk t.nm && P && (t.ov.toList.isEmpty || isTeam ts t.ov) && high ts 5 t.nm) := by
  rw [teamAt, ← ht, hP]; rfl

set_option maxHeartbeats 8000000 in
theorem teamsOkS (B : Nat) (ts : List Tm) (w : World) (h : TmsIn w B ts) :
    Calls Tryz.prog 37 #[.slice (some ⟨B, 0, none⟩) ts.length CT] w fun e w' => e = .returned (.bool (teamsOk ts)) ∧ Below w.heap.size w w' := by
  have HS : Hid (TmsIn w B ts) := h
  have hl := h.len
  clear h
  by_cases h12 : ts.length ≤ 12
  case neg =>
    have HR : Hid (teamsOk ts = false) := by show teamsOk ts = _; simp [teamsOk, h12]
    go_enter Tryz.func37, Tryz.ntmps37
    go_wp2
    go_ret
    exact ⟨Pl.ret_bool HR.out.symm, Below.refl _ _⟩
  obtain ⟨R, hR⟩ : ∃ R, R = teamsOk ts := ⟨_, rfl⟩
  have HR : Hid (R = teamsOk ts) := hR
  rw [← hR]
  clear hR
  go_enter Tryz.func37, Tryz.ntmps37
  go_wp2
  go_loopw [3] (fun i wr => ∃ k : Nat, k ≤ ts.length ∧ i = .int .i64 k ∧ teamsTo ts k = true ∧ Below w.heap.size w wr) (fun i _ => ts.length - (intOf i).toNat)
  case atStart => exact ⟨0, Nat.zero_le _, rfl, rfl, Below.refl _ _⟩
  case round =>
    obtain ⟨k, hk, rfl, hall, hW⟩ := hrel
    obtain ⟨wo, rfl⟩ : ∃ wo : World, wo = wr := ⟨_, rfl⟩
    have HA : Hid (teamsTo ts k = true) := hall
    clear hall
    by_cases hlt : k < ts.length
    · obtain ⟨t, ht⟩ : ∃ t, t = ts.getD k Tm.none := ⟨_, rfl⟩
      have hc := (HS.out.later hW).at_ k hlt
      rw [← ht] at hc
      obtain ⟨c0, c1, hsz⟩ := hc
      have HN : Hid (t.nm.size ≤ maxLen ∧ t.ov.size ≤ maxLen) := hsz
      have hbx : Below wo.heap.size wo (wo.alloc (.cells #[.string t.nm, .string t.ov] 86)) := blw_alloc (Below.refl _ _) _
      have HX : Hid (∀ W, Below wo.heap.size wo W → TmsIn W B ts) := fun W hW2 => (HS.out.later hW).later hW2
      have HF : Hid (teamAt ts k = false → R = false) := fun hf => by rw [HR.out]; exact teamsOk_false hlt hf
      have hp : ∃ P : Bool, P = (decide (k = 0) || Pl.less (ts.getD (k - 1) Tm.none).nm t.nm) ∧ ((k = 0 ∧ P = true) ∨ ∃ (m : Nat) (p : ByteArray), k = m + 1 ∧ wo.cell? ⟨B, m * 2, none⟩ = some (.string p) ∧ Op.bytesLess p.toList t.nm.toList = P) := by
        refine ⟨_, rfl, ?_⟩
        by_cases h0 : k = 0
        · exact Or.inl ⟨h0, by simp [h0]⟩
        · refine Or.inr ⟨k - 1, (ts.getD (k - 1) Tm.none).nm, by omega, ((HS.out.later hW).at_ (k - 1) (by omega)).c0, by simp [h0, Pl.less]⟩
      obtain ⟨P, hP, hcase⟩ := hp
      have HT : Hid (teamAt ts k = (Pl.nameOk t.nm && P && (t.ov.toList.isEmpty || isTeam ts t.ov) && high ts 5 t.nm)) := teamAt_eq ht P hP
      clear hP ht hsz
      rcases hcase with ⟨rfl, rfl⟩ | ⟨m, p, rfl, hcp, hq⟩
      · cases hn : Pl.nameOk t.nm
        · have HE : Hid (R = false) := HF.out (by rw [HT.out, hn]; rfl)
          go_wp2_with fail
          go_quiet (first | (go_at_call 38; exact Calls.quiet_of_same (nameOk_same _ _ HN.out.1)) | (go_at_call 69; refine Calls.quiet_of_same (l4Team_same B ts t.ov _ (HX.out _ ?_)); first | exact hbx | exact blw_drewN hbx _))
          go_wp2
          go_ret
          exact ⟨Pl.ret_bool HE.out.symm, blw_drewN (blw_trans hW hbx) _⟩
        · cases he : t.ov.toList.isEmpty
          · cases hi : isTeam ts t.ov
            · have HE : Hid (R = false) := HF.out (by rw [HT.out, he, hi]; simp)
              go_wp2_with fail
              go_quiet (first | (go_at_call 38; exact Calls.quiet_of_same (nameOk_same _ _ HN.out.1)) | (go_at_call 69; refine Calls.quiet_of_same (l4Team_same B ts t.ov _ (HX.out _ ?_)); first | exact hbx | exact blw_drewN hbx _))
              go_wp2
              go_ret
              exact ⟨Pl.ret_bool HE.out.symm, blw_drewN (blw_trans hW hbx) _⟩
            · have hor : (t.ov.toList.isEmpty || isTeam ts t.ov) = true := by rw [hi]; simp
              have HK : Hid (high ts 5 t.nm = true → teamsTo ts (0 + 1) = true) := fun hh => teamsTo_step HA.out (by rw [HT.out, hn, hh, he, hi]; simp)
              have HC0 : Hid (climbs ts t.nm 0 t.nm) := ⟨fun e => (by rw [Pl.name_full hn] at e; cases e), fun _ => rfl⟩
              have HJ : Hid (high ts 5 t.nm = false → R = false) := fun hh => HF.out (by rw [HT.out, hh]; simp)
              go_wp2_with fail
              go_quiet (first | (go_at_call 38; exact Calls.quiet_of_same (nameOk_same _ _ HN.out.1)) | (go_at_call 69; refine Calls.quiet_of_same (l4Team_same B ts t.ov _ (HX.out _ ?_)); first | exact hbx | exact blw_drewN hbx _))
              go_wp2
              clear hn hor he hi
              go_loop [5, 6] (fun v i => ∃ (q : Nat) (x : ByteArray), q ≤ 5 ∧ i = .int .i64 q ∧ v = .string x ∧ climbs ts t.nm q x) (fun _ i => 5 - (intOf i).toNat)
              case atStart => exact ⟨0, t.nm, Nat.zero_le _, rfl, rfl, HC0.out⟩
              case round =>
                obtain ⟨q, x, hq5, rfl, rfl, hcl⟩ := hrel
                have HCL : Hid (climbs ts t.nm q x) := hcl
                clear hcl
                cases hx : x.toList.isEmpty
                · by_cases hlq : q < 5
                  · have HST : Hid (climbs ts t.nm (q + 1) (overOf ts x)) := climbs_step HCL.out hlq hx
                    go_wp2_with fail
                    refine (l4Over_any B ts x _ (HX.out _ (blw_drewN hbx _))).mono ?_
                    rintro e w' ⟨rfl, rfl⟩
                    clear hx
                    go_wp2
                    go_round
                    case rel => first | exact ⟨q + 1, _, by omega, by go_num, rfl, HST.out⟩ | ((repeat apply Exists.intro); exact ⟨⟨q + 1, _, by omega, by go_num, rfl, HST.out⟩, rfl⟩) | (refine ⟨trivial, ?_⟩; (repeat apply Exists.intro); exact ⟨⟨q + 1, _, by omega, by go_num, rfl, HST.out⟩, rfl⟩)
                    case measure => simp [intOf]; omega
                  · have HE : Hid (R = false) := HJ.out (climbs_end HCL.out hlq hx)
                    go_wp2
                    go_ret
                    exact ⟨Pl.ret_bool HE.out.symm, blw_drewN (blw_trans hW hbx) _⟩
                · have HE : Hid (teamsTo ts (0 + 1) = true) := HK.out (HCL.out.1 hx)
                  by_cases hlq : q < 5
                  all_goals
                    go_wp2
                    go_roundw
                    case rel => first | exact ⟨0 + 1, by omega, by go_num, HE.out, blw_drewN (blw_trans hW hbx) _⟩ | ((repeat apply Exists.intro); exact ⟨⟨0 + 1, by omega, by go_num, HE.out, blw_drewN (blw_trans hW hbx) _⟩, rfl⟩)
                    case measure => simp [intOf]; omega
          · have hor : (t.ov.toList.isEmpty || isTeam ts t.ov) = true := by rw [he]; rfl
            have HK : Hid (high ts 5 t.nm = true → teamsTo ts (0 + 1) = true) := fun hh => teamsTo_step HA.out (by rw [HT.out, hn, hh, he]; simp)
            have HC0 : Hid (climbs ts t.nm 0 t.nm) := ⟨fun e => (by rw [Pl.name_full hn] at e; cases e), fun _ => rfl⟩
            have HJ : Hid (high ts 5 t.nm = false → R = false) := fun hh => HF.out (by rw [HT.out, hh]; simp)
            go_wp2_with fail
            go_quiet (first | (go_at_call 38; exact Calls.quiet_of_same (nameOk_same _ _ HN.out.1)) | (go_at_call 69; refine Calls.quiet_of_same (l4Team_same B ts t.ov _ (HX.out _ ?_)); first | exact hbx | exact blw_drewN hbx _))
            go_wp2
            clear hn hor he
            go_loop [5, 6] (fun v i => ∃ (q : Nat) (x : ByteArray), q ≤ 5 ∧ i = .int .i64 q ∧ v = .string x ∧ climbs ts t.nm q x) (fun _ i => 5 - (intOf i).toNat)
            case atStart => exact ⟨0, t.nm, Nat.zero_le _, rfl, rfl, HC0.out⟩
            case round =>
              obtain ⟨q, x, hq5, rfl, rfl, hcl⟩ := hrel
              have HCL : Hid (climbs ts t.nm q x) := hcl
              clear hcl
              cases hx : x.toList.isEmpty
              · by_cases hlq : q < 5
                · have HST : Hid (climbs ts t.nm (q + 1) (overOf ts x)) := climbs_step HCL.out hlq hx
                  go_wp2_with fail
                  refine (l4Over_any B ts x _ (HX.out _ (blw_drewN hbx _))).mono ?_
                  rintro e w' ⟨rfl, rfl⟩
                  clear hx
                  go_wp2
                  go_round
                  case rel => first | exact ⟨q + 1, _, by omega, by go_num, rfl, HST.out⟩ | ((repeat apply Exists.intro); exact ⟨⟨q + 1, _, by omega, by go_num, rfl, HST.out⟩, rfl⟩) | (refine ⟨trivial, ?_⟩; (repeat apply Exists.intro); exact ⟨⟨q + 1, _, by omega, by go_num, rfl, HST.out⟩, rfl⟩)
                  case measure => simp [intOf]; omega
                · have HE : Hid (R = false) := HJ.out (climbs_end HCL.out hlq hx)
                  go_wp2
                  go_ret
                  exact ⟨Pl.ret_bool HE.out.symm, blw_drewN (blw_trans hW hbx) _⟩
              · have HE : Hid (teamsTo ts (0 + 1) = true) := HK.out (HCL.out.1 hx)
                by_cases hlq : q < 5
                all_goals
                  go_wp2
                  go_roundw
                  case rel => first | exact ⟨0 + 1, by omega, by go_num, HE.out, blw_drewN (blw_trans hW hbx) _⟩ | ((repeat apply Exists.intro); exact ⟨⟨0 + 1, by omega, by go_num, HE.out, blw_drewN (blw_trans hW hbx) _⟩, rfl⟩)
                  case measure => simp [intOf]; omega
      · have hBl : B < wo.heap.size := Nat.lt_of_lt_of_le HS.out.lt hW.size
        have hmi : decide ((m : Int) + 1 < (ts.length : Int)) = true := by simp; omega
        cases hn : Pl.nameOk t.nm
        · have HE : Hid (R = false) := HF.out (by rw [HT.out, hn]; rfl)
          go_wp2_with fail
          go_quiet (first | (go_at_call 38; exact Calls.quiet_of_same (nameOk_same _ _ HN.out.1)) | (go_at_call 69; refine Calls.quiet_of_same (l4Team_same B ts t.ov _ (HX.out _ ?_)); first | exact hbx | exact blw_drewN hbx _))
          go_wp2
          go_ret
          exact ⟨Pl.ret_bool HE.out.symm, blw_drewN (blw_trans hW hbx) _⟩
        · cases P
          · have HE : Hid (R = false) := HF.out (by rw [HT.out]; simp)
            go_wp2_with fail
            go_quiet (first | (go_at_call 38; exact Calls.quiet_of_same (nameOk_same _ _ HN.out.1)) | (go_at_call 69; refine Calls.quiet_of_same (l4Team_same B ts t.ov _ (HX.out _ ?_)); first | exact hbx | exact blw_drewN hbx _))
            go_wp2
            go_ret
            exact ⟨Pl.ret_bool HE.out.symm, blw_drewN (blw_trans hW hbx) _⟩
          · cases he : t.ov.toList.isEmpty
            · cases hi : isTeam ts t.ov
              · have HE : Hid (R = false) := HF.out (by rw [HT.out, he, hi]; simp)
                go_wp2_with fail
                go_quiet (first | (go_at_call 38; exact Calls.quiet_of_same (nameOk_same _ _ HN.out.1)) | (go_at_call 69; refine Calls.quiet_of_same (l4Team_same B ts t.ov _ (HX.out _ ?_)); first | exact hbx | exact blw_drewN hbx _))
                go_wp2
                go_ret
                exact ⟨Pl.ret_bool HE.out.symm, blw_drewN (blw_trans hW hbx) _⟩
              · have hor : (t.ov.toList.isEmpty || isTeam ts t.ov) = true := by rw [hi]; simp
                have HK : Hid (high ts 5 t.nm = true → teamsTo ts ((m + 1) + 1) = true) := fun hh => teamsTo_step HA.out (by rw [HT.out, hn, hh, he, hi]; simp)
                have HC0 : Hid (climbs ts t.nm 0 t.nm) := ⟨fun e => (by rw [Pl.name_full hn] at e; cases e), fun _ => rfl⟩
                have HJ : Hid (high ts 5 t.nm = false → R = false) := fun hh => HF.out (by rw [HT.out, hh]; simp)
                go_wp2_with fail
                go_quiet (first | (go_at_call 38; exact Calls.quiet_of_same (nameOk_same _ _ HN.out.1)) | (go_at_call 69; refine Calls.quiet_of_same (l4Team_same B ts t.ov _ (HX.out _ ?_)); first | exact hbx | exact blw_drewN hbx _))
                go_wp2
                clear hn hor hcp hq he hi
                go_loop [5, 6] (fun v i => ∃ (q : Nat) (x : ByteArray), q ≤ 5 ∧ i = .int .i64 q ∧ v = .string x ∧ climbs ts t.nm q x) (fun _ i => 5 - (intOf i).toNat)
                case atStart => exact ⟨0, t.nm, Nat.zero_le _, rfl, rfl, HC0.out⟩
                case round =>
                  obtain ⟨q, x, hq5, rfl, rfl, hcl⟩ := hrel
                  have HCL : Hid (climbs ts t.nm q x) := hcl
                  clear hcl
                  cases hx : x.toList.isEmpty
                  · by_cases hlq : q < 5
                    · have HST : Hid (climbs ts t.nm (q + 1) (overOf ts x)) := climbs_step HCL.out hlq hx
                      go_wp2_with fail
                      refine (l4Over_any B ts x _ (HX.out _ (blw_drewN hbx _))).mono ?_
                      rintro e w' ⟨rfl, rfl⟩
                      clear hx
                      go_wp2
                      go_round
                      case rel => first | exact ⟨q + 1, _, by omega, by go_num, rfl, HST.out⟩ | ((repeat apply Exists.intro); exact ⟨⟨q + 1, _, by omega, by go_num, rfl, HST.out⟩, rfl⟩) | (refine ⟨trivial, ?_⟩; (repeat apply Exists.intro); exact ⟨⟨q + 1, _, by omega, by go_num, rfl, HST.out⟩, rfl⟩)
                      case measure => simp [intOf]; omega
                    · have HE : Hid (R = false) := HJ.out (climbs_end HCL.out hlq hx)
                      go_wp2
                      go_ret
                      exact ⟨Pl.ret_bool HE.out.symm, blw_drewN (blw_trans hW hbx) _⟩
                  · have HE : Hid (teamsTo ts ((m + 1) + 1) = true) := HK.out (HCL.out.1 hx)
                    by_cases hlq : q < 5
                    all_goals
                      go_wp2
                      go_roundw
                      case rel => first | exact ⟨(m + 1) + 1, by omega, by go_num, HE.out, blw_drewN (blw_trans hW hbx) _⟩ | ((repeat apply Exists.intro); exact ⟨⟨(m + 1) + 1, by omega, by go_num, HE.out, blw_drewN (blw_trans hW hbx) _⟩, rfl⟩)
                      case measure => simp [intOf]; omega
            · have hor : (t.ov.toList.isEmpty || isTeam ts t.ov) = true := by rw [he]; rfl
              have HK : Hid (high ts 5 t.nm = true → teamsTo ts ((m + 1) + 1) = true) := fun hh => teamsTo_step HA.out (by rw [HT.out, hn, hh, he]; simp)
              have HC0 : Hid (climbs ts t.nm 0 t.nm) := ⟨fun e => (by rw [Pl.name_full hn] at e; cases e), fun _ => rfl⟩
              have HJ : Hid (high ts 5 t.nm = false → R = false) := fun hh => HF.out (by rw [HT.out, hh]; simp)
              go_wp2_with fail
              go_quiet (first | (go_at_call 38; exact Calls.quiet_of_same (nameOk_same _ _ HN.out.1)) | (go_at_call 69; refine Calls.quiet_of_same (l4Team_same B ts t.ov _ (HX.out _ ?_)); first | exact hbx | exact blw_drewN hbx _))
              go_wp2
              clear hn hor hcp hq he
              go_loop [5, 6] (fun v i => ∃ (q : Nat) (x : ByteArray), q ≤ 5 ∧ i = .int .i64 q ∧ v = .string x ∧ climbs ts t.nm q x) (fun _ i => 5 - (intOf i).toNat)
              case atStart => exact ⟨0, t.nm, Nat.zero_le _, rfl, rfl, HC0.out⟩
              case round =>
                obtain ⟨q, x, hq5, rfl, rfl, hcl⟩ := hrel
                have HCL : Hid (climbs ts t.nm q x) := hcl
                clear hcl
                cases hx : x.toList.isEmpty
                · by_cases hlq : q < 5
                  · have HST : Hid (climbs ts t.nm (q + 1) (overOf ts x)) := climbs_step HCL.out hlq hx
                    go_wp2_with fail
                    refine (l4Over_any B ts x _ (HX.out _ (blw_drewN hbx _))).mono ?_
                    rintro e w' ⟨rfl, rfl⟩
                    clear hx
                    go_wp2
                    go_round
                    case rel => first | exact ⟨q + 1, _, by omega, by go_num, rfl, HST.out⟩ | ((repeat apply Exists.intro); exact ⟨⟨q + 1, _, by omega, by go_num, rfl, HST.out⟩, rfl⟩) | (refine ⟨trivial, ?_⟩; (repeat apply Exists.intro); exact ⟨⟨q + 1, _, by omega, by go_num, rfl, HST.out⟩, rfl⟩)
                    case measure => simp [intOf]; omega
                  · have HE : Hid (R = false) := HJ.out (climbs_end HCL.out hlq hx)
                    go_wp2
                    go_ret
                    exact ⟨Pl.ret_bool HE.out.symm, blw_drewN (blw_trans hW hbx) _⟩
                · have HE : Hid (teamsTo ts ((m + 1) + 1) = true) := HK.out (HCL.out.1 hx)
                  by_cases hlq : q < 5
                  all_goals
                    go_wp2
                    go_roundw
                    case rel => first | exact ⟨(m + 1) + 1, by omega, by go_num, HE.out, blw_drewN (blw_trans hW hbx) _⟩ | ((repeat apply Exists.intro); exact ⟨⟨(m + 1) + 1, by omega, by go_num, HE.out, blw_drewN (blw_trans hW hbx) _⟩, rfl⟩)
                    case measure => simp [intOf]; omega
    · have HE : Hid (R = true) := by
        show R = true
        obtain rfl : k = ts.length := by omega
        rw [HR.out, teamsOk, HA.out]; simp [h12]
      go_wp2
      go_ret
      exact ⟨Pl.ret_bool HE.out.symm, hW⟩

end Go.Proofs.YtfkkohfjkofgnaaGreat
