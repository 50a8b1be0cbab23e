/-
  Walks: teams that are ok: the program.
-/
import Derived.Test.YtfkkohfjkofgnaaGreatWalkUC
namespace Go.Proofs.YtfkkohfjkofgnaaGreat
open Go.RowKit Go.Deep

variable {CT CR CV CQ CL : Nat}

set_option maxHeartbeats 8000000 in
theorem teamsOkI (B : Nat) (ts : List Tm) (w : World) (h : TmsIn w B ts) :
    Calls Tryz.prog 47 #[.slice (some ⟨B, 0, none⟩) ts.length CT] w fun e w' => e = .returned (.bool (teamsOk ts)) ∧ Below w.heap.size w w' := by
  have HS : Hid (TmsIn w B ts) := h
  have hl := h.len
  clear h
  by_cases h12 : ts.length ≤ 12
  case neg =>
    have HR : Hid (teamsOk ts = false) := by show teamsOk ts = _; simp [teamsOk, h12]
    go_enter Tryz.func47, Tryz.ntmps47
    go_wp2
    go_ret
    exact ⟨Pl.ret_bool HR.out.symm, Below.refl _ _⟩
  obtain ⟨R, hR⟩ : ∃ R, R = teamsOk ts := ⟨_, rfl⟩
  have HR : Hid (R = teamsOk ts) := hR
  rw [← hR]
  clear hR
  go_enter Tryz.func47, Tryz.ntmps47
  go_wp2
  go_loopw [10] (fun i wr => ∃ k : Nat, k ≤ ts.length ∧ i = .int .i64 k ∧ teamsTo ts k = true ∧ Below w.heap.size w wr) (fun i _ => ts.length - (intOf i).toNat)
  case atStart => exact ⟨0, Nat.zero_le _, rfl, rfl, Below.refl _ _⟩
  case round =>
    obtain ⟨k, hk, rfl, hall, hW⟩ := hrel
    obtain ⟨wo, rfl⟩ : ∃ wo : World, wo = wr := ⟨_, rfl⟩
    have HA : Hid (teamsTo ts k = true) := hall
    clear hall
    by_cases hlt : k < ts.length
    · obtain ⟨t, ht⟩ : ∃ t, t = ts.getD k Tm.none := ⟨_, rfl⟩
      have hc := (HS.out.later hW).at_ k hlt
      rw [← ht] at hc
      obtain ⟨c0, c1, hsz⟩ := hc
      have HN : Hid (t.nm.size ≤ maxLen ∧ t.ov.size ≤ maxLen) := hsz
      have hbx : Below wo.heap.size wo (wo.alloc (.cells #[.string t.nm, .string t.ov] 86)) := blw_alloc (Below.refl _ _) _
      have HX : Hid (∀ W, Below wo.heap.size wo W → TmsIn W B ts) := fun W hW2 => (HS.out.later hW).later hW2
      have HF : Hid (teamAt ts k = false → R = false) := fun hf => by rw [HR.out]; exact teamsOk_false hlt hf
      have hp : ∃ P : Bool, P = (decide (k = 0) || Pl.less (ts.getD (k - 1) Tm.none).nm t.nm) ∧ ((k = 0 ∧ P = true) ∨ ∃ (m : Nat) (p : ByteArray), k = m + 1 ∧ wo.cell? ⟨B, m * 2, none⟩ = some (.string p) ∧ Op.bytesLess p.toList t.nm.toList = P) := by
        refine ⟨_, rfl, ?_⟩
        by_cases h0 : k = 0
        · exact Or.inl ⟨h0, by simp [h0]⟩
        · refine Or.inr ⟨k - 1, (ts.getD (k - 1) Tm.none).nm, by omega, ((HS.out.later hW).at_ (k - 1) (by omega)).c0, by simp [h0, Pl.less]⟩
      obtain ⟨P, hP, hcase⟩ := hp
      have HT : Hid (teamAt ts k = (Pl.nameOk t.nm && P && (t.ov.toList.isEmpty || isTeam ts t.ov) && high ts 5 t.nm)) := teamAt_eq ht P hP
      clear hP ht hsz
      rcases hcase with ⟨rfl, rfl⟩ | ⟨m, p, rfl, hcp, hq⟩
      · cases hn : Pl.nameOk t.nm
        · have HE : Hid (R = false) := HF.out (by rw [HT.out, hn]; rfl)
          go_wp2_with fail
          go_quiet ((go_at_call 48; exact Calls.quiet_of_same (isName_same _ _ HN.out.1)))
          go_wp2
          go_ret
          exact ⟨Pl.ret_bool HE.out.symm, blw_drewN (blw_trans hW hbx) _⟩
        · cases he : t.ov.toList.isEmpty
          · go_wp2_with fail
            go_quiet ((go_at_call 48; exact Calls.quiet_of_same (isName_same _ _ HN.out.1)))
            go_wp2_with fail
            refine (gateIsTeam B ts t.ov _ (HX.out _ (blw_drewN hbx _))).mono ?_
            rintro e w4 ⟨rfl, hb4⟩
            have HB4 : Hid (Below wo.heap.size wo w4) := blw_trans (blw_drewN hbx _) hb4
            have k0 : w4.cell? ⟨wo.heap.size, 0, none⟩ = some (.string t.nm) := (hb4.cell (p := ⟨wo.heap.size, 0, none⟩) (by show wo.heap.size < (wo.alloc (.cells #[.string t.nm, .string t.ov] 86)).heap.size; simp)).trans (by show (wo.alloc (.cells #[.string t.nm, .string t.ov] 86)).cell? _ = _; simp)
            clear hb4
            cases hi : isTeam ts t.ov
            · have HE : Hid (R = false) := HF.out (by rw [HT.out, he, hi]; simp)
              go_wp2
              go_ret
              exact ⟨Pl.ret_bool HE.out.symm, blw_trans hW HB4.out⟩
            · have HK : Hid (high ts 5 t.nm = true → teamsTo ts (0 + 1) = true) := fun hh => teamsTo_step HA.out (by rw [HT.out, hn, hh, he, hi]; simp)
              have HJ : Hid (high ts 5 t.nm = false → R = false) := fun hh => HF.out (by rw [HT.out, hh]; simp)
              clear hn  hi he
              go_wp2_with fail
              refine (gateHeight B ts t.nm _ (HX.out _ HB4.out)).mono ?_
              rintro e w5 ⟨⟨r, rfl, r0, r5, hr⟩, hb5⟩
              have HB5 : Hid (Below w.heap.size w w5) := blw_trans (blw_trans hW HB4.out) hb5
              have HRR : Hid (decide (4 < r) = !high ts 5 t.nm) := hr
              clear hb5 hr HB4
              by_cases hr4 : 4 < r
              · have HE : Hid (R = false) := HJ.out (by have := HRR.out; rw [decide_eq_true hr4] at this; simpa using this.symm)
                go_wp2
                go_ret
                exact ⟨Pl.ret_bool HE.out.symm, HB5.out⟩
              · have HE : Hid (teamsTo ts (0 + 1) = true) := HK.out (by have := HRR.out; rw [decide_eq_false hr4] at this; simpa using this.symm)
                go_wp2
                go_roundw
                case rel => first | exact ⟨0 + 1, by omega, by go_num, HE.out, HB5.out⟩ | ((repeat apply Exists.intro); exact ⟨⟨0 + 1, by omega, by go_num, HE.out, HB5.out⟩, rfl⟩)
                case measure => simp [intOf]; omega
          · have HK : Hid (high ts 5 t.nm = true → teamsTo ts (0 + 1) = true) := fun hh => teamsTo_step HA.out (by rw [HT.out, hn, hh, he]; simp)
            have HJ : Hid (high ts 5 t.nm = false → R = false) := fun hh => HF.out (by rw [HT.out, hh]; simp)
            go_wp2_with fail
            go_quiet ((go_at_call 48; exact Calls.quiet_of_same (isName_same _ _ HN.out.1)))
            have HB4 : Hid (Below wo.heap.size wo (wo.alloc (.cells #[.string t.nm, .string t.ov] 86))) := hbx
            go_wp2_with fail
            clear hn  he
            refine (gateHeight B ts t.nm _ (HX.out _ (blw_drewN hbx _))).mono ?_
            rintro e w5 ⟨⟨r, rfl, r0, r5, hr⟩, hb5⟩
            have HB5 : Hid (Below w.heap.size w w5) := blw_trans (blw_trans hW (blw_drewN HB4.out _)) hb5
            have HRR : Hid (decide (4 < r) = !high ts 5 t.nm) := hr
            clear hb5 hr HB4
            by_cases hr4 : 4 < r
            · have HE : Hid (R = false) := HJ.out (by have := HRR.out; rw [decide_eq_true hr4] at this; simpa using this.symm)
              go_wp2
              go_ret
              exact ⟨Pl.ret_bool HE.out.symm, HB5.out⟩
            · have HE : Hid (teamsTo ts (0 + 1) = true) := HK.out (by have := HRR.out; rw [decide_eq_false hr4] at this; simpa using this.symm)
              go_wp2
              go_roundw
              case rel => first | exact ⟨0 + 1, by omega, by go_num, HE.out, HB5.out⟩ | ((repeat apply Exists.intro); exact ⟨⟨0 + 1, by omega, by go_num, HE.out, HB5.out⟩, rfl⟩)
              case measure => simp [intOf]; omega
      · have hBl : B < wo.heap.size := Nat.lt_of_lt_of_le HS.out.lt hW.size
        have hmi : decide ((m : Int) + 1 < (ts.length : Int)) = true := by simp; omega
        cases hn : Pl.nameOk t.nm
        · have HE : Hid (R = false) := HF.out (by rw [HT.out, hn]; rfl)
          go_wp2_with fail
          go_quiet ((go_at_call 48; exact Calls.quiet_of_same (isName_same _ _ HN.out.1)))
          go_wp2
          go_ret
          exact ⟨Pl.ret_bool HE.out.symm, blw_drewN (blw_trans hW hbx) _⟩
        · cases P
          · have HE : Hid (R = false) := HF.out (by rw [HT.out]; simp)
            go_wp2_with fail
            go_quiet ((go_at_call 48; exact Calls.quiet_of_same (isName_same _ _ HN.out.1)))
            go_wp2
            go_ret
            exact ⟨Pl.ret_bool HE.out.symm, blw_drewN (blw_trans hW hbx) _⟩
          · cases he : t.ov.toList.isEmpty
            · go_wp2_with fail
              go_quiet ((go_at_call 48; exact Calls.quiet_of_same (isName_same _ _ HN.out.1)))
              go_wp2_with fail
              refine (gateIsTeam B ts t.ov _ (HX.out _ (blw_drewN hbx _))).mono ?_
              rintro e w4 ⟨rfl, hb4⟩
              have HB4 : Hid (Below wo.heap.size wo w4) := blw_trans (blw_drewN hbx _) hb4
              have k0 : w4.cell? ⟨wo.heap.size, 0, none⟩ = some (.string t.nm) := (hb4.cell (p := ⟨wo.heap.size, 0, none⟩) (by show wo.heap.size < (wo.alloc (.cells #[.string t.nm, .string t.ov] 86)).heap.size; simp)).trans (by show (wo.alloc (.cells #[.string t.nm, .string t.ov] 86)).cell? _ = _; simp)
              clear hb4
              cases hi : isTeam ts t.ov
              · have HE : Hid (R = false) := HF.out (by rw [HT.out, he, hi]; simp)
                go_wp2
                go_ret
                exact ⟨Pl.ret_bool HE.out.symm, blw_trans hW HB4.out⟩
              · have HK : Hid (high ts 5 t.nm = true → teamsTo ts ((m + 1) + 1) = true) := fun hh => teamsTo_step HA.out (by rw [HT.out, hn, hh, he, hi]; simp)
                have HJ : Hid (high ts 5 t.nm = false → R = false) := fun hh => HF.out (by rw [HT.out, hh]; simp)
                clear hn hcp hq hi he
                go_wp2_with fail
                refine (gateHeight B ts t.nm _ (HX.out _ HB4.out)).mono ?_
                rintro e w5 ⟨⟨r, rfl, r0, r5, hr⟩, hb5⟩
                have HB5 : Hid (Below w.heap.size w w5) := blw_trans (blw_trans hW HB4.out) hb5
                have HRR : Hid (decide (4 < r) = !high ts 5 t.nm) := hr
                clear hb5 hr HB4
                by_cases hr4 : 4 < r
                · have HE : Hid (R = false) := HJ.out (by have := HRR.out; rw [decide_eq_true hr4] at this; simpa using this.symm)
                  go_wp2
                  go_ret
                  exact ⟨Pl.ret_bool HE.out.symm, HB5.out⟩
                · have HE : Hid (teamsTo ts ((m + 1) + 1) = true) := HK.out (by have := HRR.out; rw [decide_eq_false hr4] at this; simpa using this.symm)
                  go_wp2
                  go_roundw
                  case rel => first | exact ⟨(m + 1) + 1, by omega, by go_num, HE.out, HB5.out⟩ | ((repeat apply Exists.intro); exact ⟨⟨(m + 1) + 1, by omega, by go_num, HE.out, HB5.out⟩, rfl⟩)
                  case measure => simp [intOf]; omega
            · have HK : Hid (high ts 5 t.nm = true → teamsTo ts ((m + 1) + 1) = true) := fun hh => teamsTo_step HA.out (by rw [HT.out, hn, hh, he]; simp)
              have HJ : Hid (high ts 5 t.nm = false → R = false) := fun hh => HF.out (by rw [HT.out, hh]; simp)
              go_wp2_with fail
              go_quiet ((go_at_call 48; exact Calls.quiet_of_same (isName_same _ _ HN.out.1)))
              have HB4 : Hid (Below wo.heap.size wo (wo.alloc (.cells #[.string t.nm, .string t.ov] 86))) := hbx
              go_wp2_with fail
              clear hn hcp hq he
              refine (gateHeight B ts t.nm _ (HX.out _ (blw_drewN hbx _))).mono ?_
              rintro e w5 ⟨⟨r, rfl, r0, r5, hr⟩, hb5⟩
              have HB5 : Hid (Below w.heap.size w w5) := blw_trans (blw_trans hW (blw_drewN HB4.out _)) hb5
              have HRR : Hid (decide (4 < r) = !high ts 5 t.nm) := hr
              clear hb5 hr HB4
              by_cases hr4 : 4 < r
              · have HE : Hid (R = false) := HJ.out (by have := HRR.out; rw [decide_eq_true hr4] at this; simpa using this.symm)
                go_wp2
                go_ret
                exact ⟨Pl.ret_bool HE.out.symm, HB5.out⟩
              · have HE : Hid (teamsTo ts ((m + 1) + 1) = true) := HK.out (by have := HRR.out; rw [decide_eq_false hr4] at this; simpa using this.symm)
                go_wp2
                go_roundw
                case rel => first | exact ⟨(m + 1) + 1, by omega, by go_num, HE.out, HB5.out⟩ | ((repeat apply Exists.intro); exact ⟨⟨(m + 1) + 1, by omega, by go_num, HE.out, HB5.out⟩, rfl⟩)
                case measure => simp [intOf]; omega
    · have HE : Hid (R = true) := by
        show R = true
        obtain rfl : k = ts.length := by omega
        rw [HR.out, teamsOk, HA.out]; simp [h12]
      go_wp2
      go_ret
      exact ⟨Pl.ret_bool HE.out.symm, hW⟩

end Go.Proofs.YtfkkohfjkofgnaaGreat
