/-
  When a law is ok.
-/
import Derived.Test.YtkjkklcflpchlaaGreatWalkUC
import Derived.Test.YtkjkklcflpchlaaGreatWalkAF
import Derived.Test.YtkjkklcflpchlaaGreatWalkMO
import Derived.Test.YtkjkklcflpchlaaGreatMemL
namespace Go.Proofs.YtkjkklcflpchlaaGreat
open Go.RowKit Go.Deep

set_option maxHeartbeats 8000000 in
theorem teamsOkI (B : Nat) (ts : List Tm) (w : World) (h : TmsIn w B ts) :
    Calls Tryz.prog 61 #[.slice (some ⟨B, 0, none⟩) ts.length ts.length] w fun e w' => e = .returned (.bool (teamsOk ts)) ∧ Below w.heap.size w w' := by
  have HS : Hid (TmsIn w B ts) := h
  have hl := h.len
  clear h
  by_cases h12 : ts.length ≤ 12
  case neg =>
    have HR : Hid (teamsOk ts = false) := by show teamsOk ts = _; simp [teamsOk, h12]
    go_enter Tryz.func61, Tryz.ntmps61
    go_wp2
    go_ret
    exact ⟨Pl.ret_bool HR.out.symm, Below.refl _ _⟩
  obtain ⟨R, hR⟩ : ∃ R, R = teamsOk ts := ⟨_, rfl⟩
  have HR : Hid (R = teamsOk ts) := hR
  rw [← hR]
  clear hR
  go_enter Tryz.func61, Tryz.ntmps61
  go_wp2
  go_loopw [10] (fun i wr => ∃ k : Nat, k ≤ ts.length ∧ i = .int .i64 k ∧ teamsTo ts k = true ∧ Below w.heap.size w wr) (fun i _ => ts.length - (intOf i).toNat)
  case atStart => exact ⟨0, Nat.zero_le _, rfl, rfl, Below.refl _ _⟩
  case round =>
    obtain ⟨k, hk, rfl, hall, hW⟩ := hrel
    obtain ⟨wo, rfl⟩ : ∃ wo : World, wo = wr := ⟨_, rfl⟩
    have HA : Hid (teamsTo ts k = true) := hall
    clear hall
    by_cases hlt : k < ts.length
    · obtain ⟨t, ht⟩ : ∃ t, t = ts.getD k Tm.none := ⟨_, rfl⟩
      have hc := (HS.out.later hW).at_ k hlt
      rw [← ht] at hc
      obtain ⟨c0, c1, hsz⟩ := hc
      have HN : Hid (t.nm.size ≤ maxLen ∧ t.ov.size ≤ maxLen) := hsz
      have hbx : Below wo.heap.size wo (wo.alloc (.cells #[.string t.nm, .string t.ov] 106)) := blw_alloc (Below.refl _ _) _
      have HX : Hid (∀ W, Below wo.heap.size wo W → TmsIn W B ts) := fun W hW2 => (HS.out.later hW).later hW2
      have HF : Hid (teamAt ts k = false → R = false) := fun hf => by rw [HR.out]; exact teamsOk_false hlt hf
      have hp : ∃ P : Bool, P = (decide (k = 0) || Pl.less (ts.getD (k - 1) Tm.none).nm t.nm) ∧ ((k = 0 ∧ P = true) ∨ ∃ (m : Nat) (p : ByteArray), k = m + 1 ∧ wo.cell? ⟨B, m * 2, none⟩ = some (.string p) ∧ Op.bytesLess p.toList t.nm.toList = P) := by
        refine ⟨_, rfl, ?_⟩
        by_cases h0 : k = 0
        · exact Or.inl ⟨h0, by simp [h0]⟩
        · refine Or.inr ⟨k - 1, (ts.getD (k - 1) Tm.none).nm, by omega, ((HS.out.later hW).at_ (k - 1) (by omega)).c0, by simp [h0, Pl.less]⟩
      obtain ⟨P, hP, hcase⟩ := hp
      have HT : Hid (teamAt ts k = (Pl.nameOk t.nm && P && (t.ov.toList.isEmpty || isTeam ts t.ov) && high ts 5 t.nm)) := teamAt_eq ht P hP
      clear hP ht hsz
      rcases hcase with ⟨rfl, rfl⟩ | ⟨m, p, rfl, hcp, hq⟩
      · cases hn : Pl.nameOk t.nm
        · have HE : Hid (R = false) := HF.out (by rw [HT.out, hn]; rfl)
          go_wp2_with fail
          go_quiet ((go_at_call 62; exact Calls.quiet_of_same (isName_sameR _ _ HN.out.1)))
          go_wp2
          go_ret
          exact ⟨Pl.ret_bool HE.out.symm, blw_drewN (blw_trans hW hbx) _⟩
        · cases he : t.ov.toList.isEmpty
          · go_wp2_with fail
            go_quiet ((go_at_call 62; exact Calls.quiet_of_same (isName_sameR _ _ HN.out.1)))
            go_wp2_with fail
            refine (gateIsTeam B ts t.ov _ (HX.out _ (blw_drewN hbx _))).mono ?_
            rintro e w4 ⟨rfl, hb4⟩
            have HB4 : Hid (Below wo.heap.size wo w4) := blw_trans (blw_drewN hbx _) hb4
            have k0 : w4.cell? ⟨wo.heap.size, 0, none⟩ = some (.string t.nm) := (hb4.cell (p := ⟨wo.heap.size, 0, none⟩) (by show wo.heap.size < (wo.alloc (.cells #[.string t.nm, .string t.ov] 106)).heap.size; simp)).trans (by show (wo.alloc (.cells #[.string t.nm, .string t.ov] 106)).cell? _ = _; simp)
            clear hb4
            cases hi : isTeam ts t.ov
            · have HE : Hid (R = false) := HF.out (by rw [HT.out, he, hi]; simp)
              go_wp2
              go_ret
              exact ⟨Pl.ret_bool HE.out.symm, blw_trans hW HB4.out⟩
            · have HK : Hid (high ts 5 t.nm = true → teamsTo ts (0 + 1) = true) := fun hh => teamsTo_step HA.out (by rw [HT.out, hn, hh, he, hi]; simp)
              have HJ : Hid (high ts 5 t.nm = false → R = false) := fun hh => HF.out (by rw [HT.out, hh]; simp)
              clear hn  hi he
              go_wp2_with fail
              refine (gateHeight B ts t.nm _ (HX.out _ HB4.out)).mono ?_
              rintro e w5 ⟨⟨r, rfl, r0, r5, hr⟩, hb5⟩
              have HB5 : Hid (Below w.heap.size w w5) := blw_trans (blw_trans hW HB4.out) hb5
              have HRR : Hid (decide (4 < r) = !high ts 5 t.nm) := hr
              clear hb5 hr HB4
              by_cases hr4 : 4 < r
              · have HE : Hid (R = false) := HJ.out (by have := HRR.out; rw [decide_eq_true hr4] at this; simpa using this.symm)
                go_wp2
                go_ret
                exact ⟨Pl.ret_bool HE.out.symm, HB5.out⟩
              · have HE : Hid (teamsTo ts (0 + 1) = true) := HK.out (by have := HRR.out; rw [decide_eq_false hr4] at this; simpa using this.symm)
                go_wp2
                go_roundw
                case rel => first | exact ⟨0 + 1, by omega, by go_num, HE.out, HB5.out⟩ | ((repeat apply Exists.intro); exact ⟨⟨0 + 1, by omega, by go_num, HE.out, HB5.out⟩, rfl⟩)
                case measure => simp [intOf]; omega
          · have HK : Hid (high ts 5 t.nm = true → teamsTo ts (0 + 1) = true) := fun hh => teamsTo_step HA.out (by rw [HT.out, hn, hh, he]; simp)
            have HJ : Hid (high ts 5 t.nm = false → R = false) := fun hh => HF.out (by rw [HT.out, hh]; simp)
            go_wp2_with fail
            go_quiet ((go_at_call 62; exact Calls.quiet_of_same (isName_sameR _ _ HN.out.1)))
            have HB4 : Hid (Below wo.heap.size wo (wo.alloc (.cells #[.string t.nm, .string t.ov] 106))) := hbx
            go_wp2_with fail
            clear hn  he
            refine (gateHeight B ts t.nm _ (HX.out _ (blw_drewN hbx _))).mono ?_
            rintro e w5 ⟨⟨r, rfl, r0, r5, hr⟩, hb5⟩
            have HB5 : Hid (Below w.heap.size w w5) := blw_trans (blw_trans hW (blw_drewN HB4.out _)) hb5
            have HRR : Hid (decide (4 < r) = !high ts 5 t.nm) := hr
            clear hb5 hr HB4
            by_cases hr4 : 4 < r
            · have HE : Hid (R = false) := HJ.out (by have := HRR.out; rw [decide_eq_true hr4] at this; simpa using this.symm)
              go_wp2
              go_ret
              exact ⟨Pl.ret_bool HE.out.symm, HB5.out⟩
            · have HE : Hid (teamsTo ts (0 + 1) = true) := HK.out (by have := HRR.out; rw [decide_eq_false hr4] at this; simpa using this.symm)
              go_wp2
              go_roundw
              case rel => first | exact ⟨0 + 1, by omega, by go_num, HE.out, HB5.out⟩ | ((repeat apply Exists.intro); exact ⟨⟨0 + 1, by omega, by go_num, HE.out, HB5.out⟩, rfl⟩)
              case measure => simp [intOf]; omega
      · have hBl : B < wo.heap.size := Nat.lt_of_lt_of_le HS.out.lt hW.size
        have hmi : decide ((m : Int) + 1 < (ts.length : Int)) = true := by simp; omega
        cases hn : Pl.nameOk t.nm
        · have HE : Hid (R = false) := HF.out (by rw [HT.out, hn]; rfl)
          go_wp2_with fail
          go_quiet ((go_at_call 62; exact Calls.quiet_of_same (isName_sameR _ _ HN.out.1)))
          go_wp2
          go_ret
          exact ⟨Pl.ret_bool HE.out.symm, blw_drewN (blw_trans hW hbx) _⟩
        · cases P
          · have HE : Hid (R = false) := HF.out (by rw [HT.out]; simp)
            go_wp2_with fail
            go_quiet ((go_at_call 62; exact Calls.quiet_of_same (isName_sameR _ _ HN.out.1)))
            go_wp2
            go_ret
            exact ⟨Pl.ret_bool HE.out.symm, blw_drewN (blw_trans hW hbx) _⟩
          · cases he : t.ov.toList.isEmpty
            · go_wp2_with fail
              go_quiet ((go_at_call 62; exact Calls.quiet_of_same (isName_sameR _ _ HN.out.1)))
              go_wp2_with fail
              refine (gateIsTeam B ts t.ov _ (HX.out _ (blw_drewN hbx _))).mono ?_
              rintro e w4 ⟨rfl, hb4⟩
              have HB4 : Hid (Below wo.heap.size wo w4) := blw_trans (blw_drewN hbx _) hb4
              have k0 : w4.cell? ⟨wo.heap.size, 0, none⟩ = some (.string t.nm) := (hb4.cell (p := ⟨wo.heap.size, 0, none⟩) (by show wo.heap.size < (wo.alloc (.cells #[.string t.nm, .string t.ov] 106)).heap.size; simp)).trans (by show (wo.alloc (.cells #[.string t.nm, .string t.ov] 106)).cell? _ = _; simp)
              clear hb4
              cases hi : isTeam ts t.ov
              · have HE : Hid (R = false) := HF.out (by rw [HT.out, he, hi]; simp)
                go_wp2
                go_ret
                exact ⟨Pl.ret_bool HE.out.symm, blw_trans hW HB4.out⟩
              · have HK : Hid (high ts 5 t.nm = true → teamsTo ts ((m + 1) + 1) = true) := fun hh => teamsTo_step HA.out (by rw [HT.out, hn, hh, he, hi]; simp)
                have HJ : Hid (high ts 5 t.nm = false → R = false) := fun hh => HF.out (by rw [HT.out, hh]; simp)
                clear hn hcp hq hi he
                go_wp2_with fail
                refine (gateHeight B ts t.nm _ (HX.out _ HB4.out)).mono ?_
                rintro e w5 ⟨⟨r, rfl, r0, r5, hr⟩, hb5⟩
                have HB5 : Hid (Below w.heap.size w w5) := blw_trans (blw_trans hW HB4.out) hb5
                have HRR : Hid (decide (4 < r) = !high ts 5 t.nm) := hr
                clear hb5 hr HB4
                by_cases hr4 : 4 < r
                · have HE : Hid (R = false) := HJ.out (by have := HRR.out; rw [decide_eq_true hr4] at this; simpa using this.symm)
                  go_wp2
                  go_ret
                  exact ⟨Pl.ret_bool HE.out.symm, HB5.out⟩
                · have HE : Hid (teamsTo ts ((m + 1) + 1) = true) := HK.out (by have := HRR.out; rw [decide_eq_false hr4] at this; simpa using this.symm)
                  go_wp2
                  go_roundw
                  case rel => first | exact ⟨(m + 1) + 1, by omega, by go_num, HE.out, HB5.out⟩ | ((repeat apply Exists.intro); exact ⟨⟨(m + 1) + 1, by omega, by go_num, HE.out, HB5.out⟩, rfl⟩)
                  case measure => simp [intOf]; omega
            · have HK : Hid (high ts 5 t.nm = true → teamsTo ts ((m + 1) + 1) = true) := fun hh => teamsTo_step HA.out (by rw [HT.out, hn, hh, he]; simp)
              have HJ : Hid (high ts 5 t.nm = false → R = false) := fun hh => HF.out (by rw [HT.out, hh]; simp)
              go_wp2_with fail
              go_quiet ((go_at_call 62; exact Calls.quiet_of_same (isName_sameR _ _ HN.out.1)))
              have HB4 : Hid (Below wo.heap.size wo (wo.alloc (.cells #[.string t.nm, .string t.ov] 106))) := hbx
              go_wp2_with fail
              clear hn hcp hq he
              refine (gateHeight B ts t.nm _ (HX.out _ (blw_drewN hbx _))).mono ?_
              rintro e w5 ⟨⟨r, rfl, r0, r5, hr⟩, hb5⟩
              have HB5 : Hid (Below w.heap.size w w5) := blw_trans (blw_trans hW (blw_drewN HB4.out _)) hb5
              have HRR : Hid (decide (4 < r) = !high ts 5 t.nm) := hr
              clear hb5 hr HB4
              by_cases hr4 : 4 < r
              · have HE : Hid (R = false) := HJ.out (by have := HRR.out; rw [decide_eq_true hr4] at this; simpa using this.symm)
                go_wp2
                go_ret
                exact ⟨Pl.ret_bool HE.out.symm, HB5.out⟩
              · have HE : Hid (teamsTo ts ((m + 1) + 1) = true) := HK.out (by have := HRR.out; rw [decide_eq_false hr4] at this; simpa using this.symm)
                go_wp2
                go_roundw
                case rel => first | exact ⟨(m + 1) + 1, by omega, by go_num, HE.out, HB5.out⟩ | ((repeat apply Exists.intro); exact ⟨⟨(m + 1) + 1, by omega, by go_num, HE.out, HB5.out⟩, rfl⟩)
                case measure => simp [intOf]; omega
    · have HE : Hid (R = true) := by
        show R = true
        obtain rfl : k = ts.length := by omega
        rw [HR.out, teamsOk, HA.out]; simp [h12]
      go_wp2
      go_ret
      exact ⟨Pl.ret_bool HE.out.symm, hW⟩

end Go.Proofs.YtkjkklcflpchlaaGreat

namespace Go.Proofs.YtkjkklcflpchlaaGreat
open Go.RowKit Go.Deep

theorem ret_i64 {a b : Int} (h : a = b) : Ending.returned (.int .i64 a) = .returned (.int .i64 b) := by rw [h]

/-- A list with marks from k on, in a block from lo on, below hi. -/
def MRow (w : World) (lo hi : Nat) (v : Value) (n k : Nat) : Prop :=
  (∃ a c, v = .slice a 0 c ∧ n = 0) ∨ ∃ b c, v = .slice (some ⟨b, 0, none⟩) n c ∧ lo ≤ b ∧ b < hi ∧ b < w.heap.size ∧ n ≤ 1048576 ∧ ∀ i, i < n → w.cell? ⟨b, i, none⟩ = some (.string (mt (k + i)))

theorem MRow.marks {S : Nat → Prop} {w w' : World} {lo hi : Nat} {v : Value} {n k : Nat} (h : MRow w lo hi v n k) (hm : Marks S w w') (hs : ∀ p, S p → lo ≤ p → p < hi → False) : MRow w' lo hi v n k := by
  rcases h with h | ⟨b, c, rfl, h1, h2, h3, h4, h5⟩
  · exact Or.inl h
  · exact Or.inr ⟨b, c, rfl, h1, h2, Nat.lt_of_lt_of_le h3 hm.size, h4, fun i hi => (hm.cell h3 (fun e => hs b e h1 h2) i).trans (h5 i hi)⟩

theorem MRow.later {w w' : World} {lo hi : Nat} {v : Value} {n k : Nat} (h : MRow w lo hi v n k) (hb : Below w.heap.size w w') : MRow w' lo hi v n k :=
  h.marks (S := fun _ => False) (Marks.of_below _ hb) (fun _ e _ _ => e)

theorem CT.marks {S : Nat → Prop} {w w' : World} {lo hi : Nat} {v : Value} {ss : List ByteArray} (h : CT w lo hi v ss) (hm : Marks S w w') (hs : ∀ p, S p → lo ≤ p → p < hi → False) : CT w' lo hi v ss := by
  rcases h with h | ⟨g, cap, rfl, h1, h1', h2, h3, h4⟩
  · exact Or.inl h
  · exact Or.inr ⟨g, cap, rfl, h1, h1', hm.own g 9 cap h2, h3, fun i hi => (hm.cell h2.lt (fun e => hs g e h1 h1') i).trans (h4 i hi)⟩

end Go.Proofs.YtkjkklcflpchlaaGreat

namespace Go.Proofs.YtkjkklcflpchlaaGreat
open Go.RowKit Go.Deep

/-- The values, of which the first q are filled. -/
def fillTo (vs : List ByteArray) (fs : List Fld) (q : Nat) : List ByteArray :=
  (List.range vs.length).map fun i => if i < q ∧ (vs.getD i ByteArray.empty).toList.isEmpty = true then (fs.getD i Fld.none).de else vs.getD i ByteArray.empty
theorem fillTo_len (vs : List ByteArray) (fs : List Fld) (q : Nat) : (fillTo vs fs q).length = vs.length := by simp [fillTo]
theorem fillTo_at (vs : List ByteArray) (fs : List Fld) (q i : Nat) (hi : i < vs.length) : (fillTo vs fs q).getD i ByteArray.empty = if i < q ∧ (vs.getD i ByteArray.empty).toList.isEmpty = true then (fs.getD i Fld.none).de else vs.getD i ByteArray.empty := by
  simp [fillTo, hi]
theorem fillTo_zero (vs : List ByteArray) (fs : List Fld) : fillTo vs fs 0 = vs := by
  apply List.ext_getElem
  · simp [fillTo]
  · intro i h1 h2; simp [fillTo, h2]
theorem fillTo_now (vs : List ByteArray) (fs : List Fld) (q : Nat) (hq : q < vs.length) : (fillTo vs fs q).getD q ByteArray.empty = vs.getD q ByteArray.empty := by
  rw [fillTo_at _ _ _ _ hq, if_neg (by omega)]

def fillOb (ss : List Shp) (o : Ob) : Ob :=
  if (shapesOk ss && hasKind ss o.kind) = true ∧ o.values.length = (ss.getD (kindAt ss o.kind) Shp.none).fields.length
  then ⟨o.kind, o.name, o.team, fillTo o.values (ss.getD (kindAt ss o.kind) Shp.none).fields o.values.length, o.ending, o.holds, o.version⟩ else o

theorem CT.set {w : World} {lo hi g cap : Nat} {vs : List ByteArray} {fs : List Fld} {q : Nat} (h : CT w lo hi (.slice (some ⟨g, 0, none⟩) vs.length cap) (fillTo vs fs q)) (hq : q < vs.length) (he : (vs.getD q ByteArray.empty).toList.isEmpty = true) :
    CT (w.setCell ⟨g, q, none⟩ (.string (fs.getD q Fld.none).de)) lo hi (.slice (some ⟨g, 0, none⟩) vs.length cap) (fillTo vs fs (q + 1)) := by
  rcases h with ⟨e, _⟩ | ⟨g', cap', e, g1, g2, g3, g4, g5⟩
  · injection e with e; cases e
  · injection e with e1 e2 e3
    injection e1 with e1
    injection e1 with e1
    subst e1 e3
    rw [fillTo_len] at g4 g5
    refine Or.inr ⟨g, cap, by rw [fillTo_len], g1, g2, g3.setCell q _, by rw [fillTo_len]; exact g4, fun i hi => ?_⟩
    rw [fillTo_len] at hi
    by_cases hiq : i = q
    · subst hiq
      rw [sc_eq g3 i (by omega), fillTo_at _ _ _ _ hi, if_pos ⟨by omega, he⟩]
    · rw [sc_ne _ _ _ _ _ _ (Or.inr hiq), g5 i hi, fillTo_at _ _ _ _ hi, fillTo_at _ _ _ _ hi]
      by_cases hlt : i < q
      · simp [hlt, Nat.lt_succ_of_lt hlt]
      · rw [if_neg (by omega), if_neg (by omega)]

theorem CT.keep {w : World} {lo hi : Nat} {v : Value} {vs : List ByteArray} {fs : List Fld} {q : Nat} (h : CT w lo hi v (fillTo vs fs q)) (hq : q < vs.length) (he : (vs.getD q ByteArray.empty).toList.isEmpty = false) : CT w lo hi v (fillTo vs fs (q + 1)) := by
  have e : fillTo vs fs (q + 1) = fillTo vs fs q := by
    unfold fillTo
    apply List.map_congr_left
    intro i hi
    by_cases hiq : i = q
    · subst hiq; rw [if_neg (by rw [he]; simp), if_neg (by omega)]
    · by_cases hlt : i < q
      · simp [hlt, Nat.lt_succ_of_lt hlt]
      · rw [if_neg (by omega), if_neg (by omega)]
  rw [e]; exact h

theorem CT.row {w : World} {lo hi g cap n : Nat} {ss : List ByteArray} (h : CT w lo hi (.slice (some ⟨g, 0, none⟩) n cap) ss) : lo ≤ g ∧ g < hi ∧ OwnBlk w g 9 cap ∧ ss.length ≤ cap ∧ n = ss.length ∧ ∀ i, i < ss.length → w.cell? ⟨g, i, none⟩ = some (.string (ss.getD i ByteArray.empty)) := by
  rcases h with ⟨e, _⟩ | ⟨g', cap', e, g1, g2, g3, g4, g5⟩
  · injection e with e; cases e
  · injection e with e1 e2 e3
    injection e1 with e1
    injection e1 with e1
    subst e1 e3
    exact ⟨g1, g2, g3, g4, e2, g5⟩

set_option maxHeartbeats 2000000 in
theorem shapeOf_in (w0 : World) (B : Nat) (ss : List Shp) (k : ByteArray) (w : World) (h : ShpsIn w0 B ss) (hb0 : Below w0.heap.size w0 w) :
    Calls Tryz.prog 83 #[.slice (some ⟨B, 0, none⟩) ss.length ss.length, .string k] w fun e w' => ∃ kd a n c, e = .returned (.tuple #[.agg #[.string kd, .slice a n c], .bool (hasKind ss k)]) ∧ ShapeOf ss k w0 kd (.slice a n c) ∧ Below w.heap.size w w' := by
  have hl := h.len
  have HH : Hid (ShpsIn w0 B ss) := h
  clear h
  go_enter Tryz.func83, Tryz.ntmps83
  go_wp2
  go_loopw [10] (fun i wr => ∃ q : Nat, q ≤ ss.length ∧ i = .int .i64 q ∧ q ≤ kindAt ss k ∧ Below w.heap.size w wr ∧ OwnBlk wr w.heap.size 99 2) (fun i _ => ss.length - (intOf i).toNat)
  case atStart => exact ⟨0, Nat.zero_le _, rfl, Nat.zero_le _, blw_alloc (Below.refl _ _) _, OwnBlk.alloc w _ 99 _ rfl⟩
  case round =>
    obtain ⟨q, hq, rfl, hno, hW, hO⟩ := hrel
    have HN : Hid (q ≤ kindAt ss k) := hno
    have HO : Hid (OwnBlk wr w.heap.size 99 2) := hO
    have hfz := hO.frozen
    obtain ⟨x0, o0⟩ := hO.cell 0 (by omega)
    obtain ⟨x1, o1⟩ := hO.cell 1 (by omega)
    have hz := hO.lt
    clear hno hO
    by_cases hlt : q < ss.length
    · obtain ⟨b, _, hbl, _, _, d0, d1, hf⟩ := HH.out.at_ q hlt
      have c0 := ((blw_trans hb0 hW).cell (p := ⟨B, q * 2, none⟩) HH.out.lt).trans d0
      have c1 := ((blw_trans hb0 hW).cell (p := ⟨B, q * 2 + 1, none⟩) HH.out.lt).trans d1
      clear d0 d1
      obtain ⟨s, hs⟩ : ∃ s, s = ss.getD q Shp.none := ⟨_, rfl⟩
      rw [← hs] at c0 c1 hf
      cases ht : (s.kind.toList == k.toList)
      · have HM : Hid (q + 1 ≤ kindAt ss k) := kindAt_miss ss k q hlt HN.out (by rw [← hs]; exact ht)
        clear hs hf hbl
        go_wp2
        go_roundw
        case rel => exact ⟨q + 1, by omega, by go_num, HM.out, blw_alloc hW _, HO.out.later (blw_alloc (Below.refl _ _) _)⟩
        case measure => simp [intOf]; omega
      · have HM : Hid (kindAt ss k = q) := kindAt_hit ss k q hlt HN.out (by rw [← hs]; exact ht)
        have HS : Hid (s = ss.getD q Shp.none ∧ b < w0.heap.size ∧ ∀ i, i < s.fields.length → OwnFld w0 b (i * 11) (s.fields.getD i Fld.none)) := ⟨hs, hbl, hf⟩
        have HK : Hid (hasKind ss k = true) := by show hasKind ss k = true; simp [hasKind, HM.out, hlt]
        clear hs hf hbl
        go_wp2
        have e0 : ∀ (x : Value) (o : Obj), (((wr.setCell ⟨w.heap.size, 0, none⟩ (.string s.kind)).setCell ⟨w.heap.size, 1, none⟩ x).alloc o).cell? ⟨w.heap.size, 0, none⟩ = some (.string s.kind) := by
          intro x o
          have h1 := World.cell?_alloc_past (w := (wr.setCell ⟨w.heap.size, 0, none⟩ (.string s.kind)).setCell ⟨w.heap.size, 1, none⟩ x) o w.heap.size 0 (by rw [sc_size, sc_size]; exact hz)
          rw [h1, sc_ne _ _ _ _ _ _ (by omega)]
          exact sc_eq HO.out 0 (by omega) _
        have e1 : ∀ (x : Value) (o : Obj), (((wr.setCell ⟨w.heap.size, 0, none⟩ (.string s.kind)).setCell ⟨w.heap.size, 1, none⟩ x).alloc o).cell? ⟨w.heap.size, 1, none⟩ = some x := by
          intro x o
          have h1 := World.cell?_alloc_past (w := (wr.setCell ⟨w.heap.size, 0, none⟩ (.string s.kind)).setCell ⟨w.heap.size, 1, none⟩ x) o w.heap.size 1 (by rw [sc_size, sc_size]; exact hz)
          rw [h1]
          exact sc_eq (HO.out.setCell 0 _) 1 (by omega) _
        refine bodyPost_ret (v := .tuple #[.agg #[.string s.kind, .slice (some ⟨b, 0, none⟩) s.fields.length s.fields.length], .bool true]) (by simp [results, Tryz.results83, go_sem, e0, e1]) rfl ⟨_, _, _, _, by rw [HK.out], ?_, ?_⟩
        · intro _
          rw [HM.out, ← HS.out.1]
          exact ⟨rfl, b, rfl, HS.out.2.1, HS.out.2.2⟩
        · exact blw_alloc ((hW.setCell (p := ⟨w.heap.size, 0, none⟩) (Nat.le_refl _) _).setCell (p := ⟨w.heap.size, 1, none⟩) (Nat.le_refl _) _) _
    · have HK : Hid (hasKind ss k = false) := by have := HN.out; show hasKind ss k = false; simp [hasKind]; omega
      go_wp2
      have e0 : ∀ (x y : Value), ((wr.setCell ⟨w.heap.size, 0, none⟩ y).setCell ⟨w.heap.size, 1, none⟩ x).cell? ⟨w.heap.size, 0, none⟩ = some y := by
        intro x y
        rw [sc_ne _ _ _ _ _ _ (by omega)]
        exact sc_eq HO.out 0 (by omega) _
      have e1 : ∀ (x y : Value), ((wr.setCell ⟨w.heap.size, 0, none⟩ y).setCell ⟨w.heap.size, 1, none⟩ x).cell? ⟨w.heap.size, 1, none⟩ = some x := by
        intro x y
        exact sc_eq (HO.out.setCell 0 _) 1 (by omega) _
      refine bodyPost_ret (v := .tuple #[.agg #[.string ⟨#[]⟩, .slice none 0 0], .bool false]) (by simp [results, Tryz.results83, go_sem, e0, e1]) rfl ⟨_, _, _, _, by rw [HK.out], ?_, ?_⟩
      · intro h; rw [HK.out] at h; cases h
      · exact (hW.setCell (p := ⟨w.heap.size, 0, none⟩) (Nat.le_refl _) _).setCell (p := ⟨w.heap.size, 1, none⟩) (Nat.le_refl _) _

end Go.Proofs.YtkjkklcflpchlaaGreat

namespace Go.Proofs.YtkjkklcflpchlaaGreat
open Go.RowKit Go.Deep

theorem needs_two (fs : List Fld) (ms : List Mnd) (K : ByteArray) : ∀ x ∈ mngsOf fs ms K, x.needs.length ≤ 2 := by
  intro x hx
  unfold mngsOf at hx
  rw [List.mem_map] at hx
  obtain ⟨m, _, rfl⟩ := hx
  show (needsOf fs m).length ≤ 2
  unfold needsOf
  split <;> split <;> simp

theorem mngs_len (fs : List Fld) (ms : List Mnd) (K : ByteArray) : (mngsOf fs ms K).length ≤ ms.length := by
  rw [← mngsTo_all fs ms K ms.length (Nat.le_refl _)]
  exact mngsTo_len fs ms K ms.length

set_option maxRecDepth 8000 in
set_option maxHeartbeats 8000000 in
theorem mendsOkI (B mb : Nat) (ss : List Shp) (ms : List Mnd) (w : World) (h : ShpsIn w B ss) (hm : MndsIn w mb ms) :
    Calls Tryz.prog 60 #[.slice (some ⟨B, 0, none⟩) ss.length ss.length, .slice (some ⟨mb, 0, none⟩) ms.length ms.length] w fun e w' => e = .returned (.bool (mendsOk ss ms)) ∧ Below w.heap.size w w' := by
  have HA : Hid (ShpsIn w B ss ∧ MndsIn w mb ms) := ⟨h, hm⟩
  have hl := h.len
  have hlm := hm.len
  clear h hm
  go_enter Tryz.func60, Tryz.ntmps60
  go_wp2_with fail
  refine (shapesOkI B ss w HA.out.1).mono ?_
  rintro e w1 ⟨rfl, hb1⟩
  have HB1 : Hid (Below w.heap.size w w1) := hb1
  clear hb1
  cases hok : shapesOk ss
  · have HR : Hid (mendsOk ss ms = false) := by show mendsOk ss ms = false; unfold mendsOk; rw [hok]; rfl
    go_wp2
    go_ret
    exact ⟨Pl.ret_bool HR.out.symm, HB1.out⟩
  have HOK : Hid (shapesOk ss = true) := hok
  clear hok
  by_cases h12 : ms.length ≤ 12
  case neg =>
    have HR : Hid (mendsOk ss ms = false) := by show mendsOk ss ms = false; unfold mendsOk; simp [h12]
    go_wp2
    go_ret
    exact ⟨Pl.ret_bool HR.out.symm, HB1.out⟩
  go_wp2
  go_loopw [23] (fun i wr => ∃ k : Nat, k ≤ ms.length ∧ i = .int .i64 k ∧ mendsTo ss ms k = true ∧ Below w.heap.size w wr) (fun i _ => ms.length - (intOf i).toNat)
  case atStart => exact ⟨0, Nat.zero_le _, rfl, rfl, HB1.out⟩
  case round =>
    obtain ⟨k, hk, rfl, hall, hW⟩ := hrel
    have HM : Hid (mendsTo ss ms k = true) := hall
    have HW : Hid (Below w.heap.size w wr) := hW
    clear hall
    by_cases hlt : k < ms.length
    · have hmk := (HA.out.2.later hW).at_ k hlt
      obtain ⟨m, hmm⟩ : ∃ m, m = ms.getD k Mnd.none := ⟨_, rfl⟩
      rw [← hmm] at hmk
      have hmb : mb < wr.heap.size := (HA.out.2.later hW).lt
      have HZ : Hid m.sized := hmk.sized
      obtain ⟨c0, c1, c2, c3, c4, c5, _⟩ := hmk
      have HS : Hid (mendOk ss m = true → mendsTo ss ms (k + 1) = true) := fun e => mendsTo_step HM.out (by rw [← hmm]; exact e)
      have HF : Hid (mendOk ss m = false → mendsOk ss ms = false) := fun e => mendsOk_m hlt (by rw [← hmm]; exact e)
      have HO : Hid (OwnBlk (wr.alloc (.cells #[.string m.kind, .string m.field, .string m.whn, .string m.is_, .string m.put, .string m.frm] 104)) wr.heap.size 104 6 ∧ MndIs (wr.alloc (.cells #[.string m.kind, .string m.field, .string m.whn, .string m.is_, .string m.put, .string m.frm] 104)) wr.heap.size 0 m) := ⟨OwnBlk.alloc wr _ 104 6 rfl, ⟨by simp, by simp, by simp, by simp, by simp, by simp, HZ.out⟩⟩
      have HBx : Hid (Below w.heap.size w (wr.alloc (.cells #[.string m.kind, .string m.field, .string m.whn, .string m.is_, .string m.put, .string m.frm] 104))) := blw_alloc HW.out _
      clear hmm hW
      go_wp2_with fail
      refine (shapeOf_in w B ss m.kind _ HA.out.1 HBx.out).mono ?_
      rintro e w2 ⟨kd, a, n, c, rfl, hso, hb2⟩
      have HB2 : Hid (Below w.heap.size w w2) := blw_trans HBx.out hb2
      have HO2 : Hid (OwnBlk w2 wr.heap.size 104 6 ∧ MndIs w2 wr.heap.size 0 m) := ⟨HO.out.1.later hb2, HO.out.2.later hb2 HO.out.1.lt⟩
      have HSO : Hid (ShapeOf ss m.kind w kd (.slice a n c)) := hso
      have hz2 := HO2.out.1.lt
      have m0 : w2.cell? ⟨wr.heap.size, 0, none⟩ = some (.string m.kind) := HO2.out.2.c0
      have m1 : w2.cell? ⟨wr.heap.size, 1, none⟩ = some (.string m.field) := HO2.out.2.c1
      have m2 : w2.cell? ⟨wr.heap.size, 2, none⟩ = some (.string m.whn) := HO2.out.2.c2
      have m3 : w2.cell? ⟨wr.heap.size, 3, none⟩ = some (.string m.is_) := HO2.out.2.c3
      have m4 : w2.cell? ⟨wr.heap.size, 4, none⟩ = some (.string m.put) := HO2.out.2.c4
      have m5 : w2.cell? ⟨wr.heap.size, 5, none⟩ = some (.string m.frm) := HO2.out.2.c5
      clear hb2 hso c0 c1 c2 c3 c4 c5 hmb HO HBx
      cases hkd : hasKind ss m.kind
      · have HR : Hid (mendsOk ss ms = false) := HF.out (by unfold mendOk; rw [hkd]; rfl)
        go_wp2
        go_ret
        exact ⟨Pl.ret_bool HR.out.symm, blw_alloc HB2.out _⟩
      obtain ⟨e1, b, e2, hbl, hfs⟩ := HSO.out hkd
      have hkl : kindAt ss m.kind < ss.length := by unfold hasKind at hkd; exact of_decide_eq_true hkd
      obtain ⟨s, hs⟩ : ∃ s, s = ss.getD (kindAt ss m.kind) Shp.none := ⟨_, rfl⟩
      rw [← hs] at e1 e2 hfs
      subst e1
      injection e2 with e2 e3 e4
      subst e2 e3 e4
      have hsm : s.small := HA.out.1.small s (by rw [hs]; simp [hkl])
      have HFI : Hid (FldsIn w b s.fields) := ⟨hbl, hsm.1, hsm.2, hfs⟩
      have HE : Hid (mendOk ss m = mendOkF s.fields m) := by show mendOk ss m = _; unfold mendOk; rw [hkd, ← hs]; rfl
      have hfl := hsm.1
      clear hs hsm hfs hbl hkl HSO
      go_wp2_with fail
      refine (mendOkI b s.fields m _ (HFI.out.later (blw_alloc HB2.out _)) HZ.out).mono ?_
      rintro e w3 ⟨rfl, hb3⟩
      have HB3 : Hid (Below w.heap.size w w3) := blw_trans (blw_alloc HB2.out _) hb3
      clear hb3 m0 m1 m2 m3 m4 m5
      cases hr : mendOkF s.fields m
      · have HR : Hid (mendsOk ss ms = false) := HF.out (by rw [HE.out]; exact hr)
        go_wp2
        go_ret
        exact ⟨Pl.ret_bool HR.out.symm, HB3.out⟩
      · have HR : Hid (mendsTo ss ms (k + 1) = true) := HS.out (by rw [HE.out]; exact hr)
        go_wp2
        go_roundw
        case rel => exact ⟨k + 1, by omega, by go_num, HR.out, HB3.out⟩
        case measure => simp [intOf]; omega
    · obtain rfl : k = ms.length := by omega
      clear hW
      go_wp2
      go_loopw [46] (fun i wr => ∃ q : Nat, q ≤ ss.length ∧ i = .int .i64 q ∧ rowsTo ss ms q = true ∧ Below w.heap.size w wr) (fun i _ => ss.length - (intOf i).toNat)
      case atStart => exact ⟨0, Nat.zero_le _, rfl, rfl, HW.out⟩
      case round =>
        obtain ⟨q, hq, rfl, hrows, hW⟩ := hrel
        rename World => wq
        have HRw : Hid (rowsTo ss ms q = true) := hrows
        have HWq : Hid (Below w.heap.size w wq) := hW
        clear hrows
        by_cases hqn : q < ss.length
        · obtain ⟨s, hs⟩ : ∃ s, s = ss.getD q Shp.none := ⟨_, rfl⟩
          obtain ⟨b, hfl, _, c0, c1⟩ := (HA.out.1.later hW).flds hqn hs
          have HFd : Hid (∀ m ∈ ms, ofKind s.kind m = true → found s.fields m) := by rw [hs]; exact found_of HOK.out HM.out hqn
          have hn6 : s.fields.length ≤ 6 := by rw [hs]; exact fields_few (fieldsOk_of HOK.out hqn)
          have hBl : B < wq.heap.size := (HA.out.1.later hW).lt
          have HS : Hid (shapeRow ms s = true → rowsTo ss ms (q + 1) = true) := fun e => rowsTo_step HRw.out (by rw [← hs]; exact e)
          have HF : Hid (shapeRow ms s = false → mendsOk ss ms = false) := fun e => mendsOk_r hqn (by rw [← hs]; exact e)
          have HX : Hid (∀ W, Below wq.heap.size wq W → wq.heap.size < W.heap.size → W.cell? ⟨wq.heap.size, 0, none⟩ = some (.string s.kind) → W.cell? ⟨wq.heap.size, 1, none⟩ = some (.slice (some ⟨b, 0, none⟩) s.fields.length s.fields.length) → Calls Tryz.prog 86 #[.agg #[.string s.kind, .slice (some ⟨b, 0, none⟩) s.fields.length s.fields.length], .slice (some ⟨mb, 0, none⟩) ms.length ms.length] W fun e w' =>
              (∃ a n c, e = .returned (.slice a n c) ∧ MngsAt w' (.slice a n c) (mngsOf s.fields ms s.kind)) ∧ Below W.heap.size W w' ∧ (w'.cell? ⟨wq.heap.size, 0, none⟩ = some (.string s.kind) ∧ w'.cell? ⟨wq.heap.size, 1, none⟩ = some (.slice (some ⟨b, 0, none⟩) s.fields.length s.fields.length) ∧ wq.heap.size < w'.heap.size)) := by
            intro W hW' hz g0 g1
            refine (mendingsOf s b mb ms W (hfl.later hW') (HA.out.2.later (blw_trans HWq.out hW')) HFd.out).mono ?_
            rintro e w' ⟨⟨a, n, c, rfl, hmo⟩, hb⟩
            exact ⟨⟨_, _, _, rfl, hmo.at_⟩, hb, (hb.cell (p := ⟨wq.heap.size, 0, none⟩) hz).trans g0, (hb.cell (p := ⟨wq.heap.size, 1, none⟩) hz).trans g1, Nat.lt_of_lt_of_le hz hb.size⟩
          have HY : Hid (∀ a n c W, MngsAt W (.slice a n c) (mngsOf s.fields ms s.kind) → Calls Tryz.prog 85 #[.agg #[.string s.kind, .slice (some ⟨b, 0, none⟩) s.fields.length s.fields.length], .slice a n c] W fun e w' => (∃ a k d, e = .returned (.tuple #[.slice a k d, .bool (shapeRow ms s)])) ∧ Below W.heap.size W w') := by
            intro a n c W hmo
            refine (mendRowI s.kind s.fields.length _ _ a n c _ W (by omega) hmo (Nat.le_trans (mngs_len _ _ _) h12) (needs_two _ _ _)).mono ?_
            rintro e w' ⟨⟨a', k', d', rfl, _⟩, hb⟩
            exact ⟨⟨_, _, _, rfl⟩, hb⟩
          have HBx : Hid (Below w.heap.size w (wq.alloc (.cells #[.string s.kind, .slice (some ⟨b, 0, none⟩) s.fields.length s.fields.length] 99))) := blw_alloc HWq.out _
          clear hs hfl hW
          obtain ⟨R, hR⟩ : ∃ R, R = shapeRow ms s := ⟨_, rfl⟩
          rw [← hR] at HY HS HF
          clear hR
          go_upto_region 13 with fail
          go_cut [12] (fun x wx => x = .bool R ∧ Below w.heap.size w wx)
          case first =>
            go_region_with (first
              | (go_at_call 86; refine (HX.out _ ?_ (by simp) (by simp) (by simp)).mono ?_; (repeat (first | exact Below.refl _ _ | refine Below.drew ?_ | refine blw_alloc ?_ _)); rintro e w3 ⟨⟨a3, n3, c3, rfl, hmo⟩, hb3, g0, g1, gz⟩; have HB3 : Hid (Below w.heap.size w w3) := blw_trans (by repeat (first | exact HBx.out | refine Below.drew ?_)) hb3; clear hb3)
              | (go_at_call 85; refine (HY.out _ _ _ _ (MngsAt.later hmo (by repeat (first | exact Below.refl _ _ | refine Below.drew ?_)))).mono ?_; rintro e w4 ⟨⟨a4, n4, c4, rfl⟩, hb4⟩))
            all_goals
              go_wp2_with fail
              go_meet
              refine ⟨rfl, ?_⟩
              repeat (first | exact blw_trans HB3.out hb4 | exact blw_trans HB3.out.drew hb4 | exact blw_trans HB3.out.drew.drew hb4 | refine Below.drew ?_)
          case rest =>
          obtain ⟨rfl, hbx⟩ := hcut
          rename World => w5
          cases R
          · have HR : Hid (mendsOk ss ms = false) := HF.out rfl
            go_wp2
            go_ret
            exact ⟨Pl.ret_bool HR.out.symm, hbx⟩
          · have HR : Hid (rowsTo ss ms (q + 1) = true) := HS.out rfl
            go_wp2
            go_roundw
            case rel => first | exact ⟨q + 1, by omega, by go_num, HR.out, hbx⟩ | ((repeat apply Exists.intro); exact ⟨⟨q + 1, by omega, by go_num, HR.out, hbx⟩, rfl⟩)
            case measure => simp [intOf]; omega
        · obtain rfl : q = ss.length := by omega
          have HR : Hid (mendsOk ss ms = true) := by show mendsOk ss ms = true; unfold mendsOk; rw [HOK.out, HM.out, HRw.out]; simp [h12]
          go_wp2
          go_ret
          exact ⟨Pl.ret_bool HR.out.symm, HWq.out⟩

end Go.Proofs.YtkjkklcflpchlaaGreat

namespace Go.Proofs.YtkjkklcflpchlaaGreat
open Go.RowKit Go.Deep

def lawOk (L : Lw) : Bool := mendsOk L.shapes L.mends && teamsOk L.teams

set_option maxHeartbeats 2000000 in
theorem lawOkS (L : Lw) (a0 a1 a2 : Nat) (w : World) (h : LwIn w a0 a1 a2 L) :
    Calls Tryz.prog 23 #[.agg #[.slice (some ⟨a0, 0, none⟩) L.shapes.length L.shapes.length, .slice (some ⟨a1, 0, none⟩) L.mends.length L.mends.length, .slice (some ⟨a2, 0, none⟩) L.teams.length L.teams.length]] w fun e w' => e = .returned (.bool (lawOk L)) ∧ Below w.heap.size w w' := by
  have HA : Hid (LwIn w a0 a1 a2 L) := h
  clear h
  obtain ⟨wa, hwa⟩ : ∃ wa, wa = w.alloc (.cells #[.slice (some ⟨a0, 0, none⟩) L.shapes.length L.shapes.length, .slice (some ⟨a1, 0, none⟩) L.mends.length L.mends.length, .slice (some ⟨a2, 0, none⟩) L.teams.length L.teams.length] 40) := ⟨_, rfl⟩
  have HBa : Hid (Below w.heap.size w wa) := by show Below _ _ _; rw [hwa]; exact blw_alloc (Below.refl _ _) _
  have HXa : Hid (Box3 wa w.heap.size (.slice (some ⟨a0, 0, none⟩) L.shapes.length L.shapes.length) (.slice (some ⟨a1, 0, none⟩) L.mends.length L.mends.length) (.slice (some ⟨a2, 0, none⟩) L.teams.length L.teams.length)) := by show Box3 _ _ _ _ _; rw [hwa]; exact Box3.new' w _ _ _ _ _ rfl
  obtain ⟨yz, y0, y1, y2⟩ := HXa.out
  go_enter Tryz.func23, Tryz.ntmps23
  go_upto_region 1 with fail
  rw [← hwa]
  clear hwa
  go_wp2_with fail
  refine (mendsOkS a0 a1 L.shapes L.mends wa (HA.out.later HBa.out).s (HA.out.later HBa.out).m).mono ?_
  rintro e wb ⟨rfl, hb⟩
  have HBb : Hid (Below w.heap.size w wb) := blw_trans HBa.out hb
  have HXb : Hid (Box3 wb w.heap.size (.slice (some ⟨a0, 0, none⟩) L.shapes.length L.shapes.length) (.slice (some ⟨a1, 0, none⟩) L.mends.length L.mends.length) (.slice (some ⟨a2, 0, none⟩) L.teams.length L.teams.length)) := HXa.out.later hb
  clear hb yz y0 y1 y2 HXa HBa
  obtain ⟨yz, y0, y1, y2⟩ := HXb.out
  obtain ⟨mb, hmb⟩ : ∃ mb, mb = mendsOk L.shapes L.mends := ⟨_, rfl⟩
  have HM : Hid (mb = mendsOk L.shapes L.mends) := hmb
  rw [← hmb]
  clear hmb
  cases mb
  · have HF : Hid (lawOk L = false) := by show lawOk L = false; unfold lawOk; rw [← HM.out]; rfl
    go_wp2
    go_ret
    exact ⟨by rw [HF.out]; rfl, HBb.out⟩
  go_wp2_with fail
  refine (teamsOkS a2 L.teams wb (HA.out.later HBb.out).t).mono ?_
  rintro e wc ⟨rfl, hb⟩
  have HBc : Hid (Below w.heap.size w wc) := blw_trans HBb.out hb
  clear hb yz y0 y1 y2 HXb
  have HF : Hid (lawOk L = teamsOk L.teams) := by show lawOk L = _; unfold lawOk; rw [← HM.out]; rfl
  obtain ⟨tb, htb⟩ : ∃ tb, tb = teamsOk L.teams := ⟨_, rfl⟩
  rw [← htb] at HF
  rw [← htb]
  clear htb
  go_wp2
  go_ret
  exact ⟨by rw [HF.out]; rfl, HBc.out⟩

set_option maxHeartbeats 2000000 in
theorem lawOkI (L : Lw) (a0 a1 a2 : Nat) (w : World) (h : LwIn w a0 a1 a2 L) :
    Calls Tryz.prog 30 #[.agg #[.slice (some ⟨a0, 0, none⟩) L.shapes.length L.shapes.length, .slice (some ⟨a1, 0, none⟩) L.mends.length L.mends.length, .slice (some ⟨a2, 0, none⟩) L.teams.length L.teams.length]] w fun e w' => e = .returned (.bool (lawOk L)) ∧ Below w.heap.size w w' := by
  have HA : Hid (LwIn w a0 a1 a2 L) := h
  clear h
  obtain ⟨wa, hwa⟩ : ∃ wa, wa = w.alloc (.cells #[.slice (some ⟨a0, 0, none⟩) L.shapes.length L.shapes.length, .slice (some ⟨a1, 0, none⟩) L.mends.length L.mends.length, .slice (some ⟨a2, 0, none⟩) L.teams.length L.teams.length] 40) := ⟨_, rfl⟩
  have HBa : Hid (Below w.heap.size w wa) := by show Below _ _ _; rw [hwa]; exact blw_alloc (Below.refl _ _) _
  have HXa : Hid (Box3 wa w.heap.size (.slice (some ⟨a0, 0, none⟩) L.shapes.length L.shapes.length) (.slice (some ⟨a1, 0, none⟩) L.mends.length L.mends.length) (.slice (some ⟨a2, 0, none⟩) L.teams.length L.teams.length)) := by show Box3 _ _ _ _ _; rw [hwa]; exact Box3.new' w _ _ _ _ _ rfl
  obtain ⟨yz, y0, y1, y2⟩ := HXa.out
  go_enter Tryz.func30, Tryz.ntmps30
  go_upto_region 1 with fail
  rw [← hwa]
  clear hwa
  go_wp2_with fail
  refine (mendsOkI a0 a1 L.shapes L.mends wa (HA.out.later HBa.out).s (HA.out.later HBa.out).m).mono ?_
  rintro e wb ⟨rfl, hb⟩
  have HBb : Hid (Below w.heap.size w wb) := blw_trans HBa.out hb
  have HXb : Hid (Box3 wb w.heap.size (.slice (some ⟨a0, 0, none⟩) L.shapes.length L.shapes.length) (.slice (some ⟨a1, 0, none⟩) L.mends.length L.mends.length) (.slice (some ⟨a2, 0, none⟩) L.teams.length L.teams.length)) := HXa.out.later hb
  clear hb yz y0 y1 y2 HXa HBa
  obtain ⟨yz, y0, y1, y2⟩ := HXb.out
  obtain ⟨mb, hmb⟩ : ∃ mb, mb = mendsOk L.shapes L.mends := ⟨_, rfl⟩
  have HM : Hid (mb = mendsOk L.shapes L.mends) := hmb
  rw [← hmb]
  clear hmb
  cases mb
  · have HF : Hid (lawOk L = false) := by show lawOk L = false; unfold lawOk; rw [← HM.out]; rfl
    go_wp2
    go_ret
    exact ⟨by rw [HF.out]; rfl, HBb.out⟩
  go_wp2_with fail
  refine (teamsOkI a2 L.teams wb (HA.out.later HBb.out).t).mono ?_
  rintro e wc ⟨rfl, hb⟩
  have HBc : Hid (Below w.heap.size w wc) := blw_trans HBb.out hb
  clear hb yz y0 y1 y2 HXb
  have HF : Hid (lawOk L = teamsOk L.teams) := by show lawOk L = _; unfold lawOk; rw [← HM.out]; rfl
  obtain ⟨tb, htb⟩ : ∃ tb, tb = teamsOk L.teams := ⟨_, rfl⟩
  rw [← htb] at HF
  rw [← htb]
  clear htb
  go_wp2
  go_ret
  exact ⟨by rw [HF.out]; rfl, HBc.out⟩

end Go.Proofs.YtkjkklcflpchlaaGreat
