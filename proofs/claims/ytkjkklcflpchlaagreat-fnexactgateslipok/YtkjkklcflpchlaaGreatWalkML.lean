/-
  Walks: a mend that is ok: the specification.
-/
import Derived.Deep.DeepCutAuto
import Derived.Deep.RegionWith
import Derived.Test.YtkjkklcflpchlaaGreatMemM
import Derived.Test.YtkjkklcflpchlaaGreatWalkV
import Derived.Test.YtkjkklcflpchlaaGreatWalkS
import Derived.Test.YtkjkklcflpchlaaGreatWalkJ
namespace Go.Proofs.YtkjkklcflpchlaaGreat
open Go.RowKit Go.Deep

theorem isName_same (s : ByteArray) (w : World) (hs : s.size ≤ maxLen) :
    Calls Tryz.prog 62 #[.string s] w fun e w' => e = .returned (.bool (Pl.nameOk s)) ∧ w' = w := (isName_any s w hs).mono fun _ _ h => ⟨h.1, h.2.symm⟩

theorem fieldsOk_false {ss : List Shp} {fs : List Fld} {k : Nat} (hk : k < fs.length) (h : fieldAt ss fs k = false) : fieldsOk ss fs = false := by
  unfold fieldsOk fieldsTo; rw [Pl.to_false _ _ k hk h]; simp
theorem fieldsTo_step {ss : List Shp} {fs : List Fld} {k : Nat} (h : fieldsTo ss fs k = true) (ha : fieldAt ss fs k = true) : fieldsTo ss fs (k + 1) = true := by
  unfold fieldsTo at h ⊢; rw [Pl.to_succ, h, ha]; rfl

set_option maxHeartbeats 4000000 in
theorem fieldsOkI (B C : Nat) (ss : List Shp) (fs : List Fld) (w : World) (h : ShpsIn w B ss) (hf : FldsIn w C fs) :
    Calls Tryz.prog 102 #[.slice (some ⟨B, 0, none⟩) ss.length ss.length, .slice (some ⟨C, 0, none⟩) fs.length fs.length] w fun e w' => e = .returned (.bool (fieldsOk ss fs)) ∧ Below w.heap.size w w' := by
  have HS : Hid (ShpsIn w B ss) := h
  have HF : Hid (FldsIn w C fs) := hf
  have hl := hf.len
  clear h hf
  by_cases h6 : fs.length ≤ 6
  case neg =>
    have HR : Hid (fieldsOk ss fs = false) := by show fieldsOk ss fs = _; simp [fieldsOk, h6]
    go_enter Tryz.func102, Tryz.ntmps102
    go_wp2
    go_ret
    exact ⟨Pl.ret_bool HR.out.symm, Below.refl _ _⟩
  go_enter Tryz.func102, Tryz.ntmps102
  go_wp2
  go_loopw [12] (fun i wr => ∃ k : Nat, k ≤ fs.length ∧ i = .int .i64 k ∧ fieldsTo ss fs k = true ∧ Below w.heap.size w wr) (fun i _ => fs.length - (intOf i).toNat)
  case atStart => exact ⟨0, Nat.zero_le _, rfl, rfl, Below.refl _ _⟩
  case round =>
    obtain ⟨k, hk, rfl, hall, hW⟩ := hrel
    have HA : Hid (fieldsTo ss fs k = true) := hall
    clear hall
    by_cases hlt : k < fs.length
    · obtain ⟨f, hff⟩ : ∃ f, f = fs.getD k Fld.none := ⟨_, rfl⟩
      obtain ⟨b, hfa, hfi⟩ := (HF.out.later hW).arg hlt hff
      have HFA : Hid (FldArg wr b f) := hfa
      obtain ⟨c0, c1, c2, c3, c4, c5, c6, c7, c8, c9, c10, _, _⟩ := hfi
      have HN : Hid (f.nm.size ≤ maxLen) := hfa.sized.1
      have HT : Hid (fieldAt ss fs k = (Pl.nameOk f.nm && fieldOk ss f && !decide (nameAt fs f.nm < k))) := by
        show fieldAt ss fs k = _
        rw [fieldAt, twice_eq fs k hlt, ← hff]
      have HLe : Hid (nameAt fs f.nm ≤ k) := by show nameAt fs f.nm ≤ k; rw [hff]; exact nameAt_le fs k hlt
      have HP : Hid (∀ W, Below wr.heap.size wr W → Calls Tryz.prog 115 #[.slice (some ⟨C, 0, none⟩) fs.length fs.length, .string f.nm] W fun e w' => e = .returned (.int .i64 (nameAt fs f.nm : Int)) ∧ Below W.heap.size W w') := by
        intro W h1
        refine (fieldPlace C fs f.nm W ((HF.out.later hW).later h1)).mono ?_
        rintro e w' ⟨⟨r, rfl, hr⟩, hb⟩
        rw [if_pos (Nat.lt_of_le_of_lt HLe.out hlt)] at hr
        rw [hr]
        exact ⟨rfl, hb⟩
      have HK : Hid (∀ W, Below wr.heap.size wr W → Calls Tryz.prog 116 #[.slice (some ⟨B, 0, none⟩) ss.length ss.length, .agg #[.string f.nm, .int .i64 f.kind, .int .i64 f.least, .int .i64 f.most, .slice (some ⟨b, 0, none⟩) f.words.length f.words.length, .string f.to, .int .i64 f.role, .bool f.must, .bool f.fixed, .string f.de, .string f.we]] W fun e w' => e = .returned (.bool (fieldOk ss f)) ∧ Below W.heap.size W w') :=
        fun W h1 => fieldOkI f b B ss W ((HS.out.later hW).later h1) (HFA.out.later h1)
      clear hff hfa
      cases hnm : Pl.nameOk f.nm
      · have HR : Hid (fieldsOk ss fs = false) := fieldsOk_false hlt (by rw [HT.out, hnm]; rfl)
        go_wp2_with (go_at_call 62; refine (isName_any _ _ HN.out).mono ?_; rintro e w' ⟨rfl, rfl⟩)
        go_ret
        exact ⟨Pl.ret_bool HR.out.symm, blw_alloc hW _⟩
      · have hbx : Below wr.heap.size wr (wr.alloc (.cells #[.string f.nm, .int .i64 f.kind, .int .i64 f.least, .int .i64 f.most, .slice (some ⟨b, 0, none⟩) f.words.length f.words.length, .string f.to, .int .i64 f.role, .bool f.must, .bool f.fixed, .string f.de, .string f.we] 160)) := blw_alloc (Below.refl _ _) _
        go_wp2_with (first | (go_at_call 62; refine (isName_any _ _ HN.out).mono ?_; rintro e w' ⟨rfl, rfl⟩) | fail)
        refine (HP.out _ hbx).mono ?_
        rintro e w2 ⟨rfl, hb2⟩
        have hB2 := blw_trans hbx hb2
        have k2 : ∀ o, w2.cell? ⟨wr.heap.size, o, none⟩ = (wr.alloc (.cells #[.string f.nm, .int .i64 f.kind, .int .i64 f.least, .int .i64 f.most, .slice (some ⟨b, 0, none⟩) f.words.length f.words.length, .string f.to, .int .i64 f.role, .bool f.must, .bool f.fixed, .string f.de, .string f.we] 160)).cell? ⟨wr.heap.size, o, none⟩ := fun o => hb2.cell (p := ⟨wr.heap.size, o, none⟩) (by simp)
        clear hb2 c0 c1 c2 c3 c4 c5 c6 c7 c8 c9 c10 HP hbx
        by_cases htw : nameAt fs f.nm < k
        · have HR : Hid (fieldsOk ss fs = false) := fieldsOk_false hlt (by rw [HT.out]; simp [htw])
          go_wp2
          go_ret
          exact ⟨Pl.ret_bool HR.out.symm, blw_trans hW hB2⟩
        · have hni : ¬ (nameAt fs f.nm : Int) < (k : Int) := by omega
          have HT2 : Hid (fieldAt ss fs k = fieldOk ss f) := by show fieldAt ss fs k = _; rw [HT.out, hnm]; simp [htw]
          go_wp2_with fail
          refine (HK.out _ hB2).mono ?_
          rintro e w3 ⟨rfl, hb3⟩
          have hB3 := blw_trans hW (blw_trans hB2 hb3)
          clear hb3 k2 hB2 HK htw
          cases hok : fieldOk ss f
          · have HR : Hid (fieldsOk ss fs = false) := fieldsOk_false hlt (by rw [HT2.out, hok])
            go_wp2
            go_ret
            exact ⟨Pl.ret_bool HR.out.symm, hB3⟩
          · have HR : Hid (fieldsTo ss fs (k + 1) = true) := fieldsTo_step HA.out (by rw [HT2.out, hok])
            go_wp2
            go_roundw
            case rel => exact ⟨k + 1, by omega, by go_num, HR.out, hB3⟩
            case measure => simp [intOf]; omega
    · have HR : Hid (fieldsOk ss fs = true) := by
        obtain rfl : k = fs.length := by omega
        show fieldsOk ss fs = true
        rw [fieldsOk, HA.out]; simp [h6]
      go_wp2
      go_ret
      exact ⟨Pl.ret_bool HR.out.symm, hW⟩

end Go.Proofs.YtkjkklcflpchlaaGreat

namespace Go.Proofs.YtkjkklcflpchlaaGreat
open Go.RowKit Go.Deep

theorem shapesOk_false {ss : List Shp} {k : Nat} (hk : k < ss.length) (h : shapeAt ss k = false) : shapesOk ss = false := by
  unfold shapesOk shapesTo; rw [Pl.to_false _ _ k hk h]; simp
theorem shapesTo_step {ss : List Shp} {k : Nat} (h : shapesTo ss k = true) (ha : shapeAt ss k = true) : shapesTo ss (k + 1) = true := by
  unfold shapesTo at h ⊢; rw [Pl.to_succ, h, ha]; rfl

theorem ShpsIn.flds {w : World} {B : Nat} {ss : List Shp} (h : ShpsIn w B ss) {i : Nat} (hi : i < ss.length) {s : Shp} (hs : s = ss.getD i Shp.none) :
    ∃ b, FldsIn w b s.fields ∧ s.kind.size ≤ maxLen ∧ w.cell? ⟨B, i * 2, none⟩ = some (.string s.kind) ∧ w.cell? ⟨B, i * 2 + 1, none⟩ = some (.slice (some ⟨b, 0, none⟩) s.fields.length s.fields.length) := by
  obtain ⟨b, h1, h2, h3, h4, h5, h6, h7⟩ := h.at_ i hi
  rw [← hs] at h3 h4 h5 h6 h7
  have hm : s.small := h.small s (by rw [hs]; simp [hi])
  exact ⟨b, ⟨h2, h3, hm.2, h7⟩, h4, h5, h6⟩

set_option maxHeartbeats 4000000 in
theorem shapesOkI (B : Nat) (ss : List Shp) (w : World) (h : ShpsIn w B ss) :
    Calls Tryz.prog 82 #[.slice (some ⟨B, 0, none⟩) ss.length ss.length] w fun e w' => e = .returned (.bool (shapesOk ss)) ∧ Below w.heap.size w w' := by
  have HS : Hid (ShpsIn w B ss) := h
  have hl := h.len
  clear h
  by_cases h6 : ss.length ≤ 6
  case neg =>
    have HR : Hid (shapesOk ss = false) := by show shapesOk ss = _; simp [shapesOk, h6]
    go_enter Tryz.func82, Tryz.ntmps82
    go_wp2
    go_ret
    exact ⟨Pl.ret_bool HR.out.symm, Below.refl _ _⟩
  go_enter Tryz.func82, Tryz.ntmps82
  go_wp2
  go_loopw [10] (fun i wr => ∃ k : Nat, k ≤ ss.length ∧ i = .int .i64 k ∧ shapesTo ss k = true ∧ Below w.heap.size w wr) (fun i _ => ss.length - (intOf i).toNat)
  case atStart => exact ⟨0, Nat.zero_le _, rfl, rfl, Below.refl _ _⟩
  case round =>
    obtain ⟨k, hk, rfl, hall, hW⟩ := hrel
    have HA : Hid (shapesTo ss k = true) := hall
    clear hall
    by_cases hlt : k < ss.length
    · obtain ⟨s, hss⟩ : ∃ s, s = ss.getD k Shp.none := ⟨_, rfl⟩
      obtain ⟨b, hfs, hkz, c0, c1⟩ := (HS.out.later hW).flds hlt hss
      have HN : Hid (s.kind.size ≤ maxLen) := hkz
      have HFo : Hid (∀ W, Below wr.heap.size wr W → Calls Tryz.prog 102 #[.slice (some ⟨B, 0, none⟩) ss.length ss.length, .slice (some ⟨b, 0, none⟩) s.fields.length s.fields.length] W fun e w' => e = .returned (.bool (fieldsOk ss s.fields)) ∧ Below W.heap.size W w') :=
        fun W h1 => fieldsOkI B b ss s.fields W ((HS.out.later hW).later h1) (hfs.later h1)
      clear hkz hfs
      have hbx : Below wr.heap.size wr (wr.alloc (.cells #[.string s.kind, .slice (some ⟨b, 0, none⟩) s.fields.length s.fields.length] 99)) := blw_alloc (Below.refl _ _) _
      by_cases h0 : k = 0
      · subst h0
        have HT : Hid (shapeAt ss 0 = (Pl.nameOk s.kind && fieldsOk ss s.fields)) := by show shapeAt ss 0 = _; rw [hss]; simp [shapeAt]
        clear hss
        cases hn : Pl.nameOk s.kind
        · have HR : Hid (shapesOk ss = false) := shapesOk_false hlt (by rw [HT.out, hn]; rfl)
          go_wp2_with fail
          go_quiet ((go_at_call 62; exact Calls.quiet_of_same (isName_same _ _ HN.out)))
          go_wp2
          go_ret
          exact ⟨Pl.ret_bool HR.out.symm, blw_drewN (blw_trans hW hbx) _⟩
        · go_wp2_with fail
          go_quiet ((go_at_call 62; exact Calls.quiet_of_same (isName_same _ _ HN.out)))
          go_wp2_with fail
          refine (HFo.out _ (blw_drewN hbx _)).mono ?_
          rintro e w3 ⟨rfl, hb3⟩
          have hB3 := blw_trans hW (blw_trans (blw_drewN hbx _) hb3)
          clear hb3 hbx HFo c0 c1
          cases hok : fieldsOk ss s.fields
          · have HR : Hid (shapesOk ss = false) := shapesOk_false hlt (by rw [HT.out, hok]; simp)
            go_wp2
            go_ret
            exact ⟨Pl.ret_bool HR.out.symm, hB3⟩
          · have HR : Hid (shapesTo ss (0 + 1) = true) := shapesTo_step HA.out (by rw [HT.out, hn, hok]; rfl)
            go_wp2
            go_roundw
            case rel => exact ⟨0 + 1, by omega, by go_num, HR.out, hB3⟩
            case measure => simp [intOf]; omega
      · obtain ⟨m, rfl⟩ : ∃ m, k = m + 1 := ⟨k - 1, by omega⟩
        obtain ⟨p, hpp⟩ : ∃ p, p = ss.getD m Shp.none := ⟨_, rfl⟩
        obtain ⟨b', _, _, d0, _⟩ := (HS.out.later hW).flds (by omega : m < ss.length) hpp
        have HT : Hid (shapeAt ss (m + 1) = (Pl.nameOk s.kind && Op.bytesLess p.kind.toList s.kind.toList && fieldsOk ss s.fields)) := by show shapeAt ss (m + 1) = _; rw [hss, hpp]; simp [shapeAt, Pl.less]
        have HBl : Hid (B < wr.heap.size) := Nat.lt_of_lt_of_le HS.out.lt hW.size
        have hBl : B < wr.heap.size := HBl.out
        clear hss hpp h0
        cases hn : Pl.nameOk s.kind
        · have HR : Hid (shapesOk ss = false) := shapesOk_false hlt (by rw [HT.out, hn]; rfl)
          go_wp2_with fail
          go_quiet ((go_at_call 62; exact Calls.quiet_of_same (isName_same _ _ HN.out)))
          go_wp2
          go_ret
          exact ⟨Pl.ret_bool HR.out.symm, blw_drewN (blw_trans hW hbx) _⟩
        · cases hq : Op.bytesLess p.kind.toList s.kind.toList
          · have HR : Hid (shapesOk ss = false) := shapesOk_false hlt (by rw [HT.out, hn, hq]; rfl)
            go_wp2_with fail
            go_quiet ((go_at_call 62; exact Calls.quiet_of_same (isName_same _ _ HN.out)))
            go_wp2
            go_ret
            exact ⟨Pl.ret_bool HR.out.symm, blw_drewN (blw_trans hW hbx) _⟩
          · go_wp2_with fail
            go_quiet ((go_at_call 62; exact Calls.quiet_of_same (isName_same _ _ HN.out)))
            go_wp2_with fail
            refine (HFo.out _ (blw_drewN hbx _)).mono ?_
            rintro e w3 ⟨rfl, hb3⟩
            have hB3 := blw_trans hW (blw_trans (blw_drewN hbx _) hb3)
            clear hb3 hbx HFo c0 c1 d0
            cases hok : fieldsOk ss s.fields
            · have HR : Hid (shapesOk ss = false) := shapesOk_false hlt (by rw [HT.out, hok]; simp)
              go_wp2
              go_ret
              exact ⟨Pl.ret_bool HR.out.symm, hB3⟩
            · have HR : Hid (shapesTo ss (m + 1 + 1) = true) := shapesTo_step HA.out (by rw [HT.out, hn, hq, hok]; rfl)
              go_wp2
              go_roundw
              case rel => exact ⟨m + 1 + 1, by omega, by go_num, HR.out, hB3⟩
              case measure => simp [intOf]; omega
    · have HR : Hid (shapesOk ss = true) := by
        obtain rfl : k = ss.length := by omega
        show shapesOk ss = true
        rw [shapesOk, HA.out]; simp [h6]
      go_wp2
      go_ret
      exact ⟨Pl.ret_bool HR.out.symm, hW⟩

end Go.Proofs.YtkjkklcflpchlaaGreat

namespace Go.Proofs.YtkjkklcflpchlaaGreat
open Go.RowKit Go.Deep

def plainAt (fs : List Fld) (k : ByteArray) : Bool := decide (nameAt fs k < fs.length) && !decide ((fs.getD (nameAt fs k) Fld.none).kind = 4)
def readOk (fs : List Fld) (f r : ByteArray) : Bool := Pl.isEmp r || (!(r.toList == f.toList) && plainAt fs r)
def badM (m : Mnd) : Bool := (Pl.isEmp m.whn && !Pl.isEmp m.is_) || (Pl.isEmp m.put == Pl.isEmp m.frm)
def mendOkF (fs : List Fld) (m : Mnd) : Bool := plainAt fs m.field && !badM m && readOk fs m.field m.whn && readOk fs m.field m.frm && (Pl.isEmp m.put || fitB (fs.getD (nameAt fs m.field) Fld.none) m.put)

set_option maxHeartbeats 1000000 in
theorem mendable (B : Nat) (fs : List Fld) (k : ByteArray) (w : World) (h : FldsIn w B fs) :
    Calls Tryz.prog 103 #[.slice (some ⟨B, 0, none⟩) fs.length fs.length, .string k] w fun e w' => (∃ r : Int, e = .returned (.int .i64 r) ∧ r = (if plainAt fs k = true then (nameAt fs k : Int) else -1)) ∧ Below w.heap.size w w' := by
  have HH : Hid (FldsIn w B fs) := h
  have hl := h.len
  obtain ⟨R, hR⟩ : ∃ R : Int, R = (if plainAt fs k = true then (nameAt fs k : Int) else -1) := ⟨_, rfl⟩
  rw [← hR]
  have HR : Hid (R = (if plainAt fs k = true then (nameAt fs k : Int) else -1)) := hR
  clear h hR
  go_enter Tryz.func103, Tryz.ntmps103
  go_wp2_with fail
  refine (fieldPlace B fs k w HH.out).mono ?_
  rintro e w2 ⟨⟨r, rfl, hr⟩, hb2⟩
  by_cases hq : nameAt fs k < fs.length
  · rw [if_pos hq] at hr
    subst hr
    obtain ⟨q, hqq⟩ : ∃ q, q = nameAt fs k := ⟨_, rfl⟩
    obtain ⟨f, hf⟩ : ∃ f, f = fs.getD q Fld.none := ⟨_, rfl⟩
    rw [← hqq] at hq ⊢
    obtain ⟨b, _, hfi⟩ := (HH.out.later hb2).arg hq hf
    have c1 := hfi.c1
    have hB : B < w2.heap.size := (HH.out.later hb2).lt
    have HF : Hid (plainAt fs k = !decide (f.kind = 4)) := by show plainAt fs k = _; unfold plainAt; rw [← hqq, ← hf]; simp [hq]
    have HQ : Hid (q = nameAt fs k) := hqq
    clear hfi hf hqq
    by_cases h4 : f.kind = 4
    · have HP : Hid (plainAt fs k = false) := by show plainAt fs k = false; rw [HF.out]; simp [h4]
      go_wp2
      go_ret
      exact ⟨⟨_, rfl, by rw [HR.out, HP.out]; rfl⟩, hb2⟩
    · have HP : Hid (plainAt fs k = true) := by show plainAt fs k = true; rw [HF.out]; simp [h4]
      go_wp2
      go_ret
      exact ⟨⟨_, rfl, by rw [HR.out, HP.out, if_pos rfl, HQ.out]⟩, hb2⟩
  · rw [if_neg hq] at hr
    subst hr
    have HP : Hid (plainAt fs k = false) := by show plainAt fs k = false; unfold plainAt; simp [hq]
    go_wp2
    go_ret
    exact ⟨⟨_, rfl, by rw [HR.out, HP.out]; rfl⟩, hb2⟩

theorem plain_lt {fs : List Fld} {k : ByteArray} (h : plainAt fs k = true) : nameAt fs k < fs.length := by
  unfold plainAt at h
  have := (Bool.and_eq_true _ _).mp h
  exact of_decide_eq_true this.1

theorem implFitsF (f : Fld) (b : Nat) (v : ByteArray) (w : World) (hv : v.size ≤ maxLen) (h : FldArg w b f) :
    Calls Tryz.prog 104 #[.agg #[.string f.nm, .int .i64 f.kind, .int .i64 f.least, .int .i64 f.most, .slice (some ⟨b, 0, none⟩) f.words.length f.words.length, .string f.to, .int .i64 f.role, .bool f.must, .bool f.fixed, .string f.de, .string f.we], .string v] w
      fun e w' => e = .returned (.bool (fitB f v)) ∧ Below w.heap.size w w' :=
  implFits_any f.nm f.kind f.least f.most b 0 _ f.to f.role f.must f.fixed f.de f.we v f.words w hv h.lt (by have := h.small; unfold Fld.small at this; unfold maxLen; omega) h.cells

set_option maxRecDepth 8000 in
set_option maxHeartbeats 4000000 in
theorem mendOkI (B : Nat) (fs : List Fld) (m : Mnd) (w : World) (h : FldsIn w B fs) (hm : m.sized) :
    Calls Tryz.prog 84 #[.slice (some ⟨B, 0, none⟩) fs.length fs.length, .agg #[.string m.kind, .string m.field, .string m.whn, .string m.is_, .string m.put, .string m.frm]] w fun e w' => e = .returned (.bool (mendOkF fs m)) ∧ Below w.heap.size w w' := by
  have HH : Hid (FldsIn w B fs ∧ m.sized) := ⟨h, hm⟩
  have hl := h.len
  clear h hm
  have HB0 : Hid (Below w.heap.size w (w.alloc (.cells #[.string m.kind, .string m.field, .string m.whn, .string m.is_, .string m.put, .string m.frm] 104))) := blw_alloc (Below.refl _ _) _
  have HM0 : Hid (MndIs (w.alloc (.cells #[.string m.kind, .string m.field, .string m.whn, .string m.is_, .string m.put, .string m.frm] 104)) w.heap.size 0 m ∧ OwnBlk (w.alloc (.cells #[.string m.kind, .string m.field, .string m.whn, .string m.is_, .string m.put, .string m.frm] 104)) w.heap.size 104 6) := ⟨⟨by simp, by simp, by simp, by simp, by simp, by simp, HH.out.2⟩, OwnBlk.alloc w _ 104 6 rfl⟩
  go_enter Tryz.func84, Tryz.ntmps84
  go_wp2_with fail
  refine (mendable B fs m.field _ (HH.out.1.later HB0.out)).mono ?_
  rintro e w1 ⟨⟨r, rfl, hr⟩, hb1⟩
  have HB1 : Hid (Below w.heap.size w w1) := blw_trans HB0.out hb1
  have HM1 : Hid (MndIs w1 w.heap.size 0 m ∧ w.heap.size < w1.heap.size) := ⟨HM0.out.1.later hb1 HM0.out.2.lt, Nat.lt_of_lt_of_le HM0.out.2.lt hb1.size⟩
  have hz1 := HM1.out.2
  have m1 : w1.cell? ⟨w.heap.size, 1, none⟩ = some (.string m.field) := HM1.out.1.c1
  have m2 : w1.cell? ⟨w.heap.size, 2, none⟩ = some (.string m.whn) := HM1.out.1.c2
  have m3 : w1.cell? ⟨w.heap.size, 3, none⟩ = some (.string m.is_) := HM1.out.1.c3
  have m4 : w1.cell? ⟨w.heap.size, 4, none⟩ = some (.string m.put) := HM1.out.1.c4
  have m5 : w1.cell? ⟨w.heap.size, 5, none⟩ = some (.string m.frm) := HM1.out.1.c5
  clear hb1 HB0 HM0
  cases hpl : plainAt fs m.field
  · have HR : Hid (mendOkF fs m = false) := by show mendOkF fs m = false; unfold mendOkF; rw [hpl]; rfl
    rw [hpl, if_neg (by decide)] at hr
    subst hr
    go_wp2
    go_ret
    exact ⟨Pl.ret_bool HR.out.symm, HB1.out⟩
  rw [hpl, if_pos rfl] at hr
  subst hr
  have hq := plain_lt hpl
  obtain ⟨q, hqq⟩ : ∃ q, q = nameAt fs m.field := ⟨_, rfl⟩
  rw [← hqq] at hq ⊢
  have HQ : Hid (q = nameAt fs m.field ∧ plainAt fs m.field = true) := ⟨hqq, hpl⟩
  clear hqq hpl
  go_upto_region 2 with fail
  go_cut [32] (fun s wx => s = .bool (badM m) ∧ wx = w1)
  case first =>
    have HBd : Hid (badM m = ((m.whn.toList.isEmpty && !m.is_.toList.isEmpty) || (m.put.toList.isEmpty == m.frm.toList.isEmpty))) := rfl
    cases h2 : m.whn.toList.isEmpty <;> cases h3 : m.is_.toList.isEmpty <;> cases h4 : m.put.toList.isEmpty <;> cases h5 : m.frm.toList.isEmpty
    all_goals
      go_wp2_with fail
      go_meet
      exact ⟨by rw [HBd.out, h2, h3, h4, h5]; rfl, rfl⟩
  case rest =>
  obtain ⟨rfl, hwc⟩ := hcut
  subst hwc
  rename World => w1
  cases hbd : badM m
  case true =>
    have HR : Hid (mendOkF fs m = false) := by show mendOkF fs m = false; unfold mendOkF; rw [hbd]; simp
    go_wp2
    go_ret
    exact ⟨Pl.ret_bool HR.out.symm, HB1.out⟩
  have HBD : Hid (badM m = false) := hbd
  clear hbd
  go_wp2
  obtain ⟨wl, hwl⟩ : ∃ wl, wl = w1.alloc (.cells #[.string m.whn, .string m.frm] 9) := ⟨_, rfl⟩
  have HSl : Hid (w1.heap.size < wl.heap.size ∧ wl.cell? ⟨w1.heap.size, 0, none⟩ = some (.string m.whn) ∧ wl.cell? ⟨w1.heap.size, 1, none⟩ = some (.string m.frm)) := by
    show _ ∧ _ ∧ _
    rw [hwl]; exact ⟨by simp, by simp, by simp⟩
  have hb1l : Below w1.heap.size w1 wl := by rw [hwl]; exact blw_alloc (Below.refl _ _) _
  have HBl : Hid (Below w.heap.size w wl) := blw_trans HB1.out hb1l
  have HMl : Hid (MndIs wl w.heap.size 0 m ∧ w.heap.size < wl.heap.size) := ⟨HM1.out.1.later hb1l HM1.out.2, Nat.lt_of_lt_of_le HM1.out.2 hb1l.size⟩
  rw [← hwl]
  clear hwl hb1l m1 m2 m3 m4 m5 HM1
  go_loopw [39] (fun i wr => ∃ k : Nat, k ≤ 2 ∧ i = .int .i64 k ∧ Below wl.heap.size wl wr ∧ (1 ≤ k → readOk fs m.field m.whn = true) ∧ (2 ≤ k → readOk fs m.field m.frm = true)) (fun i _ => 2 - (intOf i).toNat)
  case atStart => exact ⟨0, by omega, rfl, Below.refl _ _, fun h => by omega, fun h => by omega⟩
  case round =>
    obtain ⟨k, hk, rfl, hW, hr1, hr2⟩ := hrel
    have HWl : Hid (Below wl.heap.size wl wr) := hW
    have HWr : Hid (Below w.heap.size w wr) := blw_trans HBl.out hW
    have HRs : Hid ((1 ≤ k → readOk fs m.field m.whn = true) ∧ (2 ≤ k → readOk fs m.field m.frm = true)) := ⟨hr1, hr2⟩
    have t0 := (hW.cell (p := ⟨w1.heap.size, 0, none⟩) HSl.out.1).trans HSl.out.2.1
    have t1 := (hW.cell (p := ⟨w1.heap.size, 1, none⟩) HSl.out.1).trans HSl.out.2.2
    have hzl : w1.heap.size < wr.heap.size := Nat.lt_of_lt_of_le HSl.out.1 hW.size
    have hzr : w.heap.size < wr.heap.size := Nat.lt_of_lt_of_le HMl.out.2 hW.size
    have n1 : wr.cell? ⟨w.heap.size, 1, none⟩ = some (.string m.field) := (HMl.out.1.later hW HMl.out.2).c1
    clear hr1 hr2
    by_cases k0 : k = 0
    · subst k0
      have RX : Hid (readOk fs m.field m.whn = (m.whn.toList.isEmpty || (!(m.whn.toList == m.field.toList) && plainAt fs m.whn))) := rfl
      cases he : m.whn.toList.isEmpty
      · cases hq2 : (m.whn.toList == m.field.toList)
        · have HX : Hid (Calls Tryz.prog 103 #[.slice (some ⟨B, 0, none⟩) fs.length fs.length, .string m.whn] wr fun e w' => (∃ r : Int, e = .returned (.int .i64 r) ∧ r = (if plainAt fs m.whn = true then (nameAt fs m.whn : Int) else -1)) ∧ Below wr.heap.size wr w') := mendable B fs m.whn wr (HH.out.1.later HWr.out)
          go_wp2_with fail
          refine HX.out.mono ?_
          rintro e w3 ⟨⟨r, rfl, hr⟩, hb3⟩
          have HB3 : Hid (Below wl.heap.size wl w3) := blw_trans HWl.out hb3
          clear hb3 HX t0 t1 n1 hzr hzl
          cases hpl : plainAt fs m.whn
          · rw [hpl, if_neg (by decide)] at hr
            subst hr
            have HR : Hid (mendOkF fs m = false) := by show mendOkF fs m = false; unfold mendOkF; rw [RX.out, he, hq2, hpl]; simp
            go_wp2
            go_ret
            exact ⟨Pl.ret_bool HR.out.symm, blw_trans HBl.out HB3.out⟩
          · rw [hpl, if_pos rfl] at hr
            subst hr
            have HN : Hid (readOk fs m.field m.whn = true) := by show readOk fs m.field m.whn = true; rw [RX.out, he, hq2, hpl]; rfl
            go_wp2
            go_roundw
            case rel => exact ⟨0 + 1, by omega, by go_num, HB3.out, fun _ => HN.out, fun h => by omega⟩
            case measure => simp [intOf]
        · have HR : Hid (mendOkF fs m = false) := by show mendOkF fs m = false; unfold mendOkF; rw [RX.out, he, hq2]; simp
          go_wp2
          go_ret
          exact ⟨Pl.ret_bool HR.out.symm, HWr.out⟩
      · have HN : Hid (readOk fs m.field m.whn = true) := by show readOk fs m.field m.whn = true; rw [RX.out, he]; rfl
        go_wp2
        go_roundw
        case rel => exact ⟨0 + 1, by omega, by go_num, HWl.out, fun _ => HN.out, fun h => by omega⟩
        case measure => simp [intOf]
    by_cases k1 : k = 1
    · subst k1
      have RX : Hid (readOk fs m.field m.frm = (m.frm.toList.isEmpty || (!(m.frm.toList == m.field.toList) && plainAt fs m.frm))) := rfl
      cases he : m.frm.toList.isEmpty
      · cases hq2 : (m.frm.toList == m.field.toList)
        · have HX : Hid (Calls Tryz.prog 103 #[.slice (some ⟨B, 0, none⟩) fs.length fs.length, .string m.frm] wr fun e w' => (∃ r : Int, e = .returned (.int .i64 r) ∧ r = (if plainAt fs m.frm = true then (nameAt fs m.frm : Int) else -1)) ∧ Below wr.heap.size wr w') := mendable B fs m.frm wr (HH.out.1.later HWr.out)
          go_wp2_with fail
          refine HX.out.mono ?_
          rintro e w3 ⟨⟨r, rfl, hr⟩, hb3⟩
          have HB3 : Hid (Below wl.heap.size wl w3) := blw_trans HWl.out hb3
          clear hb3 HX t0 t1 n1 hzr hzl
          cases hpl : plainAt fs m.frm
          · rw [hpl, if_neg (by decide)] at hr
            subst hr
            have HR : Hid (mendOkF fs m = false) := by show mendOkF fs m = false; unfold mendOkF; rw [RX.out, he, hq2, hpl]; simp
            go_wp2
            go_ret
            exact ⟨Pl.ret_bool HR.out.symm, blw_trans HBl.out HB3.out⟩
          · rw [hpl, if_pos rfl] at hr
            subst hr
            have HN : Hid (readOk fs m.field m.frm = true) := by show readOk fs m.field m.frm = true; rw [RX.out, he, hq2, hpl]; rfl
            go_wp2
            go_roundw
            case rel => exact ⟨1 + 1, by omega, by go_num, HB3.out, fun _ => HRs.out.1 (by omega), fun _ => HN.out⟩
            case measure => simp [intOf]
        · have HR : Hid (mendOkF fs m = false) := by show mendOkF fs m = false; unfold mendOkF; rw [RX.out, he, hq2]; simp
          go_wp2
          go_ret
          exact ⟨Pl.ret_bool HR.out.symm, HWr.out⟩
      · have HN : Hid (readOk fs m.field m.frm = true) := by show readOk fs m.field m.frm = true; rw [RX.out, he]; rfl
        go_wp2
        go_roundw
        case rel => exact ⟨1 + 1, by omega, by go_num, HWl.out, fun _ => HRs.out.1 (by omega), fun _ => HN.out⟩
        case measure => simp [intOf]
    obtain rfl : k = 2 := by omega
    have n4 : wr.cell? ⟨w.heap.size, 4, none⟩ = some (.string m.put) := (HMl.out.1.later hW HMl.out.2).c4
    have HE : Hid (mendOkF fs m = (m.put.toList.isEmpty || fitB (fs.getD q Fld.none) m.put)) := by
      show mendOkF fs m = _
      unfold mendOkF
      rw [HRs.out.1 (by omega), HRs.out.2 (by omega), HQ.out.2, HBD.out, ← HQ.out.1]
      simp [Pl.isEmp]
    clear t0 t1 n1
    cases hpe : m.put.toList.isEmpty
    · obtain ⟨f, hf⟩ : ∃ f, f = fs.getD q Fld.none := ⟨_, rfl⟩
      obtain ⟨b, hfa, hfi⟩ := (HH.out.1.later HWr.out).arg hq hf
      have HFA : Hid (FldArg wr b f) := hfa
      have HR : Hid (mendOkF fs m = fitB f m.put) := by show mendOkF fs m = _; rw [HE.out, hpe, ← hf]; rfl
      have hBl : B < wr.heap.size := (HH.out.1.later HWr.out).lt
      obtain ⟨c0, c1, c2, c3, c4, c5, c6, c7, c8, c9, c10, _, _⟩ := hfi
      clear hfa hf HE
      have HX : Hid (∀ W, Below wr.heap.size wr W → Calls Tryz.prog 104 #[.agg #[.string f.nm, .int .i64 f.kind, .int .i64 f.least, .int .i64 f.most, .slice (some ⟨b, 0, none⟩) f.words.length f.words.length, .string f.to, .int .i64 f.role, .bool f.must, .bool f.fixed, .string f.de, .string f.we], .string m.put] W fun e w' => e = .returned (.bool (mendOkF fs m)) ∧ Below W.heap.size W w') := by
        intro W hW'
        rw [HR.out]
        exact implFitsF f b m.put W HH.out.2.2.2.2.2.1 (HFA.out.later hW')
      go_wp2_with fail
      go_region_with (go_at_call 104; refine (HX.out _ ?_).mono ?_; (repeat (first | exact Below.refl _ _ | refine Below.drew ?_)); rintro e w3 ⟨rfl, hb3⟩)
      all_goals
        go_wp2
        go_ret
        exact ⟨rfl, by repeat (first | exact blw_trans HWr.out hb3 | exact blw_trans HWr.out.drew hb3 | exact blw_trans HWr.out.drew.drew hb3 | refine Below.drew ?_)⟩
    · have HR : Hid (mendOkF fs m = true) := by show mendOkF fs m = _; rw [HE.out, hpe]; rfl
      clear HE
      go_wp2_with fail
      go_region
      all_goals
        go_wp2
        go_ret
        exact ⟨Pl.ret_bool HR.out.symm, by repeat (first | exact HWr.out | refine Below.drew ?_)⟩

end Go.Proofs.YtkjkklcflpchlaaGreat

namespace Go.Proofs.YtkjkklcflpchlaaGreat
open Go.RowKit Go.Deep

set_option maxHeartbeats 1000000 in
theorem l3Field (B : Nat) (fs : List Fld) (k : ByteArray) (w : World) (h : FldsIn w B fs) :
    Calls Tryz.prog 98 #[.slice (some ⟨B, 0, none⟩) fs.length fs.length, .string k] w fun e w' => e = .returned (.int .i64 (if nameAt fs k < fs.length then (nameAt fs k : Int) else -1)) ∧ w = w' := by
  have hl := h.len
  have HH : Hid (FldsIn w B fs) := h
  obtain ⟨R, hR⟩ : ∃ R : Int, R = (if nameAt fs k < fs.length then (nameAt fs k : Int) else -1) := ⟨_, rfl⟩
  rw [← hR]
  have HR : Hid (R = (if nameAt fs k < fs.length then (nameAt fs k : Int) else -1)) := hR
  have hB := h.lt
  clear h hR
  go_enter Tryz.func98, Tryz.ntmps98
  go_wp2
  go_loop [5] (fun i => ∃ q : Nat, q ≤ fs.length ∧ i = .int .i64 q ∧ q ≤ nameAt fs k) (fun i => fs.length - (intOf i).toNat)
  case atStart => exact ⟨0, Nat.zero_le _, rfl, Nat.zero_le _⟩
  case round =>
    obtain ⟨q, hq, rfl, hno⟩ := hrel
    have HN : Hid (q ≤ nameAt fs k) := hno
    clear hno
    by_cases hlt : q < fs.length
    · obtain ⟨f, hff⟩ : ∃ f, f = fs.getD q Fld.none := ⟨_, rfl⟩
      obtain ⟨b, _, hf⟩ := HH.out.arg hlt hff
      have c0 := hf.c0
      clear hf
      cases ht : (f.nm.toList == k.toList)
      · have HM : Hid (q + 1 ≤ nameAt fs k) := nameAt_miss fs k q hlt HN.out (by rw [← hff]; exact ht)
        clear hff
        go_wp2
        go_round
        case rel => exact ⟨q + 1, by omega, by go_num, HM.out⟩
        case measure => simp [intOf]; omega
      · have HM : Hid (nameAt fs k = q) := nameAt_hit fs k q hlt HN.out (by rw [← hff]; exact ht)
        clear hff
        go_wp2
        go_ret
        exact ⟨Pl.ret_int (by rw [HR.out, HM.out, if_pos hlt]), rfl⟩
    · go_wp2
      go_ret
      exact ⟨Pl.ret_int (by rw [HR.out, if_neg (by have := HN.out; omega)]), rfl⟩

set_option maxHeartbeats 1000000 in
theorem l3Plain (B : Nat) (fs : List Fld) (k : ByteArray) (w : World) (h : FldsIn w B fs) :
    Calls Tryz.prog 96 #[.slice (some ⟨B, 0, none⟩) fs.length fs.length, .string k] w fun e w' => e = .returned (.bool (plainAt fs k)) ∧ w = w' := by
  have HH : Hid (FldsIn w B fs) := h
  have hl := h.len
  obtain ⟨R, hR⟩ : ∃ R, R = plainAt fs k := ⟨_, rfl⟩
  rw [← hR]
  have HR : Hid (R = plainAt fs k) := hR
  have hB := h.lt
  clear h hR
  go_enter Tryz.func96, Tryz.ntmps96
  go_wp2_with fail
  refine (l3Field B fs k w HH.out).mono ?_
  rintro e w2 ⟨rfl, rfl⟩
  by_cases hq : nameAt fs k < fs.length
  · rw [if_pos hq]
    obtain ⟨q, hqq⟩ : ∃ q, q = nameAt fs k := ⟨_, rfl⟩
    obtain ⟨f, hf⟩ : ∃ f, f = fs.getD q Fld.none := ⟨_, rfl⟩
    rw [← hqq] at hq ⊢
    obtain ⟨b, _, hfi⟩ := HH.out.arg hq hf
    have c1 := hfi.c1
    have HF : Hid (R = !decide (f.kind = 4)) := by show R = _; rw [HR.out]; unfold plainAt; rw [← hqq, ← hf]; simp [hq]
    clear hfi hf hqq
    by_cases h4 : f.kind = 4
    · have HP : Hid (R = false) := by show R = false; rw [HF.out]; simp [h4]
      go_wp2
      go_ret
      exact ⟨Pl.ret_bool HP.out.symm, rfl⟩
    · have HP : Hid (R = true) := by show R = true; rw [HF.out]; simp [h4]
      go_wp2
      go_ret
      exact ⟨Pl.ret_bool (by rw [HP.out]; simp [h4]), rfl⟩
  · rw [if_neg hq]
    have HP : Hid (R = false) := by show R = false; rw [HR.out]; unfold plainAt; simp [hq]
    go_wp2
    go_ret
    exact ⟨Pl.ret_bool HP.out.symm, rfl⟩

theorem specFitsF (f : Fld) (b : Nat) (v : ByteArray) (w : World) (hv : v.size ≤ maxLen) (h : FldArg w b f) :
    Calls Tryz.prog 97 #[.agg #[.string f.nm, .int .i64 f.kind, .int .i64 f.least, .int .i64 f.most, .slice (some ⟨b, 0, none⟩) f.words.length f.words.length, .string f.to, .int .i64 f.role, .bool f.must, .bool f.fixed, .string f.de, .string f.we], .string v] w
      fun e w' => e = .returned (.bool (fitB f v)) ∧ Below w.heap.size w w' :=
  specFits_any f.nm f.kind f.least f.most b 0 _ f.to f.role f.must f.fixed f.de f.we v f.words w hv h.lt (by have := h.small; unfold Fld.small at this; unfold maxLen; omega) h.cells

/-- The names of a row in memory: nil or a block. -/
def NamesAt (w : World) (v : Value) (l : List ByteArray) : Prop :=
  ∃ g c, v = .slice (some ⟨g, 0, none⟩) l.length c ∧ g < w.heap.size ∧ l.length ≤ 1048576 ∧ ∀ i, i < l.length → w.cell? ⟨g, i, none⟩ = some (.string (l.getD i ByteArray.empty))

theorem NamesAt.later {w w' : World} {v : Value} {l : List ByteArray} (h : NamesAt w v l) (hb : Below w.heap.size w w') : NamesAt w' v l := by
  obtain ⟨g, c, rfl, h1, h2, h3⟩ := h
  exact ⟨g, c, rfl, Nat.lt_of_lt_of_le h1 hb.size, h2, fun i hi => (hb.cell (p := ⟨g, i, none⟩) h1).trans (h3 i hi)⟩

theorem hasN (v : Value) (l : List ByteArray) (s : ByteArray) (w : World) (h : NamesAt w v l) :
    Calls Tryz.prog 99 #[v, .string s] w fun e w' => e = .returned (.bool (Pl.has l s)) ∧ w = w' := by
  obtain ⟨g, c, rfl, _, h2, h3⟩ := h
  exact l1Has_row g 0 c l s w (by unfold maxLen; omega) (fun i hi => by rw [Nat.zero_add]; exact h3 i hi)

def needN (row : List ByteArray) (k : ByteArray) : Bool := Pl.isEmp k || Pl.has row k
def readyN1 (K f : ByteArray) (row : List ByteArray) (m : Mnd) : Bool := !(m.kind.toList == K.toList && m.field.toList == f.toList) || (needN row m.whn && needN row m.frm)
def readyN (ms : List Mnd) (K f : ByteArray) (row : List ByteArray) : Bool := (List.range ms.length).all fun i => readyN1 K f row (ms.getD i Mnd.none)
def readyNTo (ms : List Mnd) (K f : ByteArray) (row : List ByteArray) (k : Nat) : Bool := (List.range k).all fun i => readyN1 K f row (ms.getD i Mnd.none)

set_option maxRecDepth 8000 in
set_option maxHeartbeats 4000000 in
theorem l3Ready (mb : Nat) (ms : List Mnd) (K f : ByteArray) (a : Option Addr) (n c : Nat) (row : List ByteArray) (w : World) (h : MndsIn w mb ms) (hr : NamesAt w (.slice a n c) row) :
    Calls Tryz.prog 100 #[.slice (some ⟨mb, 0, none⟩) ms.length ms.length, .string K, .string f, .slice a n c] w fun e w' => e = .returned (.bool (readyN ms K f row)) ∧ Below w.heap.size w w' := by
  have hl := h.len
  have HH : Hid (MndsIn w mb ms ∧ NamesAt w (.slice a n c) row) := ⟨h, hr⟩
  have hmb := h.lt
  clear h hr
  go_enter Tryz.func100, Tryz.ntmps100
  go_wp2
  go_loopw [9] (fun i wr => ∃ k : Nat, k ≤ ms.length ∧ i = .int .i64 k ∧ readyNTo ms K f row k = true ∧ Below w.heap.size w wr) (fun i _ => ms.length - (intOf i).toNat)
  case atStart => exact ⟨0, Nat.zero_le _, rfl, rfl, Below.refl _ _⟩
  case round =>
    obtain ⟨k, hk, rfl, hall, hW⟩ := hrel
    have HA : Hid (readyNTo ms K f row k = true) := hall
    have HW : Hid (Below w.heap.size w wr) := hW
    clear hall
    by_cases hlt : k < ms.length
    · have hmk := (HH.out.1.later hW).at_ k hlt
      obtain ⟨m, hmm⟩ : ∃ m, m = ms.getD k Mnd.none := ⟨_, rfl⟩
      rw [← hmm] at hmk
      have hmb2 : mb < wr.heap.size := Nat.lt_of_lt_of_le hmb hW.size
      obtain ⟨c0, c1, c2, c3, c4, c5, _⟩ := hmk
      have HT : Hid (readyN1 K f row (ms.getD k Mnd.none) = (!(m.kind.toList == K.toList && m.field.toList == f.toList) || ((m.whn.toList.isEmpty || Pl.has row m.whn) && (m.frm.toList.isEmpty || Pl.has row m.frm)))) := by rw [← hmm]; rfl
      have HS : Hid (readyN1 K f row (ms.getD k Mnd.none) = true → readyNTo ms K f row (k + 1) = true) := by
        intro h1; show readyNTo ms K f row (k + 1) = true; unfold readyNTo; rw [Pl.to_succ, h1]; have := HA.out; unfold readyNTo at this; rw [this]; rfl
      have HZ : Hid (readyN1 K f row (ms.getD k Mnd.none) = false → readyN ms K f row = false) := by
        intro h1; exact Pl.to_false _ _ k hlt h1
      have HC : Hid (∀ s W, Below wr.heap.size wr W → Calls Tryz.prog 99 #[.slice a n c, .string s] W fun e w' => e = .returned (.bool (Pl.has row s)) ∧ W = w') := fun s W hW' => hasN _ row s W (HH.out.2.later (blw_trans HW.out hW'))
      have hbx : Below wr.heap.size wr (wr.alloc (.cells #[.string m.kind, .string m.field, .string m.whn, .string m.is_, .string m.put, .string m.frm] 104)) := blw_alloc (Below.refl _ _) _
      have HBx : Hid (Below wr.heap.size wr (wr.alloc (.cells #[.string m.kind, .string m.field, .string m.whn, .string m.is_, .string m.put, .string m.frm] 104))) := hbx
      clear hmm hW hbx
      cases q0 : (m.kind.toList == K.toList)
      · have HR : Hid (readyNTo ms K f row (k + 1) = true) := HS.out (by rw [HT.out, q0]; rfl)
        go_wp2
        go_roundw
        case rel => exact ⟨k + 1, by omega, by go_num, HR.out, blw_trans HW.out HBx.out⟩
        case measure => simp [intOf]; omega
      cases q1 : (m.field.toList == f.toList)
      · have HR : Hid (readyNTo ms K f row (k + 1) = true) := HS.out (by rw [HT.out, q0, q1]; rfl)
        go_wp2
        go_roundw
        case rel => exact ⟨k + 1, by omega, by go_num, HR.out, blw_trans HW.out HBx.out⟩
        case measure => simp [intOf]; omega
      obtain ⟨hw, hhw⟩ : ∃ hw, hw = Pl.has row m.whn := ⟨_, rfl⟩
      obtain ⟨hf, hhf⟩ : ∃ hf, hf = Pl.has row m.frm := ⟨_, rfl⟩
      have HCw : Hid (∀ W, Below wr.heap.size wr W → Calls Tryz.prog 99 #[.slice a n c, .string m.whn] W fun e w' => e = .returned (.bool hw) ∧ W = w') := by rw [hhw]; exact fun W hW' => HC.out m.whn W hW'
      have HCf : Hid (∀ W, Below wr.heap.size wr W → Calls Tryz.prog 99 #[.slice a n c, .string m.frm] W fun e w' => e = .returned (.bool hf) ∧ W = w') := by rw [hhf]; exact fun W hW' => HC.out m.frm W hW'
      have HT2 : Hid (readyN1 K f row (ms.getD k Mnd.none) = ((m.whn.toList.isEmpty || hw) && (m.frm.toList.isEmpty || hf))) := by show readyN1 K f row _ = _; rw [HT.out, q0, q1, hhw, hhf]; rfl
      clear HT HC hhw hhf
      cases e2 : m.whn.toList.isEmpty
      · cases e5 : m.frm.toList.isEmpty
        · go_wp2_with fail
          refine (HCw.out _ HBx.out).mono ?_
          rintro e w' ⟨rfl, rfl⟩
          cases hw
          · have HR : Hid (readyN ms K f row = false) := HZ.out (by rw [HT2.out, e2, e5]; simp)
            go_wp2
            go_ret
            exact ⟨Pl.ret_bool HR.out.symm, blw_trans HW.out HBx.out⟩
          · go_wp2_with fail
            refine (HCf.out _ HBx.out).mono ?_
            rintro e w' ⟨rfl, rfl⟩
            cases hf
            · have HR : Hid (readyN ms K f row = false) := HZ.out (by rw [HT2.out, e2, e5]; simp)
              go_wp2
              go_ret
              exact ⟨Pl.ret_bool HR.out.symm, blw_trans HW.out HBx.out⟩
            · have HR : Hid (readyNTo ms K f row (k + 1) = true) := HS.out (by rw [HT2.out, e2, e5]; rfl)
              go_wp2
              go_roundw
              case rel => exact ⟨k + 1, by omega, by go_num, HR.out, blw_trans HW.out HBx.out⟩
              case measure => simp [intOf]; omega
        · go_wp2_with fail
          refine (HCw.out _ HBx.out).mono ?_
          rintro e w' ⟨rfl, rfl⟩
          cases hw
          · have HR : Hid (readyN ms K f row = false) := HZ.out (by rw [HT2.out, e2, e5]; simp)
            go_wp2
            go_ret
            exact ⟨Pl.ret_bool HR.out.symm, blw_trans HW.out HBx.out⟩
          · have HR : Hid (readyNTo ms K f row (k + 1) = true) := HS.out (by rw [HT2.out, e2, e5]; rfl)
            go_wp2
            go_roundw
            case rel => exact ⟨k + 1, by omega, by go_num, HR.out, blw_trans HW.out HBx.out⟩
            case measure => simp [intOf]; omega
      · cases e5 : m.frm.toList.isEmpty
        · go_wp2_with fail
          refine (HCf.out _ HBx.out).mono ?_
          rintro e w' ⟨rfl, rfl⟩
          cases hf
          · have HR : Hid (readyN ms K f row = false) := HZ.out (by rw [HT2.out, e2, e5]; simp)
            go_wp2
            go_ret
            exact ⟨Pl.ret_bool HR.out.symm, blw_trans HW.out HBx.out⟩
          · have HR : Hid (readyNTo ms K f row (k + 1) = true) := HS.out (by rw [HT2.out, e2, e5]; rfl)
            go_wp2
            go_roundw
            case rel => exact ⟨k + 1, by omega, by go_num, HR.out, blw_trans HW.out HBx.out⟩
            case measure => simp [intOf]; omega
        · have HR : Hid (readyNTo ms K f row (k + 1) = true) := HS.out (by rw [HT2.out, e2, e5]; rfl)
          go_wp2
          go_roundw
          case rel => exact ⟨k + 1, by omega, by go_num, HR.out, blw_trans HW.out HBx.out⟩
          case measure => simp [intOf]; omega
    · have HR : Hid (readyN ms K f row = true) := by have e : k = ms.length := (by omega); have := HA.out; rw [e] at this; exact this
      go_wp2
      go_ret
      exact ⟨Pl.ret_bool HR.out.symm, HW.out⟩

end Go.Proofs.YtkjkklcflpchlaaGreat

namespace Go.Proofs.YtkjkklcflpchlaaGreat
open Go.RowKit Go.Deep

def mendOk (ss : List Shp) (m : Mnd) : Bool := hasKind ss m.kind && mendOkF (ss.getD (kindAt ss m.kind) Shp.none).fields m

theorem shapeAt_of {ss : List Shp} (h : shapesOk ss = true) {i : Nat} (hi : i < ss.length) : shapeAt ss i = true := by
  unfold shapesOk shapesTo at h
  have := ((Bool.and_eq_true _ _).mp h).2
  rw [List.all_eq_true] at this
  exact this i (List.mem_range.2 hi)

theorem fieldsOk_of {ss : List Shp} (h : shapesOk ss = true) {i : Nat} (hi : i < ss.length) : fieldsOk ss (ss.getD i Shp.none).fields = true := by
  have := shapeAt_of h hi
  unfold shapeAt at this
  exact ((Bool.and_eq_true _ _).mp this).2

theorem fieldAt_of {ss : List Shp} {fs : List Fld} (h : fieldsOk ss fs = true) {i : Nat} (hi : i < fs.length) : fieldAt ss fs i = true := by
  unfold fieldsOk fieldsTo at h
  have := ((Bool.and_eq_true _ _).mp h).2
  rw [List.all_eq_true] at this
  exact this i (List.mem_range.2 hi)

theorem fields_few {ss : List Shp} {fs : List Fld} (h : fieldsOk ss fs = true) : fs.length ≤ 6 := by
  unfold fieldsOk at h
  exact of_decide_eq_true ((Bool.and_eq_true _ _).mp h).1

theorem name_of {ss : List Shp} {fs : List Fld} (h : fieldsOk ss fs = true) {i : Nat} (hi : i < fs.length) : Pl.nameOk (fs.getD i Fld.none).nm = true := by
  have := fieldAt_of h hi
  unfold fieldAt at this
  exact ((Bool.and_eq_true _ _).mp ((Bool.and_eq_true _ _).mp this).1).1

theorem nameOk_pos {s : ByteArray} (h : Pl.nameOk s = true) : s.toList.isEmpty = false := by
  cases he : s.toList.isEmpty
  · rfl
  · exfalso
    have hz : ¬ 1 ≤ s.size := by
      intro h1
      have := Pl.empty_no s h1
      rw [he] at this
      cases this
    unfold Pl.nameOk at h
    simp at h
    omega

theorem nameAt_nm {fs : List Fld} {k : ByteArray} (h : nameAt fs k < fs.length) : ((fs.getD (nameAt fs k) Fld.none).nm.toList == k.toList) = true := by
  have e : fs.getD (nameAt fs k) Fld.none = fs[nameAt fs k] := by simp [h]
  rw [e]
  exact List.findIdx_getElem (xs := fs) (p := fun f : Fld => f.nm.toList == k.toList) (w := h)

theorem plain_pos {ss : List Shp} {fs : List Fld} (h : fieldsOk ss fs = true) {k : ByteArray} (hk : plainAt fs k = true) : k.toList.isEmpty = false := by
  have hl := plain_lt hk
  have h1 := nameAt_nm hl
  have h2 := nameOk_pos (name_of h hl)
  rw [beq_iff_eq] at h1
  rw [h1] at h2
  exact h2

def t5 (fs : List Fld) (m : Mnd) : Bool := !plainAt fs m.field || (!m.whn.toList.isEmpty && !plainAt fs m.whn) || (!m.frm.toList.isEmpty && !plainAt fs m.frm)
def t7 (m : Mnd) : Bool := (m.whn.toList == m.field.toList) || (m.frm.toList == m.field.toList) || badM m

theorem mendOkF_t5 {fs : List Fld} {m : Mnd} (h : t5 fs m = true) : mendOkF fs m = false := by
  unfold t5 at h
  unfold mendOkF readOk Pl.isEmp
  cases h1 : plainAt fs m.field
  · rfl
  rw [h1] at h
  cases h2 : m.whn.toList.isEmpty <;> cases h3 : m.frm.toList.isEmpty <;> cases h4 : plainAt fs m.whn <;> cases h5 : plainAt fs m.frm <;> rw [h2, h3, h4, h5] at h <;> simp at h ⊢

theorem mendOkF_t7 {ss : List Shp} {fs : List Fld} {m : Mnd} (hf : fieldsOk ss fs = true) (h5 : t5 fs m = false) (h : t7 m = true) : mendOkF fs m = false := by
  have hp : plainAt fs m.field = true := by unfold t5 at h5; cases h1 : plainAt fs m.field; rw [h1] at h5; simp at h5; rfl
  have hpos := plain_pos hf hp
  unfold t7 at h
  unfold mendOkF readOk Pl.isEmp
  have ew : (m.whn.toList == m.field.toList) = true → m.whn.toList.isEmpty = false := fun e => by rw [beq_iff_eq] at e; rw [e]; exact hpos
  have er : (m.frm.toList == m.field.toList) = true → m.frm.toList.isEmpty = false := fun e => by rw [beq_iff_eq] at e; rw [e]; exact hpos
  cases h1 : (m.whn.toList == m.field.toList)
  · cases h2 : (m.frm.toList == m.field.toList)
    · rw [h1, h2] at h
      have hb : badM m = true := by simpa using h
      rw [hb]; simp
    · rw [er h2]; simp
  · rw [ew h1]; simp

theorem mendOkF_in {fs : List Fld} {m : Mnd} (h5 : t5 fs m = false) (h7 : t7 m = false) : mendOkF fs m = (m.put.toList.isEmpty || fitB (fs.getD (nameAt fs m.field) Fld.none) m.put) := by
  unfold t5 at h5
  unfold t7 at h7
  unfold mendOkF readOk Pl.isEmp
  cases h1 : plainAt fs m.field
  · rw [h1] at h5; simp at h5
  rw [h1] at h5
  cases q1 : (m.whn.toList == m.field.toList)
  · cases q2 : (m.frm.toList == m.field.toList)
    · rw [q1, q2] at h7
      have hb : badM m = false := by simpa using h7
      rw [hb]
      cases h2 : m.whn.toList.isEmpty <;> cases h3 : m.frm.toList.isEmpty <;> cases h4 : plainAt fs m.whn <;> cases h6 : plainAt fs m.frm <;> rw [h2, h3, h4, h6] at h5 <;> simp at h5 ⊢
    · rw [q2] at h7; simp at h7
  · rw [q1] at h7; simp at h7

set_option maxRecDepth 8000 in
set_option maxHeartbeats 8000000 in
theorem mendOkS (B : Nat) (ss : List Shp) (m : Mnd) (w : World) (h : ShpsIn w B ss) (hok : shapesOk ss = true) (hm : m.sized) :
    Calls Tryz.prog 77 #[.slice (some ⟨B, 0, none⟩) ss.length ss.length, .agg #[.string m.kind, .string m.field, .string m.whn, .string m.is_, .string m.put, .string m.frm]] w fun e w' => e = .returned (.bool (mendOk ss m)) ∧ Below w.heap.size w w' := by
  have HH : Hid (ShpsIn w B ss ∧ shapesOk ss = true ∧ m.sized) := ⟨h, hok, hm⟩
  have hl := h.len
  clear h hok hm
  obtain ⟨w1, hw1⟩ : ∃ w1, w1 = w.alloc (.cells #[.string m.kind, .string m.field, .string m.whn, .string m.is_, .string m.put, .string m.frm] 104) := ⟨_, rfl⟩
  have HB1 : Hid (Below w.heap.size w w1) := by show Below _ _ _; rw [hw1]; exact blw_alloc (Below.refl _ _) _
  have HM1 : Hid (MndIs w1 w.heap.size 0 m ∧ w.heap.size < w1.heap.size) := by show _ ∧ _; rw [hw1]; exact ⟨⟨by simp, by simp, by simp, by simp, by simp, by simp, HH.out.2.2⟩, by simp⟩
  have HS1 : Hid (ShpsIn w1 B ss) := HH.out.1.later HB1.out
  have hz1 := HM1.out.2
  have m0 : w1.cell? ⟨w.heap.size, 0, none⟩ = some (.string m.kind) := HM1.out.1.c0
  have m1 : w1.cell? ⟨w.heap.size, 1, none⟩ = some (.string m.field) := HM1.out.1.c1
  have m2 : w1.cell? ⟨w.heap.size, 2, none⟩ = some (.string m.whn) := HM1.out.1.c2
  have m3 : w1.cell? ⟨w.heap.size, 3, none⟩ = some (.string m.is_) := HM1.out.1.c3
  have m4 : w1.cell? ⟨w.heap.size, 4, none⟩ = some (.string m.put) := HM1.out.1.c4
  have m5 : w1.cell? ⟨w.heap.size, 5, none⟩ = some (.string m.frm) := HM1.out.1.c5
  go_enter Tryz.func77, Tryz.ntmps77
  go_upto_region 1 with fail
  rw [← hw1]
  clear hw1
  go_wp2_with fail
  refine (l1Shape_any B ss m.kind w1 HS1.out).mono ?_
  rintro e w' ⟨rfl, rfl⟩
  by_cases hk : kindAt ss m.kind < ss.length
  case neg =>
    rw [if_neg hk]
    have HR : Hid (mendOk ss m = false) := by show mendOk ss m = false; unfold mendOk hasKind; simp [hk]
    go_wp2
    go_ret
    exact ⟨Pl.ret_bool HR.out.symm, HB1.out⟩
  rw [if_pos hk]
  obtain ⟨k, hkk⟩ : ∃ k, k = kindAt ss m.kind := ⟨_, rfl⟩
  rw [← hkk] at hk ⊢
  obtain ⟨s, hs⟩ : ∃ s, s = ss.getD k Shp.none := ⟨_, rfl⟩
  obtain ⟨b, hfl, _, _, d1⟩ := HS1.out.flds hk hs
  have HFo : Hid (fieldsOk ss s.fields = true) := by show fieldsOk ss s.fields = true; rw [hs]; exact fieldsOk_of HH.out.2.1 hk
  have HE : Hid (mendOk ss m = mendOkF s.fields m) := by show mendOk ss m = _; unfold mendOk hasKind; rw [← hkk, ← hs]; simp [hk]
  obtain ⟨fs, hfs⟩ : ∃ fs, fs = s.fields := ⟨_, rfl⟩
  rw [← hfs] at hfl d1 HFo HE
  have HFL : Hid (FldsIn w1 b fs) := hfl
  have hBl := HS1.out.lt
  have hfl2 := hfl.len
  clear hfl hkk hs hfs
  have HPl : Hid (∀ k, Calls Tryz.prog 96 #[.slice (some ⟨b, 0, none⟩) fs.length fs.length, .string k] w1 fun e w' => e = .returned (.bool (plainAt fs k)) ∧ w1 = w') := fun k => l3Plain b fs k w1 HFL.out
  go_upto_region 5 with fail
  go_cut [46] (fun x wx => x = .bool (t5 fs m) ∧ wx = w1)
  case first =>
    have HT : Hid (t5 fs m = (!plainAt fs m.field || (!m.whn.toList.isEmpty && !plainAt fs m.whn) || (!m.frm.toList.isEmpty && !plainAt fs m.frm))) := rfl
    obtain ⟨pf, hpf⟩ : ∃ x, x = plainAt fs m.field := ⟨_, rfl⟩
    obtain ⟨pw, hpw⟩ : ∃ x, x = plainAt fs m.whn := ⟨_, rfl⟩
    obtain ⟨pr, hpr⟩ : ∃ x, x = plainAt fs m.frm := ⟨_, rfl⟩
    have HPf' : Hid (Calls Tryz.prog 96 #[.slice (some ⟨b, 0, none⟩) fs.length fs.length, .string m.field] w1 fun e w' => e = .returned (.bool pf) ∧ w1 = w') := by rw [hpf]; exact HPl.out m.field
    have HPw' : Hid (Calls Tryz.prog 96 #[.slice (some ⟨b, 0, none⟩) fs.length fs.length, .string m.whn] w1 fun e w' => e = .returned (.bool pw) ∧ w1 = w') := by rw [hpw]; exact HPl.out m.whn
    have HPr' : Hid (Calls Tryz.prog 96 #[.slice (some ⟨b, 0, none⟩) fs.length fs.length, .string m.frm] w1 fun e w' => e = .returned (.bool pr) ∧ w1 = w') := by rw [hpr]; exact HPl.out m.frm
    rw [← hpf, ← hpw, ← hpr] at HT
    clear HPl hpf hpw hpr
    go_wp2_with fail
    refine HPf'.out.mono ?_
    rintro e w' ⟨rfl, rfl⟩
    cases pf
    · go_wp2_with fail
      go_meet
      exact ⟨by rw [HT.out]; rfl, rfl⟩
    cases h2 : m.whn.toList.isEmpty
    · go_wp2_with fail
      refine HPw'.out.mono ?_
      rintro e w' ⟨rfl, rfl⟩
      cases pw
      · go_wp2_with fail
        go_meet
        exact ⟨by rw [HT.out, h2]; rfl, rfl⟩
      cases h5 : m.frm.toList.isEmpty
      · go_wp2_with fail
        refine HPr'.out.mono ?_
        rintro e w' ⟨rfl, rfl⟩
        go_wp2_with fail
        go_meet
        exact ⟨by rw [HT.out, h2, h5]; cases pr <;> rfl, rfl⟩
      · go_wp2_with fail
        go_meet
        exact ⟨by rw [HT.out, h2, h5]; rfl, rfl⟩
    · cases h5 : m.frm.toList.isEmpty
      · go_wp2_with fail
        refine HPr'.out.mono ?_
        rintro e w' ⟨rfl, rfl⟩
        go_wp2_with fail
        go_meet
        exact ⟨by rw [HT.out, h2, h5]; cases pr <;> rfl, rfl⟩
      · go_wp2_with fail
        go_meet
        exact ⟨by rw [HT.out, h2, h5]; rfl, rfl⟩
  case rest =>
  obtain ⟨rfl, hwc⟩ := hcut
  subst hwc
  rename World => w1
  cases ht5 : t5 fs m
  case true =>
    have HR : Hid (mendOk ss m = false) := by show mendOk ss m = false; rw [HE.out]; exact mendOkF_t5 ht5
    go_wp2
    go_ret
    exact ⟨Pl.ret_bool HR.out.symm, HB1.out⟩
  have HT5 : Hid (t5 fs m = false) := ht5
  clear ht5
  go_upto_region 7 with fail
  go_cut [77] (fun x wx => x = .bool (t7 m) ∧ wx = w1)
  case first =>
    have HT : Hid (t7 m = ((m.whn.toList == m.field.toList) || (m.frm.toList == m.field.toList) || ((m.whn.toList.isEmpty && !m.is_.toList.isEmpty) || (m.put.toList.isEmpty == m.frm.toList.isEmpty)))) := rfl
    cases q1 : (m.whn.toList == m.field.toList)
    · cases q2 : (m.frm.toList == m.field.toList)
      · cases h2 : m.whn.toList.isEmpty
        · cases h4 : m.put.toList.isEmpty <;> cases h5 : m.frm.toList.isEmpty
          all_goals
            go_wp2_with fail
            go_meet
            exact ⟨by rw [HT.out, q1, q2, h2, h4, h5]; rfl, rfl⟩
        · cases h3 : m.is_.toList.isEmpty
          · go_wp2_with fail
            go_meet
            exact ⟨by rw [HT.out, q1, q2, h2, h3]; rfl, rfl⟩
          · cases h4 : m.put.toList.isEmpty <;> cases h5 : m.frm.toList.isEmpty
            all_goals
              go_wp2_with fail
              go_meet
              exact ⟨by rw [HT.out, q1, q2, h2, h3, h4, h5]; rfl, rfl⟩
      · go_wp2_with fail
        go_meet
        exact ⟨by rw [HT.out, q1, q2]; rfl, rfl⟩
    · go_wp2_with fail
      go_meet
      exact ⟨by rw [HT.out, q1]; rfl, rfl⟩
  case rest =>
  obtain ⟨rfl, hwc⟩ := hcut
  subst hwc
  rename World => w1
  cases ht7 : t7 m
  case true =>
    have HR : Hid (mendOk ss m = false) := by show mendOk ss m = false; rw [HE.out]; exact mendOkF_t7 HFo.out HT5.out ht7
    go_wp2
    go_ret
    exact ⟨Pl.ret_bool HR.out.symm, HB1.out⟩
  have HE2 : Hid (mendOk ss m = (m.put.toList.isEmpty || fitB (fs.getD (nameAt fs m.field) Fld.none) m.put)) := by show mendOk ss m = _; rw [HE.out]; exact mendOkF_in HT5.out ht7
  have hpl : plainAt fs m.field = true := by have := HT5.out; unfold t5 at this; cases h1 : plainAt fs m.field; rw [h1] at this; simp at this; rfl
  have hq := plain_lt hpl
  clear ht7 hpl HE
  cases hpe : m.put.toList.isEmpty
  · obtain ⟨q, hqq⟩ : ∃ q, q = nameAt fs m.field := ⟨_, rfl⟩
    have HL : Hid (∀ W, Below w1.heap.size w1 W → Calls Tryz.prog 98 #[.slice (some ⟨b, 0, none⟩) fs.length fs.length, .string m.field] W fun e w' => e = .returned (.int .i64 (q : Nat)) ∧ Below W.heap.size W w') := by
      intro W hW
      refine (l3Field b fs m.field W (HFL.out.later hW)).mono ?_
      rintro e w' ⟨rfl, rfl⟩
      rw [if_pos hq, ← hqq]
      exact ⟨rfl, Below.refl _ _⟩
    rw [← hqq] at hq HE2
    obtain ⟨f, hf⟩ : ∃ f, f = fs.getD q Fld.none := ⟨_, rfl⟩
    obtain ⟨b2, hfa, hfi⟩ := HFL.out.arg hq hf
    have HR : Hid (mendOk ss m = fitB f m.put) := by show mendOk ss m = _; rw [HE2.out, hpe, ← hf]; rfl
    have HX : Hid (∀ W, Below w1.heap.size w1 W → Calls Tryz.prog 97 #[.agg #[.string f.nm, .int .i64 f.kind, .int .i64 f.least, .int .i64 f.most, .slice (some ⟨b2, 0, none⟩) f.words.length f.words.length, .string f.to, .int .i64 f.role, .bool f.must, .bool f.fixed, .string f.de, .string f.we], .string m.put] W fun e w' => e = .returned (.bool (mendOk ss m)) ∧ Below W.heap.size W w') := by
      intro W hW'
      rw [HR.out]
      exact specFitsF f b2 m.put W HH.out.2.2.2.2.2.2.1 (hfa.later hW')
    have HFi : Hid (FldIs w1 b (q * 11) f (.slice (some ⟨b2, 0, none⟩) f.words.length f.words.length) ∧ b < w1.heap.size) := ⟨hfi, HFL.out.lt⟩
    clear hfa hfi hf hqq HE2 HR m0 m2 m3 m5
    have HMw : Hid (∀ W, Below w1.heap.size w1 W → W.cell? ⟨w.heap.size, 4, none⟩ = some (.string m.put) ∧ W.cell? ⟨w.heap.size, 1, none⟩ = some (.string m.field) ∧ w.heap.size < W.heap.size ∧ FldIs W b (q * 11) f (.slice (some ⟨b2, 0, none⟩) f.words.length f.words.length) ∧ b < W.heap.size) := fun W hW => ⟨(hW.cell (p := ⟨w.heap.size, 4, none⟩) HM1.out.2).trans HM1.out.1.c4, (hW.cell (p := ⟨w.heap.size, 1, none⟩) HM1.out.2).trans HM1.out.1.c1, Nat.lt_of_lt_of_le HM1.out.2 hW.size, HFi.out.1.later hW HFi.out.2, Nat.lt_of_lt_of_le HFi.out.2 hW.size⟩
    have c0 := HFi.out.1.c0
    have c1 := HFi.out.1.c1
    have c2 := HFi.out.1.c2
    have c3 := HFi.out.1.c3
    have c4 := HFi.out.1.c4
    have c5 := HFi.out.1.c5
    have c6 := HFi.out.1.c6
    have c7 := HFi.out.1.c7
    have c8 := HFi.out.1.c8
    have c9 := HFi.out.1.c9
    have c10 := HFi.out.1.c10
    have hb0 := HFi.out.2
    go_wp2_with fail
    go_region_with (first
      | (go_at_call 98; refine (HL.out _ ?_).mono ?_; (repeat (first | exact Below.refl _ _ | refine Below.drew ?_)); rintro e w3 ⟨rfl, hb3⟩; obtain ⟨g4, g1, gz, ⟨d0, d1, d2, d3, d4, d5, d6, d7, d8, d9, d10, _, _⟩, gb⟩ := HMw.out w3 (blw_trans (by repeat (first | exact Below.refl _ _ | refine Below.drew ?_)) hb3))
      | (go_at_call 97; refine (HX.out _ ?_).mono ?_; (first | exact blw_trans (by repeat (first | exact Below.refl _ _ | refine Below.drew ?_)) hb3 | exact Below.drew (blw_trans (by repeat (first | exact Below.refl _ _ | refine Below.drew ?_)) hb3)); rintro e w4 ⟨rfl, hb4⟩))
    all_goals
      go_wp2
      go_ret
      refine ⟨rfl, ?_⟩
      have hB3 : Below w.heap.size w w3 := by repeat (first | exact blw_trans HB1.out hb3 | exact blw_trans HB1.out.drew hb3 | exact blw_trans HB1.out.drew.drew hb3)
      repeat (first | exact blw_trans hB3 hb4 | exact blw_trans hB3.drew hb4 | refine Below.drew ?_)
  · have HR : Hid (mendOk ss m = true) := by show mendOk ss m = _; rw [HE2.out, hpe]; rfl
    clear HE2
    go_wp2_with fail
    go_region
    all_goals
      go_wp2
      go_ret
      exact ⟨Pl.ret_bool HR.out.symm, by repeat (first | exact HB1.out | refine Below.drew ?_)⟩

end Go.Proofs.YtkjkklcflpchlaaGreat
