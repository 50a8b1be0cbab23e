/-
  Walks: a mend that is ok: the program.
-/
import Derived.Test.YtbannihkgglpaaaGreatMemM
import Derived.Test.YtbannihkgglpaaaGreatWalkV
import Derived.Deep.DeepCutAuto
import Derived.Deep.RegionWith
namespace Go.Proofs.YtbannihkgglpaaaGreat
open Go.RowKit Go.Deep

def plainAt (fs : List Fld) (k : ByteArray) : Bool := decide (nameAt fs k < fs.length) && !decide ((fs.getD (nameAt fs k) Fld.none).kind = 4)
def readOk (fs : List Fld) (f r : ByteArray) : Bool := Pl.isEmp r || (!(r.toList == f.toList) && plainAt fs r)
def badM (m : Mnd) : Bool := (Pl.isEmp m.whn && !Pl.isEmp m.is_) || (Pl.isEmp m.put == Pl.isEmp m.frm)
def mendOkF (fs : List Fld) (m : Mnd) : Bool := plainAt fs m.field && !badM m && readOk fs m.field m.whn && readOk fs m.field m.frm && (Pl.isEmp m.put || fitB (fs.getD (nameAt fs m.field) Fld.none) m.put)

set_option maxHeartbeats 1000000 in
theorem mendable (B : Nat) (fs : List Fld) (k : ByteArray) (w : World) (h : FldsIn w B fs) :
    Calls Tryz.prog 73 #[.slice (some ⟨B, 0, none⟩) fs.length fs.length, .string k] w fun e w' => (∃ r : Int, e = .returned (.int .i64 r) ∧ r = (if plainAt fs k = true then (nameAt fs k : Int) else -1)) ∧ Below w.heap.size w w' := by
  have HH : Hid (FldsIn w B fs) := h
  have hl := h.len
  obtain ⟨R, hR⟩ : ∃ R : Int, R = (if plainAt fs k = true then (nameAt fs k : Int) else -1) := ⟨_, rfl⟩
  rw [← hR]
  have HR : Hid (R = (if plainAt fs k = true then (nameAt fs k : Int) else -1)) := hR
  clear h hR
  go_enter Tryz.func73, Tryz.ntmps73
  go_wp2_with fail
  refine (fieldPlace B fs k w HH.out).mono ?_
  rintro e w2 ⟨⟨r, rfl, hr⟩, hb2⟩
  by_cases hq : nameAt fs k < fs.length
  · rw [if_pos hq] at hr
    subst hr
    obtain ⟨q, hqq⟩ : ∃ q, q = nameAt fs k := ⟨_, rfl⟩
    obtain ⟨f, hf⟩ : ∃ f, f = fs.getD q Fld.none := ⟨_, rfl⟩
    rw [← hqq] at hq ⊢
    obtain ⟨b, _, hfi⟩ := (HH.out.later hb2).arg hq hf
    have c1 := hfi.c1
    have hB : B < w2.heap.size := (HH.out.later hb2).lt
    have HF : Hid (plainAt fs k = !decide (f.kind = 4)) := by show plainAt fs k = _; unfold plainAt; rw [← hqq, ← hf]; simp [hq]
    have HQ : Hid (q = nameAt fs k) := hqq
    clear hfi hf hqq
    by_cases h4 : f.kind = 4
    · have HP : Hid (plainAt fs k = false) := by show plainAt fs k = false; rw [HF.out]; simp [h4]
      go_wp2
      go_ret
      exact ⟨⟨_, rfl, by rw [HR.out, HP.out]; rfl⟩, hb2⟩
    · have HP : Hid (plainAt fs k = true) := by show plainAt fs k = true; rw [HF.out]; simp [h4]
      go_wp2
      go_ret
      exact ⟨⟨_, rfl, by rw [HR.out, HP.out, if_pos rfl, HQ.out]⟩, hb2⟩
  · rw [if_neg hq] at hr
    subst hr
    have HP : Hid (plainAt fs k = false) := by show plainAt fs k = false; unfold plainAt; simp [hq]
    go_wp2
    go_ret
    exact ⟨⟨_, rfl, by rw [HR.out, HP.out]; rfl⟩, hb2⟩

theorem plain_lt {fs : List Fld} {k : ByteArray} (h : plainAt fs k = true) : nameAt fs k < fs.length := by
  unfold plainAt at h
  have := (Bool.and_eq_true _ _).mp h
  exact of_decide_eq_true this.1

theorem implFitsF (f : Fld) (b : Nat) (v : ByteArray) (w : World) (hv : v.size ≤ maxLen) (h : FldArg w b f) :
    Calls Tryz.prog 74 #[.agg #[.string f.nm, .int .i64 f.kind, .int .i64 f.least, .int .i64 f.most, .slice (some ⟨b, 0, none⟩) f.words.length f.words.length, .string f.to, .int .i64 f.role, .bool f.must, .bool f.fixed, .string f.de, .string f.we], .string v] w
      fun e w' => e = .returned (.bool (fitB f v)) ∧ Below w.heap.size w w' :=
  implFits_any f.nm f.kind f.least f.most b 0 _ f.to f.role f.must f.fixed f.de f.we v f.words w hv h.lt (by have := h.small; unfold Fld.small at this; unfold maxLen; omega) h.cells

set_option maxRecDepth 8000 in
set_option maxHeartbeats 4000000 in
theorem mendOkI (B : Nat) (fs : List Fld) (m : Mnd) (w : World) (h : FldsIn w B fs) (hm : m.sized) :
    Calls Tryz.prog 54 #[.slice (some ⟨B, 0, none⟩) fs.length fs.length, .agg #[.string m.kind, .string m.field, .string m.whn, .string m.is_, .string m.put, .string m.frm]] w fun e w' => e = .returned (.bool (mendOkF fs m)) ∧ Below w.heap.size w w' := by
  have HH : Hid (FldsIn w B fs ∧ m.sized) := ⟨h, hm⟩
  have hl := h.len
  clear h hm
  have HB0 : Hid (Below w.heap.size w (w.alloc (.cells #[.string m.kind, .string m.field, .string m.whn, .string m.is_, .string m.put, .string m.frm] 58))) := blw_alloc (Below.refl _ _) _
  have HM0 : Hid (MndIs (w.alloc (.cells #[.string m.kind, .string m.field, .string m.whn, .string m.is_, .string m.put, .string m.frm] 58)) w.heap.size 0 m ∧ OwnBlk (w.alloc (.cells #[.string m.kind, .string m.field, .string m.whn, .string m.is_, .string m.put, .string m.frm] 58)) w.heap.size 58 6) := ⟨⟨by simp, by simp, by simp, by simp, by simp, by simp, HH.out.2⟩, OwnBlk.alloc w _ 58 6 rfl⟩
  go_enter Tryz.func54, Tryz.ntmps54
  go_wp2_with fail
  refine (mendable B fs m.field _ (HH.out.1.later HB0.out)).mono ?_
  rintro e w1 ⟨⟨r, rfl, hr⟩, hb1⟩
  have HB1 : Hid (Below w.heap.size w w1) := blw_trans HB0.out hb1
  have HM1 : Hid (MndIs w1 w.heap.size 0 m ∧ w.heap.size < w1.heap.size) := ⟨HM0.out.1.later hb1 HM0.out.2.lt, Nat.lt_of_lt_of_le HM0.out.2.lt hb1.size⟩
  have hz1 := HM1.out.2
  have m1 : w1.cell? ⟨w.heap.size, 1, none⟩ = some (.string m.field) := HM1.out.1.c1
  have m2 : w1.cell? ⟨w.heap.size, 2, none⟩ = some (.string m.whn) := HM1.out.1.c2
  have m3 : w1.cell? ⟨w.heap.size, 3, none⟩ = some (.string m.is_) := HM1.out.1.c3
  have m4 : w1.cell? ⟨w.heap.size, 4, none⟩ = some (.string m.put) := HM1.out.1.c4
  have m5 : w1.cell? ⟨w.heap.size, 5, none⟩ = some (.string m.frm) := HM1.out.1.c5
  clear hb1 HB0 HM0
  cases hpl : plainAt fs m.field
  · have HR : Hid (mendOkF fs m = false) := by show mendOkF fs m = false; unfold mendOkF; rw [hpl]; rfl
    rw [hpl, if_neg (by decide)] at hr
    subst hr
    go_wp2
    go_ret
    exact ⟨Pl.ret_bool HR.out.symm, HB1.out⟩
  rw [hpl, if_pos rfl] at hr
  subst hr
  have hq := plain_lt hpl
  obtain ⟨q, hqq⟩ : ∃ q, q = nameAt fs m.field := ⟨_, rfl⟩
  rw [← hqq] at hq ⊢
  have HQ : Hid (q = nameAt fs m.field ∧ plainAt fs m.field = true) := ⟨hqq, hpl⟩
  clear hqq hpl
  go_upto_region 2 with fail
  go_cut [32] (fun s wx => s = .bool (badM m) ∧ wx = w1)
  case first =>
    have HBd : Hid (badM m = ((m.whn.toList.isEmpty && !m.is_.toList.isEmpty) || (m.put.toList.isEmpty == m.frm.toList.isEmpty))) := rfl
    cases h2 : m.whn.toList.isEmpty <;> cases h3 : m.is_.toList.isEmpty <;> cases h4 : m.put.toList.isEmpty <;> cases h5 : m.frm.toList.isEmpty
    all_goals
      go_wp2_with fail
      go_meet
      exact ⟨by rw [HBd.out, h2, h3, h4, h5]; rfl, rfl⟩
  case rest =>
  obtain ⟨rfl, hwc⟩ := hcut
  subst hwc
  rename World => w1
  cases hbd : badM m
  case true =>
    have HR : Hid (mendOkF fs m = false) := by show mendOkF fs m = false; unfold mendOkF; rw [hbd]; simp
    go_wp2
    go_ret
    exact ⟨Pl.ret_bool HR.out.symm, HB1.out⟩
  have HBD : Hid (badM m = false) := hbd
  clear hbd
  go_wp2
  obtain ⟨wl, hwl⟩ : ∃ wl, wl = w1.alloc (.cells #[.string m.whn, .string m.frm] 9) := ⟨_, rfl⟩
  have HSl : Hid (w1.heap.size < wl.heap.size ∧ wl.cell? ⟨w1.heap.size, 0, none⟩ = some (.string m.whn) ∧ wl.cell? ⟨w1.heap.size, 1, none⟩ = some (.string m.frm)) := by
    show _ ∧ _ ∧ _
    rw [hwl]; exact ⟨by simp, by simp, by simp⟩
  have hb1l : Below w1.heap.size w1 wl := by rw [hwl]; exact blw_alloc (Below.refl _ _) _
  have HBl : Hid (Below w.heap.size w wl) := blw_trans HB1.out hb1l
  have HMl : Hid (MndIs wl w.heap.size 0 m ∧ w.heap.size < wl.heap.size) := ⟨HM1.out.1.later hb1l HM1.out.2, Nat.lt_of_lt_of_le HM1.out.2 hb1l.size⟩
  rw [← hwl]
  clear hwl hb1l m1 m2 m3 m4 m5 HM1
  go_loopw [39] (fun i wr => ∃ k : Nat, k ≤ 2 ∧ i = .int .i64 k ∧ Below wl.heap.size wl wr ∧ (1 ≤ k → readOk fs m.field m.whn = true) ∧ (2 ≤ k → readOk fs m.field m.frm = true)) (fun i _ => 2 - (intOf i).toNat)
  case atStart => exact ⟨0, by omega, rfl, Below.refl _ _, fun h => by omega, fun h => by omega⟩
  case round =>
    obtain ⟨k, hk, rfl, hW, hr1, hr2⟩ := hrel
    have HWl : Hid (Below wl.heap.size wl wr) := hW
    have HWr : Hid (Below w.heap.size w wr) := blw_trans HBl.out hW
    have HRs : Hid ((1 ≤ k → readOk fs m.field m.whn = true) ∧ (2 ≤ k → readOk fs m.field m.frm = true)) := ⟨hr1, hr2⟩
    have t0 := (hW.cell (p := ⟨w1.heap.size, 0, none⟩) HSl.out.1).trans HSl.out.2.1
    have t1 := (hW.cell (p := ⟨w1.heap.size, 1, none⟩) HSl.out.1).trans HSl.out.2.2
    have hzl : w1.heap.size < wr.heap.size := Nat.lt_of_lt_of_le HSl.out.1 hW.size
    have hzr : w.heap.size < wr.heap.size := Nat.lt_of_lt_of_le HMl.out.2 hW.size
    have n1 : wr.cell? ⟨w.heap.size, 1, none⟩ = some (.string m.field) := (HMl.out.1.later hW HMl.out.2).c1
    clear hr1 hr2
    by_cases k0 : k = 0
    · subst k0
      have RX : Hid (readOk fs m.field m.whn = (m.whn.toList.isEmpty || (!(m.whn.toList == m.field.toList) && plainAt fs m.whn))) := rfl
      cases he : m.whn.toList.isEmpty
      · cases hq2 : (m.whn.toList == m.field.toList)
        · have HX : Hid (Calls Tryz.prog 73 #[.slice (some ⟨B, 0, none⟩) fs.length fs.length, .string m.whn] wr fun e w' => (∃ r : Int, e = .returned (.int .i64 r) ∧ r = (if plainAt fs m.whn = true then (nameAt fs m.whn : Int) else -1)) ∧ Below wr.heap.size wr w') := mendable B fs m.whn wr (HH.out.1.later HWr.out)
          go_wp2_with fail
          refine HX.out.mono ?_
          rintro e w3 ⟨⟨r, rfl, hr⟩, hb3⟩
          have HB3 : Hid (Below wl.heap.size wl w3) := blw_trans HWl.out hb3
          clear hb3 HX t0 t1 n1 hzr hzl
          cases hpl : plainAt fs m.whn
          · rw [hpl, if_neg (by decide)] at hr
            subst hr
            have HR : Hid (mendOkF fs m = false) := by show mendOkF fs m = false; unfold mendOkF; rw [RX.out, he, hq2, hpl]; simp
            go_wp2
            go_ret
            exact ⟨Pl.ret_bool HR.out.symm, blw_trans HBl.out HB3.out⟩
          · rw [hpl, if_pos rfl] at hr
            subst hr
            have HN : Hid (readOk fs m.field m.whn = true) := by show readOk fs m.field m.whn = true; rw [RX.out, he, hq2, hpl]; rfl
            go_wp2
            go_roundw
            case rel => exact ⟨0 + 1, by omega, by go_num, HB3.out, fun _ => HN.out, fun h => by omega⟩
            case measure => simp [intOf]
        · have HR : Hid (mendOkF fs m = false) := by show mendOkF fs m = false; unfold mendOkF; rw [RX.out, he, hq2]; simp
          go_wp2
          go_ret
          exact ⟨Pl.ret_bool HR.out.symm, HWr.out⟩
      · have HN : Hid (readOk fs m.field m.whn = true) := by show readOk fs m.field m.whn = true; rw [RX.out, he]; rfl
        go_wp2
        go_roundw
        case rel => exact ⟨0 + 1, by omega, by go_num, HWl.out, fun _ => HN.out, fun h => by omega⟩
        case measure => simp [intOf]
    by_cases k1 : k = 1
    · subst k1
      have RX : Hid (readOk fs m.field m.frm = (m.frm.toList.isEmpty || (!(m.frm.toList == m.field.toList) && plainAt fs m.frm))) := rfl
      cases he : m.frm.toList.isEmpty
      · cases hq2 : (m.frm.toList == m.field.toList)
        · have HX : Hid (Calls Tryz.prog 73 #[.slice (some ⟨B, 0, none⟩) fs.length fs.length, .string m.frm] wr fun e w' => (∃ r : Int, e = .returned (.int .i64 r) ∧ r = (if plainAt fs m.frm = true then (nameAt fs m.frm : Int) else -1)) ∧ Below wr.heap.size wr w') := mendable B fs m.frm wr (HH.out.1.later HWr.out)
          go_wp2_with fail
          refine HX.out.mono ?_
          rintro e w3 ⟨⟨r, rfl, hr⟩, hb3⟩
          have HB3 : Hid (Below wl.heap.size wl w3) := blw_trans HWl.out hb3
          clear hb3 HX t0 t1 n1 hzr hzl
          cases hpl : plainAt fs m.frm
          · rw [hpl, if_neg (by decide)] at hr
            subst hr
            have HR : Hid (mendOkF fs m = false) := by show mendOkF fs m = false; unfold mendOkF; rw [RX.out, he, hq2, hpl]; simp
            go_wp2
            go_ret
            exact ⟨Pl.ret_bool HR.out.symm, blw_trans HBl.out HB3.out⟩
          · rw [hpl, if_pos rfl] at hr
            subst hr
            have HN : Hid (readOk fs m.field m.frm = true) := by show readOk fs m.field m.frm = true; rw [RX.out, he, hq2, hpl]; rfl
            go_wp2
            go_roundw
            case rel => exact ⟨1 + 1, by omega, by go_num, HB3.out, fun _ => HRs.out.1 (by omega), fun _ => HN.out⟩
            case measure => simp [intOf]
        · have HR : Hid (mendOkF fs m = false) := by show mendOkF fs m = false; unfold mendOkF; rw [RX.out, he, hq2]; simp
          go_wp2
          go_ret
          exact ⟨Pl.ret_bool HR.out.symm, HWr.out⟩
      · have HN : Hid (readOk fs m.field m.frm = true) := by show readOk fs m.field m.frm = true; rw [RX.out, he]; rfl
        go_wp2
        go_roundw
        case rel => exact ⟨1 + 1, by omega, by go_num, HWl.out, fun _ => HRs.out.1 (by omega), fun _ => HN.out⟩
        case measure => simp [intOf]
    obtain rfl : k = 2 := by omega
    have n4 : wr.cell? ⟨w.heap.size, 4, none⟩ = some (.string m.put) := (HMl.out.1.later hW HMl.out.2).c4
    have HE : Hid (mendOkF fs m = (m.put.toList.isEmpty || fitB (fs.getD q Fld.none) m.put)) := by
      show mendOkF fs m = _
      unfold mendOkF
      rw [HRs.out.1 (by omega), HRs.out.2 (by omega), HQ.out.2, HBD.out, ← HQ.out.1]
      simp [Pl.isEmp]
    clear t0 t1 n1
    cases hpe : m.put.toList.isEmpty
    · obtain ⟨f, hf⟩ : ∃ f, f = fs.getD q Fld.none := ⟨_, rfl⟩
      obtain ⟨b, hfa, hfi⟩ := (HH.out.1.later HWr.out).arg hq hf
      have HFA : Hid (FldArg wr b f) := hfa
      have HR : Hid (mendOkF fs m = fitB f m.put) := by show mendOkF fs m = _; rw [HE.out, hpe, ← hf]; rfl
      have hBl : B < wr.heap.size := (HH.out.1.later HWr.out).lt
      obtain ⟨c0, c1, c2, c3, c4, c5, c6, c7, c8, c9, c10, _, _⟩ := hfi
      clear hfa hf HE
      have HX : Hid (∀ W, Below wr.heap.size wr W → Calls Tryz.prog 74 #[.agg #[.string f.nm, .int .i64 f.kind, .int .i64 f.least, .int .i64 f.most, .slice (some ⟨b, 0, none⟩) f.words.length f.words.length, .string f.to, .int .i64 f.role, .bool f.must, .bool f.fixed, .string f.de, .string f.we], .string m.put] W fun e w' => e = .returned (.bool (mendOkF fs m)) ∧ Below W.heap.size W w') := by
        intro W hW'
        rw [HR.out]
        exact implFitsF f b m.put W HH.out.2.2.2.2.2.1 (HFA.out.later hW')
      go_wp2_with fail
      go_region_with (go_at_call 74; refine (HX.out _ ?_).mono ?_; (repeat (first | exact Below.refl _ _ | refine Below.drew ?_)); rintro e w3 ⟨rfl, hb3⟩)
      all_goals
        go_wp2
        go_ret
        exact ⟨rfl, by repeat (first | exact blw_trans HWr.out hb3 | exact blw_trans HWr.out.drew hb3 | exact blw_trans HWr.out.drew.drew hb3 | refine Below.drew ?_)⟩
    · have HR : Hid (mendOkF fs m = true) := by show mendOkF fs m = _; rw [HE.out, hpe]; rfl
      clear HE
      go_wp2_with fail
      go_region
      all_goals
        go_wp2
        go_ret
        exact ⟨Pl.ret_bool HR.out.symm, by repeat (first | exact HWr.out | refine Below.drew ?_)⟩

end Go.Proofs.YtbannihkgglpaaaGreat
