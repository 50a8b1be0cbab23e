/-
  Walks: the specification: places of fields; what is ready.
-/
import Derived.Deep.DeepCutAuto
import Derived.Deep.RegionWith
import Derived.Test.YtfdahoekjpobaaaGreatMemM
import Derived.Test.YtfdahoekjpobaaaGreatWalkV
import Derived.Test.YtfdahoekjpobaaaGreatWalkD
import Derived.Test.YtfdahoekjpobaaaGreatWalkS
namespace Go.Proofs.YtfdahoekjpobaaaGreat
open Go.RowKit Go.Deep

def plainAt (fs : List Fld) (k : ByteArray) : Bool := decide (nameAt fs k < fs.length) && !decide ((fs.getD (nameAt fs k) Fld.none).kind = 4)
def readOk (fs : List Fld) (f r : ByteArray) : Bool := Pl.isEmp r || (!(r.toList == f.toList) && plainAt fs r)
def badM (m : Mnd) : Bool := (Pl.isEmp m.whn && !Pl.isEmp m.is_) || (Pl.isEmp m.put == Pl.isEmp m.frm)
def mendOkF (fs : List Fld) (m : Mnd) : Bool := plainAt fs m.field && !badM m && readOk fs m.field m.whn && readOk fs m.field m.frm && (Pl.isEmp m.put || fitB (fs.getD (nameAt fs m.field) Fld.none) m.put)

set_option maxHeartbeats 1000000 in
theorem mendable (B : Nat) (fs : List Fld) (k : ByteArray) (w : World) (h : FldsIn w B fs) :
    Calls Tryz.prog 68 #[.slice (some ⟨B, 0, none⟩) fs.length fs.length, .string k] w fun e w' => (∃ r : Int, e = .returned (.int .i64 r) ∧ r = (if plainAt fs k = true then (nameAt fs k : Int) else -1)) ∧ Below w.heap.size w w' := by
  have HH : Hid (FldsIn w B fs) := h
  have hl := h.len
  obtain ⟨R, hR⟩ : ∃ R : Int, R = (if plainAt fs k = true then (nameAt fs k : Int) else -1) := ⟨_, rfl⟩
  rw [← hR]
  have HR : Hid (R = (if plainAt fs k = true then (nameAt fs k : Int) else -1)) := hR
  clear h hR
  go_enter Tryz.func68, Tryz.ntmps68
  go_wp2_with fail
  refine (fieldPlace B fs k w HH.out).mono ?_
  rintro e w2 ⟨⟨r, rfl, hr⟩, hb2⟩
  by_cases hq : nameAt fs k < fs.length
  · rw [if_pos hq] at hr
    subst hr
    obtain ⟨q, hqq⟩ : ∃ q, q = nameAt fs k := ⟨_, rfl⟩
    obtain ⟨f, hf⟩ : ∃ f, f = fs.getD q Fld.none := ⟨_, rfl⟩
    rw [← hqq] at hq ⊢
    obtain ⟨b, _, hfi⟩ := (HH.out.later hb2).arg hq hf
    have c1 := hfi.c1
    have hB : B < w2.heap.size := (HH.out.later hb2).lt
    have HF : Hid (plainAt fs k = !decide (f.kind = 4)) := by show plainAt fs k = _; unfold plainAt; rw [← hqq, ← hf]; simp [hq]
    have HQ : Hid (q = nameAt fs k) := hqq
    clear hfi hf hqq
    by_cases h4 : f.kind = 4
    · have HP : Hid (plainAt fs k = false) := by show plainAt fs k = false; rw [HF.out]; simp [h4]
      go_wp2
      go_ret
      exact ⟨⟨_, rfl, by rw [HR.out, HP.out]; rfl⟩, hb2⟩
    · have HP : Hid (plainAt fs k = true) := by show plainAt fs k = true; rw [HF.out]; simp [h4]
      go_wp2
      go_ret
      exact ⟨⟨_, rfl, by rw [HR.out, HP.out, if_pos rfl, HQ.out]⟩, hb2⟩
  · rw [if_neg hq] at hr
    subst hr
    have HP : Hid (plainAt fs k = false) := by show plainAt fs k = false; unfold plainAt; simp [hq]
    go_wp2
    go_ret
    exact ⟨⟨_, rfl, by rw [HR.out, HP.out]; rfl⟩, hb2⟩

theorem plain_lt {fs : List Fld} {k : ByteArray} (h : plainAt fs k = true) : nameAt fs k < fs.length := by
  unfold plainAt at h
  have := (Bool.and_eq_true _ _).mp h
  exact of_decide_eq_true this.1

theorem implFitsF (f : Fld) (b : Nat) (v : ByteArray) (w : World) (hv : v.size ≤ maxLen) (h : FldArg w b f) :
    Calls Tryz.prog 69 #[.agg #[.string f.nm, .int .i64 f.kind, .int .i64 f.least, .int .i64 f.most, .slice (some ⟨b, 0, none⟩) f.words.length f.words.length, .string f.to, .int .i64 f.role, .bool f.must, .bool f.fixed, .string f.de, .string f.we], .string v] w
      fun e w' => e = .returned (.bool (fitB f v)) ∧ Below w.heap.size w w' :=
  implFits_any f.nm f.kind f.least f.most b 0 _ f.to f.role f.must f.fixed f.de f.we v f.words w hv h.lt (by have := h.small; unfold Fld.small at this; unfold maxLen; omega) h.cells

set_option maxRecDepth 8000 in
set_option maxHeartbeats 4000000 in
theorem mendOkI (B : Nat) (fs : List Fld) (m : Mnd) (w : World) (h : FldsIn w B fs) (hm : m.sized) :
    Calls Tryz.prog 47 #[.slice (some ⟨B, 0, none⟩) fs.length fs.length, .agg #[.string m.kind, .string m.field, .string m.whn, .string m.is_, .string m.put, .string m.frm]] w fun e w' => e = .returned (.bool (mendOkF fs m)) ∧ Below w.heap.size w w' := by
  have HH : Hid (FldsIn w B fs ∧ m.sized) := ⟨h, hm⟩
  have hl := h.len
  clear h hm
  have HB0 : Hid (Below w.heap.size w (w.alloc (.cells #[.string m.kind, .string m.field, .string m.whn, .string m.is_, .string m.put, .string m.frm] 58))) := blw_alloc (Below.refl _ _) _
  have HM0 : Hid (MndIs (w.alloc (.cells #[.string m.kind, .string m.field, .string m.whn, .string m.is_, .string m.put, .string m.frm] 58)) w.heap.size 0 m ∧ OwnBlk (w.alloc (.cells #[.string m.kind, .string m.field, .string m.whn, .string m.is_, .string m.put, .string m.frm] 58)) w.heap.size 58 6) := ⟨⟨by simp, by simp, by simp, by simp, by simp, by simp, HH.out.2⟩, OwnBlk.alloc w _ 58 6 rfl⟩
  go_enter Tryz.func47, Tryz.ntmps47
  go_wp2_with fail
  refine (mendable B fs m.field _ (HH.out.1.later HB0.out)).mono ?_
  rintro e w1 ⟨⟨r, rfl, hr⟩, hb1⟩
  have HB1 : Hid (Below w.heap.size w w1) := blw_trans HB0.out hb1
  have HM1 : Hid (MndIs w1 w.heap.size 0 m ∧ w.heap.size < w1.heap.size) := ⟨HM0.out.1.later hb1 HM0.out.2.lt, Nat.lt_of_lt_of_le HM0.out.2.lt hb1.size⟩
  have hz1 := HM1.out.2
  have m1 : w1.cell? ⟨w.heap.size, 1, none⟩ = some (.string m.field) := HM1.out.1.c1
  have m2 : w1.cell? ⟨w.heap.size, 2, none⟩ = some (.string m.whn) := HM1.out.1.c2
  have m3 : w1.cell? ⟨w.heap.size, 3, none⟩ = some (.string m.is_) := HM1.out.1.c3
  have m4 : w1.cell? ⟨w.heap.size, 4, none⟩ = some (.string m.put) := HM1.out.1.c4
  have m5 : w1.cell? ⟨w.heap.size, 5, none⟩ = some (.string m.frm) := HM1.out.1.c5
  clear hb1 HB0 HM0
  cases hpl : plainAt fs m.field
  · have HR : Hid (mendOkF fs m = false) := by show mendOkF fs m = false; unfold mendOkF; rw [hpl]; rfl
    rw [hpl, if_neg (by decide)] at hr
    subst hr
    go_wp2
    go_ret
    exact ⟨Pl.ret_bool HR.out.symm, HB1.out⟩
  rw [hpl, if_pos rfl] at hr
  subst hr
  have hq := plain_lt hpl
  obtain ⟨q, hqq⟩ : ∃ q, q = nameAt fs m.field := ⟨_, rfl⟩
  rw [← hqq] at hq ⊢
  have HQ : Hid (q = nameAt fs m.field ∧ plainAt fs m.field = true) := ⟨hqq, hpl⟩
  clear hqq hpl
  go_upto_region 2 with fail
  go_cut [32] (fun s wx => s = .bool (badM m) ∧ wx = w1)
  case first =>
    have HBd : Hid (badM m = ((m.whn.toList.isEmpty && !m.is_.toList.isEmpty) || (m.put.toList.isEmpty == m.frm.toList.isEmpty))) := rfl
    cases h2 : m.whn.toList.isEmpty <;> cases h3 : m.is_.toList.isEmpty <;> cases h4 : m.put.toList.isEmpty <;> cases h5 : m.frm.toList.isEmpty
    all_goals
      go_wp2_with fail
      go_meet
      exact ⟨by rw [HBd.out, h2, h3, h4, h5]; rfl, rfl⟩
  case rest =>
  obtain ⟨rfl, hwc⟩ := hcut
  subst hwc
  rename World => w1
  cases hbd : badM m
  case true =>
    have HR : Hid (mendOkF fs m = false) := by show mendOkF fs m = false; unfold mendOkF; rw [hbd]; simp
    go_wp2
    go_ret
    exact ⟨Pl.ret_bool HR.out.symm, HB1.out⟩
  have HBD : Hid (badM m = false) := hbd
  clear hbd
  go_wp2
  obtain ⟨wl, hwl⟩ : ∃ wl, wl = w1.alloc (.cells #[.string m.whn, .string m.frm] 9) := ⟨_, rfl⟩
  have HSl : Hid (w1.heap.size < wl.heap.size ∧ wl.cell? ⟨w1.heap.size, 0, none⟩ = some (.string m.whn) ∧ wl.cell? ⟨w1.heap.size, 1, none⟩ = some (.string m.frm)) := by
    show _ ∧ _ ∧ _
    rw [hwl]; exact ⟨by simp, by simp, by simp⟩
  have hb1l : Below w1.heap.size w1 wl := by rw [hwl]; exact blw_alloc (Below.refl _ _) _
  have HBl : Hid (Below w.heap.size w wl) := blw_trans HB1.out hb1l
  have HMl : Hid (MndIs wl w.heap.size 0 m ∧ w.heap.size < wl.heap.size) := ⟨HM1.out.1.later hb1l HM1.out.2, Nat.lt_of_lt_of_le HM1.out.2 hb1l.size⟩
  rw [← hwl]
  clear hwl hb1l m1 m2 m3 m4 m5 HM1
  go_loopw [39] (fun i wr => ∃ k : Nat, k ≤ 2 ∧ i = .int .i64 k ∧ Below wl.heap.size wl wr ∧ (1 ≤ k → readOk fs m.field m.whn = true) ∧ (2 ≤ k → readOk fs m.field m.frm = true)) (fun i _ => 2 - (intOf i).toNat)
  case atStart => exact ⟨0, by omega, rfl, Below.refl _ _, fun h => by omega, fun h => by omega⟩
  case round =>
    obtain ⟨k, hk, rfl, hW, hr1, hr2⟩ := hrel
    have HWl : Hid (Below wl.heap.size wl wr) := hW
    have HWr : Hid (Below w.heap.size w wr) := blw_trans HBl.out hW
    have HRs : Hid ((1 ≤ k → readOk fs m.field m.whn = true) ∧ (2 ≤ k → readOk fs m.field m.frm = true)) := ⟨hr1, hr2⟩
    have t0 := (hW.cell (p := ⟨w1.heap.size, 0, none⟩) HSl.out.1).trans HSl.out.2.1
    have t1 := (hW.cell (p := ⟨w1.heap.size, 1, none⟩) HSl.out.1).trans HSl.out.2.2
    have hzl : w1.heap.size < wr.heap.size := Nat.lt_of_lt_of_le HSl.out.1 hW.size
    have hzr : w.heap.size < wr.heap.size := Nat.lt_of_lt_of_le HMl.out.2 hW.size
    have n1 : wr.cell? ⟨w.heap.size, 1, none⟩ = some (.string m.field) := (HMl.out.1.later hW HMl.out.2).c1
    clear hr1 hr2
    by_cases k0 : k = 0
    · subst k0
      have RX : Hid (readOk fs m.field m.whn = (m.whn.toList.isEmpty || (!(m.whn.toList == m.field.toList) && plainAt fs m.whn))) := rfl
      cases he : m.whn.toList.isEmpty
      · cases hq2 : (m.whn.toList == m.field.toList)
        · have HX : Hid (Calls Tryz.prog 68 #[.slice (some ⟨B, 0, none⟩) fs.length fs.length, .string m.whn] wr fun e w' => (∃ r : Int, e = .returned (.int .i64 r) ∧ r = (if plainAt fs m.whn = true then (nameAt fs m.whn : Int) else -1)) ∧ Below wr.heap.size wr w') := mendable B fs m.whn wr (HH.out.1.later HWr.out)
          go_wp2_with fail
          refine HX.out.mono ?_
          rintro e w3 ⟨⟨r, rfl, hr⟩, hb3⟩
          have HB3 : Hid (Below wl.heap.size wl w3) := blw_trans HWl.out hb3
          clear hb3 HX t0 t1 n1 hzr hzl
          cases hpl : plainAt fs m.whn
          · rw [hpl, if_neg (by decide)] at hr
            subst hr
            have HR : Hid (mendOkF fs m = false) := by show mendOkF fs m = false; unfold mendOkF; rw [RX.out, he, hq2, hpl]; simp
            go_wp2
            go_ret
            exact ⟨Pl.ret_bool HR.out.symm, blw_trans HBl.out HB3.out⟩
          · rw [hpl, if_pos rfl] at hr
            subst hr
            have HN : Hid (readOk fs m.field m.whn = true) := by show readOk fs m.field m.whn = true; rw [RX.out, he, hq2, hpl]; rfl
            go_wp2
            go_roundw
            case rel => exact ⟨0 + 1, by omega, by go_num, HB3.out, fun _ => HN.out, fun h => by omega⟩
            case measure => simp [intOf]
        · have HR : Hid (mendOkF fs m = false) := by show mendOkF fs m = false; unfold mendOkF; rw [RX.out, he, hq2]; simp
          go_wp2
          go_ret
          exact ⟨Pl.ret_bool HR.out.symm, HWr.out⟩
      · have HN : Hid (readOk fs m.field m.whn = true) := by show readOk fs m.field m.whn = true; rw [RX.out, he]; rfl
        go_wp2
        go_roundw
        case rel => exact ⟨0 + 1, by omega, by go_num, HWl.out, fun _ => HN.out, fun h => by omega⟩
        case measure => simp [intOf]
    by_cases k1 : k = 1
    · subst k1
      have RX : Hid (readOk fs m.field m.frm = (m.frm.toList.isEmpty || (!(m.frm.toList == m.field.toList) && plainAt fs m.frm))) := rfl
      cases he : m.frm.toList.isEmpty
      · cases hq2 : (m.frm.toList == m.field.toList)
        · have HX : Hid (Calls Tryz.prog 68 #[.slice (some ⟨B, 0, none⟩) fs.length fs.length, .string m.frm] wr fun e w' => (∃ r : Int, e = .returned (.int .i64 r) ∧ r = (if plainAt fs m.frm = true then (nameAt fs m.frm : Int) else -1)) ∧ Below wr.heap.size wr w') := mendable B fs m.frm wr (HH.out.1.later HWr.out)
          go_wp2_with fail
          refine HX.out.mono ?_
          rintro e w3 ⟨⟨r, rfl, hr⟩, hb3⟩
          have HB3 : Hid (Below wl.heap.size wl w3) := blw_trans HWl.out hb3
          clear hb3 HX t0 t1 n1 hzr hzl
          cases hpl : plainAt fs m.frm
          · rw [hpl, if_neg (by decide)] at hr
            subst hr
            have HR : Hid (mendOkF fs m = false) := by show mendOkF fs m = false; unfold mendOkF; rw [RX.out, he, hq2, hpl]; simp
            go_wp2
            go_ret
            exact ⟨Pl.ret_bool HR.out.symm, blw_trans HBl.out HB3.out⟩
          · rw [hpl, if_pos rfl] at hr
            subst hr
            have HN : Hid (readOk fs m.field m.frm = true) := by show readOk fs m.field m.frm = true; rw [RX.out, he, hq2, hpl]; rfl
            go_wp2
            go_roundw
            case rel => exact ⟨1 + 1, by omega, by go_num, HB3.out, fun _ => HRs.out.1 (by omega), fun _ => HN.out⟩
            case measure => simp [intOf]
        · have HR : Hid (mendOkF fs m = false) := by show mendOkF fs m = false; unfold mendOkF; rw [RX.out, he, hq2]; simp
          go_wp2
          go_ret
          exact ⟨Pl.ret_bool HR.out.symm, HWr.out⟩
      · have HN : Hid (readOk fs m.field m.frm = true) := by show readOk fs m.field m.frm = true; rw [RX.out, he]; rfl
        go_wp2
        go_roundw
        case rel => exact ⟨1 + 1, by omega, by go_num, HWl.out, fun _ => HRs.out.1 (by omega), fun _ => HN.out⟩
        case measure => simp [intOf]
    obtain rfl : k = 2 := by omega
    have n4 : wr.cell? ⟨w.heap.size, 4, none⟩ = some (.string m.put) := (HMl.out.1.later hW HMl.out.2).c4
    have HE : Hid (mendOkF fs m = (m.put.toList.isEmpty || fitB (fs.getD q Fld.none) m.put)) := by
      show mendOkF fs m = _
      unfold mendOkF
      rw [HRs.out.1 (by omega), HRs.out.2 (by omega), HQ.out.2, HBD.out, ← HQ.out.1]
      simp [Pl.isEmp]
    clear t0 t1 n1
    cases hpe : m.put.toList.isEmpty
    · obtain ⟨f, hf⟩ : ∃ f, f = fs.getD q Fld.none := ⟨_, rfl⟩
      obtain ⟨b, hfa, hfi⟩ := (HH.out.1.later HWr.out).arg hq hf
      have HFA : Hid (FldArg wr b f) := hfa
      have HR : Hid (mendOkF fs m = fitB f m.put) := by show mendOkF fs m = _; rw [HE.out, hpe, ← hf]; rfl
      have hBl : B < wr.heap.size := (HH.out.1.later HWr.out).lt
      obtain ⟨c0, c1, c2, c3, c4, c5, c6, c7, c8, c9, c10, _, _⟩ := hfi
      clear hfa hf HE
      have HX : Hid (∀ W, Below wr.heap.size wr W → Calls Tryz.prog 69 #[.agg #[.string f.nm, .int .i64 f.kind, .int .i64 f.least, .int .i64 f.most, .slice (some ⟨b, 0, none⟩) f.words.length f.words.length, .string f.to, .int .i64 f.role, .bool f.must, .bool f.fixed, .string f.de, .string f.we], .string m.put] W fun e w' => e = .returned (.bool (mendOkF fs m)) ∧ Below W.heap.size W w') := by
        intro W hW'
        rw [HR.out]
        exact implFitsF f b m.put W HH.out.2.2.2.2.2.1 (HFA.out.later hW')
      go_wp2_with fail
      go_region_with (go_at_call 69; refine (HX.out _ ?_).mono ?_; (repeat (first | exact Below.refl _ _ | refine Below.drew ?_)); rintro e w3 ⟨rfl, hb3⟩)
      all_goals
        go_wp2
        go_ret
        exact ⟨rfl, by repeat (first | exact blw_trans HWr.out hb3 | exact blw_trans HWr.out.drew hb3 | exact blw_trans HWr.out.drew.drew hb3 | refine Below.drew ?_)⟩
    · have HR : Hid (mendOkF fs m = true) := by show mendOkF fs m = _; rw [HE.out, hpe]; rfl
      clear HE
      go_wp2_with fail
      go_region
      all_goals
        go_wp2
        go_ret
        exact ⟨Pl.ret_bool HR.out.symm, by repeat (first | exact HWr.out | refine Below.drew ?_)⟩

end Go.Proofs.YtfdahoekjpobaaaGreat

namespace Go.Proofs.YtfdahoekjpobaaaGreat
open Go.RowKit Go.Deep

set_option maxHeartbeats 1000000 in
theorem l3Field (B : Nat) (fs : List Fld) (k : ByteArray) (w : World) (h : FldsIn w B fs) :
    Calls Tryz.prog 60 #[.slice (some ⟨B, 0, none⟩) fs.length fs.length, .string k] w fun e w' => e = .returned (.int .i64 (if nameAt fs k < fs.length then (nameAt fs k : Int) else -1)) ∧ w = w' := by
  have hl := h.len
  have HH : Hid (FldsIn w B fs) := h
  obtain ⟨R, hR⟩ : ∃ R : Int, R = (if nameAt fs k < fs.length then (nameAt fs k : Int) else -1) := ⟨_, rfl⟩
  rw [← hR]
  have HR : Hid (R = (if nameAt fs k < fs.length then (nameAt fs k : Int) else -1)) := hR
  have hB := h.lt
  clear h hR
  go_enter Tryz.func60, Tryz.ntmps60
  go_wp2
  go_loop [5] (fun i => ∃ q : Nat, q ≤ fs.length ∧ i = .int .i64 q ∧ q ≤ nameAt fs k) (fun i => fs.length - (intOf i).toNat)
  case atStart => exact ⟨0, Nat.zero_le _, rfl, Nat.zero_le _⟩
  case round =>
    obtain ⟨q, hq, rfl, hno⟩ := hrel
    have HN : Hid (q ≤ nameAt fs k) := hno
    clear hno
    by_cases hlt : q < fs.length
    · obtain ⟨f, hff⟩ : ∃ f, f = fs.getD q Fld.none := ⟨_, rfl⟩
      obtain ⟨b, _, hf⟩ := HH.out.arg hlt hff
      have c0 := hf.c0
      clear hf
      cases ht : (f.nm.toList == k.toList)
      · have HM : Hid (q + 1 ≤ nameAt fs k) := nameAt_miss fs k q hlt HN.out (by rw [← hff]; exact ht)
        clear hff
        go_wp2
        go_round
        case rel => exact ⟨q + 1, by omega, by go_num, HM.out⟩
        case measure => simp [intOf]; omega
      · have HM : Hid (nameAt fs k = q) := nameAt_hit fs k q hlt HN.out (by rw [← hff]; exact ht)
        clear hff
        go_wp2
        go_ret
        exact ⟨Pl.ret_int (by rw [HR.out, HM.out, if_pos hlt]), rfl⟩
    · go_wp2
      go_ret
      exact ⟨Pl.ret_int (by rw [HR.out, if_neg (by have := HN.out; omega)]), rfl⟩

set_option maxHeartbeats 1000000 in
theorem l3Plain (B : Nat) (fs : List Fld) (k : ByteArray) (w : World) (h : FldsIn w B fs) :
    Calls Tryz.prog 58 #[.slice (some ⟨B, 0, none⟩) fs.length fs.length, .string k] w fun e w' => e = .returned (.bool (plainAt fs k)) ∧ w = w' := by
  have HH : Hid (FldsIn w B fs) := h
  have hl := h.len
  obtain ⟨R, hR⟩ : ∃ R, R = plainAt fs k := ⟨_, rfl⟩
  rw [← hR]
  have HR : Hid (R = plainAt fs k) := hR
  have hB := h.lt
  clear h hR
  go_enter Tryz.func58, Tryz.ntmps58
  go_wp2_with fail
  refine (l3Field B fs k w HH.out).mono ?_
  rintro e w2 ⟨rfl, rfl⟩
  by_cases hq : nameAt fs k < fs.length
  · rw [if_pos hq]
    obtain ⟨q, hqq⟩ : ∃ q, q = nameAt fs k := ⟨_, rfl⟩
    obtain ⟨f, hf⟩ : ∃ f, f = fs.getD q Fld.none := ⟨_, rfl⟩
    rw [← hqq] at hq ⊢
    obtain ⟨b, _, hfi⟩ := HH.out.arg hq hf
    have c1 := hfi.c1
    have HF : Hid (R = !decide (f.kind = 4)) := by show R = _; rw [HR.out]; unfold plainAt; rw [← hqq, ← hf]; simp [hq]
    clear hfi hf hqq
    by_cases h4 : f.kind = 4
    · have HP : Hid (R = false) := by show R = false; rw [HF.out]; simp [h4]
      go_wp2
      go_ret
      exact ⟨Pl.ret_bool HP.out.symm, rfl⟩
    · have HP : Hid (R = true) := by show R = true; rw [HF.out]; simp [h4]
      go_wp2
      go_ret
      exact ⟨Pl.ret_bool (by rw [HP.out]; simp [h4]), rfl⟩
  · rw [if_neg hq]
    have HP : Hid (R = false) := by show R = false; rw [HR.out]; unfold plainAt; simp [hq]
    go_wp2
    go_ret
    exact ⟨Pl.ret_bool HP.out.symm, rfl⟩

theorem specFitsF (f : Fld) (b : Nat) (v : ByteArray) (w : World) (hv : v.size ≤ maxLen) (h : FldArg w b f) :
    Calls Tryz.prog 59 #[.agg #[.string f.nm, .int .i64 f.kind, .int .i64 f.least, .int .i64 f.most, .slice (some ⟨b, 0, none⟩) f.words.length f.words.length, .string f.to, .int .i64 f.role, .bool f.must, .bool f.fixed, .string f.de, .string f.we], .string v] w
      fun e w' => e = .returned (.bool (fitB f v)) ∧ Below w.heap.size w w' :=
  specFits_any f.nm f.kind f.least f.most b 0 _ f.to f.role f.must f.fixed f.de f.we v f.words w hv h.lt (by have := h.small; unfold Fld.small at this; unfold maxLen; omega) h.cells

/-- The names of a row in memory: nil or a block. -/
def NamesAt (w : World) (v : Value) (l : List ByteArray) : Prop :=
  ∃ g c, v = .slice (some ⟨g, 0, none⟩) l.length c ∧ g < w.heap.size ∧ l.length ≤ 1048576 ∧ ∀ i, i < l.length → w.cell? ⟨g, i, none⟩ = some (.string (l.getD i ByteArray.empty))

theorem NamesAt.later {w w' : World} {v : Value} {l : List ByteArray} (h : NamesAt w v l) (hb : Below w.heap.size w w') : NamesAt w' v l := by
  obtain ⟨g, c, rfl, h1, h2, h3⟩ := h
  exact ⟨g, c, rfl, Nat.lt_of_lt_of_le h1 hb.size, h2, fun i hi => (hb.cell (p := ⟨g, i, none⟩) h1).trans (h3 i hi)⟩

theorem hasN (v : Value) (l : List ByteArray) (s : ByteArray) (w : World) (h : NamesAt w v l) :
    Calls Tryz.prog 61 #[v, .string s] w fun e w' => e = .returned (.bool (Pl.has l s)) ∧ w = w' := by
  obtain ⟨g, c, rfl, _, h2, h3⟩ := h
  exact l1Has_row g 0 c l s w (by unfold maxLen; omega) (fun i hi => by rw [Nat.zero_add]; exact h3 i hi)

def needN (row : List ByteArray) (k : ByteArray) : Bool := Pl.isEmp k || Pl.has row k
def readyN1 (K f : ByteArray) (row : List ByteArray) (m : Mnd) : Bool := !(m.kind.toList == K.toList && m.field.toList == f.toList) || (needN row m.whn && needN row m.frm)
def readyN (ms : List Mnd) (K f : ByteArray) (row : List ByteArray) : Bool := (List.range ms.length).all fun i => readyN1 K f row (ms.getD i Mnd.none)
def readyNTo (ms : List Mnd) (K f : ByteArray) (row : List ByteArray) (k : Nat) : Bool := (List.range k).all fun i => readyN1 K f row (ms.getD i Mnd.none)

set_option maxRecDepth 8000 in
set_option maxHeartbeats 4000000 in
theorem l3Ready (mb : Nat) (ms : List Mnd) (K f : ByteArray) (a : Option Addr) (n c : Nat) (row : List ByteArray) (w : World) (h : MndsIn w mb ms) (hr : NamesAt w (.slice a n c) row) :
    Calls Tryz.prog 62 #[.slice (some ⟨mb, 0, none⟩) ms.length ms.length, .string K, .string f, .slice a n c] w fun e w' => e = .returned (.bool (readyN ms K f row)) ∧ Below w.heap.size w w' := by
  have hl := h.len
  have HH : Hid (MndsIn w mb ms ∧ NamesAt w (.slice a n c) row) := ⟨h, hr⟩
  have hmb := h.lt
  clear h hr
  go_enter Tryz.func62, Tryz.ntmps62
  go_wp2
  go_loopw [9] (fun i wr => ∃ k : Nat, k ≤ ms.length ∧ i = .int .i64 k ∧ readyNTo ms K f row k = true ∧ Below w.heap.size w wr) (fun i _ => ms.length - (intOf i).toNat)
  case atStart => exact ⟨0, Nat.zero_le _, rfl, rfl, Below.refl _ _⟩
  case round =>
    obtain ⟨k, hk, rfl, hall, hW⟩ := hrel
    have HA : Hid (readyNTo ms K f row k = true) := hall
    have HW : Hid (Below w.heap.size w wr) := hW
    clear hall
    by_cases hlt : k < ms.length
    · have hmk := (HH.out.1.later hW).at_ k hlt
      obtain ⟨m, hmm⟩ : ∃ m, m = ms.getD k Mnd.none := ⟨_, rfl⟩
      rw [← hmm] at hmk
      have hmb2 : mb < wr.heap.size := Nat.lt_of_lt_of_le hmb hW.size
      obtain ⟨c0, c1, c2, c3, c4, c5, _⟩ := hmk
      have HT : Hid (readyN1 K f row (ms.getD k Mnd.none) = (!(m.kind.toList == K.toList && m.field.toList == f.toList) || ((m.whn.toList.isEmpty || Pl.has row m.whn) && (m.frm.toList.isEmpty || Pl.has row m.frm)))) := by rw [← hmm]; rfl
      have HS : Hid (readyN1 K f row (ms.getD k Mnd.none) = true → readyNTo ms K f row (k + 1) = true) := by
        intro h1; show readyNTo ms K f row (k + 1) = true; unfold readyNTo; rw [Pl.to_succ, h1]; have := HA.out; unfold readyNTo at this; rw [this]; rfl
      have HZ : Hid (readyN1 K f row (ms.getD k Mnd.none) = false → readyN ms K f row = false) := by
        intro h1; exact Pl.to_false _ _ k hlt h1
      have HC : Hid (∀ s W, Below wr.heap.size wr W → Calls Tryz.prog 61 #[.slice a n c, .string s] W fun e w' => e = .returned (.bool (Pl.has row s)) ∧ W = w') := fun s W hW' => hasN _ row s W (HH.out.2.later (blw_trans HW.out hW'))
      have hbx : Below wr.heap.size wr (wr.alloc (.cells #[.string m.kind, .string m.field, .string m.whn, .string m.is_, .string m.put, .string m.frm] 58)) := blw_alloc (Below.refl _ _) _
      have HBx : Hid (Below wr.heap.size wr (wr.alloc (.cells #[.string m.kind, .string m.field, .string m.whn, .string m.is_, .string m.put, .string m.frm] 58))) := hbx
      clear hmm hW hbx
      cases q0 : (m.kind.toList == K.toList)
      · have HR : Hid (readyNTo ms K f row (k + 1) = true) := HS.out (by rw [HT.out, q0]; rfl)
        go_wp2
        go_roundw
        case rel => exact ⟨k + 1, by omega, by go_num, HR.out, blw_trans HW.out HBx.out⟩
        case measure => simp [intOf]; omega
      cases q1 : (m.field.toList == f.toList)
      · have HR : Hid (readyNTo ms K f row (k + 1) = true) := HS.out (by rw [HT.out, q0, q1]; rfl)
        go_wp2
        go_roundw
        case rel => exact ⟨k + 1, by omega, by go_num, HR.out, blw_trans HW.out HBx.out⟩
        case measure => simp [intOf]; omega
      obtain ⟨hw, hhw⟩ : ∃ hw, hw = Pl.has row m.whn := ⟨_, rfl⟩
      obtain ⟨hf, hhf⟩ : ∃ hf, hf = Pl.has row m.frm := ⟨_, rfl⟩
      have HCw : Hid (∀ W, Below wr.heap.size wr W → Calls Tryz.prog 61 #[.slice a n c, .string m.whn] W fun e w' => e = .returned (.bool hw) ∧ W = w') := by rw [hhw]; exact fun W hW' => HC.out m.whn W hW'
      have HCf : Hid (∀ W, Below wr.heap.size wr W → Calls Tryz.prog 61 #[.slice a n c, .string m.frm] W fun e w' => e = .returned (.bool hf) ∧ W = w') := by rw [hhf]; exact fun W hW' => HC.out m.frm W hW'
      have HT2 : Hid (readyN1 K f row (ms.getD k Mnd.none) = ((m.whn.toList.isEmpty || hw) && (m.frm.toList.isEmpty || hf))) := by show readyN1 K f row _ = _; rw [HT.out, q0, q1, hhw, hhf]; rfl
      clear HT HC hhw hhf
      cases e2 : m.whn.toList.isEmpty
      · cases e5 : m.frm.toList.isEmpty
        · go_wp2_with fail
          refine (HCw.out _ HBx.out).mono ?_
          rintro e w' ⟨rfl, rfl⟩
          cases hw
          · have HR : Hid (readyN ms K f row = false) := HZ.out (by rw [HT2.out, e2, e5]; simp)
            go_wp2
            go_ret
            exact ⟨Pl.ret_bool HR.out.symm, blw_trans HW.out HBx.out⟩
          · go_wp2_with fail
            refine (HCf.out _ HBx.out).mono ?_
            rintro e w' ⟨rfl, rfl⟩
            cases hf
            · have HR : Hid (readyN ms K f row = false) := HZ.out (by rw [HT2.out, e2, e5]; simp)
              go_wp2
              go_ret
              exact ⟨Pl.ret_bool HR.out.symm, blw_trans HW.out HBx.out⟩
            · have HR : Hid (readyNTo ms K f row (k + 1) = true) := HS.out (by rw [HT2.out, e2, e5]; rfl)
              go_wp2
              go_roundw
              case rel => exact ⟨k + 1, by omega, by go_num, HR.out, blw_trans HW.out HBx.out⟩
              case measure => simp [intOf]; omega
        · go_wp2_with fail
          refine (HCw.out _ HBx.out).mono ?_
          rintro e w' ⟨rfl, rfl⟩
          cases hw
          · have HR : Hid (readyN ms K f row = false) := HZ.out (by rw [HT2.out, e2, e5]; simp)
            go_wp2
            go_ret
            exact ⟨Pl.ret_bool HR.out.symm, blw_trans HW.out HBx.out⟩
          · have HR : Hid (readyNTo ms K f row (k + 1) = true) := HS.out (by rw [HT2.out, e2, e5]; rfl)
            go_wp2
            go_roundw
            case rel => exact ⟨k + 1, by omega, by go_num, HR.out, blw_trans HW.out HBx.out⟩
            case measure => simp [intOf]; omega
      · cases e5 : m.frm.toList.isEmpty
        · go_wp2_with fail
          refine (HCf.out _ HBx.out).mono ?_
          rintro e w' ⟨rfl, rfl⟩
          cases hf
          · have HR : Hid (readyN ms K f row = false) := HZ.out (by rw [HT2.out, e2, e5]; simp)
            go_wp2
            go_ret
            exact ⟨Pl.ret_bool HR.out.symm, blw_trans HW.out HBx.out⟩
          · have HR : Hid (readyNTo ms K f row (k + 1) = true) := HS.out (by rw [HT2.out, e2, e5]; rfl)
            go_wp2
            go_roundw
            case rel => exact ⟨k + 1, by omega, by go_num, HR.out, blw_trans HW.out HBx.out⟩
            case measure => simp [intOf]; omega
        · have HR : Hid (readyNTo ms K f row (k + 1) = true) := HS.out (by rw [HT2.out, e2, e5]; rfl)
          go_wp2
          go_roundw
          case rel => exact ⟨k + 1, by omega, by go_num, HR.out, blw_trans HW.out HBx.out⟩
          case measure => simp [intOf]; omega
    · have HR : Hid (readyN ms K f row = true) := by have e : k = ms.length := (by omega); have := HA.out; rw [e] at this; exact this
      go_wp2
      go_ret
      exact ⟨Pl.ret_bool HR.out.symm, HW.out⟩

end Go.Proofs.YtfdahoekjpobaaaGreat
