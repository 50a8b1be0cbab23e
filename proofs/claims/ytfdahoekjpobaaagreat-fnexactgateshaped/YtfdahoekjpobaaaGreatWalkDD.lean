/-
  Walks: the value that the deciding mend gives: the specification.
-/
import Derived.Deep.QuietTactic
import Derived.Test.YtfdahoekjpobaaaGreatPlainMd
namespace Go.Proofs.YtfdahoekjpobaaaGreat
open Go.RowKit Go.Deep

def mDec (fs : List Fld) (K : ByteArray) (p : Nat) (vs : List ByteArray) (m : Mnd) : Bool := ofKind K m && decidesB p vs (mngOf fs m)
def decideV (fs : List Fld) (K : ByteArray) (p : Nat) (vs : List ByteArray) : List Mnd → Option ByteArray
  | [] => none
  | m :: ms => if mDec fs K p vs m then some (givesB (mngOf fs m) vs) else decideV fs K p vs ms

theorem decideV_eq (fs : List Fld) (K : ByteArray) (p : Nat) (vs : List ByteArray) : ∀ ms : List Mnd, decideV fs K p vs ms = if decAt (mngsOf fs ms K) p vs < (mngsOf fs ms K).length then some (givesB ((mngsOf fs ms K).getD (decAt (mngsOf fs ms K) p vs) Mng.none) vs) else none
  | [] => by simp [decideV, mngsOf, decAt]
  | m :: ms => by
    have ih := decideV_eq fs K p vs ms
    unfold decideV mDec
    cases hk : ofKind K m
    · have e : mngsOf fs (m :: ms) K = mngsOf fs ms K := by simp [mngsOf, hk]
      rw [e]; simpa using ih
    · have e : mngsOf fs (m :: ms) K = mngOf fs m :: mngsOf fs ms K := by simp [mngsOf, hk]
      rw [e]
      cases hd : decidesB p vs (mngOf fs m)
      · have e2 : decAt (mngOf fs m :: mngsOf fs ms K) p vs = decAt (mngsOf fs ms K) p vs + 1 := by unfold decAt; rw [List.findIdx_cons, hd]; rfl
        rw [e2]
        simp only [Bool.true_and, Bool.false_eq_true, if_false, List.length_cons, Nat.add_lt_add_iff_right, List.getD_cons_succ]
        exact ih
      · have e2 : decAt (mngOf fs m :: mngsOf fs ms K) p vs = 0 := by unfold decAt; rw [List.findIdx_cons, hd]; rfl
        rw [e2]; simp

theorem decideV_drop {fs : List Fld} {K : ByteArray} {p : Nat} {vs : List ByteArray} {ms : List Mnd} {i : Nat} (hi : i < ms.length) : decideV fs K p vs (ms.drop i) = if mDec fs K p vs (ms.getD i Mnd.none) then some (givesB (mngOf fs (ms.getD i Mnd.none)) vs) else decideV fs K p vs (ms.drop (i + 1)) := by
  have e : ms.getD i Mnd.none = ms[i] := by simp [hi]
  rw [List.drop_eq_getElem_cons hi, e]
  rfl

theorem mendStep_eq (fs : List Fld) (K : ByteArray) (ms : List Mnd) (vs : List ByteArray) (p : Nat) (hp : p < vs.length) : mendStep (mngsOf fs ms K) vs p = vs.set p ((decideV fs K p vs ms).getD (vs.getD p ByteArray.empty)) := by
  rw [decideV_eq]
  unfold mendStep
  split
  · rfl
  · simp only [Option.getD_none]
    apply List.ext_getElem
    · simp
    · intro i h1 h2
      by_cases hip : p = i
      · subst hip; simp [hp]
      · simp [hip]

theorem field_eq {ss : List Shp} {fs : List Fld} (h : fieldsOk ss fs = true) {p : Nat} (hp : p < fs.length) {k : ByteArray} (hk : nameAt fs k < fs.length) : decide (nameAt fs k = p) = (k.toList == (nmAt fs p).toList) := by
  cases hb : (k.toList == (nmAt fs p).toList)
  · rw [decide_eq_false]
    intro e
    have := List.findIdx_getElem (xs := fs) (p := fun f : Fld => f.nm.toList == k.toList) (w := hk)
    have e2 : fs.getD p Fld.none = fs[p] := by simp [hp]
    have e3 : nmAt fs p = (fs[nameAt fs k]).nm := by unfold nmAt; rw [e2]; simp only [e]
    rw [e3] at hb
    have h4 : ((fs[nameAt fs k]).nm.toList == k.toList) = true := this
    rw [beq_iff_eq] at h4
    rw [h4] at hb
    simp at hb
  · rw [decide_eq_true]
    rw [beq_iff_eq] at hb
    rw [nameAt_eq hb]
    exact nameAt_self h hp

/-- When a mend decides, in the words of the specification. -/
theorem mDec_eq {ss : List Shp} {fs : List Fld} (h : fieldsOk ss fs = true) {p : Nat} (hp : p < fs.length) {K : ByteArray} {vs : List ByteArray} {m : Mnd} (hf : ofKind K m = true → found fs m) :
    mDec fs K p vs m = ((m.kind.toList == K.toList) && (m.field.toList == (nmAt fs p).toList) && (Pl.isEmp m.whn || ((vs.getD (nameAt fs m.whn) ByteArray.empty).toList == m.is_.toList)) && (Pl.isEmp m.frm || !(vs.getD (nameAt fs m.frm) ByteArray.empty).toList.isEmpty)) := by
  unfold mDec decidesB
  cases hk : ofKind K m
  · unfold ofKind at hk; rw [hk]; rfl
  · have hf := hf hk
    unfold ofKind at hk
    rw [hk]
    show (true && (decide (nameAt fs m.field = p) && (needsOf fs m).all (metB vs))) = _
    rw [field_eq h hp hf.1]
    unfold needsOf
    cases hw : Pl.isEmp m.whn <;> cases hr : Pl.isEmp m.frm <;> simp [metB, Bool.and_assoc]

theorem l3Field_at (B : Nat) (fs : List Fld) (k : ByteArray) (w : World) (h : FldsIn w B fs) (hk : nameAt fs k < fs.length) :
    Calls Tryz.prog 60 #[.slice (some ⟨B, 0, none⟩) fs.length fs.length, .string k] w fun e w' => e = .returned (.int .i64 (nameAt fs k : Nat)) ∧ w' = w := by
  refine (l3Field B fs k w h).mono ?_
  rintro e w' ⟨rfl, rfl⟩
  rw [if_pos hk]
  exact ⟨rfl, rfl⟩

set_option maxRecDepth 8000 in
set_option maxHeartbeats 16000000 in
theorem decidedS (ss : List Shp) (fb mb g cap p : Nat) (fs : List Fld) (ms : List Mnd) (vs : List ByteArray) (kd nm tm : ByteArray) (en : Bool) (v2 : Value) (ver : Int) (w : World) (hfi : FldsIn w fb fs) (hm : MndsIn w mb ms) (hv : VAt w g vs) (hfo : fieldsOk ss fs = true) (hvl : vs.length = fs.length) (hp : p < fs.length)
    (hf : ∀ m ∈ ms, ofKind kd m = true → found fs m) (ho : ∀ m ∈ ms, ofKind kd m = true → mendOkF fs m = true) :
    Calls Tryz.prog 64 #[.slice (some ⟨fb, 0, none⟩) fs.length fs.length, .slice (some ⟨mb, 0, none⟩) ms.length ms.length, .agg #[.string kd, .string nm, .string tm, .slice (some ⟨g, 0, none⟩) vs.length cap, .bool en, v2, .int .i64 ver], .string (nmAt fs p)] w fun e w' => e = .returned (.string ((decideV fs kd p vs ms).getD (vs.getD p ByteArray.empty))) ∧ Below w.heap.size w w' := by
  have HA : Hid (FldsIn w fb fs ∧ MndsIn w mb ms ∧ VAt w g vs) := ⟨hfi, hm, hv⟩
  have HP : Hid (fieldsOk ss fs = true ∧ vs.length = fs.length ∧ (∀ m ∈ ms, ofKind kd m = true → found fs m) ∧ (∀ m ∈ ms, ofKind kd m = true → mendOkF fs m = true)) := ⟨hfo, hvl, hf, ho⟩
  have hlm := hm.len
  have hlf := hfi.len
  have hpv : p < vs.length := by omega
  have hlv := hv.len
  have HNP : Hid (nameAt fs (nmAt fs p) = p) := nameAt_self hfo hp
  clear hfi hm hv hfo hvl hf ho
  obtain ⟨fd, hfd⟩ : ∃ fd, fd = nmAt fs p := ⟨_, rfl⟩
  have HFD : Hid (fd = nmAt fs p) := hfd
  rw [← hfd] at HNP ⊢
  clear hfd
  obtain ⟨w1, hw1⟩ : ∃ w1, w1 = w.alloc (.cells #[.string kd, .string nm, .string tm, .slice (some ⟨g, 0, none⟩) vs.length cap, .bool en, v2, .int .i64 ver] 30) := ⟨_, rfl⟩
  have HB1 : Hid (Below w.heap.size w w1) := by show Below _ _ _; rw [hw1]; exact blw_alloc (Below.refl _ _) _
  have HX1 : Hid (w.heap.size < w1.heap.size ∧ w1.cell? ⟨w.heap.size, 0, none⟩ = some (.string kd) ∧ w1.cell? ⟨w.heap.size, 3, none⟩ = some (.slice (some ⟨g, 0, none⟩) vs.length cap)) := by
    refine ⟨?_, ?_, ?_⟩ <;> rw [hw1] <;> simp
  go_enter Tryz.func64, Tryz.ntmps64
  go_upto_region 1 with fail
  rw [← hw1]
  clear hw1
  go_wp2
  go_loopw [9, 10, 11] (fun s9 s10 s11 wr => ∃ q : Nat, q ≤ ms.length ∧ s9 = .int .i64 q ∧ decideV fs kd p vs ms = decideV fs kd p vs (ms.drop q) ∧ Below w1.heap.size w1 wr) (fun s9 _ _ _ => ms.length - (intOf s9).toNat)
  case atStart => exact ⟨0, Nat.zero_le _, rfl, rfl, Below.refl _ _⟩
  case round =>
    obtain ⟨q, hq, rfl, hdv, hW⟩ := hrel
    have HDV : Hid (decideV fs kd p vs ms = decideV fs kd p vs (ms.drop q)) := hdv
    have HW : Hid (Below w1.heap.size w1 wr) := hW
    have HWB : Hid (Below w.heap.size w wr) := blw_trans HB1.out hW
    have xz : w.heap.size < wr.heap.size := Nat.lt_of_lt_of_le HX1.out.1 hW.size
    have x0 := (hW.cell (p := ⟨w.heap.size, 0, none⟩) HX1.out.1).trans HX1.out.2.1
    have x3 := (hW.cell (p := ⟨w.heap.size, 3, none⟩) HX1.out.1).trans HX1.out.2.2
    clear hdv hW
    by_cases hlt : q < ms.length
    · have hmq := (HA.out.2.1.later HWB.out).at_ q hlt
      have hmz := (HA.out.2.1.later HWB.out).lt
      obtain ⟨m, hmm⟩ : ∃ m, m = ms.getD q Mnd.none := ⟨_, rfl⟩
      rw [← hmm] at hmq
      obtain ⟨c0, c1, c2, c3, c4, c5, _⟩ := hmq
      have hmem : m ∈ ms := by rw [hmm]; simp [hlt]
      have HMD : Hid (mDec fs kd p vs m = ((m.kind.toList == kd.toList) && (m.field.toList == fd.toList) && (Pl.isEmp m.whn || ((vs.getD (nameAt fs m.whn) ByteArray.empty).toList == m.is_.toList)) && (Pl.isEmp m.frm || !(vs.getD (nameAt fs m.frm) ByteArray.empty).toList.isEmpty))) := by rw [HFD.out]; exact mDec_eq HP.out.1 hp (HP.out.2.2.1 m hmem)
      have HSK : Hid (mDec fs kd p vs m = false → decideV fs kd p vs ms = decideV fs kd p vs (ms.drop (q + 1))) := by
        intro hf
        rw [HDV.out, decideV_drop hlt, ← hmm, hf]; rfl
      have HHT : Hid (mDec fs kd p vs m = true → decideV fs kd p vs ms = some (givesB (mngOf fs m) vs)) := by
        intro hf
        rw [HDV.out, decideV_drop hlt, ← hmm, hf]; rfl
      have HFM : Hid (ofKind kd m = true → found fs m ∧ mendOkF fs m = true) := fun hk => ⟨HP.out.2.2.1 m hmem hk, HP.out.2.2.2 m hmem hk⟩
      clear hmm hmem
      obtain ⟨w2, hw2⟩ : ∃ w2, w2 = wr.alloc (.cells #[.string m.kind, .string m.field, .string m.whn, .string m.is_, .string m.put, .string m.frm] 58) := ⟨_, rfl⟩
      have HK2 : Hid (Below wr.heap.size wr w2) := by show Below _ _ _; rw [hw2]; exact blw_alloc (Below.refl _ _) _
      have HM2 : Hid (wr.heap.size < w2.heap.size ∧ ∀ j, w2.cell? ⟨wr.heap.size, j, none⟩ = (#[.string m.kind, .string m.field, .string m.whn, .string m.is_, .string m.put, .string m.frm] : Array Value)[j]?) := by
        refine ⟨by rw [hw2]; simp, fun j => by rw [hw2]; exact World.cell?_alloc_at _ _ _ _ rfl⟩
      go_upto_region 5 with fail
      rw [← hw2]
      clear hw2 c0 c1 c2 c3 c4 c5 hmz
      have mz := HM2.out.1
      have d0 : w2.cell? ⟨wr.heap.size, 0, none⟩ = some (.string m.kind) := HM2.out.2 0
      have d1 : w2.cell? ⟨wr.heap.size, 1, none⟩ = some (.string m.field) := HM2.out.2 1
      have d2 : w2.cell? ⟨wr.heap.size, 2, none⟩ = some (.string m.whn) := HM2.out.2 2
      have d3 : w2.cell? ⟨wr.heap.size, 3, none⟩ = some (.string m.is_) := HM2.out.2 3
      have d4 : w2.cell? ⟨wr.heap.size, 4, none⟩ = some (.string m.put) := HM2.out.2 4
      have d5 : w2.cell? ⟨wr.heap.size, 5, none⟩ = some (.string m.frm) := HM2.out.2 5
      have y0 := (HK2.out.cell (p := ⟨w.heap.size, 0, none⟩) xz).trans x0
      have y3 := (HK2.out.cell (p := ⟨w.heap.size, 3, none⟩) xz).trans x3
      have yz : w.heap.size < w2.heap.size := Nat.lt_of_lt_of_le xz HK2.out.size
      have HB2 : Hid (Below w.heap.size w w2) := blw_trans HWB.out HK2.out
      have HV2 : Hid (VAt w2 g vs ∧ FldsIn w2 fb fs) := ⟨HA.out.2.2.later HB2.out, HA.out.1.later HB2.out⟩
      have gz := HV2.out.1.lt
      clear x0 x3 xz
      cases h1 : (m.kind.toList == kd.toList)
      · have HN : Hid (decideV fs kd p vs ms = decideV fs kd p vs (ms.drop (q + 1))) := HSK.out (by rw [HMD.out, h1]; rfl)
        have h1' : (m.kind.toList != kd.toList) = true := by simp [bne, h1]
        go_quiet (fail)
        go_wp2
        go_roundw
        case rel => exact ⟨q + 1, by omega, by go_num, HN.out, blw_trans HW.out (by repeat (first | exact HK2.out | refine blw_drewN ?_ _))⟩
        case measure => simp [intOf]; omega
      obtain ⟨hfnd, hmok⟩ := HFM.out h1
      have HFO : Hid (found fs m ∧ mendOkF fs m = true) := ⟨hfnd, hmok⟩
      clear hfnd hmok
      cases h2 : (m.field.toList == fd.toList)
      · have HN : Hid (decideV fs kd p vs ms = decideV fs kd p vs (ms.drop (q + 1))) := HSK.out (by rw [HMD.out, h1, h2]; rfl)
        go_quiet (fail)
        go_wp2
        go_roundw
        case rel => exact ⟨q + 1, by omega, by go_num, HN.out, blw_trans HW.out (by repeat (first | exact HK2.out | refine blw_drewN ?_ _))⟩
        case measure => simp [intOf]; omega
      cases h3 : m.whn.toList.isEmpty
      case true =>
        have h3' : Pl.isEmp m.whn = true := h3
        go_cut [50] (fun s50 wx => s50 = .bool false ∧ Below w2.heap.size w2 wx)
        case first =>
          go_quiet (fail)
          go_wp2_with fail
          go_meet
          exact ⟨rfl, by repeat (first | exact Below.refl _ _ | refine blw_drewN ?_ _)⟩
        case rest =>
        obtain ⟨rfl, hb3⟩ := hcut
        rename World => w3
        have e1z : wr.heap.size < w3.heap.size := Nat.lt_of_lt_of_le mz hb3.size
        have e4 := (hb3.cell (p := ⟨wr.heap.size, 4, none⟩) mz).trans d4
        have e5 := (hb3.cell (p := ⟨wr.heap.size, 5, none⟩) mz).trans d5
        have f3 := (hb3.cell (p := ⟨w.heap.size, 3, none⟩) yz).trans y3
        have fz : w.heap.size < w3.heap.size := Nat.lt_of_lt_of_le yz hb3.size
        have HV3 : Hid (VAt w3 g vs ∧ FldsIn w3 fb fs) := ⟨HV2.out.1.later hb3, HV2.out.2.later hb3⟩
        have HK3 : Hid (Below wr.heap.size wr w3) := blw_trans HK2.out hb3
        have HB3 : Hid (Below w.heap.size w w3) := blw_trans HB2.out hb3
        clear hb3 d0 d1 d2 d3 d4 d5 y0 y3 mz yz gz
        cases h5 : m.frm.toList.isEmpty
        case true =>
          have h5' : Pl.isEmp m.frm = true := h5
          have HT : Hid (decideV fs kd p vs ms = some m.put) := by
            show decideV _ _ _ _ _ = _
            rw [HHT.out (by rw [HMD.out, h1, h2, h5', h3']; simp)]
            have hb := HFO.out.2
            unfold mendOkF at hb
            simp only [Bool.and_eq_true] at hb
            have hbm := hb.1.1.1.2
            unfold badM at hbm
            rw [h5'] at hbm
            have hpe : Pl.isEmp m.put = false := by cases hh : Pl.isEmp m.put; rfl; rw [hh] at hbm; simp at hbm
            have hpe' : m.put.toList.isEmpty = false := hpe
            unfold givesB mngOf
            simp only [hpe', Bool.false_eq_true, if_false]
          go_wp2
          go_ret
          exact ⟨by rw [HT.out]; rfl, HB3.out⟩
        have h5' : Pl.isEmp m.frm = false := h5
        have hnf : nameAt fs m.frm < fs.length := HFO.out.1.2.2 h5'
        have HLF : Hid (∀ k, Calls Tryz.prog 60 #[.slice (some ⟨fb, 0, none⟩) fs.length fs.length, .string m.frm] (w3.drewN k) fun e w' => e = .returned (.int .i64 (nameAt fs m.frm : Nat)) ∧ w' = w3.drewN k) := fun k => l3Field_at fb fs m.frm _ (HV3.out.2.later (blw_drewN (Below.refl _ _) k)) hnf
        have HCU : Hid (w3.cell? ⟨g, nameAt fs m.frm, none⟩ = some (.string (vs.getD (nameAt fs m.frm) ByteArray.empty))) := HV3.out.1.at_ _ (by rw [HP.out.2.1]; exact hnf)
        have HMD2 : Hid (mDec fs kd p vs m = !(vs.getD (nameAt fs m.frm) ByteArray.empty).toList.isEmpty) := by show mDec _ _ _ _ _ = _; rw [HMD.out, h1, h2, h5', h3']; simp
        have HGV : Hid (mDec fs kd p vs m = true → decideV fs kd p vs ms = some (vs.getD (nameAt fs m.frm) ByteArray.empty)) := by
          intro hd
          rw [HHT.out hd]
          have hb := HFO.out.2
          unfold mendOkF at hb
          simp only [Bool.and_eq_true] at hb
          have hbm := hb.1.1.1.2
          unfold badM at hbm
          rw [h5'] at hbm
          have hpe : Pl.isEmp m.put = true := by cases hh : Pl.isEmp m.put; rw [hh] at hbm; simp at hbm; rfl
          have hpe' : m.put.toList.isEmpty = true := hpe
          unfold givesB mngOf
          simp only [hpe', if_true, h5', Bool.false_eq_true, if_false]
        have hnv : nameAt fs m.frm < vs.length := by rw [HP.out.2.1]; exact hnf
        have gz3 := HV3.out.1.lt
        obtain ⟨nf, hnfe⟩ : ∃ nf, nf = nameAt fs m.frm := ⟨_, rfl⟩
        rw [← hnfe] at HLF HCU HMD2 HGV hnv
        obtain ⟨u, hu⟩ : ∃ u, u = vs.getD nf ByteArray.empty := ⟨_, rfl⟩
        rw [← hu] at HCU HMD2 HGV
        have hcu := HCU.out
        clear hnfe hu hnf
        go_upto_region 8 with fail
        go_cut [11] (fun s11 wx => s11 = .string u ∧ Below w3.heap.size w3 wx)
        case first =>
          go_quiet ((go_at_call 60; exact Calls.quiet_of_same (HLF.out _)))
          go_wp2_with fail
          go_meet
          exact ⟨rfl, by repeat (first | exact Below.refl _ _ | refine blw_drewN ?_ _)⟩
        case rest =>
        obtain ⟨rfl, hb4⟩ := hcut
        rename World => w4
        have HB4 : Hid (Below w.heap.size w w4) := blw_trans HB3.out hb4
        have HK4 : Hid (Below wr.heap.size wr w4) := blw_trans HK3.out hb4
        clear hb4 e1z e4 e5 f3 fz hcu gz3
        cases h6 : u.toList.isEmpty
        · have HT : Hid (decideV fs kd p vs ms = some u) := HGV.out (by rw [HMD2.out, h6]; rfl)
          go_wp2
          go_ret
          exact ⟨by rw [HT.out]; rfl, HB4.out⟩
        · have HN : Hid (decideV fs kd p vs ms = decideV fs kd p vs (ms.drop (q + 1))) := HSK.out (by rw [HMD2.out, h6]; rfl)
          go_wp2
          go_roundw
          case rel => exact ⟨q + 1, by omega, by go_num, HN.out, blw_trans HW.out HK4.out⟩
          case measure => simp [intOf]; omega

      have h3' : Pl.isEmp m.whn = false := h3
      have hnw : nameAt fs m.whn < fs.length := HFO.out.1.2.1 h3'
      have HLW : Hid (∀ k, Calls Tryz.prog 60 #[.slice (some ⟨fb, 0, none⟩) fs.length fs.length, .string m.whn] (w2.drewN k) fun e w' => e = .returned (.int .i64 (nameAt fs m.whn : Nat)) ∧ w' = w2.drewN k) := fun k => l3Field_at fb fs m.whn _ (HV2.out.2.later (blw_drewN (Below.refl _ _) k)) hnw
      have HCW : Hid (w2.cell? ⟨g, nameAt fs m.whn, none⟩ = some (.string (vs.getD (nameAt fs m.whn) ByteArray.empty))) := HV2.out.1.at_ _ (by rw [HP.out.2.1]; exact hnw)
      have hnwv : nameAt fs m.whn < vs.length := by rw [HP.out.2.1]; exact hnw
      obtain ⟨nw, hnwe⟩ : ∃ nw, nw = nameAt fs m.whn := ⟨_, rfl⟩
      rw [← hnwe] at HLW HCW hnwv HMD
      obtain ⟨uw, huw⟩ : ∃ uw, uw = vs.getD nw ByteArray.empty := ⟨_, rfl⟩
      rw [← huw] at HCW HMD
      have hcw := HCW.out
      clear hnwe huw hnw
      cases h4 : (uw.toList == m.is_.toList)
      · have HN : Hid (decideV fs kd p vs ms = decideV fs kd p vs (ms.drop (q + 1))) := HSK.out (by rw [HMD.out, h1, h2, h3', h4]; rfl)
        go_cut [50] (fun s50 wx => s50 = .bool true ∧ Below w2.heap.size w2 wx)
        case first =>
          go_quiet ((go_at_call 60; exact Calls.quiet_of_same (HLW.out _)))
          go_wp2_with fail
          go_meet
          exact ⟨rfl, by repeat (first | exact Below.refl _ _ | refine blw_drewN ?_ _)⟩
        case rest =>
        obtain ⟨rfl, hb3⟩ := hcut
        rename World => w3
        have HK3 : Hid (Below wr.heap.size wr w3) := blw_trans HK2.out hb3
        clear hb3 d0 d1 d2 d3 d4 d5 y0 y3 mz yz gz hcw
        go_wp2
        go_roundw
        case rel => exact ⟨q + 1, by omega, by go_num, HN.out, blw_trans HW.out HK3.out⟩
        case measure => simp [intOf]; omega
      go_cut [50] (fun s50 wx => s50 = .bool false ∧ Below w2.heap.size w2 wx)
      case first =>
        go_quiet ((go_at_call 60; exact Calls.quiet_of_same (HLW.out _)))
        go_wp2_with fail
        go_meet
        exact ⟨rfl, by repeat (first | exact Below.refl _ _ | refine blw_drewN ?_ _)⟩
      case rest =>
      obtain ⟨rfl, hb3⟩ := hcut
      rename World => w3
      have e1z : wr.heap.size < w3.heap.size := Nat.lt_of_lt_of_le mz hb3.size
      have e4 := (hb3.cell (p := ⟨wr.heap.size, 4, none⟩) mz).trans d4
      have e5 := (hb3.cell (p := ⟨wr.heap.size, 5, none⟩) mz).trans d5
      have f3 := (hb3.cell (p := ⟨w.heap.size, 3, none⟩) yz).trans y3
      have fz : w.heap.size < w3.heap.size := Nat.lt_of_lt_of_le yz hb3.size
      have HV3 : Hid (VAt w3 g vs ∧ FldsIn w3 fb fs) := ⟨HV2.out.1.later hb3, HV2.out.2.later hb3⟩
      have HK3 : Hid (Below wr.heap.size wr w3) := blw_trans HK2.out hb3
      have HB3 : Hid (Below w.heap.size w w3) := blw_trans HB2.out hb3
      clear hb3 d0 d1 d2 d3 d4 d5 y0 y3 mz yz gz
      cases h5 : m.frm.toList.isEmpty
      case true =>
        have h5' : Pl.isEmp m.frm = true := h5
        have HT : Hid (decideV fs kd p vs ms = some m.put) := by
          show decideV _ _ _ _ _ = _
          rw [HHT.out (by rw [HMD.out, h1, h2, h5', h3', h4]; simp)]
          have hb := HFO.out.2
          unfold mendOkF at hb
          simp only [Bool.and_eq_true] at hb
          have hbm := hb.1.1.1.2
          unfold badM at hbm
          rw [h5'] at hbm
          have hpe : Pl.isEmp m.put = false := by cases hh : Pl.isEmp m.put; rfl; rw [hh] at hbm; simp at hbm
          have hpe' : m.put.toList.isEmpty = false := hpe
          unfold givesB mngOf
          simp only [hpe', Bool.false_eq_true, if_false]
        go_wp2
        go_ret
        exact ⟨by rw [HT.out]; rfl, HB3.out⟩
      have h5' : Pl.isEmp m.frm = false := h5
      have hnf : nameAt fs m.frm < fs.length := HFO.out.1.2.2 h5'
      have HLF : Hid (∀ k, Calls Tryz.prog 60 #[.slice (some ⟨fb, 0, none⟩) fs.length fs.length, .string m.frm] (w3.drewN k) fun e w' => e = .returned (.int .i64 (nameAt fs m.frm : Nat)) ∧ w' = w3.drewN k) := fun k => l3Field_at fb fs m.frm _ (HV3.out.2.later (blw_drewN (Below.refl _ _) k)) hnf
      have HCU : Hid (w3.cell? ⟨g, nameAt fs m.frm, none⟩ = some (.string (vs.getD (nameAt fs m.frm) ByteArray.empty))) := HV3.out.1.at_ _ (by rw [HP.out.2.1]; exact hnf)
      have HMD2 : Hid (mDec fs kd p vs m = !(vs.getD (nameAt fs m.frm) ByteArray.empty).toList.isEmpty) := by show mDec _ _ _ _ _ = _; rw [HMD.out, h1, h2, h5', h3', h4]; simp
      have HGV : Hid (mDec fs kd p vs m = true → decideV fs kd p vs ms = some (vs.getD (nameAt fs m.frm) ByteArray.empty)) := by
        intro hd
        rw [HHT.out hd]
        have hb := HFO.out.2
        unfold mendOkF at hb
        simp only [Bool.and_eq_true] at hb
        have hbm := hb.1.1.1.2
        unfold badM at hbm
        rw [h5'] at hbm
        have hpe : Pl.isEmp m.put = true := by cases hh : Pl.isEmp m.put; rw [hh] at hbm; simp at hbm; rfl
        have hpe' : m.put.toList.isEmpty = true := hpe
        unfold givesB mngOf
        simp only [hpe', if_true, h5', Bool.false_eq_true, if_false]
      have hnv : nameAt fs m.frm < vs.length := by rw [HP.out.2.1]; exact hnf
      have gz3 := HV3.out.1.lt
      obtain ⟨nf, hnfe⟩ : ∃ nf, nf = nameAt fs m.frm := ⟨_, rfl⟩
      rw [← hnfe] at HLF HCU HMD2 HGV hnv
      obtain ⟨u, hu⟩ : ∃ u, u = vs.getD nf ByteArray.empty := ⟨_, rfl⟩
      rw [← hu] at HCU HMD2 HGV
      have hcu := HCU.out
      clear hnfe hu hnf
      go_upto_region 8 with fail
      go_cut [11] (fun s11 wx => s11 = .string u ∧ Below w3.heap.size w3 wx)
      case first =>
        go_quiet ((go_at_call 60; exact Calls.quiet_of_same (HLF.out _)))
        go_wp2_with fail
        go_meet
        exact ⟨rfl, by repeat (first | exact Below.refl _ _ | refine blw_drewN ?_ _)⟩
      case rest =>
      obtain ⟨rfl, hb4⟩ := hcut
      rename World => w4
      have HB4 : Hid (Below w.heap.size w w4) := blw_trans HB3.out hb4
      have HK4 : Hid (Below wr.heap.size wr w4) := blw_trans HK3.out hb4
      clear hb4 e1z e4 e5 f3 fz hcu gz3
      cases h6 : u.toList.isEmpty
      · have HT : Hid (decideV fs kd p vs ms = some u) := HGV.out (by rw [HMD2.out, h6]; rfl)
        go_wp2
        go_ret
        exact ⟨by rw [HT.out]; rfl, HB4.out⟩
      · have HN : Hid (decideV fs kd p vs ms = decideV fs kd p vs (ms.drop (q + 1))) := HSK.out (by rw [HMD2.out, h6]; rfl)
        go_wp2
        go_roundw
        case rel => exact ⟨q + 1, by omega, by go_num, HN.out, blw_trans HW.out HK4.out⟩
        case measure => simp [intOf]; omega

    · have HT : Hid (decideV fs kd p vs ms = none) := by show decideV _ _ _ _ _ = _; rw [HDV.out, List.drop_eq_nil_of_le (by omega)]; rfl
      have HVR : Hid (VAt wr g vs ∧ FldsIn wr fb fs) := ⟨HA.out.2.2.later HWB.out, HA.out.1.later HWB.out⟩
      have HLP : Hid (∀ k, Calls Tryz.prog 60 #[.slice (some ⟨fb, 0, none⟩) fs.length fs.length, .string fd] (wr.drewN k) fun e w' => e = .returned (.int .i64 (p : Nat)) ∧ w' = wr.drewN k) := by
        intro k
        have := l3Field_at fb fs fd _ (HVR.out.2.later (blw_drewN (Below.refl _ _) k)) (by rw [HNP.out]; exact hp)
        rw [HNP.out] at this
        exact this
      have hcp := HVR.out.1.at_ p hpv
      have gzr := HVR.out.1.lt
      obtain ⟨u, hu⟩ : ∃ u, u = vs.getD p ByteArray.empty := ⟨_, rfl⟩
      rw [← hu] at hcp
      have HU : Hid (u = vs.getD p ByteArray.empty) := hu
      clear hu
      go_wp2_with fail
      go_quiet ((go_at_call 60; exact Calls.quiet_of_same (HLP.out _)))
      go_wp2
      go_ret
      exact ⟨by rw [HT.out, HU.out]; rfl, by repeat (first | exact HWB.out | refine blw_drewN ?_ _)⟩

end Go.Proofs.YtfdahoekjpobaaaGreat
