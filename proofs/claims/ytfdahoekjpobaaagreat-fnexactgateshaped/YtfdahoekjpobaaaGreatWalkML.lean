/-
  Walks: a mend that is ok: the specification.
-/
import Derived.Test.YtfdahoekjpobaaaGreatWalkMK
import Derived.Test.YtfdahoekjpobaaaGreatWalkX
namespace Go.Proofs.YtfdahoekjpobaaaGreat
open Go.RowKit Go.Deep

def mendOk (ss : List Shp) (m : Mnd) : Bool := hasKind ss m.kind && mendOkF (ss.getD (kindAt ss m.kind) Shp.none).fields m

theorem shapeAt_of {ss : List Shp} (h : shapesOk ss = true) {i : Nat} (hi : i < ss.length) : shapeAt ss i = true := by
  unfold shapesOk shapesTo at h
  have := ((Bool.and_eq_true _ _).mp h).2
  rw [List.all_eq_true] at this
  exact this i (List.mem_range.2 hi)

theorem fieldsOk_of {ss : List Shp} (h : shapesOk ss = true) {i : Nat} (hi : i < ss.length) : fieldsOk ss (ss.getD i Shp.none).fields = true := by
  have := shapeAt_of h hi
  unfold shapeAt at this
  exact ((Bool.and_eq_true _ _).mp this).2

theorem fieldAt_of {ss : List Shp} {fs : List Fld} (h : fieldsOk ss fs = true) {i : Nat} (hi : i < fs.length) : fieldAt ss fs i = true := by
  unfold fieldsOk fieldsTo at h
  have := ((Bool.and_eq_true _ _).mp h).2
  rw [List.all_eq_true] at this
  exact this i (List.mem_range.2 hi)

theorem fields_few {ss : List Shp} {fs : List Fld} (h : fieldsOk ss fs = true) : fs.length ≤ 6 := by
  unfold fieldsOk at h
  exact of_decide_eq_true ((Bool.and_eq_true _ _).mp h).1

theorem name_of {ss : List Shp} {fs : List Fld} (h : fieldsOk ss fs = true) {i : Nat} (hi : i < fs.length) : Pl.nameOk (fs.getD i Fld.none).nm = true := by
  have := fieldAt_of h hi
  unfold fieldAt at this
  exact ((Bool.and_eq_true _ _).mp ((Bool.and_eq_true _ _).mp this).1).1

theorem nameOk_pos {s : ByteArray} (h : Pl.nameOk s = true) : s.toList.isEmpty = false := by
  cases he : s.toList.isEmpty
  · rfl
  · exfalso
    have hz : ¬ 1 ≤ s.size := by
      intro h1
      have := Pl.empty_no s h1
      rw [he] at this
      cases this
    unfold Pl.nameOk at h
    simp at h
    omega

theorem nameAt_nm {fs : List Fld} {k : ByteArray} (h : nameAt fs k < fs.length) : ((fs.getD (nameAt fs k) Fld.none).nm.toList == k.toList) = true := by
  have e : fs.getD (nameAt fs k) Fld.none = fs[nameAt fs k] := by simp [h]
  rw [e]
  exact List.findIdx_getElem (xs := fs) (p := fun f : Fld => f.nm.toList == k.toList) (w := h)

theorem plain_pos {ss : List Shp} {fs : List Fld} (h : fieldsOk ss fs = true) {k : ByteArray} (hk : plainAt fs k = true) : k.toList.isEmpty = false := by
  have hl := plain_lt hk
  have h1 := nameAt_nm hl
  have h2 := nameOk_pos (name_of h hl)
  rw [beq_iff_eq] at h1
  rw [h1] at h2
  exact h2

def t5 (fs : List Fld) (m : Mnd) : Bool := !plainAt fs m.field || (!m.whn.toList.isEmpty && !plainAt fs m.whn) || (!m.frm.toList.isEmpty && !plainAt fs m.frm)
def t7 (m : Mnd) : Bool := (m.whn.toList == m.field.toList) || (m.frm.toList == m.field.toList) || badM m

theorem mendOkF_t5 {fs : List Fld} {m : Mnd} (h : t5 fs m = true) : mendOkF fs m = false := by
  unfold t5 at h
  unfold mendOkF readOk Pl.isEmp
  cases h1 : plainAt fs m.field
  · rfl
  rw [h1] at h
  cases h2 : m.whn.toList.isEmpty <;> cases h3 : m.frm.toList.isEmpty <;> cases h4 : plainAt fs m.whn <;> cases h5 : plainAt fs m.frm <;> rw [h2, h3, h4, h5] at h <;> simp at h ⊢

theorem mendOkF_t7 {ss : List Shp} {fs : List Fld} {m : Mnd} (hf : fieldsOk ss fs = true) (h5 : t5 fs m = false) (h : t7 m = true) : mendOkF fs m = false := by
  have hp : plainAt fs m.field = true := by unfold t5 at h5; cases h1 : plainAt fs m.field; rw [h1] at h5; simp at h5; rfl
  have hpos := plain_pos hf hp
  unfold t7 at h
  unfold mendOkF readOk Pl.isEmp
  have ew : (m.whn.toList == m.field.toList) = true → m.whn.toList.isEmpty = false := fun e => by rw [beq_iff_eq] at e; rw [e]; exact hpos
  have er : (m.frm.toList == m.field.toList) = true → m.frm.toList.isEmpty = false := fun e => by rw [beq_iff_eq] at e; rw [e]; exact hpos
  cases h1 : (m.whn.toList == m.field.toList)
  · cases h2 : (m.frm.toList == m.field.toList)
    · rw [h1, h2] at h
      have hb : badM m = true := by simpa using h
      rw [hb]; simp
    · rw [er h2]; simp
  · rw [ew h1]; simp

theorem mendOkF_in {fs : List Fld} {m : Mnd} (h5 : t5 fs m = false) (h7 : t7 m = false) : mendOkF fs m = (m.put.toList.isEmpty || fitB (fs.getD (nameAt fs m.field) Fld.none) m.put) := by
  unfold t5 at h5
  unfold t7 at h7
  unfold mendOkF readOk Pl.isEmp
  cases h1 : plainAt fs m.field
  · rw [h1] at h5; simp at h5
  rw [h1] at h5
  cases q1 : (m.whn.toList == m.field.toList)
  · cases q2 : (m.frm.toList == m.field.toList)
    · rw [q1, q2] at h7
      have hb : badM m = false := by simpa using h7
      rw [hb]
      cases h2 : m.whn.toList.isEmpty <;> cases h3 : m.frm.toList.isEmpty <;> cases h4 : plainAt fs m.whn <;> cases h6 : plainAt fs m.frm <;> rw [h2, h3, h4, h6] at h5 <;> simp at h5 ⊢
    · rw [q2] at h7; simp at h7
  · rw [q1] at h7; simp at h7

set_option maxRecDepth 8000 in
set_option maxHeartbeats 8000000 in
theorem mendOkS (B : Nat) (ss : List Shp) (m : Mnd) (w : World) (h : ShpsIn w B ss) (hok : shapesOk ss = true) (hm : m.sized) :
    Calls Tryz.prog 40 #[.slice (some ⟨B, 0, none⟩) ss.length ss.length, .agg #[.string m.kind, .string m.field, .string m.whn, .string m.is_, .string m.put, .string m.frm]] w fun e w' => e = .returned (.bool (mendOk ss m)) ∧ Below w.heap.size w w' := by
  have HH : Hid (ShpsIn w B ss ∧ shapesOk ss = true ∧ m.sized) := ⟨h, hok, hm⟩
  have hl := h.len
  clear h hok hm
  obtain ⟨w1, hw1⟩ : ∃ w1, w1 = w.alloc (.cells #[.string m.kind, .string m.field, .string m.whn, .string m.is_, .string m.put, .string m.frm] 58) := ⟨_, rfl⟩
  have HB1 : Hid (Below w.heap.size w w1) := by show Below _ _ _; rw [hw1]; exact blw_alloc (Below.refl _ _) _
  have HM1 : Hid (MndIs w1 w.heap.size 0 m ∧ w.heap.size < w1.heap.size) := by show _ ∧ _; rw [hw1]; exact ⟨⟨by simp, by simp, by simp, by simp, by simp, by simp, HH.out.2.2⟩, by simp⟩
  have HS1 : Hid (ShpsIn w1 B ss) := HH.out.1.later HB1.out
  have hz1 := HM1.out.2
  have m0 : w1.cell? ⟨w.heap.size, 0, none⟩ = some (.string m.kind) := HM1.out.1.c0
  have m1 : w1.cell? ⟨w.heap.size, 1, none⟩ = some (.string m.field) := HM1.out.1.c1
  have m2 : w1.cell? ⟨w.heap.size, 2, none⟩ = some (.string m.whn) := HM1.out.1.c2
  have m3 : w1.cell? ⟨w.heap.size, 3, none⟩ = some (.string m.is_) := HM1.out.1.c3
  have m4 : w1.cell? ⟨w.heap.size, 4, none⟩ = some (.string m.put) := HM1.out.1.c4
  have m5 : w1.cell? ⟨w.heap.size, 5, none⟩ = some (.string m.frm) := HM1.out.1.c5
  go_enter Tryz.func40, Tryz.ntmps40
  go_upto_region 1 with fail
  rw [← hw1]
  clear hw1
  go_wp2_with fail
  refine (l1Shape_any B ss m.kind w1 HS1.out).mono ?_
  rintro e w' ⟨rfl, rfl⟩
  by_cases hk : kindAt ss m.kind < ss.length
  case neg =>
    rw [if_neg hk]
    have HR : Hid (mendOk ss m = false) := by show mendOk ss m = false; unfold mendOk hasKind; simp [hk]
    go_wp2
    go_ret
    exact ⟨Pl.ret_bool HR.out.symm, HB1.out⟩
  rw [if_pos hk]
  obtain ⟨k, hkk⟩ : ∃ k, k = kindAt ss m.kind := ⟨_, rfl⟩
  rw [← hkk] at hk ⊢
  obtain ⟨s, hs⟩ : ∃ s, s = ss.getD k Shp.none := ⟨_, rfl⟩
  obtain ⟨b, hfl, _, _, d1⟩ := HS1.out.flds hk hs
  have HFo : Hid (fieldsOk ss s.fields = true) := by show fieldsOk ss s.fields = true; rw [hs]; exact fieldsOk_of HH.out.2.1 hk
  have HE : Hid (mendOk ss m = mendOkF s.fields m) := by show mendOk ss m = _; unfold mendOk hasKind; rw [← hkk, ← hs]; simp [hk]
  obtain ⟨fs, hfs⟩ : ∃ fs, fs = s.fields := ⟨_, rfl⟩
  rw [← hfs] at hfl d1 HFo HE
  have HFL : Hid (FldsIn w1 b fs) := hfl
  have hBl := HS1.out.lt
  have hfl2 := hfl.len
  clear hfl hkk hs hfs
  have HPl : Hid (∀ k, Calls Tryz.prog 58 #[.slice (some ⟨b, 0, none⟩) fs.length fs.length, .string k] w1 fun e w' => e = .returned (.bool (plainAt fs k)) ∧ w1 = w') := fun k => l3Plain b fs k w1 HFL.out
  go_upto_region 5 with fail
  go_cut [46] (fun x wx => x = .bool (t5 fs m) ∧ wx = w1)
  case first =>
    have HT : Hid (t5 fs m = (!plainAt fs m.field || (!m.whn.toList.isEmpty && !plainAt fs m.whn) || (!m.frm.toList.isEmpty && !plainAt fs m.frm))) := rfl
    obtain ⟨pf, hpf⟩ : ∃ x, x = plainAt fs m.field := ⟨_, rfl⟩
    obtain ⟨pw, hpw⟩ : ∃ x, x = plainAt fs m.whn := ⟨_, rfl⟩
    obtain ⟨pr, hpr⟩ : ∃ x, x = plainAt fs m.frm := ⟨_, rfl⟩
    have HPf' : Hid (Calls Tryz.prog 58 #[.slice (some ⟨b, 0, none⟩) fs.length fs.length, .string m.field] w1 fun e w' => e = .returned (.bool pf) ∧ w1 = w') := by rw [hpf]; exact HPl.out m.field
    have HPw' : Hid (Calls Tryz.prog 58 #[.slice (some ⟨b, 0, none⟩) fs.length fs.length, .string m.whn] w1 fun e w' => e = .returned (.bool pw) ∧ w1 = w') := by rw [hpw]; exact HPl.out m.whn
    have HPr' : Hid (Calls Tryz.prog 58 #[.slice (some ⟨b, 0, none⟩) fs.length fs.length, .string m.frm] w1 fun e w' => e = .returned (.bool pr) ∧ w1 = w') := by rw [hpr]; exact HPl.out m.frm
    rw [← hpf, ← hpw, ← hpr] at HT
    clear HPl hpf hpw hpr
    go_wp2_with fail
    refine HPf'.out.mono ?_
    rintro e w' ⟨rfl, rfl⟩
    cases pf
    · go_wp2_with fail
      go_meet
      exact ⟨by rw [HT.out]; rfl, rfl⟩
    cases h2 : m.whn.toList.isEmpty
    · go_wp2_with fail
      refine HPw'.out.mono ?_
      rintro e w' ⟨rfl, rfl⟩
      cases pw
      · go_wp2_with fail
        go_meet
        exact ⟨by rw [HT.out, h2]; rfl, rfl⟩
      cases h5 : m.frm.toList.isEmpty
      · go_wp2_with fail
        refine HPr'.out.mono ?_
        rintro e w' ⟨rfl, rfl⟩
        go_wp2_with fail
        go_meet
        exact ⟨by rw [HT.out, h2, h5]; cases pr <;> rfl, rfl⟩
      · go_wp2_with fail
        go_meet
        exact ⟨by rw [HT.out, h2, h5]; rfl, rfl⟩
    · cases h5 : m.frm.toList.isEmpty
      · go_wp2_with fail
        refine HPr'.out.mono ?_
        rintro e w' ⟨rfl, rfl⟩
        go_wp2_with fail
        go_meet
        exact ⟨by rw [HT.out, h2, h5]; cases pr <;> rfl, rfl⟩
      · go_wp2_with fail
        go_meet
        exact ⟨by rw [HT.out, h2, h5]; rfl, rfl⟩
  case rest =>
  obtain ⟨rfl, hwc⟩ := hcut
  subst hwc
  rename World => w1
  cases ht5 : t5 fs m
  case true =>
    have HR : Hid (mendOk ss m = false) := by show mendOk ss m = false; rw [HE.out]; exact mendOkF_t5 ht5
    go_wp2
    go_ret
    exact ⟨Pl.ret_bool HR.out.symm, HB1.out⟩
  have HT5 : Hid (t5 fs m = false) := ht5
  clear ht5
  go_upto_region 7 with fail
  go_cut [77] (fun x wx => x = .bool (t7 m) ∧ wx = w1)
  case first =>
    have HT : Hid (t7 m = ((m.whn.toList == m.field.toList) || (m.frm.toList == m.field.toList) || ((m.whn.toList.isEmpty && !m.is_.toList.isEmpty) || (m.put.toList.isEmpty == m.frm.toList.isEmpty)))) := rfl
    cases q1 : (m.whn.toList == m.field.toList)
    · cases q2 : (m.frm.toList == m.field.toList)
      · cases h2 : m.whn.toList.isEmpty
        · cases h4 : m.put.toList.isEmpty <;> cases h5 : m.frm.toList.isEmpty
          all_goals
            go_wp2_with fail
            go_meet
            exact ⟨by rw [HT.out, q1, q2, h2, h4, h5]; rfl, rfl⟩
        · cases h3 : m.is_.toList.isEmpty
          · go_wp2_with fail
            go_meet
            exact ⟨by rw [HT.out, q1, q2, h2, h3]; rfl, rfl⟩
          · cases h4 : m.put.toList.isEmpty <;> cases h5 : m.frm.toList.isEmpty
            all_goals
              go_wp2_with fail
              go_meet
              exact ⟨by rw [HT.out, q1, q2, h2, h3, h4, h5]; rfl, rfl⟩
      · go_wp2_with fail
        go_meet
        exact ⟨by rw [HT.out, q1, q2]; rfl, rfl⟩
    · go_wp2_with fail
      go_meet
      exact ⟨by rw [HT.out, q1]; rfl, rfl⟩
  case rest =>
  obtain ⟨rfl, hwc⟩ := hcut
  subst hwc
  rename World => w1
  cases ht7 : t7 m
  case true =>
    have HR : Hid (mendOk ss m = false) := by show mendOk ss m = false; rw [HE.out]; exact mendOkF_t7 HFo.out HT5.out ht7
    go_wp2
    go_ret
    exact ⟨Pl.ret_bool HR.out.symm, HB1.out⟩
  have HE2 : Hid (mendOk ss m = (m.put.toList.isEmpty || fitB (fs.getD (nameAt fs m.field) Fld.none) m.put)) := by show mendOk ss m = _; rw [HE.out]; exact mendOkF_in HT5.out ht7
  have hpl : plainAt fs m.field = true := by have := HT5.out; unfold t5 at this; cases h1 : plainAt fs m.field; rw [h1] at this; simp at this; rfl
  have hq := plain_lt hpl
  clear ht7 hpl HE
  cases hpe : m.put.toList.isEmpty
  · obtain ⟨q, hqq⟩ : ∃ q, q = nameAt fs m.field := ⟨_, rfl⟩
    have HL : Hid (∀ W, Below w1.heap.size w1 W → Calls Tryz.prog 60 #[.slice (some ⟨b, 0, none⟩) fs.length fs.length, .string m.field] W fun e w' => e = .returned (.int .i64 (q : Nat)) ∧ Below W.heap.size W w') := by
      intro W hW
      refine (l3Field b fs m.field W (HFL.out.later hW)).mono ?_
      rintro e w' ⟨rfl, rfl⟩
      rw [if_pos hq, ← hqq]
      exact ⟨rfl, Below.refl _ _⟩
    rw [← hqq] at hq HE2
    obtain ⟨f, hf⟩ : ∃ f, f = fs.getD q Fld.none := ⟨_, rfl⟩
    obtain ⟨b2, hfa, hfi⟩ := HFL.out.arg hq hf
    have HR : Hid (mendOk ss m = fitB f m.put) := by show mendOk ss m = _; rw [HE2.out, hpe, ← hf]; rfl
    have HX : Hid (∀ W, Below w1.heap.size w1 W → Calls Tryz.prog 59 #[.agg #[.string f.nm, .int .i64 f.kind, .int .i64 f.least, .int .i64 f.most, .slice (some ⟨b2, 0, none⟩) f.words.length f.words.length, .string f.to, .int .i64 f.role, .bool f.must, .bool f.fixed, .string f.de, .string f.we], .string m.put] W fun e w' => e = .returned (.bool (mendOk ss m)) ∧ Below W.heap.size W w') := by
      intro W hW'
      rw [HR.out]
      exact specFitsF f b2 m.put W HH.out.2.2.2.2.2.2.1 (hfa.later hW')
    have HFi : Hid (FldIs w1 b (q * 11) f (.slice (some ⟨b2, 0, none⟩) f.words.length f.words.length) ∧ b < w1.heap.size) := ⟨hfi, HFL.out.lt⟩
    clear hfa hfi hf hqq HE2 HR m0 m2 m3 m5
    have HMw : Hid (∀ W, Below w1.heap.size w1 W → W.cell? ⟨w.heap.size, 4, none⟩ = some (.string m.put) ∧ W.cell? ⟨w.heap.size, 1, none⟩ = some (.string m.field) ∧ w.heap.size < W.heap.size ∧ FldIs W b (q * 11) f (.slice (some ⟨b2, 0, none⟩) f.words.length f.words.length) ∧ b < W.heap.size) := fun W hW => ⟨(hW.cell (p := ⟨w.heap.size, 4, none⟩) HM1.out.2).trans HM1.out.1.c4, (hW.cell (p := ⟨w.heap.size, 1, none⟩) HM1.out.2).trans HM1.out.1.c1, Nat.lt_of_lt_of_le HM1.out.2 hW.size, HFi.out.1.later hW HFi.out.2, Nat.lt_of_lt_of_le HFi.out.2 hW.size⟩
    have c0 := HFi.out.1.c0
    have c1 := HFi.out.1.c1
    have c2 := HFi.out.1.c2
    have c3 := HFi.out.1.c3
    have c4 := HFi.out.1.c4
    have c5 := HFi.out.1.c5
    have c6 := HFi.out.1.c6
    have c7 := HFi.out.1.c7
    have c8 := HFi.out.1.c8
    have c9 := HFi.out.1.c9
    have c10 := HFi.out.1.c10
    have hb0 := HFi.out.2
    go_wp2_with fail
    go_region_with (first
      | (go_at_call 60; refine (HL.out _ ?_).mono ?_; (repeat (first | exact Below.refl _ _ | refine Below.drew ?_)); rintro e w3 ⟨rfl, hb3⟩; obtain ⟨g4, g1, gz, ⟨d0, d1, d2, d3, d4, d5, d6, d7, d8, d9, d10, _, _⟩, gb⟩ := HMw.out w3 (blw_trans (by repeat (first | exact Below.refl _ _ | refine Below.drew ?_)) hb3))
      | (go_at_call 59; refine (HX.out _ ?_).mono ?_; (first | exact blw_trans (by repeat (first | exact Below.refl _ _ | refine Below.drew ?_)) hb3 | exact Below.drew (blw_trans (by repeat (first | exact Below.refl _ _ | refine Below.drew ?_)) hb3)); rintro e w4 ⟨rfl, hb4⟩))
    all_goals
      go_wp2
      go_ret
      refine ⟨rfl, ?_⟩
      have hB3 : Below w.heap.size w w3 := by repeat (first | exact blw_trans HB1.out hb3 | exact blw_trans HB1.out.drew hb3 | exact blw_trans HB1.out.drew.drew hb3)
      repeat (first | exact blw_trans hB3 hb4 | exact blw_trans hB3.drew hb4 | refine Below.drew ?_)
  · have HR : Hid (mendOk ss m = true) := by show mendOk ss m = _; rw [HE2.out, hpe]; rfl
    clear HE2
    go_wp2_with fail
    go_region
    all_goals
      go_wp2
      go_ret
      exact ⟨Pl.ret_bool HR.out.symm, by repeat (first | exact HB1.out | refine Below.drew ?_)⟩

end Go.Proofs.YtfdahoekjpobaaaGreat
