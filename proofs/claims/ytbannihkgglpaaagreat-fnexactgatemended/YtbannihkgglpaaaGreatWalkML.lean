/-
  Walks: a mend that is ok: the specification.
-/
import Derived.Test.YtbannihkgglpaaaGreatWalkMJ
import Derived.Test.YtbannihkgglpaaaGreatWalkQ
import Derived.Test.YtbannihkgglpaaaGreatWalkD
import Derived.Test.YtbannihkgglpaaaGreatWalkX
/-
  Walks: the specification: places of fields; what is ready.
-/
namespace Go.Proofs.YtbannihkgglpaaaGreat
open Go.RowKit Go.Deep

set_option maxHeartbeats 1000000 in
theorem l3Field (B : Nat) (fs : List Fld) (k : ByteArray) (w : World) (h : FldsIn w B fs) :
    Calls Tryz.prog 50 #[.slice (some ⟨B, 0, none⟩) fs.length fs.length, .string k] w fun e w' => e = .returned (.int .i64 (if nameAt fs k < fs.length then (nameAt fs k : Int) else -1)) ∧ w = w' := by
  have hl := h.len
  have HH : Hid (FldsIn w B fs) := h
  obtain ⟨R, hR⟩ : ∃ R : Int, R = (if nameAt fs k < fs.length then (nameAt fs k : Int) else -1) := ⟨_, rfl⟩
  rw [← hR]
  have HR : Hid (R = (if nameAt fs k < fs.length then (nameAt fs k : Int) else -1)) := hR
  have hB := h.lt
  clear h hR
  go_enter Tryz.func50, Tryz.ntmps50
  go_wp2
  go_loop [5] (fun i => ∃ q : Nat, q ≤ fs.length ∧ i = .int .i64 q ∧ q ≤ nameAt fs k) (fun i => fs.length - (intOf i).toNat)
  case atStart => exact ⟨0, Nat.zero_le _, rfl, Nat.zero_le _⟩
  case round =>
    obtain ⟨q, hq, rfl, hno⟩ := hrel
    have HN : Hid (q ≤ nameAt fs k) := hno
    clear hno
    by_cases hlt : q < fs.length
    · obtain ⟨f, hff⟩ : ∃ f, f = fs.getD q Fld.none := ⟨_, rfl⟩
      obtain ⟨b, _, hf⟩ := HH.out.arg hlt hff
      have c0 := hf.c0
      clear hf
      cases ht : (f.nm.toList == k.toList)
      · have HM : Hid (q + 1 ≤ nameAt fs k) := nameAt_miss fs k q hlt HN.out (by rw [← hff]; exact ht)
        clear hff
        go_wp2
        go_round
        case rel => exact ⟨q + 1, by omega, by go_num, HM.out⟩
        case measure => simp [intOf]; omega
      · have HM : Hid (nameAt fs k = q) := nameAt_hit fs k q hlt HN.out (by rw [← hff]; exact ht)
        clear hff
        go_wp2
        go_ret
        exact ⟨Pl.ret_int (by rw [HR.out, HM.out, if_pos hlt]), rfl⟩
    · go_wp2
      go_ret
      exact ⟨Pl.ret_int (by rw [HR.out, if_neg (by have := HN.out; omega)]), rfl⟩

set_option maxHeartbeats 1000000 in
theorem l3Plain (B : Nat) (fs : List Fld) (k : ByteArray) (w : World) (h : FldsIn w B fs) :
    Calls Tryz.prog 66 #[.slice (some ⟨B, 0, none⟩) fs.length fs.length, .string k] w fun e w' => e = .returned (.bool (plainAt fs k)) ∧ w = w' := by
  have HH : Hid (FldsIn w B fs) := h
  have hl := h.len
  obtain ⟨R, hR⟩ : ∃ R, R = plainAt fs k := ⟨_, rfl⟩
  rw [← hR]
  have HR : Hid (R = plainAt fs k) := hR
  have hB := h.lt
  clear h hR
  go_enter Tryz.func66, Tryz.ntmps66
  go_wp2_with fail
  refine (l3Field B fs k w HH.out).mono ?_
  rintro e w2 ⟨rfl, rfl⟩
  by_cases hq : nameAt fs k < fs.length
  · rw [if_pos hq]
    obtain ⟨q, hqq⟩ : ∃ q, q = nameAt fs k := ⟨_, rfl⟩
    obtain ⟨f, hf⟩ : ∃ f, f = fs.getD q Fld.none := ⟨_, rfl⟩
    rw [← hqq] at hq ⊢
    obtain ⟨b, _, hfi⟩ := HH.out.arg hq hf
    have c1 := hfi.c1
    have HF : Hid (R = !decide (f.kind = 4)) := by show R = _; rw [HR.out]; unfold plainAt; rw [← hqq, ← hf]; simp [hq]
    clear hfi hf hqq
    by_cases h4 : f.kind = 4
    · have HP : Hid (R = false) := by show R = false; rw [HF.out]; simp [h4]
      go_wp2
      go_ret
      exact ⟨Pl.ret_bool HP.out.symm, rfl⟩
    · have HP : Hid (R = true) := by show R = true; rw [HF.out]; simp [h4]
      go_wp2
      go_ret
      exact ⟨Pl.ret_bool (by rw [HP.out]; simp [h4]), rfl⟩
  · rw [if_neg hq]
    have HP : Hid (R = false) := by show R = false; rw [HR.out]; unfold plainAt; simp [hq]
    go_wp2
    go_ret
    exact ⟨Pl.ret_bool HP.out.symm, rfl⟩

theorem specFitsF (f : Fld) (b : Nat) (v : ByteArray) (w : World) (hv : v.size ≤ maxLen) (h : FldArg w b f) :
    Calls Tryz.prog 67 #[.agg #[.string f.nm, .int .i64 f.kind, .int .i64 f.least, .int .i64 f.most, .slice (some ⟨b, 0, none⟩) f.words.length f.words.length, .string f.to, .int .i64 f.role, .bool f.must, .bool f.fixed, .string f.de, .string f.we], .string v] w
      fun e w' => e = .returned (.bool (fitB f v)) ∧ Below w.heap.size w w' :=
  specFits_any f.nm f.kind f.least f.most b 0 _ f.to f.role f.must f.fixed f.de f.we v f.words w hv h.lt (by have := h.small; unfold Fld.small at this; unfold maxLen; omega) h.cells

/-- The names of a row in memory: nil or a block. -/
def NamesAt (w : World) (v : Value) (l : List ByteArray) : Prop :=
  ∃ g c, v = .slice (some ⟨g, 0, none⟩) l.length c ∧ g < w.heap.size ∧ l.length ≤ 1048576 ∧ ∀ i, i < l.length → w.cell? ⟨g, i, none⟩ = some (.string (l.getD i ByteArray.empty))

theorem NamesAt.later {w w' : World} {v : Value} {l : List ByteArray} (h : NamesAt w v l) (hb : Below w.heap.size w w') : NamesAt w' v l := by
  obtain ⟨g, c, rfl, h1, h2, h3⟩ := h
  exact ⟨g, c, rfl, Nat.lt_of_lt_of_le h1 hb.size, h2, fun i hi => (hb.cell (p := ⟨g, i, none⟩) h1).trans (h3 i hi)⟩

theorem hasN (v : Value) (l : List ByteArray) (s : ByteArray) (w : World) (h : NamesAt w v l) :
    Calls Tryz.prog 68 #[v, .string s] w fun e w' => e = .returned (.bool (Pl.has l s)) ∧ w = w' := by
  obtain ⟨g, c, rfl, _, h2, h3⟩ := h
  exact l1Has_row g 0 c l s w (by unfold maxLen; omega) (fun i hi => by rw [Nat.zero_add]; exact h3 i hi)

def needN (row : List ByteArray) (k : ByteArray) : Bool := Pl.isEmp k || Pl.has row k
def readyN1 (K f : ByteArray) (row : List ByteArray) (m : Mnd) : Bool := !(m.kind.toList == K.toList && m.field.toList == f.toList) || (needN row m.whn && needN row m.frm)
def readyN (ms : List Mnd) (K f : ByteArray) (row : List ByteArray) : Bool := (List.range ms.length).all fun i => readyN1 K f row (ms.getD i Mnd.none)
def readyNTo (ms : List Mnd) (K f : ByteArray) (row : List ByteArray) (k : Nat) : Bool := (List.range k).all fun i => readyN1 K f row (ms.getD i Mnd.none)

set_option maxRecDepth 8000 in
set_option maxHeartbeats 4000000 in
theorem l3Ready (mb : Nat) (ms : List Mnd) (K f : ByteArray) (a : Option Addr) (n c : Nat) (row : List ByteArray) (w : World) (h : MndsIn w mb ms) (hr : NamesAt w (.slice a n c) row) :
    Calls Tryz.prog 69 #[.slice (some ⟨mb, 0, none⟩) ms.length ms.length, .string K, .string f, .slice a n c] w fun e w' => e = .returned (.bool (readyN ms K f row)) ∧ Below w.heap.size w w' := by
  have hl := h.len
  have HH : Hid (MndsIn w mb ms ∧ NamesAt w (.slice a n c) row) := ⟨h, hr⟩
  have hmb := h.lt
  clear h hr
  go_enter Tryz.func69, Tryz.ntmps69
  go_wp2
  go_loopw [9] (fun i wr => ∃ k : Nat, k ≤ ms.length ∧ i = .int .i64 k ∧ readyNTo ms K f row k = true ∧ Below w.heap.size w wr) (fun i _ => ms.length - (intOf i).toNat)
  case atStart => exact ⟨0, Nat.zero_le _, rfl, rfl, Below.refl _ _⟩
  case round =>
    obtain ⟨k, hk, rfl, hall, hW⟩ := hrel
    have HA : Hid (readyNTo ms K f row k = true) := hall
    have HW : Hid (Below w.heap.size w wr) := hW
    clear hall
    by_cases hlt : k < ms.length
    · have hmk := (HH.out.1.later hW).at_ k hlt
      obtain ⟨m, hmm⟩ : ∃ m, m = ms.getD k Mnd.none := ⟨_, rfl⟩
      rw [← hmm] at hmk
      have hmb2 : mb < wr.heap.size := Nat.lt_of_lt_of_le hmb hW.size
      obtain ⟨c0, c1, c2, c3, c4, c5, _⟩ := hmk
      have HT : Hid (readyN1 K f row (ms.getD k Mnd.none) = (!(m.kind.toList == K.toList && m.field.toList == f.toList) || ((m.whn.toList.isEmpty || Pl.has row m.whn) && (m.frm.toList.isEmpty || Pl.has row m.frm)))) := by rw [← hmm]; rfl
      have HS : Hid (readyN1 K f row (ms.getD k Mnd.none) = true → readyNTo ms K f row (k + 1) = true) := by
        intro h1; show readyNTo ms K f row (k + 1) = true; unfold readyNTo; rw [Pl.to_succ, h1]; have := HA.out; unfold readyNTo at this; rw [this]; rfl
      have HZ : Hid (readyN1 K f row (ms.getD k Mnd.none) = false → readyN ms K f row = false) := by
        intro h1; exact Pl.to_false _ _ k hlt h1
      have HC : Hid (∀ s W, Below wr.heap.size wr W → Calls Tryz.prog 68 #[.slice a n c, .string s] W fun e w' => e = .returned (.bool (Pl.has row s)) ∧ W = w') := fun s W hW' => hasN _ row s W (HH.out.2.later (blw_trans HW.out hW'))
      have hbx : Below wr.heap.size wr (wr.alloc (.cells #[.string m.kind, .string m.field, .string m.whn, .string m.is_, .string m.put, .string m.frm] 58)) := blw_alloc (Below.refl _ _) _
      have HBx : Hid (Below wr.heap.size wr (wr.alloc (.cells #[.string m.kind, .string m.field, .string m.whn, .string m.is_, .string m.put, .string m.frm] 58))) := hbx
      clear hmm hW hbx
      cases q0 : (m.kind.toList == K.toList)
      · have HR : Hid (readyNTo ms K f row (k + 1) = true) := HS.out (by rw [HT.out, q0]; rfl)
        go_wp2
        go_roundw
        case rel => exact ⟨k + 1, by omega, by go_num, HR.out, blw_trans HW.out HBx.out⟩
        case measure => simp [intOf]; omega
      cases q1 : (m.field.toList == f.toList)
      · have HR : Hid (readyNTo ms K f row (k + 1) = true) := HS.out (by rw [HT.out, q0, q1]; rfl)
        go_wp2
        go_roundw
        case rel => exact ⟨k + 1, by omega, by go_num, HR.out, blw_trans HW.out HBx.out⟩
        case measure => simp [intOf]; omega
      obtain ⟨hw, hhw⟩ : ∃ hw, hw = Pl.has row m.whn := ⟨_, rfl⟩
      obtain ⟨hf, hhf⟩ : ∃ hf, hf = Pl.has row m.frm := ⟨_, rfl⟩
      have HCw : Hid (∀ W, Below wr.heap.size wr W → Calls Tryz.prog 68 #[.slice a n c, .string m.whn] W fun e w' => e = .returned (.bool hw) ∧ W = w') := by rw [hhw]; exact fun W hW' => HC.out m.whn W hW'
      have HCf : Hid (∀ W, Below wr.heap.size wr W → Calls Tryz.prog 68 #[.slice a n c, .string m.frm] W fun e w' => e = .returned (.bool hf) ∧ W = w') := by rw [hhf]; exact fun W hW' => HC.out m.frm W hW'
      have HT2 : Hid (readyN1 K f row (ms.getD k Mnd.none) = ((m.whn.toList.isEmpty || hw) && (m.frm.toList.isEmpty || hf))) := by show readyN1 K f row _ = _; rw [HT.out, q0, q1, hhw, hhf]; rfl
      clear HT HC hhw hhf
      cases e2 : m.whn.toList.isEmpty
      · cases e5 : m.frm.toList.isEmpty
        · go_wp2_with fail
          refine (HCw.out _ HBx.out).mono ?_
          rintro e w' ⟨rfl, rfl⟩
          cases hw
          · have HR : Hid (readyN ms K f row = false) := HZ.out (by rw [HT2.out, e2, e5]; simp)
            go_wp2
            go_ret
            exact ⟨Pl.ret_bool HR.out.symm, blw_trans HW.out HBx.out⟩
          · go_wp2_with fail
            refine (HCf.out _ HBx.out).mono ?_
            rintro e w' ⟨rfl, rfl⟩
            cases hf
            · have HR : Hid (readyN ms K f row = false) := HZ.out (by rw [HT2.out, e2, e5]; simp)
              go_wp2
              go_ret
              exact ⟨Pl.ret_bool HR.out.symm, blw_trans HW.out HBx.out⟩
            · have HR : Hid (readyNTo ms K f row (k + 1) = true) := HS.out (by rw [HT2.out, e2, e5]; rfl)
              go_wp2
              go_roundw
              case rel => exact ⟨k + 1, by omega, by go_num, HR.out, blw_trans HW.out HBx.out⟩
              case measure => simp [intOf]; omega
        · go_wp2_with fail
          refine (HCw.out _ HBx.out).mono ?_
          rintro e w' ⟨rfl, rfl⟩
          cases hw
          · have HR : Hid (readyN ms K f row = false) := HZ.out (by rw [HT2.out, e2, e5]; simp)
            go_wp2
            go_ret
            exact ⟨Pl.ret_bool HR.out.symm, blw_trans HW.out HBx.out⟩
          · have HR : Hid (readyNTo ms K f row (k + 1) = true) := HS.out (by rw [HT2.out, e2, e5]; rfl)
            go_wp2
            go_roundw
            case rel => exact ⟨k + 1, by omega, by go_num, HR.out, blw_trans HW.out HBx.out⟩
            case measure => simp [intOf]; omega
      · cases e5 : m.frm.toList.isEmpty
        · go_wp2_with fail
          refine (HCf.out _ HBx.out).mono ?_
          rintro e w' ⟨rfl, rfl⟩
          cases hf
          · have HR : Hid (readyN ms K f row = false) := HZ.out (by rw [HT2.out, e2, e5]; simp)
            go_wp2
            go_ret
            exact ⟨Pl.ret_bool HR.out.symm, blw_trans HW.out HBx.out⟩
          · have HR : Hid (readyNTo ms K f row (k + 1) = true) := HS.out (by rw [HT2.out, e2, e5]; rfl)
            go_wp2
            go_roundw
            case rel => exact ⟨k + 1, by omega, by go_num, HR.out, blw_trans HW.out HBx.out⟩
            case measure => simp [intOf]; omega
        · have HR : Hid (readyNTo ms K f row (k + 1) = true) := HS.out (by rw [HT2.out, e2, e5]; rfl)
          go_wp2
          go_roundw
          case rel => exact ⟨k + 1, by omega, by go_num, HR.out, blw_trans HW.out HBx.out⟩
          case measure => simp [intOf]; omega
    · have HR : Hid (readyN ms K f row = true) := by have e : k = ms.length := (by omega); have := HA.out; rw [e] at this; exact this
      go_wp2
      go_ret
      exact ⟨Pl.ret_bool HR.out.symm, HW.out⟩

end Go.Proofs.YtbannihkgglpaaaGreat

namespace Go.Proofs.YtbannihkgglpaaaGreat
open Go.RowKit Go.Deep

def mendOk (ss : List Shp) (m : Mnd) : Bool := hasKind ss m.kind && mendOkF (ss.getD (kindAt ss m.kind) Shp.none).fields m

theorem shapeAt_of {ss : List Shp} (h : shapesOk ss = true) {i : Nat} (hi : i < ss.length) : shapeAt ss i = true := by
  unfold shapesOk shapesTo at h
  have := ((Bool.and_eq_true _ _).mp h).2
  rw [List.all_eq_true] at this
  exact this i (List.mem_range.2 hi)

theorem fieldsOk_of {ss : List Shp} (h : shapesOk ss = true) {i : Nat} (hi : i < ss.length) : fieldsOk ss (ss.getD i Shp.none).fields = true := by
  have := shapeAt_of h hi
  unfold shapeAt at this
  exact ((Bool.and_eq_true _ _).mp this).2

theorem fieldAt_of {ss : List Shp} {fs : List Fld} (h : fieldsOk ss fs = true) {i : Nat} (hi : i < fs.length) : fieldAt ss fs i = true := by
  unfold fieldsOk fieldsTo at h
  have := ((Bool.and_eq_true _ _).mp h).2
  rw [List.all_eq_true] at this
  exact this i (List.mem_range.2 hi)

theorem fields_few {ss : List Shp} {fs : List Fld} (h : fieldsOk ss fs = true) : fs.length ≤ 6 := by
  unfold fieldsOk at h
  exact of_decide_eq_true ((Bool.and_eq_true _ _).mp h).1

theorem name_of {ss : List Shp} {fs : List Fld} (h : fieldsOk ss fs = true) {i : Nat} (hi : i < fs.length) : Pl.nameOk (fs.getD i Fld.none).nm = true := by
  have := fieldAt_of h hi
  unfold fieldAt at this
  exact ((Bool.and_eq_true _ _).mp ((Bool.and_eq_true _ _).mp this).1).1

theorem nameOk_pos {s : ByteArray} (h : Pl.nameOk s = true) : s.toList.isEmpty = false := by
  cases he : s.toList.isEmpty
  · rfl
  · exfalso
    have hz : ¬ 1 ≤ s.size := by
      intro h1
      have := Pl.empty_no s h1
      rw [he] at this
      cases this
    unfold Pl.nameOk at h
    simp at h
    omega

theorem nameAt_nm {fs : List Fld} {k : ByteArray} (h : nameAt fs k < fs.length) : ((fs.getD (nameAt fs k) Fld.none).nm.toList == k.toList) = true := by
  have e : fs.getD (nameAt fs k) Fld.none = fs[nameAt fs k] := by simp [h]
  rw [e]
  exact List.findIdx_getElem (xs := fs) (p := fun f : Fld => f.nm.toList == k.toList) (w := h)

theorem plain_pos {ss : List Shp} {fs : List Fld} (h : fieldsOk ss fs = true) {k : ByteArray} (hk : plainAt fs k = true) : k.toList.isEmpty = false := by
  have hl := plain_lt hk
  have h1 := nameAt_nm hl
  have h2 := nameOk_pos (name_of h hl)
  rw [beq_iff_eq] at h1
  rw [h1] at h2
  exact h2

def t5 (fs : List Fld) (m : Mnd) : Bool := !plainAt fs m.field || (!m.whn.toList.isEmpty && !plainAt fs m.whn) || (!m.frm.toList.isEmpty && !plainAt fs m.frm)
def t7 (m : Mnd) : Bool := (m.whn.toList == m.field.toList) || (m.frm.toList == m.field.toList) || badM m

theorem mendOkF_t5 {fs : List Fld} {m : Mnd} (h : t5 fs m = true) : mendOkF fs m = false := by
  unfold t5 at h
  unfold mendOkF readOk Pl.isEmp
  cases h1 : plainAt fs m.field
  · rfl
  rw [h1] at h
  cases h2 : m.whn.toList.isEmpty <;> cases h3 : m.frm.toList.isEmpty <;> cases h4 : plainAt fs m.whn <;> cases h5 : plainAt fs m.frm <;> rw [h2, h3, h4, h5] at h <;> simp at h ⊢

theorem mendOkF_t7 {ss : List Shp} {fs : List Fld} {m : Mnd} (hf : fieldsOk ss fs = true) (h5 : t5 fs m = false) (h : t7 m = true) : mendOkF fs m = false := by
  have hp : plainAt fs m.field = true := by unfold t5 at h5; cases h1 : plainAt fs m.field; rw [h1] at h5; simp at h5; rfl
  have hpos := plain_pos hf hp
  unfold t7 at h
  unfold mendOkF readOk Pl.isEmp
  have ew : (m.whn.toList == m.field.toList) = true → m.whn.toList.isEmpty = false := fun e => by rw [beq_iff_eq] at e; rw [e]; exact hpos
  have er : (m.frm.toList == m.field.toList) = true → m.frm.toList.isEmpty = false := fun e => by rw [beq_iff_eq] at e; rw [e]; exact hpos
  cases h1 : (m.whn.toList == m.field.toList)
  · cases h2 : (m.frm.toList == m.field.toList)
    · rw [h1, h2] at h
      have hb : badM m = true := by simpa using h
      rw [hb]; simp
    · rw [er h2]; simp
  · rw [ew h1]; simp

theorem mendOkF_in {fs : List Fld} {m : Mnd} (h5 : t5 fs m = false) (h7 : t7 m = false) : mendOkF fs m = (m.put.toList.isEmpty || fitB (fs.getD (nameAt fs m.field) Fld.none) m.put) := by
  unfold t5 at h5
  unfold t7 at h7
  unfold mendOkF readOk Pl.isEmp
  cases h1 : plainAt fs m.field
  · rw [h1] at h5; simp at h5
  rw [h1] at h5
  cases q1 : (m.whn.toList == m.field.toList)
  · cases q2 : (m.frm.toList == m.field.toList)
    · rw [q1, q2] at h7
      have hb : badM m = false := by simpa using h7
      rw [hb]
      cases h2 : m.whn.toList.isEmpty <;> cases h3 : m.frm.toList.isEmpty <;> cases h4 : plainAt fs m.whn <;> cases h6 : plainAt fs m.frm <;> rw [h2, h3, h4, h6] at h5 <;> simp at h5 ⊢
    · rw [q2] at h7; simp at h7
  · rw [q1] at h7; simp at h7

set_option maxRecDepth 8000 in
set_option maxHeartbeats 8000000 in
theorem mendOkS (B : Nat) (ss : List Shp) (m : Mnd) (w : World) (h : ShpsIn w B ss) (hok : shapesOk ss = true) (hm : m.sized) :
    Calls Tryz.prog 45 #[.slice (some ⟨B, 0, none⟩) ss.length ss.length, .agg #[.string m.kind, .string m.field, .string m.whn, .string m.is_, .string m.put, .string m.frm]] w fun e w' => e = .returned (.bool (mendOk ss m)) ∧ Below w.heap.size w w' := by
  have HH : Hid (ShpsIn w B ss ∧ shapesOk ss = true ∧ m.sized) := ⟨h, hok, hm⟩
  have hl := h.len
  clear h hok hm
  obtain ⟨w1, hw1⟩ : ∃ w1, w1 = w.alloc (.cells #[.string m.kind, .string m.field, .string m.whn, .string m.is_, .string m.put, .string m.frm] 58) := ⟨_, rfl⟩
  have HB1 : Hid (Below w.heap.size w w1) := by show Below _ _ _; rw [hw1]; exact blw_alloc (Below.refl _ _) _
  have HM1 : Hid (MndIs w1 w.heap.size 0 m ∧ w.heap.size < w1.heap.size) := by show _ ∧ _; rw [hw1]; exact ⟨⟨by simp, by simp, by simp, by simp, by simp, by simp, HH.out.2.2⟩, by simp⟩
  have HS1 : Hid (ShpsIn w1 B ss) := HH.out.1.later HB1.out
  have hz1 := HM1.out.2
  have m0 : w1.cell? ⟨w.heap.size, 0, none⟩ = some (.string m.kind) := HM1.out.1.c0
  have m1 : w1.cell? ⟨w.heap.size, 1, none⟩ = some (.string m.field) := HM1.out.1.c1
  have m2 : w1.cell? ⟨w.heap.size, 2, none⟩ = some (.string m.whn) := HM1.out.1.c2
  have m3 : w1.cell? ⟨w.heap.size, 3, none⟩ = some (.string m.is_) := HM1.out.1.c3
  have m4 : w1.cell? ⟨w.heap.size, 4, none⟩ = some (.string m.put) := HM1.out.1.c4
  have m5 : w1.cell? ⟨w.heap.size, 5, none⟩ = some (.string m.frm) := HM1.out.1.c5
  go_enter Tryz.func45, Tryz.ntmps45
  go_upto_region 1 with fail
  rw [← hw1]
  clear hw1
  go_wp2_with fail
  refine (l1Shape_any B ss m.kind w1 HS1.out).mono ?_
  rintro e w' ⟨rfl, rfl⟩
  by_cases hk : kindAt ss m.kind < ss.length
  case neg =>
    rw [if_neg hk]
    have HR : Hid (mendOk ss m = false) := by show mendOk ss m = false; unfold mendOk hasKind; simp [hk]
    go_wp2
    go_ret
    exact ⟨Pl.ret_bool HR.out.symm, HB1.out⟩
  rw [if_pos hk]
  obtain ⟨k, hkk⟩ : ∃ k, k = kindAt ss m.kind := ⟨_, rfl⟩
  rw [← hkk] at hk ⊢
  obtain ⟨s, hs⟩ : ∃ s, s = ss.getD k Shp.none := ⟨_, rfl⟩
  obtain ⟨b, hfl, _, _, d1⟩ := HS1.out.flds hk hs
  have HFo : Hid (fieldsOk ss s.fields = true) := by show fieldsOk ss s.fields = true; rw [hs]; exact fieldsOk_of HH.out.2.1 hk
  have HE : Hid (mendOk ss m = mendOkF s.fields m) := by show mendOk ss m = _; unfold mendOk hasKind; rw [← hkk, ← hs]; simp [hk]
  obtain ⟨fs, hfs⟩ : ∃ fs, fs = s.fields := ⟨_, rfl⟩
  rw [← hfs] at hfl d1 HFo HE
  have HFL : Hid (FldsIn w1 b fs) := hfl
  have hBl := HS1.out.lt
  have hfl2 := hfl.len
  clear hfl hkk hs hfs
  have HPl : Hid (∀ k, Calls Tryz.prog 66 #[.slice (some ⟨b, 0, none⟩) fs.length fs.length, .string k] w1 fun e w' => e = .returned (.bool (plainAt fs k)) ∧ w1 = w') := fun k => l3Plain b fs k w1 HFL.out
  go_upto_region 5 with fail
  go_cut [46] (fun x wx => x = .bool (t5 fs m) ∧ wx = w1)
  case first =>
    have HT : Hid (t5 fs m = (!plainAt fs m.field || (!m.whn.toList.isEmpty && !plainAt fs m.whn) || (!m.frm.toList.isEmpty && !plainAt fs m.frm))) := rfl
    obtain ⟨pf, hpf⟩ : ∃ x, x = plainAt fs m.field := ⟨_, rfl⟩
    obtain ⟨pw, hpw⟩ : ∃ x, x = plainAt fs m.whn := ⟨_, rfl⟩
    obtain ⟨pr, hpr⟩ : ∃ x, x = plainAt fs m.frm := ⟨_, rfl⟩
    have HPf' : Hid (Calls Tryz.prog 66 #[.slice (some ⟨b, 0, none⟩) fs.length fs.length, .string m.field] w1 fun e w' => e = .returned (.bool pf) ∧ w1 = w') := by rw [hpf]; exact HPl.out m.field
    have HPw' : Hid (Calls Tryz.prog 66 #[.slice (some ⟨b, 0, none⟩) fs.length fs.length, .string m.whn] w1 fun e w' => e = .returned (.bool pw) ∧ w1 = w') := by rw [hpw]; exact HPl.out m.whn
    have HPr' : Hid (Calls Tryz.prog 66 #[.slice (some ⟨b, 0, none⟩) fs.length fs.length, .string m.frm] w1 fun e w' => e = .returned (.bool pr) ∧ w1 = w') := by rw [hpr]; exact HPl.out m.frm
    rw [← hpf, ← hpw, ← hpr] at HT
    clear HPl hpf hpw hpr
    go_wp2_with fail
    refine HPf'.out.mono ?_
    rintro e w' ⟨rfl, rfl⟩
    cases pf
    · go_wp2_with fail
      go_meet
      exact ⟨by rw [HT.out]; rfl, rfl⟩
    cases h2 : m.whn.toList.isEmpty
    · go_wp2_with fail
      refine HPw'.out.mono ?_
      rintro e w' ⟨rfl, rfl⟩
      cases pw
      · go_wp2_with fail
        go_meet
        exact ⟨by rw [HT.out, h2]; rfl, rfl⟩
      cases h5 : m.frm.toList.isEmpty
      · go_wp2_with fail
        refine HPr'.out.mono ?_
        rintro e w' ⟨rfl, rfl⟩
        go_wp2_with fail
        go_meet
        exact ⟨by rw [HT.out, h2, h5]; cases pr <;> rfl, rfl⟩
      · go_wp2_with fail
        go_meet
        exact ⟨by rw [HT.out, h2, h5]; rfl, rfl⟩
    · cases h5 : m.frm.toList.isEmpty
      · go_wp2_with fail
        refine HPr'.out.mono ?_
        rintro e w' ⟨rfl, rfl⟩
        go_wp2_with fail
        go_meet
        exact ⟨by rw [HT.out, h2, h5]; cases pr <;> rfl, rfl⟩
      · go_wp2_with fail
        go_meet
        exact ⟨by rw [HT.out, h2, h5]; rfl, rfl⟩
  case rest =>
  obtain ⟨rfl, hwc⟩ := hcut
  subst hwc
  rename World => w1
  cases ht5 : t5 fs m
  case true =>
    have HR : Hid (mendOk ss m = false) := by show mendOk ss m = false; rw [HE.out]; exact mendOkF_t5 ht5
    go_wp2
    go_ret
    exact ⟨Pl.ret_bool HR.out.symm, HB1.out⟩
  have HT5 : Hid (t5 fs m = false) := ht5
  clear ht5
  go_upto_region 7 with fail
  go_cut [77] (fun x wx => x = .bool (t7 m) ∧ wx = w1)
  case first =>
    have HT : Hid (t7 m = ((m.whn.toList == m.field.toList) || (m.frm.toList == m.field.toList) || ((m.whn.toList.isEmpty && !m.is_.toList.isEmpty) || (m.put.toList.isEmpty == m.frm.toList.isEmpty)))) := rfl
    cases q1 : (m.whn.toList == m.field.toList)
    · cases q2 : (m.frm.toList == m.field.toList)
      · cases h2 : m.whn.toList.isEmpty
        · cases h4 : m.put.toList.isEmpty <;> cases h5 : m.frm.toList.isEmpty
          all_goals
            go_wp2_with fail
            go_meet
            exact ⟨by rw [HT.out, q1, q2, h2, h4, h5]; rfl, rfl⟩
        · cases h3 : m.is_.toList.isEmpty
          · go_wp2_with fail
            go_meet
            exact ⟨by rw [HT.out, q1, q2, h2, h3]; rfl, rfl⟩
          · cases h4 : m.put.toList.isEmpty <;> cases h5 : m.frm.toList.isEmpty
            all_goals
              go_wp2_with fail
              go_meet
              exact ⟨by rw [HT.out, q1, q2, h2, h3, h4, h5]; rfl, rfl⟩
      · go_wp2_with fail
        go_meet
        exact ⟨by rw [HT.out, q1, q2]; rfl, rfl⟩
    · go_wp2_with fail
      go_meet
      exact ⟨by rw [HT.out, q1]; rfl, rfl⟩
  case rest =>
  obtain ⟨rfl, hwc⟩ := hcut
  subst hwc
  rename World => w1
  cases ht7 : t7 m
  case true =>
    have HR : Hid (mendOk ss m = false) := by show mendOk ss m = false; rw [HE.out]; exact mendOkF_t7 HFo.out HT5.out ht7
    go_wp2
    go_ret
    exact ⟨Pl.ret_bool HR.out.symm, HB1.out⟩
  have HE2 : Hid (mendOk ss m = (m.put.toList.isEmpty || fitB (fs.getD (nameAt fs m.field) Fld.none) m.put)) := by show mendOk ss m = _; rw [HE.out]; exact mendOkF_in HT5.out ht7
  have hpl : plainAt fs m.field = true := by have := HT5.out; unfold t5 at this; cases h1 : plainAt fs m.field; rw [h1] at this; simp at this; rfl
  have hq := plain_lt hpl
  clear ht7 hpl HE
  cases hpe : m.put.toList.isEmpty
  · obtain ⟨q, hqq⟩ : ∃ q, q = nameAt fs m.field := ⟨_, rfl⟩
    have HL : Hid (∀ W, Below w1.heap.size w1 W → Calls Tryz.prog 50 #[.slice (some ⟨b, 0, none⟩) fs.length fs.length, .string m.field] W fun e w' => e = .returned (.int .i64 (q : Nat)) ∧ Below W.heap.size W w') := by
      intro W hW
      refine (l3Field b fs m.field W (HFL.out.later hW)).mono ?_
      rintro e w' ⟨rfl, rfl⟩
      rw [if_pos hq, ← hqq]
      exact ⟨rfl, Below.refl _ _⟩
    rw [← hqq] at hq HE2
    obtain ⟨f, hf⟩ : ∃ f, f = fs.getD q Fld.none := ⟨_, rfl⟩
    obtain ⟨b2, hfa, hfi⟩ := HFL.out.arg hq hf
    have HR : Hid (mendOk ss m = fitB f m.put) := by show mendOk ss m = _; rw [HE2.out, hpe, ← hf]; rfl
    have HX : Hid (∀ W, Below w1.heap.size w1 W → Calls Tryz.prog 67 #[.agg #[.string f.nm, .int .i64 f.kind, .int .i64 f.least, .int .i64 f.most, .slice (some ⟨b2, 0, none⟩) f.words.length f.words.length, .string f.to, .int .i64 f.role, .bool f.must, .bool f.fixed, .string f.de, .string f.we], .string m.put] W fun e w' => e = .returned (.bool (mendOk ss m)) ∧ Below W.heap.size W w') := by
      intro W hW'
      rw [HR.out]
      exact specFitsF f b2 m.put W HH.out.2.2.2.2.2.2.1 (hfa.later hW')
    have HFi : Hid (FldIs w1 b (q * 11) f (.slice (some ⟨b2, 0, none⟩) f.words.length f.words.length) ∧ b < w1.heap.size) := ⟨hfi, HFL.out.lt⟩
    clear hfa hfi hf hqq HE2 HR m0 m2 m3 m5
    have HMw : Hid (∀ W, Below w1.heap.size w1 W → W.cell? ⟨w.heap.size, 4, none⟩ = some (.string m.put) ∧ W.cell? ⟨w.heap.size, 1, none⟩ = some (.string m.field) ∧ w.heap.size < W.heap.size ∧ FldIs W b (q * 11) f (.slice (some ⟨b2, 0, none⟩) f.words.length f.words.length) ∧ b < W.heap.size) := fun W hW => ⟨(hW.cell (p := ⟨w.heap.size, 4, none⟩) HM1.out.2).trans HM1.out.1.c4, (hW.cell (p := ⟨w.heap.size, 1, none⟩) HM1.out.2).trans HM1.out.1.c1, Nat.lt_of_lt_of_le HM1.out.2 hW.size, HFi.out.1.later hW HFi.out.2, Nat.lt_of_lt_of_le HFi.out.2 hW.size⟩
    have c0 := HFi.out.1.c0
    have c1 := HFi.out.1.c1
    have c2 := HFi.out.1.c2
    have c3 := HFi.out.1.c3
    have c4 := HFi.out.1.c4
    have c5 := HFi.out.1.c5
    have c6 := HFi.out.1.c6
    have c7 := HFi.out.1.c7
    have c8 := HFi.out.1.c8
    have c9 := HFi.out.1.c9
    have c10 := HFi.out.1.c10
    have hb0 := HFi.out.2
    go_wp2_with fail
    go_region_with (first
      | (go_at_call 50; refine (HL.out _ ?_).mono ?_; (repeat (first | exact Below.refl _ _ | refine Below.drew ?_)); rintro e w3 ⟨rfl, hb3⟩; obtain ⟨g4, g1, gz, ⟨d0, d1, d2, d3, d4, d5, d6, d7, d8, d9, d10, _, _⟩, gb⟩ := HMw.out w3 (blw_trans (by repeat (first | exact Below.refl _ _ | refine Below.drew ?_)) hb3))
      | (go_at_call 67; refine (HX.out _ ?_).mono ?_; (first | exact blw_trans (by repeat (first | exact Below.refl _ _ | refine Below.drew ?_)) hb3 | exact Below.drew (blw_trans (by repeat (first | exact Below.refl _ _ | refine Below.drew ?_)) hb3)); rintro e w4 ⟨rfl, hb4⟩))
    all_goals
      go_wp2
      go_ret
      refine ⟨rfl, ?_⟩
      have hB3 : Below w.heap.size w w3 := by repeat (first | exact blw_trans HB1.out hb3 | exact blw_trans HB1.out.drew hb3 | exact blw_trans HB1.out.drew.drew hb3)
      repeat (first | exact blw_trans hB3 hb4 | exact blw_trans hB3.drew hb4 | refine Below.drew ?_)
  · have HR : Hid (mendOk ss m = true) := by show mendOk ss m = _; rw [HE2.out, hpe]; rfl
    clear HE2
    go_wp2_with fail
    go_region
    all_goals
      go_wp2
      go_ret
      exact ⟨Pl.ret_bool HR.out.symm, by repeat (first | exact HB1.out | refine Below.drew ?_)⟩

end Go.Proofs.YtbannihkgglpaaaGreat
