/-
  Walks: the place of a field's name; fields of another kind.
-/
import Derived.Test.YtbannihkgglpaaaGreatWalkU
import Derived.Test.YtbannihkgglpaaaGreatWalkP
namespace Go.Proofs.YtbannihkgglpaaaGreat
open Go.RowKit Go.Deep

/-- A list of fields of the call's own. -/
structure FldsIn (w : World) (B : Nat) (fs : List Fld) : Prop where
  lt : B < w.heap.size
  len : fs.length ≤ 1048576
  small : ∀ f ∈ fs, f.small
  at_ : ∀ i, i < fs.length → OwnFld w B (i * 11) (fs.getD i Fld.none)

theorem FldsIn.later {w w' : World} {B : Nat} {fs : List Fld} (h : FldsIn w B fs) (hb : Below w.heap.size w w') : FldsIn w' B fs :=
  ⟨Nat.lt_of_lt_of_le h.lt hb.size, h.len, h.small, fun i hi => (h.at_ i hi).later hb h.lt⟩

theorem FldsIn.arg {w : World} {B : Nat} {fs : List Fld} (h : FldsIn w B fs) {i : Nat} (hi : i < fs.length) {f : Fld} (hf : f = fs.getD i Fld.none) :
    ∃ b, FldArg w b f ∧ FldIs w B (i * 11) f (.slice (some ⟨b, 0, none⟩) f.words.length f.words.length) := by
  obtain ⟨b, _, hl, h2⟩ := h.at_ i hi
  rw [← hf] at h2
  exact ⟨b, ⟨hl, h.small f (by rw [hf]; simp [hi]), h2.sized, h2.texts.sizes, texts_cells h2.texts⟩, h2⟩

def nameAt (fs : List Fld) (k : ByteArray) : Nat := fs.findIdx (fun f => f.nm.toList == k.toList)

theorem nameAt_hit (fs : List Fld) (k : ByteArray) (i : Nat) (hi : i < fs.length) (hno : i ≤ nameAt fs k) (h : ((fs.getD i Fld.none).nm.toList == k.toList) = true) : nameAt fs k = i := by
  have e : fs.getD i Fld.none = fs[i] := by simp [hi]
  rw [e] at h
  have : nameAt fs k ≤ i := by
    unfold nameAt
    exact Nat.le_of_not_lt fun hlt => by
      have := List.not_of_lt_findIdx hlt
      simp [h] at this
  omega

theorem nameAt_miss (fs : List Fld) (k : ByteArray) (i : Nat) (hi : i < fs.length) (hno : i ≤ nameAt fs k) (h : ((fs.getD i Fld.none).nm.toList == k.toList) = false) : i + 1 ≤ nameAt fs k := by
  have e : fs.getD i Fld.none = fs[i] := by simp [hi]
  rw [e] at h
  by_cases hq : nameAt fs k = i
  · exfalso
    have hlt : nameAt fs k < fs.length := by omega
    have := List.findIdx_getElem (w := hlt)
    unfold nameAt at hq
    simp only [hq] at this
    rw [this] at h
    cases h
  · omega

theorem nameAt_le (fs : List Fld) (i : Nat) (hi : i < fs.length) : nameAt fs (fs.getD i Fld.none).nm ≤ i := by
  unfold nameAt
  exact Nat.le_of_not_lt fun hlt => by
    have := List.not_of_lt_findIdx hlt
    simp [hi] at this

theorem any_eq (fs : List Fld) (k : ByteArray) (i : Nat) (hi : i ≤ fs.length) : ((List.range i).any fun j => (fs.getD j Fld.none).nm.toList == k.toList) = decide (nameAt fs k < i) := by
  rw [Bool.eq_iff_iff, decide_eq_true_eq, List.any_eq_true]
  constructor
  · rintro ⟨j, hj, h⟩
    rw [List.mem_range] at hj
    have hj' : j < fs.length := by omega
    have e : fs.getD j Fld.none = fs[j] := by simp [hj']
    rw [e] at h
    unfold nameAt
    refine Nat.lt_of_le_of_lt (Nat.le_of_not_lt fun hlt => ?_) hj
    have := List.not_of_lt_findIdx hlt
    rw [h] at this
    cases this
  · intro h
    have hl : nameAt fs k < fs.length := by omega
    refine ⟨nameAt fs k, List.mem_range.2 h, ?_⟩
    have e : fs.getD (nameAt fs k) Fld.none = fs[nameAt fs k] := by simp [hl]
    rw [e]
    exact List.findIdx_getElem (xs := fs) (p := fun f : Fld => f.nm.toList == k.toList) (w := hl)

theorem twice_eq (fs : List Fld) (i : Nat) (hi : i < fs.length) : twice fs i = decide (nameAt fs (fs.getD i Fld.none).nm < i) := any_eq fs _ i (Nat.le_of_lt hi)

set_option maxHeartbeats 1000000 in
theorem nameIs (f : Fld) (b cb : Nat) (k : ByteArray) (w : World) (hcb : cb < w.heap.size) (hc : w.cell? ⟨cb, 0, none⟩ = some (.string k)) :
    Calls Tryz.prog 96 #[.agg #[.string f.nm, .int .i64 f.kind, .int .i64 f.least, .int .i64 f.most, .slice (some ⟨b, 0, none⟩) f.words.length f.words.length, .string f.to, .int .i64 f.role, .bool f.must, .bool f.fixed, .string f.de, .string f.we], .pointer (some ⟨cb, 0, none⟩)] w fun e w' => e = .returned (.bool (f.nm.toList == k.toList)) ∧ Below w.heap.size w w' := by
  go_enter Tryz.func96, Tryz.ntmps96
  go_wp2
  go_ret
  exact ⟨rfl, blw_alloc (Below.refl _ _) _⟩

set_option maxHeartbeats 2000000 in
theorem indexFunc (B cb : Nat) (fs : List Fld) (k : ByteArray) (w : World) (h : FldsIn w B fs) (hcb : cb < w.heap.size) (hc : w.cell? ⟨cb, 0, none⟩ = some (.string k)) :
    Calls Tryz.prog 95 #[.slice (some ⟨B, 0, none⟩) fs.length fs.length, .func (.func 96) #[] #[.pointer (some ⟨cb, 0, none⟩)]] w fun e w' => (∃ r : Int, e = .returned (.int .i64 r) ∧ r = (if nameAt fs k < fs.length then (nameAt fs k : Int) else -1)) ∧ Below w.heap.size w w' := by
  have hl := h.len
  have HH : Hid (FldsIn w B fs) := h
  have HC : Hid (w.cell? ⟨cb, 0, none⟩ = some (.string k)) := hc
  obtain ⟨R, hR⟩ : ∃ R : Int, R = (if nameAt fs k < fs.length then (nameAt fs k : Int) else -1) := ⟨_, rfl⟩
  rw [← hR]
  have HR : Hid (R = (if nameAt fs k < fs.length then (nameAt fs k : Int) else -1)) := hR
  clear h hc hR
  go_enter Tryz.func95, Tryz.ntmps95
  go_wp2
  go_loopw [8] (fun i wr => ∃ q : Nat, q ≤ fs.length ∧ i = .int .i64 q ∧ q ≤ nameAt fs k ∧ Below w.heap.size w wr) (fun i _ => fs.length - (intOf i).toNat)
  case atStart => exact ⟨0, Nat.zero_le _, rfl, Nat.zero_le _, Below.refl _ _⟩
  case round =>
    obtain ⟨q, hq, rfl, hno, hW⟩ := hrel
    have HN : Hid (q ≤ nameAt fs k) := hno
    clear hno
    by_cases hlt : q < fs.length
    · obtain ⟨f, hff⟩ : ∃ f, f = fs.getD q Fld.none := ⟨_, rfl⟩
      obtain ⟨b, _, hf⟩ := (HH.out.later hW).arg hlt hff
      obtain ⟨c0, c1, c2, c3, c4, c5, c6, c7, c8, c9, c10, _, _⟩ := hf
      have HX : Hid (cb < wr.heap.size ∧ wr.cell? ⟨cb, 0, none⟩ = some (.string k)) := ⟨Nat.lt_of_lt_of_le hcb hW.size, (hW.cell (p := ⟨cb, 0, none⟩) hcb).trans HC.out⟩
      cases ht : (f.nm.toList == k.toList)
      · have HM : Hid (q + 1 ≤ nameAt fs k) := nameAt_miss fs k q hlt HN.out (by rw [← hff]; exact ht)
        clear hff
        go_wp2_with fail
        refine (nameIs f b cb k wr HX.out.1 HX.out.2).mono ?_
        rintro e w2 ⟨rfl, hb2⟩
        have hB2 := blw_trans hW hb2
        clear hb2 c0 c1 c2 c3 c4 c5 c6 c7 c8 c9 c10
        go_wp2
        go_roundw
        case rel => exact ⟨q + 1, by omega, by go_num, HM.out, hB2⟩
        case measure => simp [intOf]; omega
      · have HM : Hid (nameAt fs k = q) := nameAt_hit fs k q hlt HN.out (by rw [← hff]; exact ht)
        clear hff
        go_wp2_with fail
        refine (nameIs f b cb k wr HX.out.1 HX.out.2).mono ?_
        rintro e w2 ⟨rfl, hb2⟩
        have hB2 := blw_trans hW hb2
        clear hb2 c0 c1 c2 c3 c4 c5 c6 c7 c8 c9 c10
        go_wp2
        go_ret
        exact ⟨⟨_, rfl, by rw [HR.out, HM.out, if_pos hlt]⟩, hB2⟩
    · go_wp2
      go_ret
      exact ⟨⟨_, rfl, by rw [HR.out, if_neg (by have := HN.out; omega)]⟩, hW⟩

set_option maxHeartbeats 1000000 in
theorem fieldPlace (B : Nat) (fs : List Fld) (k : ByteArray) (w : World) (h : FldsIn w B fs) :
    Calls Tryz.prog 86 #[.slice (some ⟨B, 0, none⟩) fs.length fs.length, .string k] w fun e w' => (∃ r : Int, e = .returned (.int .i64 r) ∧ r = (if nameAt fs k < fs.length then (nameAt fs k : Int) else -1)) ∧ Below w.heap.size w w' := by
  have HH : Hid (FldsIn w B fs) := h
  obtain ⟨R, hR⟩ : ∃ R : Int, R = (if nameAt fs k < fs.length then (nameAt fs k : Int) else -1) := ⟨_, rfl⟩
  rw [← hR]
  have HR : Hid (R = (if nameAt fs k < fs.length then (nameAt fs k : Int) else -1)) := hR
  clear h hR
  go_enter Tryz.func86, Tryz.ntmps86
  go_wp2_with fail
  refine (indexFunc B w.heap.size fs k _ (HH.out.later (blw_alloc (Below.refl _ _) _)) (by simp) (by simp)).mono ?_
  rintro e w2 ⟨⟨r, rfl, hr⟩, hb2⟩
  have hB2 := blw_trans (blw_alloc (Below.refl _ _) _) hb2
  have hr' : r = R := by rw [hr, HR.out]
  subst hr'
  clear hb2 hr
  go_wp2
  go_ret
  exact ⟨⟨_, rfl, rfl⟩, hB2⟩

end Go.Proofs.YtbannihkgglpaaaGreat
