/-
  Plain functions: mends that are ok; the row by places and by names.
-/
import Derived.Test.YtbannihkgglpaaaGreatWalkMH
import Derived.Test.YtbannihkgglpaaaGreatWalkML
/-
  Walks: the row of a shape's fields.
-/
namespace Go.Proofs.YtbannihkgglpaaaGreat
open Go.RowKit Go.Deep

set_option maxRecDepth 8000 in
set_option maxHeartbeats 2000000 in
theorem mendRowI (K : ByteArray) (n : Nat) (af : Option Addr) (cf : Nat) (a : Option Addr) (q c : Nat) (L : List Mng) (w : World) (hn : n ≤ 1048576) (h : MngsAt w (.slice a q c) L) (hl : L.length ≤ 12) (h2 : ∀ x ∈ L, x.needs.length ≤ 2) :
    Calls Tryz.prog 55 #[.agg #[.string K, .slice af n cf], .slice a q c] w fun e w' => (∃ a k d, e = .returned (.tuple #[.slice a k d, .bool (rowOk (rdOf L) n)]) ∧ (rowOk (rdOf L) n = true → IntsAt w' (.slice a k d) (rowG (rdOf L) n n))) ∧ Below w.heap.size w w' := by
  have HH : Hid (MngsAt w (.slice a q c) L ∧ L.length ≤ 12 ∧ ∀ x ∈ L, x.needs.length ≤ 2) := ⟨h, hl, h2⟩
  have hmk := make_ints n hn
  clear h hl h2
  go_enter Tryz.func55, Tryz.ntmps55
  go_wp2
  obtain ⟨wb, hwb⟩ : ∃ wb, wb = (w.alloc (.cells #[.string K, .slice af n cf] 56)).alloc (.cells #[.slice a q c] 82) := ⟨_, rfl⟩
  have hsb : wb.heap.size = w.heap.size + 1 + 1 := by rw [hwb]; simp
  have HB0 : Hid (Below w.heap.size w wb) := by show Below _ _ _; rw [hwb]; exact blw_alloc (blw_alloc (Below.refl _ _) _) _
  have HC0 : Hid (wb.cell? ⟨w.heap.size + 1, 0, none⟩ = some (.slice a q c)) := by show wb.cell? _ = _; rw [hwb]; simp
  rw [← hsb, ← hwb]
  have HSB : Hid (wb.heap.size = w.heap.size + 1 + 1) := hsb
  clear hwb hsb
  go_loopw [14] (fun i wr => ∃ (k : Nat) (cs : Array Value), k ≤ n ∧ i = .int .i64 k ∧ wr = wb.alloc (.cells cs 3) ∧ cs.size = n ∧ ∀ j, j < k → cs[j]? = some (.int .i64 (j : Nat))) (fun i _ => n - (intOf i).toNat)
  case atStart => exact ⟨0, _, Nat.zero_le _, rfl, rfl, size_madeCells _ _, fun j hj => absurd hj (Nat.not_lt_zero j)⟩
  case round =>
    obtain ⟨k, cs, hk, rfl, rfl, hsz, hall⟩ := hrel
    have HA : Hid (cs.size = n ∧ ∀ j, j < k → cs[j]? = some (.int .i64 (j : Nat))) := ⟨hsz, hall⟩
    clear hall hsz hmk
    by_cases hlt : k < n
    · obtain ⟨v, hv⟩ : ∃ v, cs[k]? = some v := ⟨_, Array.getElem?_eq_getElem (by rw [HA.out.1]; exact hlt)⟩
      have HP := put_ints cs n k HA.out.1 hlt HA.out.2
      have HP' : Hid ((cs.setIfInBounds k (.int .i64 (k : Nat))).size = n ∧ ∀ j, j < k + 1 → (cs.setIfInBounds k (.int .i64 (k : Nat)))[j]? = some (.int .i64 (j : Nat))) := HP
      clear HP
      go_wp2
      go_roundw
      case rel => exact ⟨k + 1, _, by omega, by go_num, rfl, HP'.out.1, HP'.out.2⟩
      case measure => simp [intOf]; omega
    · obtain rfl : k = n := by omega
      have hB1 : Below w.heap.size w (wb.alloc (.cells cs 3)) := blw_alloc HB0.out _
      have HX : Hid (Calls Tryz.prog 75 #[.slice (some ⟨wb.heap.size, 0, none⟩) k k, .func (.func 76) #[] #[.pointer (some ⟨w.heap.size + 1, 0, none⟩)]] (wb.alloc (.cells cs 3)) fun e w' => (∃ a j d, e = .returned (.tuple #[.slice a j d, .bool (rowOk (rdOf L) k)]) ∧ (rowOk (rdOf L) k = true → IntsAt w' (.slice a j d) (rowG (rdOf L) k k))) ∧ Below (wb.alloc (.cells cs 3)).heap.size (wb.alloc (.cells cs 3)) w') := by
        refine rowI wb.heap.size k (w.heap.size + 1) k (rdOf L) (wb.alloc (.cells cs 3)) hn (by simp) (fun i hi => ?_) (fun x W _ hW => ?_)
        · rw [World.cell?_alloc_new]; exact HA.out.2 i hi
        have hbw : Below wb.heap.size wb W := blw_trans (blw_alloc (Below.refl _ _) _) hW
        exact readsI (w.heap.size + 1) x (.slice a q c) L W ((hbw.cell (p := ⟨w.heap.size + 1, 0, none⟩) (by have := HSB.out; show w.heap.size + 1 < _; omega)).trans HC0.out) (HH.out.1.later (blw_trans HB0.out hbw)) HH.out.2.1 HH.out.2.2
      go_wp2_with fail
      refine HX.out.mono ?_
      rintro e w3 ⟨⟨a3, k3, d3, rfl, hi3⟩, hb3⟩
      have hB3 := blw_trans hB1 hb3
      have HI3 : Hid (rowOk (rdOf L) k = true → IntsAt w3 (.slice a3 k3 d3) (rowG (rdOf L) k k)) := hi3
      obtain ⟨R, hR⟩ : ∃ R, R = rowOk (rdOf L) k := ⟨_, rfl⟩
      rw [← hR] at HI3 ⊢
      have HRR : Hid (R = rowOk (rdOf L) k) := hR
      clear hb3 hi3 hR
      go_wp2
      go_ret2
      exact ⟨⟨a3, k3, d3, by rw [← HRR.out]; rfl, by rw [← HRR.out]; exact HI3.out⟩, hB3⟩

end Go.Proofs.YtbannihkgglpaaaGreat

namespace Go.Proofs.YtbannihkgglpaaaGreat
open Go.RowKit Go.Deep

theorem less_irr : ∀ x : List UInt8, Op.bytesLess x x = false
  | [] => rfl
  | a :: x => by
    have := less_irr x
    simp [Op.bytesLess, this]

theorem less_trans : ∀ x y z : List UInt8, Op.bytesLess x y = true → Op.bytesLess y z = true → Op.bytesLess x z = true
  | _, [], _, h, _ => by simp [Op.bytesLess] at h
  | _, _ :: _, [], _, h => by simp [Op.bytesLess] at h
  | [], _ :: _, _ :: _, _, _ => by simp [Op.bytesLess]
  | a :: x, b :: y, c :: z, h1, h2 => by
    have ih := less_trans x y z
    simp only [Op.bytesLess, Bool.or_eq_true, Bool.and_eq_true, decide_eq_true_eq, beq_iff_eq] at h1 h2 ⊢
    rcases h1 with h1 | ⟨rfl, h1⟩
    · rcases h2 with h2 | ⟨rfl, h2⟩
      · exact Or.inl (UInt8.lt_trans h1 h2)
      · exact Or.inl h1
    · rcases h2 with h2 | ⟨rfl, h2⟩
      · exact Or.inl h2
      · exact Or.inr ⟨rfl, ih h1 h2⟩

theorem kinds_less {ss : List Shp} (h : shapesOk ss = true) (i : Nat) : ∀ d, i + d + 1 < ss.length → Pl.less (ss.getD i Shp.none).kind (ss.getD (i + d + 1) Shp.none).kind = true
  | 0, hl => by
    have := shapeAt_of h (i := i + 1) (by omega)
    unfold shapeAt at this
    have h1 := ((Bool.and_eq_true _ _).mp ((Bool.and_eq_true _ _).mp this).1).2
    simpa using h1
  | d + 1, hl => by
    have ih := kinds_less h i d (by omega)
    have := shapeAt_of h (i := i + (d + 1) + 1) (by omega)
    unfold shapeAt at this
    have h1 := ((Bool.and_eq_true _ _).mp ((Bool.and_eq_true _ _).mp this).1).2
    have h2 : Pl.less (ss.getD (i + d + 1) Shp.none).kind (ss.getD (i + (d + 1) + 1) Shp.none).kind = true := by
      simpa [show i + (d + 1) + 1 - 1 = i + d + 1 by omega] using h1
    exact less_trans _ _ _ ih h2

theorem kindAt_self {ss : List Shp} (h : shapesOk ss = true) {i : Nat} (hi : i < ss.length) {k : ByteArray} (hk : (k.toList == (ss.getD i Shp.none).kind.toList) = true) : kindAt ss k = i := by
  rw [beq_iff_eq] at hk
  have hle : kindAt ss k ≤ i := by
    unfold kindAt
    exact Nat.le_of_not_lt fun hlt => by
      have := List.not_of_lt_findIdx hlt
      have e : ss.getD i Shp.none = ss[i] := by simp [hi]
      rw [e] at hk
      simp [hk] at this
  by_cases hq : kindAt ss k = i
  · exact hq
  exfalso
  have hlt : kindAt ss k < ss.length := by omega
  have h1 : ((ss.getD (kindAt ss k) Shp.none).kind.toList == k.toList) = true := by
    have e : ss.getD (kindAt ss k) Shp.none = ss[kindAt ss k] := by simp [hlt]
    rw [e]
    exact List.findIdx_getElem (xs := ss) (p := fun s : Shp => s.kind.toList == k.toList) (w := hlt)
  rw [beq_iff_eq] at h1
  have h2 := kinds_less h (kindAt ss k) (i - kindAt ss k - 1) (by omega)
  rw [show kindAt ss k + (i - kindAt ss k - 1) + 1 = i by omega] at h2
  unfold Pl.less at h2
  rw [h1, hk, less_irr] at h2
  cases h2

theorem nameAt_self {ss : List Shp} {fs : List Fld} (h : fieldsOk ss fs = true) {i : Nat} (hi : i < fs.length) : nameAt fs (fs.getD i Fld.none).nm = i := by
  have := fieldAt_of h hi
  unfold fieldAt at this
  have h2 := ((Bool.and_eq_true _ _).mp this).2
  rw [twice_eq fs i hi] at h2
  have hle := nameAt_le fs i hi
  simp at h2
  have : nameAt fs (fs.getD i Fld.none).nm = nameAt fs (fs[i]?.getD Fld.none).nm := by simp
  omega

theorem nameAt_eq {fs : List Fld} {a b : ByteArray} (h : a.toList = b.toList) : nameAt fs a = nameAt fs b := by unfold nameAt; rw [h]

def nmAt (fs : List Fld) (p : Nat) : ByteArray := (fs.getD p Fld.none).nm

/-- A name is in the row of names just where its place is in the row of places. -/
theorem has_row {ss : List Shp} {fs : List Fld} (h : fieldsOk ss fs = true) {row : List Nat} (hr : ∀ p ∈ row, p < fs.length) {k : ByteArray} (hk : nameAt fs k < fs.length) : Pl.has (row.map (nmAt fs)) k = inRow row (nameAt fs k) := by
  unfold Pl.has inRow
  rw [Bool.eq_iff_iff, List.any_eq_true, List.contains_iff_mem]
  constructor
  · rintro ⟨x, hx, he⟩
    rw [List.mem_map] at hx
    obtain ⟨p, hp, rfl⟩ := hx
    rw [beq_iff_eq] at he
    have h1 := nameAt_self h (hr p hp)
    have h2 := nameAt_eq (fs := fs) he
    unfold nmAt at h2
    rw [h1] at h2
    rw [← h2]; exact hp
  · intro hm
    exact ⟨_, List.mem_map.2 ⟨_, hm, rfl⟩, nameAt_nm hk⟩

theorem all_range {α : Type} (d : α) (p : α → Bool) (l : List α) : ((List.range l.length).all fun i => p (l.getD i d)) = l.all p := by
  rw [Bool.eq_iff_iff, List.all_eq_true, List.all_eq_true]
  constructor
  · intro h x hx
    obtain ⟨i, hi, rfl⟩ := List.getElem_of_mem hx
    have := h i (List.mem_range.2 hi)
    simpa [hi] using this
  · intro h i hi
    have hi' := List.mem_range.1 hi
    have : l.getD i d = l[i] := by simp [hi']
    rw [this]
    exact h _ (List.getElem_mem hi')

theorem rdOf_cons (fs : List Fld) (m : Mnd) (ms : List Mnd) (K : ByteArray) (i : Nat) : rdOf (mngsOf fs (m :: ms) K) i = (if (ofKind K m && decide (nameAt fs m.field = i)) = true then (needsOf fs m).map Need.place else []) ++ rdOf (mngsOf fs ms K) i := by
  unfold rdOf mngsOf
  cases h : ofKind K m
  · simp [h]
  · simp [h, mngOf, places]

theorem ready_eq {ss : List Shp} {fs : List Fld} (h : fieldsOk ss fs = true) {row : List Nat} (hr : ∀ p ∈ row, p < fs.length) (K : ByteArray) {i : Nat} (hi : i < fs.length) :
    ∀ ms : List Mnd, (∀ m ∈ ms, ofKind K m = true → found fs m) → ms.all (readyN1 K (nmAt fs i) (row.map (nmAt fs))) = !(rdOf (mngsOf fs ms K) i).any (fun y => !inRow row y)
  | [], _ => by simp [rdOf, mngsOf]
  | m :: ms, hf => by
    have ih := ready_eq h hr K hi ms (fun m' hm' => hf m' (List.mem_cons_of_mem _ hm'))
    rw [List.all_cons, ih, rdOf_cons, List.any_append, Bool.not_or]
    congr 1
    unfold readyN1
    cases hk : ofKind K m
    · have hk' : (m.kind.toList == K.toList) = false := hk
      rw [hk']; simp
    · have hk' : (m.kind.toList == K.toList) = true := hk
      obtain ⟨f1, f2, f3⟩ := hf m (List.mem_cons_self ..) hk
      have hfe : (m.field.toList == (nmAt fs i).toList) = decide (nameAt fs m.field = i) := by
        rw [Bool.eq_iff_iff, beq_iff_eq, decide_eq_true_eq]
        constructor
        · intro e
          have := nameAt_eq (fs := fs) e
          rw [this]
          exact nameAt_self h hi
        · intro e
          have := nameAt_nm f1
          rw [beq_iff_eq, e] at this
          exact this.symm
      rw [hk', hfe]
      by_cases he : nameAt fs m.field = i
      · simp only [he, decide_true, Bool.and_true, if_true, Bool.not_true, Bool.false_or]
        have n1 : needN (row.map (nmAt fs)) m.whn = (Pl.isEmp m.whn || inRow row (nameAt fs m.whn)) := by
          unfold needN
          cases hw : Pl.isEmp m.whn
          · rw [has_row h hr (f2 hw)]
          · rfl
        have n2 : needN (row.map (nmAt fs)) m.frm = (Pl.isEmp m.frm || inRow row (nameAt fs m.frm)) := by
          unfold needN
          cases hw : Pl.isEmp m.frm
          · rw [has_row h hr (f3 hw)]
          · rfl
        rw [n1, n2]
        unfold needsOf
        cases hw : Pl.isEmp m.whn <;> cases hq : Pl.isEmp m.frm <;> simp
      · simp [he]

theorem rowG_lt (rd : Nat → List Nat) (n : Nat) : ∀ j, ∀ p ∈ rowG rd n j, p < n
  | 0, p, h => by simp [rowG] at h
  | j + 1, p, h => by
    rw [rowG] at h
    split at h
    · rename_i hl
      rw [List.mem_append, List.mem_singleton] at h
      rcases h with h | rfl
      · exact rowG_lt rd n j p h
      · exact hl
    · exact rowG_lt rd n j p h

def rdM (fs : List Fld) (ms : List Mnd) (K : ByteArray) : Nat → List Nat := rdOf (mngsOf fs ms K)
def shapeRow (ms : List Mnd) (s : Shp) : Bool := rowOk (rdM s.fields ms s.kind) s.fields.length
def mendsTo (ss : List Shp) (ms : List Mnd) (k : Nat) : Bool := (List.range k).all fun i => mendOk ss (ms.getD i Mnd.none)
def rowsTo (ss : List Shp) (ms : List Mnd) (k : Nat) : Bool := (List.range k).all fun i => shapeRow ms (ss.getD i Shp.none)
def mendsOk (ss : List Shp) (ms : List Mnd) : Bool := shapesOk ss && decide (ms.length ≤ 12) && mendsTo ss ms ms.length && rowsTo ss ms ss.length

/-- What the spec's test at a place says. -/
theorem ready_at {ss : List Shp} {fs : List Fld} (h : fieldsOk ss fs = true) (ms : List Mnd) (K : ByteArray) (hf : ∀ m ∈ ms, ofKind K m = true → found fs m) {row : List Nat} (hr : ∀ p ∈ row, p < fs.length) {i : Nat} (hi : i < fs.length) :
    (!Pl.has (row.map (nmAt fs)) (nmAt fs i) && readyN ms K (nmAt fs i) (row.map (nmAt fs))) = readyG (rdM fs ms K) row i := by
  unfold readyG readyN rdM
  rw [all_range, ready_eq h hr K hi ms hf]
  have e : nameAt fs (nmAt fs i) = i := nameAt_self h hi
  rw [has_row h hr (by rw [e]; exact hi), e]

theorem found_of {ss : List Shp} {ms : List Mnd} (h : shapesOk ss = true) (hm : mendsTo ss ms ms.length = true) {i : Nat} (hi : i < ss.length) : ∀ m ∈ ms, ofKind (ss.getD i Shp.none).kind m = true → found (ss.getD i Shp.none).fields m := by
  intro m hmm hk
  unfold mendsTo at hm
  rw [all_range, List.all_eq_true] at hm
  have h1 := hm m hmm
  unfold mendOk at h1
  have hks := kindAt_self h hi hk
  rw [hks] at h1
  have h2 := ((Bool.and_eq_true _ _).mp h1).2
  unfold mendOkF at h2
  simp only [Bool.and_eq_true] at h2
  obtain ⟨⟨⟨⟨p1, _⟩, p3⟩, p4⟩, _⟩ := h2
  refine ⟨plain_lt p1, fun hw => ?_, fun hw => ?_⟩
  · unfold readOk at p3
    rw [hw] at p3
    simp only [Bool.false_or, Bool.and_eq_true] at p3
    exact plain_lt p3.2
  · unfold readOk at p4
    rw [hw] at p4
    simp only [Bool.false_or, Bool.and_eq_true] at p4
    exact plain_lt p4.2

end Go.Proofs.YtbannihkgglpaaaGreat
