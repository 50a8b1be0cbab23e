/-
  Walks: the row of names: the specification.
-/
import Derived.Test.YtfdahoekjpobaaaGreatWalkMH
import Derived.Test.YtfdahoekjpobaaaGreatWalkML
namespace Go.Proofs.YtfdahoekjpobaaaGreat
open Go.RowKit Go.Deep

set_option maxRecDepth 8000 in
set_option maxHeartbeats 2000000 in
theorem mendRowI (K : ByteArray) (n : Nat) (af : Option Addr) (cf : Nat) (a : Option Addr) (q c : Nat) (L : List Mng) (w : World) (hn : n ≤ 1048576) (h : MngsAt w (.slice a q c) L) (hl : L.length ≤ 12) (h2 : ∀ x ∈ L, x.needs.length ≤ 2) :
    Calls Tryz.prog 48 #[.agg #[.string K, .slice af n cf], .slice a q c] w fun e w' => (∃ a k d, e = .returned (.tuple #[.slice a k d, .bool (rowOk (rdOf L) n)]) ∧ (rowOk (rdOf L) n = true → IntsAt w' (.slice a k d) (rowG (rdOf L) n n))) ∧ Below w.heap.size w w' := by
  have HH : Hid (MngsAt w (.slice a q c) L ∧ L.length ≤ 12 ∧ ∀ x ∈ L, x.needs.length ≤ 2) := ⟨h, hl, h2⟩
  have hmk := make_ints n hn
  clear h hl h2
  go_enter Tryz.func48, Tryz.ntmps48
  go_wp2
  obtain ⟨wb, hwb⟩ : ∃ wb, wb = (w.alloc (.cells #[.string K, .slice af n cf] 56)).alloc (.cells #[.slice a q c] 78) := ⟨_, rfl⟩
  have hsb : wb.heap.size = w.heap.size + 1 + 1 := by rw [hwb]; simp
  have HB0 : Hid (Below w.heap.size w wb) := by show Below _ _ _; rw [hwb]; exact blw_alloc (blw_alloc (Below.refl _ _) _) _
  have HC0 : Hid (wb.cell? ⟨w.heap.size + 1, 0, none⟩ = some (.slice a q c)) := by show wb.cell? _ = _; rw [hwb]; simp
  rw [← hsb, ← hwb]
  have HSB : Hid (wb.heap.size = w.heap.size + 1 + 1) := hsb
  clear hwb hsb
  go_loopw [14] (fun i wr => ∃ (k : Nat) (cs : Array Value), k ≤ n ∧ i = .int .i64 k ∧ wr = wb.alloc (.cells cs 3) ∧ cs.size = n ∧ ∀ j, j < k → cs[j]? = some (.int .i64 (j : Nat))) (fun i _ => n - (intOf i).toNat)
  case atStart => exact ⟨0, _, Nat.zero_le _, rfl, rfl, size_madeCells _ _, fun j hj => absurd hj (Nat.not_lt_zero j)⟩
  case round =>
    obtain ⟨k, cs, hk, rfl, rfl, hsz, hall⟩ := hrel
    have HA : Hid (cs.size = n ∧ ∀ j, j < k → cs[j]? = some (.int .i64 (j : Nat))) := ⟨hsz, hall⟩
    clear hall hsz hmk
    by_cases hlt : k < n
    · obtain ⟨v, hv⟩ : ∃ v, cs[k]? = some v := ⟨_, Array.getElem?_eq_getElem (by rw [HA.out.1]; exact hlt)⟩
      have HP := put_ints cs n k HA.out.1 hlt HA.out.2
      have HP' : Hid ((cs.setIfInBounds k (.int .i64 (k : Nat))).size = n ∧ ∀ j, j < k + 1 → (cs.setIfInBounds k (.int .i64 (k : Nat)))[j]? = some (.int .i64 (j : Nat))) := HP
      clear HP
      go_wp2
      go_roundw
      case rel => exact ⟨k + 1, _, by omega, by go_num, rfl, HP'.out.1, HP'.out.2⟩
      case measure => simp [intOf]; omega
    · obtain rfl : k = n := by omega
      have hB1 : Below w.heap.size w (wb.alloc (.cells cs 3)) := blw_alloc HB0.out _
      have HX : Hid (Calls Tryz.prog 70 #[.slice (some ⟨wb.heap.size, 0, none⟩) k k, .func (.func 71) #[] #[.pointer (some ⟨w.heap.size + 1, 0, none⟩)]] (wb.alloc (.cells cs 3)) fun e w' => (∃ a j d, e = .returned (.tuple #[.slice a j d, .bool (rowOk (rdOf L) k)]) ∧ (rowOk (rdOf L) k = true → IntsAt w' (.slice a j d) (rowG (rdOf L) k k))) ∧ Below (wb.alloc (.cells cs 3)).heap.size (wb.alloc (.cells cs 3)) w') := by
        refine rowI wb.heap.size k (w.heap.size + 1) k (rdOf L) (wb.alloc (.cells cs 3)) hn (by simp) (fun i hi => ?_) (fun x W _ hW => ?_)
        · rw [World.cell?_alloc_new]; exact HA.out.2 i hi
        have hbw : Below wb.heap.size wb W := blw_trans (blw_alloc (Below.refl _ _) _) hW
        exact readsI (w.heap.size + 1) x (.slice a q c) L W ((hbw.cell (p := ⟨w.heap.size + 1, 0, none⟩) (by have := HSB.out; show w.heap.size + 1 < _; omega)).trans HC0.out) (HH.out.1.later (blw_trans HB0.out hbw)) HH.out.2.1 HH.out.2.2
      go_wp2_with fail
      refine HX.out.mono ?_
      rintro e w3 ⟨⟨a3, k3, d3, rfl, hi3⟩, hb3⟩
      have hB3 := blw_trans hB1 hb3
      have HI3 : Hid (rowOk (rdOf L) k = true → IntsAt w3 (.slice a3 k3 d3) (rowG (rdOf L) k k)) := hi3
      obtain ⟨R, hR⟩ : ∃ R, R = rowOk (rdOf L) k := ⟨_, rfl⟩
      rw [← hR] at HI3 ⊢
      have HRR : Hid (R = rowOk (rdOf L) k) := hR
      clear hb3 hi3 hR
      go_wp2
      go_ret2
      exact ⟨⟨a3, k3, d3, by rw [← HRR.out]; rfl, by rw [← HRR.out]; exact HI3.out⟩, hB3⟩

end Go.Proofs.YtfdahoekjpobaaaGreat

namespace Go.Proofs.YtfdahoekjpobaaaGreat
open Go.RowKit Go.Deep

theorem less_irr : ∀ x : List UInt8, Op.bytesLess x x = false
  | [] => rfl
  | a :: x => by
    have := less_irr x
    simp [Op.bytesLess, this]

theorem less_trans : ∀ x y z : List UInt8, Op.bytesLess x y = true → Op.bytesLess y z = true → Op.bytesLess x z = true
  | _, [], _, h, _ => by simp [Op.bytesLess] at h
  | _, _ :: _, [], _, h => by simp [Op.bytesLess] at h
  | [], _ :: _, _ :: _, _, _ => by simp [Op.bytesLess]
  | a :: x, b :: y, c :: z, h1, h2 => by
    have ih := less_trans x y z
    simp only [Op.bytesLess, Bool.or_eq_true, Bool.and_eq_true, decide_eq_true_eq, beq_iff_eq] at h1 h2 ⊢
    rcases h1 with h1 | ⟨rfl, h1⟩
    · rcases h2 with h2 | ⟨rfl, h2⟩
      · exact Or.inl (UInt8.lt_trans h1 h2)
      · exact Or.inl h1
    · rcases h2 with h2 | ⟨rfl, h2⟩
      · exact Or.inl h2
      · exact Or.inr ⟨rfl, ih h1 h2⟩

theorem kinds_less {ss : List Shp} (h : shapesOk ss = true) (i : Nat) : ∀ d, i + d + 1 < ss.length → Pl.less (ss.getD i Shp.none).kind (ss.getD (i + d + 1) Shp.none).kind = true
  | 0, hl => by
    have := shapeAt_of h (i := i + 1) (by omega)
    unfold shapeAt at this
    have h1 := ((Bool.and_eq_true _ _).mp ((Bool.and_eq_true _ _).mp this).1).2
    simpa using h1
  | d + 1, hl => by
    have ih := kinds_less h i d (by omega)
    have := shapeAt_of h (i := i + (d + 1) + 1) (by omega)
    unfold shapeAt at this
    have h1 := ((Bool.and_eq_true _ _).mp ((Bool.and_eq_true _ _).mp this).1).2
    have h2 : Pl.less (ss.getD (i + d + 1) Shp.none).kind (ss.getD (i + (d + 1) + 1) Shp.none).kind = true := by
      simpa [show i + (d + 1) + 1 - 1 = i + d + 1 by omega] using h1
    exact less_trans _ _ _ ih h2

theorem kindAt_self {ss : List Shp} (h : shapesOk ss = true) {i : Nat} (hi : i < ss.length) {k : ByteArray} (hk : (k.toList == (ss.getD i Shp.none).kind.toList) = true) : kindAt ss k = i := by
  rw [beq_iff_eq] at hk
  have hle : kindAt ss k ≤ i := by
    unfold kindAt
    exact Nat.le_of_not_lt fun hlt => by
      have := List.not_of_lt_findIdx hlt
      have e : ss.getD i Shp.none = ss[i] := by simp [hi]
      rw [e] at hk
      simp [hk] at this
  by_cases hq : kindAt ss k = i
  · exact hq
  exfalso
  have hlt : kindAt ss k < ss.length := by omega
  have h1 : ((ss.getD (kindAt ss k) Shp.none).kind.toList == k.toList) = true := by
    have e : ss.getD (kindAt ss k) Shp.none = ss[kindAt ss k] := by simp [hlt]
    rw [e]
    exact List.findIdx_getElem (xs := ss) (p := fun s : Shp => s.kind.toList == k.toList) (w := hlt)
  rw [beq_iff_eq] at h1
  have h2 := kinds_less h (kindAt ss k) (i - kindAt ss k - 1) (by omega)
  rw [show kindAt ss k + (i - kindAt ss k - 1) + 1 = i by omega] at h2
  unfold Pl.less at h2
  rw [h1, hk, less_irr] at h2
  cases h2

theorem nameAt_self {ss : List Shp} {fs : List Fld} (h : fieldsOk ss fs = true) {i : Nat} (hi : i < fs.length) : nameAt fs (fs.getD i Fld.none).nm = i := by
  have := fieldAt_of h hi
  unfold fieldAt at this
  have h2 := ((Bool.and_eq_true _ _).mp this).2
  rw [twice_eq fs i hi] at h2
  have hle := nameAt_le fs i hi
  simp at h2
  have : nameAt fs (fs.getD i Fld.none).nm = nameAt fs (fs[i]?.getD Fld.none).nm := by simp
  omega

theorem nameAt_eq {fs : List Fld} {a b : ByteArray} (h : a.toList = b.toList) : nameAt fs a = nameAt fs b := by unfold nameAt; rw [h]

def nmAt (fs : List Fld) (p : Nat) : ByteArray := (fs.getD p Fld.none).nm

/-- A name is in the row of names just where its place is in the row of places. -/
theorem has_row {ss : List Shp} {fs : List Fld} (h : fieldsOk ss fs = true) {row : List Nat} (hr : ∀ p ∈ row, p < fs.length) {k : ByteArray} (hk : nameAt fs k < fs.length) : Pl.has (row.map (nmAt fs)) k = inRow row (nameAt fs k) := by
  unfold Pl.has inRow
  rw [Bool.eq_iff_iff, List.any_eq_true, List.contains_iff_mem]
  constructor
  · rintro ⟨x, hx, he⟩
    rw [List.mem_map] at hx
    obtain ⟨p, hp, rfl⟩ := hx
    rw [beq_iff_eq] at he
    have h1 := nameAt_self h (hr p hp)
    have h2 := nameAt_eq (fs := fs) he
    unfold nmAt at h2
    rw [h1] at h2
    rw [← h2]; exact hp
  · intro hm
    exact ⟨_, List.mem_map.2 ⟨_, hm, rfl⟩, nameAt_nm hk⟩

theorem all_range {α : Type} (d : α) (p : α → Bool) (l : List α) : ((List.range l.length).all fun i => p (l.getD i d)) = l.all p := by
  rw [Bool.eq_iff_iff, List.all_eq_true, List.all_eq_true]
  constructor
  · intro h x hx
    obtain ⟨i, hi, rfl⟩ := List.getElem_of_mem hx
    have := h i (List.mem_range.2 hi)
    simpa [hi] using this
  · intro h i hi
    have hi' := List.mem_range.1 hi
    have : l.getD i d = l[i] := by simp [hi']
    rw [this]
    exact h _ (List.getElem_mem hi')

theorem rdOf_cons (fs : List Fld) (m : Mnd) (ms : List Mnd) (K : ByteArray) (i : Nat) : rdOf (mngsOf fs (m :: ms) K) i = (if (ofKind K m && decide (nameAt fs m.field = i)) = true then (needsOf fs m).map Need.place else []) ++ rdOf (mngsOf fs ms K) i := by
  unfold rdOf mngsOf
  cases h : ofKind K m
  · simp [h]
  · simp [h, mngOf, places]

theorem ready_eq {ss : List Shp} {fs : List Fld} (h : fieldsOk ss fs = true) {row : List Nat} (hr : ∀ p ∈ row, p < fs.length) (K : ByteArray) {i : Nat} (hi : i < fs.length) :
    ∀ ms : List Mnd, (∀ m ∈ ms, ofKind K m = true → found fs m) → ms.all (readyN1 K (nmAt fs i) (row.map (nmAt fs))) = !(rdOf (mngsOf fs ms K) i).any (fun y => !inRow row y)
  | [], _ => by simp [rdOf, mngsOf]
  | m :: ms, hf => by
    have ih := ready_eq h hr K hi ms (fun m' hm' => hf m' (List.mem_cons_of_mem _ hm'))
    rw [List.all_cons, ih, rdOf_cons, List.any_append, Bool.not_or]
    congr 1
    unfold readyN1
    cases hk : ofKind K m
    · have hk' : (m.kind.toList == K.toList) = false := hk
      rw [hk']; simp
    · have hk' : (m.kind.toList == K.toList) = true := hk
      obtain ⟨f1, f2, f3⟩ := hf m (List.mem_cons_self ..) hk
      have hfe : (m.field.toList == (nmAt fs i).toList) = decide (nameAt fs m.field = i) := by
        rw [Bool.eq_iff_iff, beq_iff_eq, decide_eq_true_eq]
        constructor
        · intro e
          have := nameAt_eq (fs := fs) e
          rw [this]
          exact nameAt_self h hi
        · intro e
          have := nameAt_nm f1
          rw [beq_iff_eq, e] at this
          exact this.symm
      rw [hk', hfe]
      by_cases he : nameAt fs m.field = i
      · simp only [he, decide_true, Bool.and_true, if_true, Bool.not_true, Bool.false_or]
        have n1 : needN (row.map (nmAt fs)) m.whn = (Pl.isEmp m.whn || inRow row (nameAt fs m.whn)) := by
          unfold needN
          cases hw : Pl.isEmp m.whn
          · rw [has_row h hr (f2 hw)]
          · rfl
        have n2 : needN (row.map (nmAt fs)) m.frm = (Pl.isEmp m.frm || inRow row (nameAt fs m.frm)) := by
          unfold needN
          cases hw : Pl.isEmp m.frm
          · rw [has_row h hr (f3 hw)]
          · rfl
        rw [n1, n2]
        unfold needsOf
        cases hw : Pl.isEmp m.whn <;> cases hq : Pl.isEmp m.frm <;> simp
      · simp [he]

theorem rowG_lt (rd : Nat → List Nat) (n : Nat) : ∀ j, ∀ p ∈ rowG rd n j, p < n
  | 0, p, h => by simp [rowG] at h
  | j + 1, p, h => by
    rw [rowG] at h
    split at h
    · rename_i hl
      rw [List.mem_append, List.mem_singleton] at h
      rcases h with h | rfl
      · exact rowG_lt rd n j p h
      · exact hl
    · exact rowG_lt rd n j p h

def rdM (fs : List Fld) (ms : List Mnd) (K : ByteArray) : Nat → List Nat := rdOf (mngsOf fs ms K)
def shapeRow (ms : List Mnd) (s : Shp) : Bool := rowOk (rdM s.fields ms s.kind) s.fields.length
def mendsTo (ss : List Shp) (ms : List Mnd) (k : Nat) : Bool := (List.range k).all fun i => mendOk ss (ms.getD i Mnd.none)
def rowsTo (ss : List Shp) (ms : List Mnd) (k : Nat) : Bool := (List.range k).all fun i => shapeRow ms (ss.getD i Shp.none)
def mendsOk (ss : List Shp) (ms : List Mnd) : Bool := shapesOk ss && decide (ms.length ≤ 12) && mendsTo ss ms ms.length && rowsTo ss ms ss.length

/-- What the spec's test at a place says. -/
theorem ready_at {ss : List Shp} {fs : List Fld} (h : fieldsOk ss fs = true) (ms : List Mnd) (K : ByteArray) (hf : ∀ m ∈ ms, ofKind K m = true → found fs m) {row : List Nat} (hr : ∀ p ∈ row, p < fs.length) {i : Nat} (hi : i < fs.length) :
    (!Pl.has (row.map (nmAt fs)) (nmAt fs i) && readyN ms K (nmAt fs i) (row.map (nmAt fs))) = readyG (rdM fs ms K) row i := by
  unfold readyG readyN rdM
  rw [all_range, ready_eq h hr K hi ms hf]
  have e : nameAt fs (nmAt fs i) = i := nameAt_self h hi
  rw [has_row h hr (by rw [e]; exact hi), e]

theorem found_of {ss : List Shp} {ms : List Mnd} (h : shapesOk ss = true) (hm : mendsTo ss ms ms.length = true) {i : Nat} (hi : i < ss.length) : ∀ m ∈ ms, ofKind (ss.getD i Shp.none).kind m = true → found (ss.getD i Shp.none).fields m := by
  intro m hmm hk
  unfold mendsTo at hm
  rw [all_range, List.all_eq_true] at hm
  have h1 := hm m hmm
  unfold mendOk at h1
  have hks := kindAt_self h hi hk
  rw [hks] at h1
  have h2 := ((Bool.and_eq_true _ _).mp h1).2
  unfold mendOkF at h2
  simp only [Bool.and_eq_true] at h2
  obtain ⟨⟨⟨⟨p1, _⟩, p3⟩, p4⟩, _⟩ := h2
  refine ⟨plain_lt p1, fun hw => ?_, fun hw => ?_⟩
  · unfold readOk at p3
    rw [hw] at p3
    simp only [Bool.false_or, Bool.and_eq_true] at p3
    exact plain_lt p3.2
  · unfold readOk at p4
    rw [hw] at p4
    simp only [Bool.false_or, Bool.and_eq_true] at p4
    exact plain_lt p4.2

end Go.Proofs.YtfdahoekjpobaaaGreat

namespace Go.Proofs.YtfdahoekjpobaaaGreat
open Go.RowKit Go.Deep

/-- A slice of names of the call's own. -/
def NamesOwn (w : World) (lo : Nat) (v : Value) (l : List ByteArray) : Prop := (∃ g c, v = .slice (some ⟨g, 0, none⟩) l.length c) ∧ w.ownsRow lo 9 1 v l.length (l.map Value.string)

theorem NamesOwn.later {w w' : World} {lo : Nat} {v : Value} {l : List ByteArray} (h : NamesOwn w lo v l) (hb : Below w.heap.size w w') : NamesOwn w' lo v l := ⟨h.1, owns_later h.2 hb⟩

theorem NamesOwn.at_ {w : World} {lo : Nat} {v : Value} {l : List ByteArray} (h : NamesOwn w lo v l) (hl : l.length ≤ 1048576) : NamesAt w v l := by
  obtain ⟨⟨g, c, rfl⟩, ho⟩ := h
  have hcs : ∀ j u, (l.map Value.string)[j]? = some u → w.cell? ((⟨g, 0, none⟩ : Addr).add j) = some u := World.ownsRow.cells ho rfl
  refine ⟨g, c, rfl, (World.ownsRow.lt ho g rfl).2, hl, fun i hi => ?_⟩
  have := hcs i (.string (l.getD i ByteArray.empty)) (by simp [hi])
  rw [Addr.add_lit, Nat.zero_add] at this
  exact this

theorem NamesOwn.start (w : World) (lo : Nat) (hl : lo ≤ w.heap.size) : NamesOwn (w.alloc (.cells #[] 9)) lo (.slice (some ⟨w.heap.size, 0, none⟩) 0 0) [] :=
  ⟨⟨_, _, rfl⟩, World.ownsRow_made w #[] 0 hl (by decide) (by simp)⟩

theorem NamesOwn.of {w : World} {lo : Nat} {v : Value} {l : List ByteArray} (h : w.ownsRow lo 9 1 v l.length (l.map Value.string)) (hl : l.length ≠ 0) : NamesOwn w lo v l := by
  refine ⟨?_, h⟩
  rcases h.2 with ⟨_, h0⟩ | ⟨g, cap, cur, rfl, _⟩
  · exact absurd h0 hl
  · exact ⟨_, _, rfl⟩

set_option maxRecDepth 8000 in
set_option maxHeartbeats 8000000 in
theorem l3RowS (ss : List Shp) (s : Shp) (fb mb : Nat) (ms : List Mnd) (w : World) (h : FldsIn w fb s.fields) (hm : MndsIn w mb ms) (hfo : fieldsOk ss s.fields = true) (hf : ∀ m ∈ ms, ofKind s.kind m = true → found s.fields m) :
    Calls Tryz.prog 41 #[.agg #[.string s.kind, .slice (some ⟨fb, 0, none⟩) s.fields.length s.fields.length], .slice (some ⟨mb, 0, none⟩) ms.length ms.length] w fun e w' =>
      (∃ a c, e = .returned (.slice a (rowG (rdM s.fields ms s.kind) s.fields.length s.fields.length).length c) ∧ NamesAt w' (.slice a (rowG (rdM s.fields ms s.kind) s.fields.length s.fields.length).length c) ((rowG (rdM s.fields ms s.kind) s.fields.length s.fields.length).map (nmAt s.fields))) ∧ Below w.heap.size w w' := by
  have hl := hm.len
  have hn6 := fields_few hfo
  have HA : Hid (FldsIn w fb s.fields ∧ MndsIn w mb ms ∧ fieldsOk ss s.fields = true ∧ ∀ m ∈ ms, ofKind s.kind m = true → found s.fields m) := ⟨h, hm, hfo, hf⟩
  obtain ⟨i0, hi, hz0, hz1, hz2⟩ := info_parts Tryz.info9
  clear h hm hfo hf
  obtain ⟨rd, hrd⟩ : ∃ rd, rd = rdM s.fields ms s.kind := ⟨_, rfl⟩
  obtain ⟨fs, hfs⟩ : ∃ fs, fs = s.fields := ⟨_, rfl⟩
  have HRD : Hid (rd = rdM s.fields ms s.kind) := hrd
  rw [← hrd, ← hfs]
  rw [← hfs] at hn6 HA HRD
  clear hrd hfs
  obtain ⟨n, hn⟩ : ∃ n, n = fs.length := ⟨_, rfl⟩
  rw [← hn]
  rw [← hn] at hn6
  have HNn : Hid (n = fs.length) := hn
  clear hn
  obtain ⟨wb, hwb⟩ : ∃ wb, wb = w.alloc (.cells #[.string s.kind, .slice (some ⟨fb, 0, none⟩) n n] 56) := ⟨_, rfl⟩
  have HB0 : Hid (Below w.heap.size w wb) := by show Below _ _ _; rw [hwb]; exact blw_alloc (Below.refl _ _) _
  have HK : Hid (wb.heap.size = w.heap.size + 1 ∧ wb.cell? ⟨w.heap.size, 0, none⟩ = some (.string s.kind) ∧ wb.cell? ⟨w.heap.size, 1, none⟩ = some (.slice (some ⟨fb, 0, none⟩) n n)) := by show _ ∧ _ ∧ _; rw [hwb]; exact ⟨by simp, by simp, by simp⟩
  go_enter Tryz.func41, Tryz.ntmps41
  go_upto_region 1 with fail
  rw [← hwb]
  clear hwb
  go_wp2
  go_loopw [5, 6] (fun v i wr => ∃ (j : Nat) (a : Option Addr) (c : Nat), j ≤ n ∧ i = .int .i64 j ∧ v = .slice a (rowG rd n j).length c ∧ NamesOwn wr wb.heap.size v ((rowG rd n j).map (nmAt fs)) ∧ Below wb.heap.size wb wr) (fun _ i _ => n - (intOf i).toNat)
  case atStart => exact ⟨0, some ⟨wb.heap.size, 0, none⟩, 0, Nat.zero_le _, rfl, rfl, NamesOwn.start wb _ (Nat.le_refl _), blw_alloc (Below.refl _ _) _⟩
  case round =>
    obtain ⟨j, a, c, hj, rfl, rfl, hO, hW⟩ := hrel
    obtain ⟨row, hrow⟩ : ∃ row, row = rowG rd n j := ⟨_, rfl⟩
    rw [← hrow] at hO ⊢
    have HO : Hid (NamesOwn wr wb.heap.size (.slice a row.length c) (row.map (nmAt fs))) := hO
    have HW : Hid (Below wb.heap.size wb wr) := hW
    have HRow : Hid (row = rowG rd n j) := hrow
    have HRl : Hid (row.length ≤ j) := by show row.length ≤ j; rw [hrow]; exact rowG_le rd n j
    have hs1 : w.heap.size < wr.heap.size := by have := hW.size; have := HK.out.1; omega
    have k0 : wr.cell? ⟨w.heap.size, 0, none⟩ = some (.string s.kind) := (hW.cell (p := ⟨w.heap.size, 0, none⟩) (by have := HK.out.1; show w.heap.size < _; omega)).trans HK.out.2.1
    have k1 : wr.cell? ⟨w.heap.size, 1, none⟩ = some (.slice (some ⟨fb, 0, none⟩) n n) := (hW.cell (p := ⟨w.heap.size, 1, none⟩) (by have := HK.out.1; show w.heap.size < _; omega)).trans HK.out.2.2
    clear hO hW hrow
    by_cases hlt : j < n
    · go_wp2
      clear k0 k1 hs1
      go_loopw [5, 7] (fun v i wq => v = .slice a row.length c ∧ ∃ q : Nat, q ≤ n ∧ i = .int .i64 q ∧ q ≤ nextG rd n row ∧ Below wr.heap.size wr wq) (fun _ i _ => n - (intOf i).toNat)
      case atStart => exact ⟨rfl, 0, Nat.zero_le _, rfl, Nat.zero_le _, Below.refl _ _⟩
      case round =>
        obtain ⟨rfl, q, hq, rfl, hno, hWq⟩ := hrel
        rename World => wq
        have HN : Hid (q ≤ nextG rd n row) := hno
        have HWq : Hid (Below wr.heap.size wr wq) := hWq
        have HWb : Hid (Below wb.heap.size wb wq) := blw_trans HW.out hWq
        have hs1 : w.heap.size < wq.heap.size := by have := HWb.out.size; have := HK.out.1; omega
        have k0 : wq.cell? ⟨w.heap.size, 0, none⟩ = some (.string s.kind) := (HWb.out.cell (p := ⟨w.heap.size, 0, none⟩) (by have := HK.out.1; show w.heap.size < _; omega)).trans HK.out.2.1
        have k1 : wq.cell? ⟨w.heap.size, 1, none⟩ = some (.slice (some ⟨fb, 0, none⟩) n n) := (HWb.out.cell (p := ⟨w.heap.size, 1, none⟩) (by have := HK.out.1; show w.heap.size < _; omega)).trans HK.out.2.2
        clear hno hWq
        by_cases hqn : q < n
        · obtain ⟨f, hff⟩ : ∃ f, f = fs.getD q Fld.none := ⟨_, rfl⟩
          obtain ⟨b, _, hfi⟩ := (HA.out.1.later (blw_trans HB0.out HWb.out)).arg (by rw [← HNn.out]; exact hqn) hff
          have c0 := hfi.c0
          have hfb : fb < wq.heap.size := (HA.out.1.later (blw_trans HB0.out HWb.out)).lt
          have HRg : Hid ((!Pl.has (row.map (nmAt fs)) f.nm && readyN ms s.kind f.nm (row.map (nmAt fs))) = readyG rd row q) := by
            have := ready_at HA.out.2.2.1 ms s.kind HA.out.2.2.2 (row := row) (fun p hp => by rw [HRow.out] at hp; rw [← HNn.out]; exact rowG_lt rd n j p hp) (i := q) (by rw [← HNn.out]; exact hqn)
            unfold nmAt at this
            rw [← hff] at this
            have e : rd = rdM fs ms s.kind := HRD.out
            rw [e]
            exact this
          have HMs : Hid (readyG rd row q = false → q + 1 ≤ nextG rd n row) := fun e => firstAt_miss _ _ q (by simpa using hqn) HN.out (by simpa [hqn] using e)
          have HHt : Hid (readyG rd row q = true → nextG rd n row = q) := fun e => firstAt_hit _ _ q (by simpa using hqn) HN.out (by simpa [hqn] using e)
          have HCa : Hid (∀ W, Below wq.heap.size wq W → Calls Tryz.prog 61 #[.slice a row.length c, .string f.nm] W fun e w' => e = .returned (.bool (Pl.has (row.map (nmAt fs)) f.nm)) ∧ W = w') := fun W hW' => hasN _ _ f.nm W ((HO.out.later (blw_trans HWq.out hW')).at_ (by rw [List.length_map]; have := HRl.out; omega))
          have HCb : Hid (Calls Tryz.prog 62 #[.slice (some ⟨mb, 0, none⟩) ms.length ms.length, .string s.kind, .string f.nm, .slice a row.length c] wq fun e w' => e = .returned (.bool (readyN ms s.kind f.nm (row.map (nmAt fs)))) ∧ Below wq.heap.size wq w') := l3Ready mb ms s.kind f.nm a _ c _ wq (HA.out.2.1.later (blw_trans HB0.out HWb.out)) ((HO.out.later HWq.out).at_ (by rw [List.length_map]; have := HRl.out; omega))
          have HFn : Hid (f.nm = nmAt fs q) := by show f.nm = nmAt fs q; rw [hff]; rfl
          obtain ⟨ha, hha⟩ : ∃ ha, ha = Pl.has (row.map (nmAt fs)) f.nm := ⟨_, rfl⟩
          obtain ⟨rn, hrn⟩ : ∃ rn, rn = readyN ms s.kind f.nm (row.map (nmAt fs)) := ⟨_, rfl⟩
          rw [← hha] at HRg HCa
          rw [← hrn] at HRg HCb
          clear hfi hff hha hrn
          go_wp2_with fail
          refine (HCa.out _ (Below.refl _ _)).mono ?_
          rintro e w' ⟨rfl, rfl⟩
          cases ha
          · go_wp2_with fail
            refine HCb.out.mono ?_
            rintro e w3 ⟨rfl, hb3⟩
            have HB3 : Hid (Below wr.heap.size wr w3) := blw_trans HWq.out hb3
            clear hb3 k0 k1 c0 hfb hs1
            cases rn
            · have HM := HMs.out (by rw [← HRg.out]; rfl)
              have HM' : Hid (q + 1 ≤ nextG rd n row) := HM
              clear HM
              go_wp2
              go_roundw
              case rel => exact ⟨rfl, q + 1, by omega, by go_num, HM'.out, HB3.out⟩
              case measure => simp [intOf]; omega
            · have HNx : Hid (rowG rd n (j + 1) = row ++ [q]) := by
                have e := HHt.out (by rw [← HRg.out]; rfl)
                have := rowG_next rd n j (by rw [← HRow.out, e]; exact hqn)
                rw [← HRow.out, e] at this
                exact this
              have hrl : row.length ≤ j := HRl.out
              have hsz : wb.heap.size ≤ w3.heap.size := (blw_trans HW.out HB3.out).size
              go_wp2_with (at_builtin; refine wpList_append_own _ rfl _ _ 24 rfl wb.heap.size 9 i0 (.string ByteArray.empty) 1 16 Tryz.underlying24 hi hz0 hz1 hz2 rfl (by decide) (.slice a row.length c) row.length ((row.map (nmAt fs)).map Value.string) rfl ?c0 ⟨w3.heap.size, 0, none⟩ 1 1 [.string f.nm] rfl ?c1 ?c2 ?c3 ?c4 ?c5 ?c6 ?_)
              case c0 =>
                have := HO.out.2
                rw [List.length_map] at this
                exact owns_later this (blw_trans HB3.out (blw_alloc (Below.refl _ _) _))
              case c1 => rfl
              case c2 => intro k u hk; cases k with | zero => (simp at hk; subst hk; simp [Addr.add]) | succ k => simp at hk
              case c3 => intro u hu; simp at hu; subst hu; rfl
              case c4 => unfold maxLen; omega
              case c5 => omega
              case c6 => simp; omega
              intro v' w4 hown hgrow _
              obtain ⟨a4, d4, hv4⟩ := owns_slice hown
              subst hv4
              have HNo : Hid (NamesOwn w4 wb.heap.size (.slice a4 (row.length + 1) d4) ((row ++ [q]).map (nmAt fs))) := by
                refine NamesOwn.of ?_ (by simp)
                rw [List.length_map, List.length_append, List.map_append, List.map_append, List.map_map]
                rw [HFn.out] at hown
                exact hown
              have HB4 : Hid (Below wb.heap.size wb w4) := by
                have hb := blw_alloc (blw_trans HW.out HB3.out) (.cells #[.string f.nm] 9)
                exact Below.grown hb hgrow hb.size (fun k hk => (World.ownsRow.lt (HO.out.later HB3.out).2 k hk).1)
              clear hown hgrow
              go_wp2
              go_roundw
              case rel => first | exact ⟨j + 1, a4, d4, by omega, by go_num, by rw [HNx.out, List.length_append]; rfl, by rw [HNx.out]; exact HNo.out, HB4.out⟩ | ((repeat apply Exists.intro); exact ⟨⟨j + 1, a4, d4, by omega, by go_num, by rw [HNx.out, List.length_append]; rfl, by rw [HNx.out]; exact HNo.out, HB4.out⟩, rfl⟩)
              case measure => simp [intOf]; omega
          · have HM' : Hid (q + 1 ≤ nextG rd n row) := HMs.out (by rw [← HRg.out]; rfl)
            go_wp2
            go_roundw
            case rel => exact ⟨rfl, q + 1, by omega, by go_num, HM'.out, HWq.out⟩
            case measure => simp [intOf]; omega
        · have HNx : Hid (rowG rd n (j + 1) = row) := by
            show rowG rd n (j + 1) = row
            rw [rowG, ← HRow.out, if_neg (by have := HN.out; omega)]
          go_wp2
          go_roundw
          case rel => first | exact ⟨j + 1, a, c, by omega, by go_num, by rw [HNx.out], by rw [HNx.out]; exact HO.out.later HWq.out, HWb.out⟩ | ((repeat apply Exists.intro); exact ⟨⟨j + 1, a, c, by omega, by go_num, by rw [HNx.out], by rw [HNx.out]; exact HO.out.later HWq.out, HWb.out⟩, rfl⟩)
          case measure => simp [intOf]; omega
    · obtain rfl : j = n := by omega
      go_wp2
      go_ret
      rw [← HRow.out]
      exact ⟨⟨a, c, rfl, HO.out.at_ (by rw [List.length_map]; have := HRl.out; omega)⟩, blw_trans HB0.out HW.out⟩

end Go.Proofs.YtfdahoekjpobaaaGreat
