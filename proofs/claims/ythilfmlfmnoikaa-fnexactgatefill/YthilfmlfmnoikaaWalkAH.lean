/-
  Walks: the shape of a kind, of shapes that are ok; values that are filled.
-/
import Derived.Test.YthilfmlfmnoikaaWalkAG
import Derived.Test.YthilfmlfmnoikaaWalkZ
namespace Go.Proofs.Ythilfmlfmnoikaa
open Go.RowKit Go.Deep

/-- The values, of which the first q are filled. -/
def fillTo (vs : List ByteArray) (fs : List Fld) (q : Nat) : List ByteArray :=
  (List.range vs.length).map fun i => if i < q ∧ (vs.getD i ByteArray.empty).toList.isEmpty = true then (fs.getD i Fld.none).de else vs.getD i ByteArray.empty
theorem fillTo_len (vs : List ByteArray) (fs : List Fld) (q : Nat) : (fillTo vs fs q).length = vs.length := by simp [fillTo]
theorem fillTo_at (vs : List ByteArray) (fs : List Fld) (q i : Nat) (hi : i < vs.length) : (fillTo vs fs q).getD i ByteArray.empty = if i < q ∧ (vs.getD i ByteArray.empty).toList.isEmpty = true then (fs.getD i Fld.none).de else vs.getD i ByteArray.empty := by
  simp [fillTo, hi]
theorem fillTo_zero (vs : List ByteArray) (fs : List Fld) : fillTo vs fs 0 = vs := by
  apply List.ext_getElem
  · simp [fillTo]
  · intro i h1 h2; simp [fillTo, h2]
theorem fillTo_now (vs : List ByteArray) (fs : List Fld) (q : Nat) (hq : q < vs.length) : (fillTo vs fs q).getD q ByteArray.empty = vs.getD q ByteArray.empty := by
  rw [fillTo_at _ _ _ _ hq, if_neg (by omega)]

def fillOb (ss : List Shp) (o : Ob) : Ob :=
  if (shapesOk ss && hasKind ss o.kind) = true ∧ o.values.length = (ss.getD (kindAt ss o.kind) Shp.none).fields.length
  then ⟨o.kind, o.name, o.team, fillTo o.values (ss.getD (kindAt ss o.kind) Shp.none).fields o.values.length, o.ending, o.holds, o.version⟩ else o

theorem CT.set {w : World} {lo hi g cap : Nat} {vs : List ByteArray} {fs : List Fld} {q : Nat} (h : CT w lo hi (.slice (some ⟨g, 0, none⟩) vs.length cap) (fillTo vs fs q)) (hq : q < vs.length) (he : (vs.getD q ByteArray.empty).toList.isEmpty = true) :
    CT (w.setCell ⟨g, q, none⟩ (.string (fs.getD q Fld.none).de)) lo hi (.slice (some ⟨g, 0, none⟩) vs.length cap) (fillTo vs fs (q + 1)) := by
  rcases h with ⟨e, _⟩ | ⟨g', cap', e, g1, g2, g3, g4, g5⟩
  · injection e with e; cases e
  · injection e with e1 e2 e3
    injection e1 with e1
    injection e1 with e1
    subst e1 e3
    rw [fillTo_len] at g4 g5
    refine Or.inr ⟨g, cap, by rw [fillTo_len], g1, g2, g3.setCell q _, by rw [fillTo_len]; exact g4, fun i hi => ?_⟩
    rw [fillTo_len] at hi
    by_cases hiq : i = q
    · subst hiq
      rw [sc_eq g3 i (by omega), fillTo_at _ _ _ _ hi, if_pos ⟨by omega, he⟩]
    · rw [sc_ne _ _ _ _ _ _ (Or.inr hiq), g5 i hi, fillTo_at _ _ _ _ hi, fillTo_at _ _ _ _ hi]
      by_cases hlt : i < q
      · simp [hlt, Nat.lt_succ_of_lt hlt]
      · rw [if_neg (by omega), if_neg (by omega)]

theorem CT.keep {w : World} {lo hi : Nat} {v : Value} {vs : List ByteArray} {fs : List Fld} {q : Nat} (h : CT w lo hi v (fillTo vs fs q)) (hq : q < vs.length) (he : (vs.getD q ByteArray.empty).toList.isEmpty = false) : CT w lo hi v (fillTo vs fs (q + 1)) := by
  have e : fillTo vs fs (q + 1) = fillTo vs fs q := by
    unfold fillTo
    apply List.map_congr_left
    intro i hi
    by_cases hiq : i = q
    · subst hiq; rw [if_neg (by rw [he]; simp), if_neg (by omega)]
    · by_cases hlt : i < q
      · simp [hlt, Nat.lt_succ_of_lt hlt]
      · rw [if_neg (by omega), if_neg (by omega)]
  rw [e]; exact h

theorem CT.row {w : World} {lo hi g cap n : Nat} {ss : List ByteArray} (h : CT w lo hi (.slice (some ⟨g, 0, none⟩) n cap) ss) : lo ≤ g ∧ g < hi ∧ OwnBlk w g 9 cap ∧ ss.length ≤ cap ∧ n = ss.length ∧ ∀ i, i < ss.length → w.cell? ⟨g, i, none⟩ = some (.string (ss.getD i ByteArray.empty)) := by
  rcases h with ⟨e, _⟩ | ⟨g', cap', e, g1, g2, g3, g4, g5⟩
  · injection e with e; cases e
  · injection e with e1 e2 e3
    injection e1 with e1
    injection e1 with e1
    subst e1 e3
    exact ⟨g1, g2, g3, g4, e2, g5⟩

set_option maxHeartbeats 2000000 in
theorem shapeOf_in (w0 : World) (B : Nat) (ss : List Shp) (k : ByteArray) (w : World) (h : ShpsIn w0 B ss) (hb0 : Below w0.heap.size w0 w) :
    Calls Try.prog 37 #[.slice (some ⟨B, 0, none⟩) ss.length ss.length, .string k] w fun e w' => ∃ kd a n c, e = .returned (.tuple #[.agg #[.string kd, .slice a n c], .bool (hasKind ss k)]) ∧ ShapeOf ss k w0 kd (.slice a n c) ∧ Below w.heap.size w w' := by
  have hl := h.len
  have HH : Hid (ShpsIn w0 B ss) := h
  clear h
  go_enter Try.func37, Try.ntmps37
  go_wp2
  go_loopw [10] (fun i wr => ∃ q : Nat, q ≤ ss.length ∧ i = .int .i64 q ∧ q ≤ kindAt ss k ∧ Below w.heap.size w wr ∧ OwnBlk wr w.heap.size 47 2) (fun i _ => ss.length - (intOf i).toNat)
  case atStart => exact ⟨0, Nat.zero_le _, rfl, Nat.zero_le _, blw_alloc (Below.refl _ _) _, OwnBlk.alloc w _ 47 _ rfl⟩
  case round =>
    obtain ⟨q, hq, rfl, hno, hW, hO⟩ := hrel
    have HN : Hid (q ≤ kindAt ss k) := hno
    have HO : Hid (OwnBlk wr w.heap.size 47 2) := hO
    have hfz := hO.frozen
    obtain ⟨x0, o0⟩ := hO.cell 0 (by omega)
    obtain ⟨x1, o1⟩ := hO.cell 1 (by omega)
    have hz := hO.lt
    clear hno hO
    by_cases hlt : q < ss.length
    · obtain ⟨b, _, hbl, _, _, d0, d1, hf⟩ := HH.out.at_ q hlt
      have c0 := ((blw_trans hb0 hW).cell (p := ⟨B, q * 2, none⟩) HH.out.lt).trans d0
      have c1 := ((blw_trans hb0 hW).cell (p := ⟨B, q * 2 + 1, none⟩) HH.out.lt).trans d1
      clear d0 d1
      obtain ⟨s, hs⟩ : ∃ s, s = ss.getD q Shp.none := ⟨_, rfl⟩
      rw [← hs] at c0 c1 hf
      cases ht : (s.kind.toList == k.toList)
      · have HM : Hid (q + 1 ≤ kindAt ss k) := kindAt_miss ss k q hlt HN.out (by rw [← hs]; exact ht)
        clear hs hf hbl
        go_wp2
        go_roundw
        case rel => exact ⟨q + 1, by omega, by go_num, HM.out, blw_alloc hW _, HO.out.later (blw_alloc (Below.refl _ _) _)⟩
        case measure => simp [intOf]; omega
      · have HM : Hid (kindAt ss k = q) := kindAt_hit ss k q hlt HN.out (by rw [← hs]; exact ht)
        have HS : Hid (s = ss.getD q Shp.none ∧ b < w0.heap.size ∧ ∀ i, i < s.fields.length → OwnFld w0 b (i * 11) (s.fields.getD i Fld.none)) := ⟨hs, hbl, hf⟩
        have HK : Hid (hasKind ss k = true) := by show hasKind ss k = true; simp [hasKind, HM.out, hlt]
        clear hs hf hbl
        go_wp2
        have e0 : ∀ (x : Value) (o : Obj), (((wr.setCell ⟨w.heap.size, 0, none⟩ (.string s.kind)).setCell ⟨w.heap.size, 1, none⟩ x).alloc o).cell? ⟨w.heap.size, 0, none⟩ = some (.string s.kind) := by
          intro x o
          have h1 := World.cell?_alloc_past (w := (wr.setCell ⟨w.heap.size, 0, none⟩ (.string s.kind)).setCell ⟨w.heap.size, 1, none⟩ x) o w.heap.size 0 (by rw [sc_size, sc_size]; exact hz)
          rw [h1, sc_ne _ _ _ _ _ _ (by omega)]
          exact sc_eq HO.out 0 (by omega) _
        have e1 : ∀ (x : Value) (o : Obj), (((wr.setCell ⟨w.heap.size, 0, none⟩ (.string s.kind)).setCell ⟨w.heap.size, 1, none⟩ x).alloc o).cell? ⟨w.heap.size, 1, none⟩ = some x := by
          intro x o
          have h1 := World.cell?_alloc_past (w := (wr.setCell ⟨w.heap.size, 0, none⟩ (.string s.kind)).setCell ⟨w.heap.size, 1, none⟩ x) o w.heap.size 1 (by rw [sc_size, sc_size]; exact hz)
          rw [h1]
          exact sc_eq (HO.out.setCell 0 _) 1 (by omega) _
        refine bodyPost_ret (v := .tuple #[.agg #[.string s.kind, .slice (some ⟨b, 0, none⟩) s.fields.length s.fields.length], .bool true]) (by simp [results, Try.results37, go_sem, e0, e1]) rfl ⟨_, _, _, _, by rw [HK.out], ?_, ?_⟩
        · intro _
          rw [HM.out, ← HS.out.1]
          exact ⟨rfl, b, rfl, HS.out.2.1, HS.out.2.2⟩
        · exact blw_alloc ((hW.setCell (p := ⟨w.heap.size, 0, none⟩) (Nat.le_refl _) _).setCell (p := ⟨w.heap.size, 1, none⟩) (Nat.le_refl _) _) _
    · have HK : Hid (hasKind ss k = false) := by have := HN.out; show hasKind ss k = false; simp [hasKind]; omega
      go_wp2
      have e0 : ∀ (x y : Value), ((wr.setCell ⟨w.heap.size, 0, none⟩ y).setCell ⟨w.heap.size, 1, none⟩ x).cell? ⟨w.heap.size, 0, none⟩ = some y := by
        intro x y
        rw [sc_ne _ _ _ _ _ _ (by omega)]
        exact sc_eq HO.out 0 (by omega) _
      have e1 : ∀ (x y : Value), ((wr.setCell ⟨w.heap.size, 0, none⟩ y).setCell ⟨w.heap.size, 1, none⟩ x).cell? ⟨w.heap.size, 1, none⟩ = some x := by
        intro x y
        exact sc_eq (HO.out.setCell 0 _) 1 (by omega) _
      refine bodyPost_ret (v := .tuple #[.agg #[.string ⟨#[]⟩, .slice none 0 0], .bool false]) (by simp [results, Try.results37, go_sem, e0, e1]) rfl ⟨_, _, _, _, by rw [HK.out], ?_, ?_⟩
      · intro h; rw [HK.out] at h; cases h
      · exact (hW.setCell (p := ⟨w.heap.size, 0, none⟩) (Nat.le_refl _) _).setCell (p := ⟨w.heap.size, 1, none⟩) (Nat.le_refl _) _

set_option maxHeartbeats 1000000 in
theorem okShapeOf (w0 : World) (B : Nat) (ss : List Shp) (k : ByteArray) (w : World) (h : ShpsIn w0 B ss) (hb0 : Below w0.heap.size w0 w) :
    Calls Try.prog 22 #[.slice (some ⟨B, 0, none⟩) ss.length ss.length, .string k] w fun e w' => ∃ kd a n c, e = .returned (.tuple #[.agg #[.string kd, .slice a n c], .bool (shapesOk ss && hasKind ss k)]) ∧ ((shapesOk ss && hasKind ss k) = true → ShapeOf ss k w0 kd (.slice a n c)) ∧ Below w.heap.size w w' := by
  have HS : Hid (ShpsIn w0 B ss ∧ Below w0.heap.size w0 w) := ⟨h, hb0⟩
  have hl := h.len
  have HO : Hid (OwnBlk (w.alloc (.cells #[.string ⟨#[]⟩, .slice none 0 0] 47)) w.heap.size 47 2) := OwnBlk.alloc w _ 47 2 rfl
  have HB0 : Hid (Below w.heap.size w (w.alloc (.cells #[.string ⟨#[]⟩, .slice none 0 0] 47))) := blw_alloc (Below.refl _ _) _
  clear h hb0
  go_enter Try.func22, Try.ntmps22
  go_wp2_with fail
  refine (shapesOkI B ss _ (HS.out.1.later (blw_trans HS.out.2 HB0.out))).mono ?_
  rintro e w1 ⟨rfl, hb1⟩
  have HB1 : Hid (Below w.heap.size w w1) := blw_trans HB0.out hb1
  have HO1 : Hid (OwnBlk w1 w.heap.size 47 2) := HO.out.later hb1
  have hfz := HO1.out.frozen
  have hz := HO1.out.lt
  obtain ⟨x0, o0⟩ := HO1.out.cell 0 (by omega)
  obtain ⟨x1, o1⟩ := HO1.out.cell 1 (by omega)
  clear hb1
  cases hok : shapesOk ss
  · go_wp2
    have e0 : ∀ (x y : Value), ((w1.setCell ⟨w.heap.size, 0, none⟩ y).setCell ⟨w.heap.size, 1, none⟩ x).cell? ⟨w.heap.size, 0, none⟩ = some y := by
      intro x y
      rw [sc_ne _ _ _ _ _ _ (by omega)]
      exact sc_eq HO1.out 0 (by omega) _
    have e1 : ∀ (x y : Value), ((w1.setCell ⟨w.heap.size, 0, none⟩ y).setCell ⟨w.heap.size, 1, none⟩ x).cell? ⟨w.heap.size, 1, none⟩ = some x := by
      intro x y
      exact sc_eq (HO1.out.setCell 0 _) 1 (by omega) _
    refine bodyPost_ret (v := .tuple #[.agg #[.string ⟨#[]⟩, .slice none 0 0], .bool false]) (by simp [results, Try.results22, go_sem, e0, e1]) rfl ⟨_, _, _, _, by rw [hok]; rfl, ?_, ?_⟩
    · intro h; rw [hok] at h; cases h
    · exact (HB1.out.setCell (p := ⟨w.heap.size, 0, none⟩) (Nat.le_refl _) _).setCell (p := ⟨w.heap.size, 1, none⟩) (Nat.le_refl _) _
  clear hfz o0 o1
  go_wp2_with fail
  refine (shapeOf_in w0 B ss k _ HS.out.1 (blw_trans HS.out.2 HB1.out)).mono ?_
  rintro e w2 ⟨kd, a, n, c, rfl, hso, hb2⟩
  have HB2 : Hid (Below w.heap.size w w2) := blw_trans HB1.out hb2
  have HO2 : Hid (OwnBlk w2 w.heap.size 47 2) := HO1.out.later hb2
  have HSO : Hid (ShapeOf ss k w0 kd (.slice a n c)) := hso
  have hfz := HO2.out.frozen
  have hz2 := HO2.out.lt
  obtain ⟨x0, o0⟩ := HO2.out.cell 0 (by omega)
  obtain ⟨x1, o1⟩ := HO2.out.cell 1 (by omega)
  obtain ⟨r, hr⟩ : ∃ r, r = hasKind ss k := ⟨_, rfl⟩
  have HR : Hid (r = hasKind ss k) := hr
  rw [← hr]
  clear hb2 hso hr
  go_wp2
  have e0 : ∀ (x y : Value), ((w2.setCell ⟨w.heap.size, 0, none⟩ y).setCell ⟨w.heap.size, 1, none⟩ x).cell? ⟨w.heap.size, 0, none⟩ = some y := by
    intro x y
    rw [sc_ne _ _ _ _ _ _ (by omega)]
    exact sc_eq HO2.out 0 (by omega) _
  have e1 : ∀ (x y : Value), ((w2.setCell ⟨w.heap.size, 0, none⟩ y).setCell ⟨w.heap.size, 1, none⟩ x).cell? ⟨w.heap.size, 1, none⟩ = some x := by
    intro x y
    exact sc_eq (HO2.out.setCell 0 _) 1 (by omega) _
  refine bodyPost_ret (v := .tuple #[.agg #[.string kd, .slice a n c], .bool r]) (by simp [results, Try.results22, go_sem, e0, e1]) rfl ⟨_, _, _, _, by rw [hok, HR.out]; rfl, fun _ => HSO.out, ?_⟩
  exact (HB2.out.setCell (p := ⟨w.heap.size, 0, none⟩) (Nat.le_refl _) _).setCell (p := ⟨w.heap.size, 1, none⟩) (Nat.le_refl _) _

end Go.Proofs.Ythilfmlfmnoikaa
