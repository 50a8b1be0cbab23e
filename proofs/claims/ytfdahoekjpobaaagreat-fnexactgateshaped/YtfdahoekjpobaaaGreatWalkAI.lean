/-
  What is kept while values are filled.
-/
import Derived.Test.YtfdahoekjpobaaaGreatWalkAF
import Derived.Test.YtfdahoekjpobaaaGreatWalkZ
namespace Go.Proofs.YtfdahoekjpobaaaGreat
open Go.RowKit Go.Deep

theorem ret_i64 {a b : Int} (h : a = b) : Ending.returned (.int .i64 a) = .returned (.int .i64 b) := by rw [h]

/-- A list with marks from k on, in a block from lo on, below hi. -/
def MRow (w : World) (lo hi : Nat) (v : Value) (n k : Nat) : Prop :=
  (∃ a c, v = .slice a 0 c ∧ n = 0) ∨ ∃ b c, v = .slice (some ⟨b, 0, none⟩) n c ∧ lo ≤ b ∧ b < hi ∧ b < w.heap.size ∧ n ≤ 1048576 ∧ ∀ i, i < n → w.cell? ⟨b, i, none⟩ = some (.string (mt (k + i)))

theorem MRow.marks {S : Nat → Prop} {w w' : World} {lo hi : Nat} {v : Value} {n k : Nat} (h : MRow w lo hi v n k) (hm : Marks S w w') (hs : ∀ p, S p → lo ≤ p → p < hi → False) : MRow w' lo hi v n k := by
  rcases h with h | ⟨b, c, rfl, h1, h2, h3, h4, h5⟩
  · exact Or.inl h
  · exact Or.inr ⟨b, c, rfl, h1, h2, Nat.lt_of_lt_of_le h3 hm.size, h4, fun i hi => (hm.cell h3 (fun e => hs b e h1 h2) i).trans (h5 i hi)⟩

theorem MRow.later {w w' : World} {lo hi : Nat} {v : Value} {n k : Nat} (h : MRow w lo hi v n k) (hb : Below w.heap.size w w') : MRow w' lo hi v n k :=
  h.marks (S := fun _ => False) (Marks.of_below _ hb) (fun _ e _ _ => e)

theorem markCT (lo hi : Nat) (v : Value) (ss : List ByteArray) (k : Nat) (w : World) (h : CT w lo hi v ss) (hl : ss.length ≤ 1048576) (hk : k ≤ 2305843009213693952) (h1 : 1 ≤ k) :
    Calls Tryz.prog 36 #[v, .int .i64 (k : Int)] w fun e w' => e = .returned (.int .i64 ((k + ss.length : Nat) : Int)) ∧ Marks (fun p => lo ≤ p ∧ p < hi) w w' ∧ MRow w' lo hi v ss.length k := by
  rcases h with ⟨rfl, rfl⟩ | ⟨g, cap, rfl, g1, g2, g3, g4, g5⟩
  · refine (markNil none 0 k w).mono ?_
    rintro e w' ⟨rfl, rfl⟩
    exact ⟨rfl, Marks.refl _ _, Or.inl ⟨_, _, rfl, rfl⟩⟩
  · refine (markRow g ss.length cap cap k w g3 g4 hl hk h1).mono ?_
    rintro e w' ⟨rfl, hm, hc⟩
    exact ⟨rfl, hm.mono (fun p e => by subst e; exact ⟨g1, g2⟩), Or.inr ⟨g, cap, rfl, g1, g2, Nat.lt_of_lt_of_le g3.lt hm.size, hl, hc⟩⟩

theorem heldMRow (lo hi : Nat) (v : Value) (n k : Nat) (w : World) (h : MRow w lo hi v n k) (hk : k ≤ 2305843009213693952) (h1 : 1 ≤ k) :
    Calls Tryz.prog 37 #[v, .int .i64 (k : Int)] w fun e w' => e = .returned (.int .i64 ((k + n : Nat) : Int)) ∧ Below w.heap.size w w' := by
  rcases h with ⟨a, c, rfl, rfl⟩ | ⟨b, c, rfl, g1, g2, g3, g4, g5⟩
  · refine (heldNil a c k w).mono ?_
    rintro e w' ⟨rfl, rfl⟩
    exact ⟨rfl, Below.refl _ _⟩
  · exact heldRow b n c k w g3 g4 hk h1 g5

theorem CT.marks {S : Nat → Prop} {w w' : World} {lo hi : Nat} {v : Value} {ss : List ByteArray} (h : CT w lo hi v ss) (hm : Marks S w w') (hs : ∀ p, S p → lo ≤ p → p < hi → False) : CT w' lo hi v ss := by
  rcases h with h | ⟨g, cap, rfl, h1, h1', h2, h3, h4⟩
  · exact Or.inl h
  · exact Or.inr ⟨g, cap, rfl, h1, h1', hm.own g 9 cap h2, h3, fun i hi => (hm.cell h2.lt (fun e => hs g e h1 h1') i).trans (h4 i hi)⟩

set_option maxHeartbeats 1000000 in
theorem markObj (S : Nat → Prop) (o : Ob) (v1 v2 : Value) (k : Nat) (w : World) (h1 : TxSk w S v1) (h2 : TxSk w S v2) (hS : ∀ p, S p → p < w.heap.size) (hk : k ≤ 2000000000000000000) (hk1 : 1 ≤ k) :
    Calls Tryz.prog 17 #[.agg #[.string o.kind, .string o.name, .string o.team, v1, .bool o.ending, v2, .int .i64 o.version], .int .i64 (k : Int)] w fun e w' => (∃ q : Nat, e = .returned (.int .i64 (q : Int))) ∧ Marks S w w' := by
  have hb : ∀ x, Marks S w (w.alloc x) := fun x => Marks.of_below S (blw_alloc (Below.refl _ _) x)
  have HT : Hid ((∀ x, TxSk (w.alloc x) S v1 ∧ TxSk (w.alloc x) S v2) ∧ ∀ x, Marks S w (w.alloc x)) := ⟨fun x => ⟨h1.marks (hb x), h2.marks (hb x)⟩, hb⟩
  have HS : Hid (∀ p, S p → p < w.heap.size) := hS
  clear hb h1 h2 hS
  go_enter Tryz.func17, Tryz.ntmps17
  go_wp2_with fail
  refine (markTexts S v1 k _ (HT.out.1 _).1 (by omega) hk1).mono ?_
  rintro e w1 ⟨⟨q, rfl, hq1, hq2⟩, hm1⟩
  have hc5 : w1.cell? ⟨w.heap.size, 5, none⟩ = some v2 := (hm1.cell (by simp) (fun e => by have := HS.out _ e; omega) 5).trans (by simp)
  have HM : Hid (Marks S w w1 ∧ TxSk w1 S v2) := ⟨(HT.out.2 _).trans hm1, (HT.out.1 _).2.marks hm1⟩
  clear hm1 HT
  go_wp2_with fail
  refine (markTexts S v2 q _ HM.out.2 (by omega) (by omega)).mono ?_
  rintro e w2 ⟨⟨q2, rfl, _, _⟩, hm2⟩
  have HM2 : Hid (Marks S w w2) := HM.out.1.trans hm2
  clear hm2
  go_wp2
  go_ret
  exact ⟨⟨q2, rfl⟩, HM2.out⟩

set_option maxHeartbeats 1000000 in
theorem markObjP (lo mid hi : Nat) (o : Ob) (v1 v2 : Value) (k : Nat) (w : World) (h1 : CT w lo mid v1 o.values) (h2 : CT w mid hi v2 o.holds) (h12 : lo ≤ mid) (h23 : mid ≤ hi) (hhi : hi ≤ w.heap.size) (hl1 : o.values.length ≤ 1048576) (hl2 : o.holds.length ≤ 1048576) (hk : k ≤ 2000000000000000000) (hk1 : 1 ≤ k) :
    Calls Tryz.prog 17 #[.agg #[.string o.kind, .string o.name, .string o.team, v1, .bool o.ending, v2, .int .i64 o.version], .int .i64 (k : Int)] w fun e w' => e = .returned (.int .i64 ((k + o.values.length + o.holds.length : Nat) : Int)) ∧ Marks (fun p => lo ≤ p ∧ p < hi) w w' ∧ MRow w' lo mid v1 o.values.length k ∧ MRow w' mid hi v2 o.holds.length (k + o.values.length) := by
  have hb : ∀ x, Below w.heap.size w (w.alloc x) := fun x => blw_alloc (Below.refl _ _) x
  have HT : Hid ((∀ x, CT (w.alloc x) lo mid v1 o.values ∧ CT (w.alloc x) mid hi v2 o.holds) ∧ ∀ x, Marks (fun p => lo ≤ p ∧ p < hi) w (w.alloc x)) := ⟨fun x => ⟨h1.later (hb x), h2.later (hb x)⟩, fun x => Marks.of_below _ (hb x)⟩
  clear hb h1 h2
  go_enter Tryz.func17, Tryz.ntmps17
  go_wp2_with fail
  refine (markCT lo mid v1 o.values k _ (HT.out.1 _).1 hl1 (by omega) hk1).mono ?_
  rintro e w1 ⟨rfl, hm1, hr1⟩
  have hc5 : w1.cell? ⟨w.heap.size, 5, none⟩ = some v2 := (hm1.cell (by simp) (fun e => by have := e.2; omega) 5).trans (by simp)
  have HM : Hid (Marks (fun p => lo ≤ p ∧ p < hi) w w1 ∧ CT w1 mid hi v2 o.holds ∧ MRow w1 lo mid v1 o.values.length k) := ⟨(HT.out.2 _).trans (hm1.mono (fun p e => ⟨e.1, by have := e.2; omega⟩)), (HT.out.1 _).2.marks hm1 (fun p e a _ => by have := e.2; omega), hr1⟩
  clear hm1 HT hr1
  obtain ⟨q, hq⟩ : ∃ q : Nat, q = k + o.values.length := ⟨_, rfl⟩
  rw [← hq]
  have hq1 : 1 ≤ q := by omega
  have hq2 : q ≤ 2000000000000000000 + 1048576 := by omega
  have HQ : Hid (q = k + o.values.length) := hq
  clear hq
  go_wp2_with fail
  refine (markCT mid hi v2 o.holds q _ HM.out.2.1 hl2 (by omega) hq1).mono ?_
  rintro e w2 ⟨rfl, hm2, hr2⟩
  have HM2 : Hid (Marks (fun p => lo ≤ p ∧ p < hi) w w2 ∧ MRow w2 lo mid v1 o.values.length k ∧ MRow w2 mid hi v2 o.holds.length q) := ⟨HM.out.1.trans (hm2.mono (fun p e => ⟨by have := e.1; omega, e.2⟩)), HM.out.2.2.marks hm2 (fun p e _ b => by have := e.1; omega), hr2⟩
  clear hm2 hr2
  go_wp2
  go_ret
  refine ⟨ret_i64 (by have := HQ.out; omega), HM2.out.1, HM2.out.2.1, ?_⟩
  rw [← HQ.out]; exact HM2.out.2.2

set_option maxHeartbeats 1000000 in
theorem heldObj (lo mid hi : Nat) (o : Ob) (v1 v2 : Value) (n1 n2 k : Nat) (w : World) (h1 : MRow w lo mid v1 n1 k) (h2 : MRow w mid hi v2 n2 (k + n1)) (hl1 : n1 ≤ 1048576) (hl2 : n2 ≤ 1048576) (hk : k ≤ 2000000000000000000) (hk1 : 1 ≤ k) :
    Calls Tryz.prog 18 #[.agg #[.string o.kind, .string o.name, .string o.team, v1, .bool o.ending, v2, .int .i64 o.version], .int .i64 (k : Int)] w fun e w' => e = .returned (.int .i64 ((k + n1 + n2 : Nat) : Int)) ∧ Below w.heap.size w w' := by
  have HT : Hid (∀ W, Below w.heap.size w W → MRow W lo mid v1 n1 k ∧ MRow W mid hi v2 n2 (k + n1)) := fun W hb => ⟨h1.later hb, h2.later hb⟩
  have HB : Hid (∀ x, Below w.heap.size w (w.alloc x)) := fun x => blw_alloc (Below.refl _ _) x
  clear h1 h2
  go_enter Tryz.func18, Tryz.ntmps18
  go_wp2_with fail
  refine (heldMRow lo mid v1 n1 k _ (HT.out _ (HB.out _)).1 (by omega) hk1).mono ?_
  rintro e w1 ⟨rfl, hb1⟩
  have hc5 : w1.cell? ⟨w.heap.size, 5, none⟩ = some v2 := (hb1.cell (p := ⟨w.heap.size, 5, none⟩) (by simp)).trans (by simp)
  have HB1 : Hid (Below w.heap.size w w1) := blw_trans (HB.out _) hb1
  clear hb1 HB
  obtain ⟨q, hq⟩ : ∃ q : Nat, q = k + n1 := ⟨_, rfl⟩
  have HT' : Hid (MRow w1 mid hi v2 n2 q) := by rw [hq]; exact (HT.out _ HB1.out).2
  rw [← hq]
  have hq1 : 1 ≤ q := by omega
  have hq2 : q ≤ 2000000000000000000 + 1048576 := by omega
  have HQ : Hid (q = k + n1) := hq
  clear hq HT
  go_wp2_with fail
  refine (heldMRow mid hi v2 n2 q _ HT'.out (by omega) hq1).mono ?_
  rintro e w2 ⟨rfl, hb2⟩
  have HB2 : Hid (Below w.heap.size w w2) := blw_trans HB1.out hb2
  clear hb2
  obtain ⟨q2, hq2'⟩ : ∃ q2 : Nat, q2 = q + n2 := ⟨_, rfl⟩
  rw [← hq2']
  have hq3 : q2 ≤ 2000000000000000000 + 1048576 + 1048576 := by omega
  have HQ2 : Hid (q2 = q + n2) := hq2'
  clear hq2'
  go_wp2
  go_ret
  exact ⟨ret_i64 (by have := HQ.out; have := HQ2.out; omega), HB2.out⟩
end Go.Proofs.YtfdahoekjpobaaaGreat

namespace Go.Proofs.YtfdahoekjpobaaaGreat
open Go.RowKit Go.Deep

/-- The values, of which the first q are filled. -/
def fillTo (vs : List ByteArray) (fs : List Fld) (q : Nat) : List ByteArray :=
  (List.range vs.length).map fun i => if i < q ∧ (vs.getD i ByteArray.empty).toList.isEmpty = true then (fs.getD i Fld.none).de else vs.getD i ByteArray.empty
theorem fillTo_len (vs : List ByteArray) (fs : List Fld) (q : Nat) : (fillTo vs fs q).length = vs.length := by simp [fillTo]
theorem fillTo_at (vs : List ByteArray) (fs : List Fld) (q i : Nat) (hi : i < vs.length) : (fillTo vs fs q).getD i ByteArray.empty = if i < q ∧ (vs.getD i ByteArray.empty).toList.isEmpty = true then (fs.getD i Fld.none).de else vs.getD i ByteArray.empty := by
  simp [fillTo, hi]
theorem fillTo_zero (vs : List ByteArray) (fs : List Fld) : fillTo vs fs 0 = vs := by
  apply List.ext_getElem
  · simp [fillTo]
  · intro i h1 h2; simp [fillTo, h2]
theorem fillTo_now (vs : List ByteArray) (fs : List Fld) (q : Nat) (hq : q < vs.length) : (fillTo vs fs q).getD q ByteArray.empty = vs.getD q ByteArray.empty := by
  rw [fillTo_at _ _ _ _ hq, if_neg (by omega)]

def fillOb (ss : List Shp) (o : Ob) : Ob :=
  if (shapesOk ss && hasKind ss o.kind) = true ∧ o.values.length = (ss.getD (kindAt ss o.kind) Shp.none).fields.length
  then ⟨o.kind, o.name, o.team, fillTo o.values (ss.getD (kindAt ss o.kind) Shp.none).fields o.values.length, o.ending, o.holds, o.version⟩ else o

theorem CT.set {w : World} {lo hi g cap : Nat} {vs : List ByteArray} {fs : List Fld} {q : Nat} (h : CT w lo hi (.slice (some ⟨g, 0, none⟩) vs.length cap) (fillTo vs fs q)) (hq : q < vs.length) (he : (vs.getD q ByteArray.empty).toList.isEmpty = true) :
    CT (w.setCell ⟨g, q, none⟩ (.string (fs.getD q Fld.none).de)) lo hi (.slice (some ⟨g, 0, none⟩) vs.length cap) (fillTo vs fs (q + 1)) := by
  rcases h with ⟨e, _⟩ | ⟨g', cap', e, g1, g2, g3, g4, g5⟩
  · injection e with e; cases e
  · injection e with e1 e2 e3
    injection e1 with e1
    injection e1 with e1
    subst e1 e3
    rw [fillTo_len] at g4 g5
    refine Or.inr ⟨g, cap, by rw [fillTo_len], g1, g2, g3.setCell q _, by rw [fillTo_len]; exact g4, fun i hi => ?_⟩
    rw [fillTo_len] at hi
    by_cases hiq : i = q
    · subst hiq
      rw [sc_eq g3 i (by omega), fillTo_at _ _ _ _ hi, if_pos ⟨by omega, he⟩]
    · rw [sc_ne _ _ _ _ _ _ (Or.inr hiq), g5 i hi, fillTo_at _ _ _ _ hi, fillTo_at _ _ _ _ hi]
      by_cases hlt : i < q
      · simp [hlt, Nat.lt_succ_of_lt hlt]
      · rw [if_neg (by omega), if_neg (by omega)]

theorem CT.keep {w : World} {lo hi : Nat} {v : Value} {vs : List ByteArray} {fs : List Fld} {q : Nat} (h : CT w lo hi v (fillTo vs fs q)) (hq : q < vs.length) (he : (vs.getD q ByteArray.empty).toList.isEmpty = false) : CT w lo hi v (fillTo vs fs (q + 1)) := by
  have e : fillTo vs fs (q + 1) = fillTo vs fs q := by
    unfold fillTo
    apply List.map_congr_left
    intro i hi
    by_cases hiq : i = q
    · subst hiq; rw [if_neg (by rw [he]; simp), if_neg (by omega)]
    · by_cases hlt : i < q
      · simp [hlt, Nat.lt_succ_of_lt hlt]
      · rw [if_neg (by omega), if_neg (by omega)]
  rw [e]; exact h

theorem CT.row {w : World} {lo hi g cap n : Nat} {ss : List ByteArray} (h : CT w lo hi (.slice (some ⟨g, 0, none⟩) n cap) ss) : lo ≤ g ∧ g < hi ∧ OwnBlk w g 9 cap ∧ ss.length ≤ cap ∧ n = ss.length ∧ ∀ i, i < ss.length → w.cell? ⟨g, i, none⟩ = some (.string (ss.getD i ByteArray.empty)) := by
  rcases h with ⟨e, _⟩ | ⟨g', cap', e, g1, g2, g3, g4, g5⟩
  · injection e with e; cases e
  · injection e with e1 e2 e3
    injection e1 with e1
    injection e1 with e1
    subst e1 e3
    exact ⟨g1, g2, g3, g4, e2, g5⟩

set_option maxHeartbeats 2000000 in
theorem shapeOf_in (w0 : World) (B : Nat) (ss : List Shp) (k : ByteArray) (w : World) (h : ShpsIn w0 B ss) (hb0 : Below w0.heap.size w0 w) :
    Calls Tryz.prog 46 #[.slice (some ⟨B, 0, none⟩) ss.length ss.length, .string k] w fun e w' => ∃ kd a n c, e = .returned (.tuple #[.agg #[.string kd, .slice a n c], .bool (hasKind ss k)]) ∧ ShapeOf ss k w0 kd (.slice a n c) ∧ Below w.heap.size w w' := by
  have hl := h.len
  have HH : Hid (ShpsIn w0 B ss) := h
  clear h
  go_enter Tryz.func46, Tryz.ntmps46
  go_wp2
  go_loopw [10] (fun i wr => ∃ q : Nat, q ≤ ss.length ∧ i = .int .i64 q ∧ q ≤ kindAt ss k ∧ Below w.heap.size w wr ∧ OwnBlk wr w.heap.size 56 2) (fun i _ => ss.length - (intOf i).toNat)
  case atStart => exact ⟨0, Nat.zero_le _, rfl, Nat.zero_le _, blw_alloc (Below.refl _ _) _, OwnBlk.alloc w _ 56 _ rfl⟩
  case round =>
    obtain ⟨q, hq, rfl, hno, hW, hO⟩ := hrel
    have HN : Hid (q ≤ kindAt ss k) := hno
    have HO : Hid (OwnBlk wr w.heap.size 56 2) := hO
    have hfz := hO.frozen
    obtain ⟨x0, o0⟩ := hO.cell 0 (by omega)
    obtain ⟨x1, o1⟩ := hO.cell 1 (by omega)
    have hz := hO.lt
    clear hno hO
    by_cases hlt : q < ss.length
    · obtain ⟨b, _, hbl, _, _, d0, d1, hf⟩ := HH.out.at_ q hlt
      have c0 := ((blw_trans hb0 hW).cell (p := ⟨B, q * 2, none⟩) HH.out.lt).trans d0
      have c1 := ((blw_trans hb0 hW).cell (p := ⟨B, q * 2 + 1, none⟩) HH.out.lt).trans d1
      clear d0 d1
      obtain ⟨s, hs⟩ : ∃ s, s = ss.getD q Shp.none := ⟨_, rfl⟩
      rw [← hs] at c0 c1 hf
      cases ht : (s.kind.toList == k.toList)
      · have HM : Hid (q + 1 ≤ kindAt ss k) := kindAt_miss ss k q hlt HN.out (by rw [← hs]; exact ht)
        clear hs hf hbl
        go_wp2
        go_roundw
        case rel => exact ⟨q + 1, by omega, by go_num, HM.out, blw_alloc hW _, HO.out.later (blw_alloc (Below.refl _ _) _)⟩
        case measure => simp [intOf]; omega
      · have HM : Hid (kindAt ss k = q) := kindAt_hit ss k q hlt HN.out (by rw [← hs]; exact ht)
        have HS : Hid (s = ss.getD q Shp.none ∧ b < w0.heap.size ∧ ∀ i, i < s.fields.length → OwnFld w0 b (i * 11) (s.fields.getD i Fld.none)) := ⟨hs, hbl, hf⟩
        have HK : Hid (hasKind ss k = true) := by show hasKind ss k = true; simp [hasKind, HM.out, hlt]
        clear hs hf hbl
        go_wp2
        have e0 : ∀ (x : Value) (o : Obj), (((wr.setCell ⟨w.heap.size, 0, none⟩ (.string s.kind)).setCell ⟨w.heap.size, 1, none⟩ x).alloc o).cell? ⟨w.heap.size, 0, none⟩ = some (.string s.kind) := by
          intro x o
          have h1 := World.cell?_alloc_past (w := (wr.setCell ⟨w.heap.size, 0, none⟩ (.string s.kind)).setCell ⟨w.heap.size, 1, none⟩ x) o w.heap.size 0 (by rw [sc_size, sc_size]; exact hz)
          rw [h1, sc_ne _ _ _ _ _ _ (by omega)]
          exact sc_eq HO.out 0 (by omega) _
        have e1 : ∀ (x : Value) (o : Obj), (((wr.setCell ⟨w.heap.size, 0, none⟩ (.string s.kind)).setCell ⟨w.heap.size, 1, none⟩ x).alloc o).cell? ⟨w.heap.size, 1, none⟩ = some x := by
          intro x o
          have h1 := World.cell?_alloc_past (w := (wr.setCell ⟨w.heap.size, 0, none⟩ (.string s.kind)).setCell ⟨w.heap.size, 1, none⟩ x) o w.heap.size 1 (by rw [sc_size, sc_size]; exact hz)
          rw [h1]
          exact sc_eq (HO.out.setCell 0 _) 1 (by omega) _
        refine bodyPost_ret (v := .tuple #[.agg #[.string s.kind, .slice (some ⟨b, 0, none⟩) s.fields.length s.fields.length], .bool true]) (by simp [results, Tryz.results46, go_sem, e0, e1]) rfl ⟨_, _, _, _, by rw [HK.out], ?_, ?_⟩
        · intro _
          rw [HM.out, ← HS.out.1]
          exact ⟨rfl, b, rfl, HS.out.2.1, HS.out.2.2⟩
        · exact blw_alloc ((hW.setCell (p := ⟨w.heap.size, 0, none⟩) (Nat.le_refl _) _).setCell (p := ⟨w.heap.size, 1, none⟩) (Nat.le_refl _) _) _
    · have HK : Hid (hasKind ss k = false) := by have := HN.out; show hasKind ss k = false; simp [hasKind]; omega
      go_wp2
      have e0 : ∀ (x y : Value), ((wr.setCell ⟨w.heap.size, 0, none⟩ y).setCell ⟨w.heap.size, 1, none⟩ x).cell? ⟨w.heap.size, 0, none⟩ = some y := by
        intro x y
        rw [sc_ne _ _ _ _ _ _ (by omega)]
        exact sc_eq HO.out 0 (by omega) _
      have e1 : ∀ (x y : Value), ((wr.setCell ⟨w.heap.size, 0, none⟩ y).setCell ⟨w.heap.size, 1, none⟩ x).cell? ⟨w.heap.size, 1, none⟩ = some x := by
        intro x y
        exact sc_eq (HO.out.setCell 0 _) 1 (by omega) _
      refine bodyPost_ret (v := .tuple #[.agg #[.string ⟨#[]⟩, .slice none 0 0], .bool false]) (by simp [results, Tryz.results46, go_sem, e0, e1]) rfl ⟨_, _, _, _, by rw [HK.out], ?_, ?_⟩
      · intro h; rw [HK.out] at h; cases h
      · exact (hW.setCell (p := ⟨w.heap.size, 0, none⟩) (Nat.le_refl _) _).setCell (p := ⟨w.heap.size, 1, none⟩) (Nat.le_refl _) _

end Go.Proofs.YtfdahoekjpobaaaGreat

namespace Go.Proofs.YtfdahoekjpobaaaGreat
open Go.RowKit Go.Deep

/-- While values are filled: the object lies in block X, its lists from w's end on, the place of the answer behind w's end. -/
structure FInv (w wr : World) (X mid : Nat) (o : Ob) (vals : List ByteArray) (v1 v2 : Value) : Prop where
  bel : Below w.heap.size w wr
  own : OwnBlk wr (w.heap.size + 1) 30 7
  lt : X < wr.heap.size
  x0 : wr.cell? ⟨X, 0, none⟩ = some (.string o.kind)
  x1 : wr.cell? ⟨X, 1, none⟩ = some (.string o.name)
  x2 : wr.cell? ⟨X, 2, none⟩ = some (.string o.team)
  x3 : wr.cell? ⟨X, 3, none⟩ = some (v1)
  x4 : wr.cell? ⟨X, 4, none⟩ = some (.bool o.ending)
  x5 : wr.cell? ⟨X, 5, none⟩ = some (v2)
  x6 : wr.cell? ⟨X, 6, none⟩ = some (.int .i64 o.version)
  c1 : CT wr (w.heap.size + 2) mid v1 vals
  c2 : CT wr mid X v2 o.holds
  m1 : w.heap.size + 2 ≤ mid
  m2 : mid ≤ X

theorem FInv.later {w wr wr' : World} {X mid : Nat} {o : Ob} {vals : List ByteArray} {v1 v2 : Value} (h : FInv w wr X mid o vals v1 v2) (hb : Below wr.heap.size wr wr') : FInv w wr' X mid o vals v1 v2 := by
  have c : ∀ j, wr'.cell? ⟨X, j, none⟩ = wr.cell? ⟨X, j, none⟩ := fun j => hb.cell (p := ⟨X, j, none⟩) h.lt
  exact ⟨blw_trans h.bel hb, h.own.later hb, Nat.lt_of_lt_of_le h.lt hb.size, (c 0).trans h.x0, (c 1).trans h.x1, (c 2).trans h.x2, (c 3).trans h.x3, (c 4).trans h.x4, (c 5).trans h.x5, (c 6).trans h.x6, h.c1.later hb, h.c2.later hb, h.m1, h.m2⟩

theorem FInv.put {w wr : World} {X mid : Nat} {o : Ob} {vs : List ByteArray} {fs : List Fld} {q g cap : Nat} {v2 : Value} (h : FInv w wr X mid o (fillTo vs fs q) (.slice (some ⟨g, 0, none⟩) vs.length cap) v2) (hq : q < vs.length) (he : (vs.getD q ByteArray.empty).toList.isEmpty = true) :
    FInv w (wr.setCell ⟨g, q, none⟩ (.string (fs.getD q Fld.none).de)) X mid o (fillTo vs fs (q + 1)) (.slice (some ⟨g, 0, none⟩) vs.length cap) v2 := by
  obtain ⟨g1, g2, _, _, _, _⟩ := h.c1.row
  have m1 := h.m1
  have m2 := h.m2
  have c : ∀ j, (wr.setCell ⟨g, q, none⟩ (.string (fs.getD q Fld.none).de)).cell? ⟨X, j, none⟩ = wr.cell? ⟨X, j, none⟩ := fun j => sc_ne _ _ _ _ _ _ (Or.inl (by omega))
  exact ⟨h.bel.setCell (p := ⟨g, q, none⟩) (by show w.heap.size ≤ g; omega) _, h.own.sc_other (by omega) _ _, by rw [sc_size']; exact h.lt, (c 0).trans h.x0, (c 1).trans h.x1, (c 2).trans h.x2, (c 3).trans h.x3, (c 4).trans h.x4, (c 5).trans h.x5, (c 6).trans h.x6, h.c1.set hq he, h.c2.sc (Or.inl (by omega)) _ _, m1, m2⟩

theorem FInv.keep {w wr : World} {X mid : Nat} {o : Ob} {vs : List ByteArray} {fs : List Fld} {q : Nat} {v1 v2 : Value} (h : FInv w wr X mid o (fillTo vs fs q) v1 v2) (hq : q < vs.length) (he : (vs.getD q ByteArray.empty).toList.isEmpty = false) :
    FInv w wr X mid o (fillTo vs fs (q + 1)) v1 v2 :=
  ⟨h.bel, h.own, h.lt, h.x0, h.x1, h.x2, h.x3, h.x4, h.x5, h.x6, h.c1.keep hq he, h.c2, h.m1, h.m2⟩

theorem CT.puts {lo hi R : Nat} {v : Value} {ss : List ByteArray} (o : Nat) (hR : R < lo ∨ hi ≤ R) : ∀ (vs : List Value) (w : World) (j : Nat), CT w lo hi v ss → CT (puts w R o j vs) lo hi v ss
  | [], _, _, h => h
  | x :: vs, _, _, h => CT.puts o hR vs _ _ (h.sc hR _ x)

theorem FInv.out {w W : World} {X mid : Nat} {o : Ob} {vals : List ByteArray} {v1 v2 : Value} (h : FInv w W X mid o vals v1 v2) (L : List Value) (hL : L.length = 7) :
    (∀ j, j < 7 → (puts W (w.heap.size + 1) 0 0 L).cell? ⟨w.heap.size + 1, 0 + (0 + j), none⟩ = L[j]?) ∧ w.heap.size + 1 < (puts W (w.heap.size + 1) 0 0 L).heap.size ∧ CT (puts W (w.heap.size + 1) 0 0 L) w.heap.size mid v1 vals ∧ CT (puts W (w.heap.size + 1) 0 0 L) mid (puts W (w.heap.size + 1) 0 0 L).heap.size v2 o.holds ∧ w.heap.size ≤ mid ∧ mid ≤ (puts W (w.heap.size + 1) 0 0 L).heap.size ∧ Below w.heap.size w (puts W (w.heap.size + 1) 0 0 L) := by
  have m1 := h.m1
  have m2 := h.m2
  have l := h.lt
  rw [puts_size]
  refine ⟨fun j hj => puts_at 0 L W 0 h.own (by omega) j (by omega), h.own.lt, (CT.puts 0 (Or.inl (by omega)) L W 0 h.c1).mono (by omega) (Nat.le_refl _), (CT.puts 0 (Or.inl (by omega)) L W 0 h.c2).mono (Nat.le_refl _) (by omega), by omega, by omega, puts_below (a := w) 0 (B := w.heap.size + 1) (by omega) L W 0 h.bel⟩

theorem FInv.outA {w W : World} {X mid : Nat} {o : Ob} {vals : List ByteArray} {v1 v2 : Value} (h : FInv w W X mid o vals v1 v2) (L : List Value) (hL : L.length = 7) (x : Obj) :
    (∀ j, j < 7 → ((puts W (w.heap.size + 1) 0 0 L).alloc x).cell? ⟨w.heap.size + 1, 0 + (0 + j), none⟩ = L[j]?) ∧ CT ((puts W (w.heap.size + 1) 0 0 L).alloc x) w.heap.size mid v1 vals ∧ CT ((puts W (w.heap.size + 1) 0 0 L).alloc x) mid ((puts W (w.heap.size + 1) 0 0 L).alloc x).heap.size v2 o.holds ∧ w.heap.size ≤ mid ∧ mid ≤ ((puts W (w.heap.size + 1) 0 0 L).alloc x).heap.size ∧ Below w.heap.size w ((puts W (w.heap.size + 1) 0 0 L).alloc x) := by
  obtain ⟨h1, h2, h3, h4, h5, h6, h7⟩ := h.out L hL
  have hb : Below (puts W (w.heap.size + 1) 0 0 L).heap.size (puts W (w.heap.size + 1) 0 0 L) ((puts W (w.heap.size + 1) 0 0 L).alloc x) := blw_alloc (Below.refl _ _) x
  exact ⟨fun j hj => (World.cell?_alloc_past _ _ _ h2).trans (h1 j hj), h3.later hb, (h4.later hb).mono (Nat.le_refl _) hb.size, h5, Nat.le_trans h6 hb.size, blw_trans h7 hb⟩
end Go.Proofs.YtfdahoekjpobaaaGreat
