/-
  What the law of GateFill needs: boxes, skeletons, sizes, and what is kept through it.
-/
import Derived.Test.YtfdahoekjpobaaaGreatWalkAL
import Derived.Test.YtfdahoekjpobaaaGreatWalkAJ
namespace Go.Proofs.YtfdahoekjpobaaaGreat
open Go.RowKit Go.Deep

theorem fillOb_l2 (ss : List Shp) (o : Ob) (h : shapesOk ss = true) : (fillOb ss o).values = l2Vals ss o := by
  unfold fillOb l2Vals hasFields
  rw [h]
  by_cases h1 : hasKind ss o.kind = true
  · by_cases h2 : o.values.length = (ss.getD (kindAt ss o.kind) Shp.none).fields.length
    · rw [if_pos ⟨by rw [h1]; rfl, h2⟩, if_pos (by rw [h1, decide_eq_true h2]; rfl), ← h2]
    · rw [if_neg (fun e => h2 e.2), if_neg (by rw [decide_eq_false h2]; simp)]
  · rw [if_neg (fun e => h1 (by simpa using e.1)), if_neg (by simp [h1])]
theorem fillOb_no (ss : List Shp) (o : Ob) (h : shapesOk ss = false) : (fillOb ss o).values = o.values := by
  unfold fillOb; rw [h]; simp

structure OInv (w W : World) (mid : Nat) (vals holds : List ByteArray) (v1 v2 : Value) : Prop where
  own : OwnBlk W (w.heap.size + 1) 30 7
  bel : Below w.heap.size w W
  c1 : CT W (w.heap.size + 2) mid v1 vals
  c2 : CT W mid W.heap.size v2 holds
  m1 : w.heap.size + 2 ≤ mid
  m2 : mid ≤ W.heap.size

theorem OInv.ob_out {w W : World} {mid : Nat} {vals holds : List ByteArray} {v1 v2 : Value} (h : OInv w W mid vals holds v1 v2) (L : List Value) (hL : L.length = 7) :
    (∀ j, j < 7 → (puts W (w.heap.size + 1) 0 0 L).cell? ⟨w.heap.size + 1, 0 + (0 + j), none⟩ = L[j]?) ∧ CT (puts W (w.heap.size + 1) 0 0 L) w.heap.size mid v1 vals ∧ CT (puts W (w.heap.size + 1) 0 0 L) mid (puts W (w.heap.size + 1) 0 0 L).heap.size v2 holds ∧ w.heap.size ≤ mid ∧ mid ≤ (puts W (w.heap.size + 1) 0 0 L).heap.size ∧ Below w.heap.size w (puts W (w.heap.size + 1) 0 0 L) := by
  have m1 := h.m1
  have m2 := h.m2
  rw [puts_size]
  exact ⟨fun j hj => puts_at 0 L W 0 h.own (by omega) j (by omega), (CT.puts 0 (Or.inl (by omega)) L W 0 h.c1).mono (by omega) (Nat.le_refl _), CT.puts 0 (Or.inl (by omega)) L W 0 h.c2, by omega, by omega, puts_below (a := w) 0 (B := w.heap.size + 1) (by omega) L W 0 h.bel⟩

end Go.Proofs.YtfdahoekjpobaaaGreat

namespace Go.Proofs.YtfdahoekjpobaaaGreat
open Go.RowKit Go.Deep

/-- An object in the block p. -/
structure BoxAt (W : World) (p : Nat) (o : Ob) (v1 v2 : Value) : Prop where
  lt : p < W.heap.size
  x0 : W.cell? ⟨p, 0, none⟩ = some (.string o.kind)
  x1 : W.cell? ⟨p, 1, none⟩ = some (.string o.name)
  x2 : W.cell? ⟨p, 2, none⟩ = some (.string o.team)
  x3 : W.cell? ⟨p, 3, none⟩ = some (v1)
  x4 : W.cell? ⟨p, 4, none⟩ = some (.bool o.ending)
  x5 : W.cell? ⟨p, 5, none⟩ = some (v2)
  x6 : W.cell? ⟨p, 6, none⟩ = some (.int .i64 o.version)

theorem BoxAt.marks {S : Nat → Prop} {W W' : World} {p : Nat} {o : Ob} {v1 v2 : Value} (h : BoxAt W p o v1 v2) (hm : Marks S W W') (hn : ¬ S p) : BoxAt W' p o v1 v2 := by
  have c : ∀ j, W'.cell? ⟨p, j, none⟩ = W.cell? ⟨p, j, none⟩ := fun j => hm.cell h.lt hn j
  exact ⟨Nat.lt_of_lt_of_le h.lt hm.size, (c 0).trans h.x0, (c 1).trans h.x1, (c 2).trans h.x2, (c 3).trans h.x3, (c 4).trans h.x4, (c 5).trans h.x5, (c 6).trans h.x6⟩
theorem BoxAt.later {W W' : World} {p : Nat} {o : Ob} {v1 v2 : Value} (h : BoxAt W p o v1 v2) (hb : Below W.heap.size W W') : BoxAt W' p o v1 v2 :=
  h.marks (S := fun _ => False) (Marks.of_below _ hb) (fun e => e)
theorem BoxAt.new (W : World) (o : Ob) (v1 v2 : Value) (t : TypeId) : BoxAt (W.alloc (.cells #[.string o.kind, .string o.name, .string o.team, v1, .bool o.ending, v2, .int .i64 o.version] t)) W.heap.size o v1 v2 :=
  ⟨by simp, by simp, by simp, by simp, by simp, by simp, by simp, by simp⟩

theorem mem_getD {α : Type} (l : List α) (d : α) (i : Nat) (h : i < l.length) : l.getD i d ∈ l := by simp [h]

theorem ShpsIn.sk {w : World} {B : Nat} {ss : List Shp} (h : ShpsIn w B ss) (S : Nat → Prop) (hS : ∀ p, B ≤ p → p < w.heap.size → S p) : ShpsSk w S B ss.length := by
  refine ⟨hS B (Nat.le_refl _) h.lt, h.len, h.own, fun i hi => ?_⟩
  obtain ⟨b, ⟨hb, ho⟩, hl, hn, _, _, hc, hf⟩ := h.at_ i hi
  refine ⟨_, hc, b, _, rfl, hS b (by omega) hl, hn, ho, fun j hj => ?_⟩
  obtain ⟨b', ⟨hb', ho'⟩, hl', hfi⟩ := hf j hj
  have hsm : ((ss.getD i Shp.none).fields.getD j Fld.none).words.length ≤ 1048576 := (h.small _ (mem_getD ss Shp.none i hi)).2 _ (mem_getD _ Fld.none j hj)
  exact ⟨_, hfi.c4, Or.inr ⟨b', _, _, _, rfl, hS b' (by omega) hl', ho', Nat.le_refl _, hsm⟩⟩

theorem fill_len (ss : List Shp) (o : Ob) : (fillOb ss o).values.length = o.values.length := by
  unfold fillOb; split
  · exact fillTo_len _ _ _
  · rfl

theorem fill_sizes {w : World} {B : Nat} {ss : List Shp} {o : Ob} (h : ShpsIn w B ss) (hv : ∀ i, i < o.values.length → (o.values.getD i ByteArray.empty).size ≤ maxLen) : ∀ i, i < (fillOb ss o).values.length → ((fillOb ss o).values.getD i ByteArray.empty).size ≤ maxLen := by
  intro i hi
  rw [fill_len] at hi
  unfold fillOb
  split
  · rename_i hc
    show ((fillTo o.values _ _).getD i ByteArray.empty).size ≤ maxLen
    rw [fillTo_at _ _ _ _ hi]
    split
    · have hk : hasKind ss o.kind = true := ((Bool.and_eq_true _ _).mp hc.1).2
      have hk' : kindAt ss o.kind < ss.length := by unfold hasKind at hk; exact of_decide_eq_true hk
      obtain ⟨b, _, _, _, _, _, _, hf⟩ := h.at_ _ hk'
      obtain ⟨b', _, _, hfi⟩ := hf i (by rw [← hc.2]; exact hi)
      exact hfi.sized.2.2.1
    · exact hv i hi
  · exact hv i hi

theorem eqVals (o : Ob) (vals : List ByteArray) (v1 v2 u1 u2 : Value) (w : World) (t1 : Texts w v1 vals) (t2 : Texts w v2 o.holds) (r1 : Texts w u1 vals) (r2 : Texts w u2 o.holds) :
    Calls Tryz.prog 12 #[.agg #[.string o.kind, .string o.name, .string o.team, v1, .bool o.ending, v2, .int .i64 o.version], .agg #[.string o.kind, .string o.name, .string o.team, u1, .bool o.ending, u2, .int .i64 o.version]] w fun e w' => e = .returned (.bool true) ∧ Below w.heap.size w w' :=
  eqObj ⟨o.kind, o.name, o.team, vals, o.ending, o.holds, o.version⟩ v1 v2 u1 u2 w t1 t2 r1 r2

theorem markVals (lo mid hi : Nat) (o : Ob) (vals : List ByteArray) (v1 v2 : Value) (M : Nat) (w : World) (h1 : CT w lo mid v1 vals) (h2 : CT w mid hi v2 o.holds) (h12 : lo ≤ mid) (h23 : mid ≤ hi) (hhi : hi ≤ w.heap.size) (hl1 : vals.length ≤ 1048576) (hl2 : o.holds.length ≤ 1048576) (hM : M = 1 + vals.length + o.holds.length) :
    Calls Tryz.prog 17 #[.agg #[.string o.kind, .string o.name, .string o.team, v1, .bool o.ending, v2, .int .i64 o.version], .int .i64 1] w fun e w' => e = .returned (.int .i64 (M : Int)) ∧ Marks (fun p => lo ≤ p ∧ p < hi) w w' ∧ MRow w' lo mid v1 vals.length 1 ∧ MRow w' mid hi v2 o.holds.length (1 + vals.length) := by
  subst hM
  exact markObjP lo mid hi ⟨o.kind, o.name, o.team, vals, o.ending, o.holds, o.version⟩ v1 v2 1 w h1 h2 h12 h23 hhi hl1 hl2 (by omega) (by omega)

theorem heldVals (lo mid hi : Nat) (o : Ob) (n1 n2 : Nat) (v1 v2 : Value) (M : Nat) (w : World) (h1 : MRow w lo mid v1 n1 1) (h2 : MRow w mid hi v2 n2 (1 + n1)) (hl1 : n1 ≤ 1048576) (hl2 : n2 ≤ 1048576) (hM : M = 1 + n1 + n2) :
    Calls Tryz.prog 18 #[.agg #[.string o.kind, .string o.name, .string o.team, v1, .bool o.ending, v2, .int .i64 o.version], .int .i64 1] w fun e w' => e = .returned (.int .i64 (M : Int)) ∧ Below w.heap.size w w' := by
  subst hM
  exact heldObj lo mid hi o v1 v2 n1 n2 1 w h1 h2 hl1 hl2 (by omega) (by omega)

/-- A filled object in block p, its lists between lo and p. -/
structure FA (W : World) (lo mid p : Nat) (o : Ob) (vals : List ByteArray) (s1 s2 : Value) : Prop where
  box : BoxAt W p o s1 s2
  c1 : CT W lo mid s1 vals
  c2 : CT W mid p s2 o.holds
  m1 : lo ≤ mid
  m2 : mid ≤ p

theorem FA.marks {S : Nat → Prop} {W W' : World} {lo mid p : Nat} {o : Ob} {vals : List ByteArray} {s1 s2 : Value} (h : FA W lo mid p o vals s1 s2) (hm : Marks S W W') (hn : ∀ q, S q → lo ≤ q → q ≤ p → False) : FA W' lo mid p o vals s1 s2 := by
  have m1 := h.m1
  have m2 := h.m2
  exact ⟨h.box.marks hm (fun e => hn p e (by omega) (Nat.le_refl _)), h.c1.marks hm (fun q e a b => hn q e a (by omega)), h.c2.marks hm (fun q e a b => hn q e (by omega) (by omega)), m1, m2⟩
theorem FA.later {W W' : World} {lo mid p : Nat} {o : Ob} {vals : List ByteArray} {s1 s2 : Value} (h : FA W lo mid p o vals s1 s2) (hb : Below W.heap.size W W') : FA W' lo mid p o vals s1 s2 :=
  h.marks (S := fun _ => False) (Marks.of_below _ hb) (fun _ e _ _ => e)
theorem FA.new {W : World} {lo mid : Nat} {o : Ob} {vals : List ByteArray} {s1 s2 : Value} (h1 : CT W lo mid s1 vals) (h2 : CT W mid W.heap.size s2 o.holds) (m1 : lo ≤ mid) (m2 : mid ≤ W.heap.size) : FA (W.alloc (.cells #[.string o.kind, .string o.name, .string o.team, s1, .bool o.ending, s2, .int .i64 o.version] 30)) lo mid W.heap.size o vals s1 s2 :=
  ⟨BoxAt.new W o s1 s2 30, h1.later (blw_alloc (Below.refl _ _) _), h2.later (blw_alloc (Below.refl _ _) _), m1, m2⟩
theorem FA.t1 {W : World} {lo mid p : Nat} {o : Ob} {vals : List ByteArray} {s1 s2 : Value} (h : FA W lo mid p o vals s1 s2) (hl : vals.length ≤ 1048576) (hs : ∀ i, i < vals.length → (vals.getD i ByteArray.empty).size ≤ maxLen) : Texts W s1 vals := h.c1.texts hl hs
theorem FA.t2 {W : World} {lo mid p : Nat} {o : Ob} {vals : List ByteArray} {s1 s2 : Value} (h : FA W lo mid p o vals s1 s2) (hl : o.holds.length ≤ 1048576) (hs : ∀ i, i < o.holds.length → (o.holds.getD i ByteArray.empty).size ≤ maxLen) : Texts W s2 o.holds := h.c2.texts hl hs

/-- A filled object in block p; it and its lists from lo on, below hi. -/
structure FB (W : World) (lo hi p : Nat) (o : Ob) (vals : List ByteArray) (s1 s2 : Value) : Prop where
  box : BoxAt W p o s1 s2
  c1 : CT W lo hi s1 vals
  c2 : CT W lo hi s2 o.holds
  l1 : lo ≤ p
  l2 : p < hi

theorem FB.marks {S : Nat → Prop} {W W' : World} {lo hi p : Nat} {o : Ob} {vals : List ByteArray} {s1 s2 : Value} (h : FB W lo hi p o vals s1 s2) (hm : Marks S W W') (hn : ∀ q, S q → lo ≤ q → q < hi → False) : FB W' lo hi p o vals s1 s2 :=
  ⟨h.box.marks hm (fun e => hn p e h.l1 h.l2), h.c1.marks hm hn, h.c2.marks hm hn, h.l1, h.l2⟩
theorem FB.later {W W' : World} {lo hi p : Nat} {o : Ob} {vals : List ByteArray} {s1 s2 : Value} (h : FB W lo hi p o vals s1 s2) (hb : Below W.heap.size W W') : FB W' lo hi p o vals s1 s2 :=
  h.marks (S := fun _ => False) (Marks.of_below _ hb) (fun _ e _ _ => e)
theorem FB.new {W : World} {lo l mid hi : Nat} {o : Ob} {vals : List ByteArray} {s1 s2 : Value} (h1 : CT W l mid s1 vals) (h2 : CT W mid W.heap.size s2 o.holds) (m1 : l ≤ mid) (m2 : mid ≤ W.heap.size) (hl : lo ≤ l) (hhi : W.heap.size + 1 ≤ hi) : FB (W.alloc (.cells #[.string o.kind, .string o.name, .string o.team, s1, .bool o.ending, s2, .int .i64 o.version] 30)) lo hi W.heap.size o vals s1 s2 :=
  ⟨BoxAt.new W o s1 s2 30, (h1.later (blw_alloc (Below.refl _ _) _)).mono hl (by omega), (h2.later (blw_alloc (Below.refl _ _) _)).mono (by omega) (by omega), by omega, by omega⟩
theorem FB.put {W : World} {lo l mid hi p : Nat} {o : Ob} {vals : List ByteArray} {s1 s2 : Value} (hO : OwnBlk W p 30 7 ∧ p < l) (h1 : CT W l mid s1 vals) (h2 : CT W mid W.heap.size s2 o.holds) (m1 : l ≤ mid) (m2 : mid ≤ W.heap.size) (hl : lo ≤ p) (hhi : W.heap.size ≤ hi) : FB (puts W p 0 0 [.string o.kind, .string o.name, .string o.team, s1, .bool o.ending, s2, .int .i64 o.version]) lo hi p o vals s1 s2 := by
  have hp := hO.2
  have r := puts_at 0 [.string o.kind, .string o.name, .string o.team, s1, .bool o.ending, s2, .int .i64 o.version] W 0 hO.1 (by simp)
  exact ⟨⟨by rw [puts_size]; exact hO.1.lt, r 0 (by simp), r 1 (by simp), r 2 (by simp), r 3 (by simp), r 4 (by simp), r 5 (by simp), r 6 (by simp)⟩, (CT.puts 0 (Or.inl hp) _ W 0 h1).mono (by omega) (by omega), (CT.puts 0 (Or.inl (by omega)) _ W 0 h2).mono (by omega) hhi, hl, by omega⟩
theorem own_call {W W' : World} {p : Nat} (h : OwnBlk W p 30 7) (hb : Below W.heap.size W W') : OwnBlk W' p 30 7 ∧ p < W.heap.size := ⟨h.later hb, h.lt⟩

theorem eqFB (o : Ob) (vals : List ByteArray) (s1 s2 r1 r2 : Value) (lo mid p lo' hi' p' : Nat) (w W : World) (h : FA W lo mid p o vals s1 s2) (h' : FB W lo' hi' p' o vals r1 r2) (hl : vals.length ≤ 1048576) (hs : ∀ i, i < vals.length → (vals.getD i ByteArray.empty).size ≤ maxLen) (hl2 : o.holds.length ≤ 1048576) (hs2 : ∀ i, i < o.holds.length → (o.holds.getD i ByteArray.empty).size ≤ maxLen) (hb : Below w.heap.size w W) :
    Calls Tryz.prog 12 #[.agg #[.string o.kind, .string o.name, .string o.team, s1, .bool o.ending, s2, .int .i64 o.version], .agg #[.string o.kind, .string o.name, .string o.team, r1, .bool o.ending, r2, .int .i64 o.version]] W fun e w' => e = .returned (.bool true) ∧ Below W.heap.size W w' ∧ Below w.heap.size w w' := by
  refine (eqVals o vals s1 s2 r1 r2 W (h.t1 hl hs) (h.t2 hl2 hs2) (h'.c1.texts hl hs) (h'.c2.texts hl2 hs2)).mono ?_
  rintro e w' ⟨rfl, hb'⟩
  exact ⟨rfl, hb', blw_trans hb hb'⟩
theorem eqFBB (o : Ob) (vals : List ByteArray) (s1 s2 r1 r2 : Value) (lo hi p lo' hi' p' : Nat) (w W : World) (h : FB W lo hi p o vals s1 s2) (h' : FB W lo' hi' p' o vals r1 r2) (hl : vals.length ≤ 1048576) (hs : ∀ i, i < vals.length → (vals.getD i ByteArray.empty).size ≤ maxLen) (hl2 : o.holds.length ≤ 1048576) (hs2 : ∀ i, i < o.holds.length → (o.holds.getD i ByteArray.empty).size ≤ maxLen) (hb : Below w.heap.size w W) :
    Calls Tryz.prog 12 #[.agg #[.string o.kind, .string o.name, .string o.team, s1, .bool o.ending, s2, .int .i64 o.version], .agg #[.string o.kind, .string o.name, .string o.team, r1, .bool o.ending, r2, .int .i64 o.version]] W fun e w' => e = .returned (.bool true) ∧ Below W.heap.size W w' ∧ Below w.heap.size w w' := by
  refine (eqVals o vals s1 s2 r1 r2 W (h.c1.texts hl hs) (h.c2.texts hl2 hs2) (h'.c1.texts hl hs) (h'.c2.texts hl2 hs2)).mono ?_
  rintro e w' ⟨rfl, hb'⟩
  exact ⟨rfl, hb', blw_trans hb hb'⟩

/-- The argument, and what the specification answered. -/
structure St (w W : World) (o : Ob) (v1 v2 : Value) (hi p : Nat) (vals : List ByteArray) (s1 s2 : Value) : Prop where
  bel : Below w.heap.size w W
  box : BoxAt W w.heap.size o v1 v2
  f : FB W (w.heap.size + 1) hi p o vals s1 s2

theorem St.later {w W W' : World} {o : Ob} {v1 v2 : Value} {hi p : Nat} {vals : List ByteArray} {s1 s2 : Value} (h : St w W o v1 v2 hi p vals s1 s2) (hb : Below W.heap.size W W') : St w W' o v1 v2 hi p vals s1 s2 :=
  ⟨blw_trans h.bel hb, h.box.later hb, h.f.later hb⟩
theorem St.marks {S : Nat → Prop} {w W W' : World} {o : Ob} {v1 v2 : Value} {hi p : Nat} {vals : List ByteArray} {s1 s2 : Value} (h : St w W o v1 v2 hi p vals s1 s2) (hm : Marks S W W') (hS : ∀ q, S q → hi ≤ q) : St w W' o v1 v2 hi p vals s1 s2 := by
  have h2 := h.f.l1
  have h3 := h.f.l2
  exact ⟨hm.below (fun q e => by have := hS q e; omega) h.bel, h.box.marks hm (fun e => by have := hS _ e; omega), h.f.marks hm (fun q e _ b => by have := hS q e; omega)⟩

/-- The copies that are handed in. -/
structure Su (W : World) (ss : List Shp) (o : Ob) (p B e1 b1 b2 p8 : Nat) : Prop where
  sh : ShpsIn W B ss
  oa : ObArg W b1 b2 o
  w1 : OwnBlk W b1 9 o.values.length
  w2 : OwnBlk W b2 9 o.holds.length
  box : BoxAt W p8 o (.slice (some ⟨b1, 0, none⟩) o.values.length o.values.length) (.slice (some ⟨b2, 0, none⟩) o.holds.length o.holds.length)
  l0 : p ≤ B
  l1 : B < e1
  l2 : e1 ≤ b1
  l3 : b1 < b2
  l4 : b2 < p8
  sk : ∀ S : Nat → Prop, (∀ q, B ≤ q → q < e1 → S q) → ShpsSk W S B ss.length

theorem ShpsSk.later {S : Nat → Prop} {w w' : World} {B n : Nat} (h : ShpsSk w S B n) (hb : Below w.heap.size w w') : ShpsSk w' S B n := h.marks (Marks.of_below _ hb)
theorem Su.later {W W' : World} {ss : List Shp} {o : Ob} {p B e1 b1 b2 p8 : Nat} (h : Su W ss o p B e1 b1 b2 p8) (hb : Below W.heap.size W W') : Su W' ss o p B e1 b1 b2 p8 :=
  ⟨h.sh.later hb, h.oa.later hb, h.w1.later hb, h.w2.later hb, h.box.later hb, h.l0, h.l1, h.l2, h.l3, h.l4, fun S hS => (h.sk S hS).later hb⟩
theorem Su.tx {W : World} {ss : List Shp} {o : Ob} {p B e1 b1 b2 p8 : Nat} (h : Su W ss o p B e1 b1 b2 p8) (S : Nat → Prop) (hS : ∀ q, B ≤ q → q < p8 → S q) : TxSk W S (.slice (some ⟨b1, 0, none⟩) o.values.length o.values.length) ∧ TxSk W S (.slice (some ⟨b2, 0, none⟩) o.holds.length o.holds.length) := by
  have l1 := h.l1
  have l2 := h.l2
  have l3 := h.l3
  have l4 := h.l4
  exact ⟨Or.inr ⟨b1, _, _, _, rfl, hS b1 (by omega) (by omega), h.w1, Nat.le_refl _, h.oa.len1⟩, Or.inr ⟨b2, _, _, _, rfl, hS b2 (by omega) (by omega), h.w2, Nat.le_refl _, h.oa.len2⟩⟩

theorem ObArg.texts {W : World} {b1 b2 : Nat} {o : Ob} (h : ObArg W b1 b2 o) (hs1 : ∀ i, i < o.values.length → (o.values.getD i ByteArray.empty).size ≤ maxLen) (hs2 : ∀ i, i < o.holds.length → (o.holds.getD i ByteArray.empty).size ≤ maxLen) : Texts W (.slice (some ⟨b1, 0, none⟩) o.values.length o.values.length) o.values ∧ Texts W (.slice (some ⟨b2, 0, none⟩) o.holds.length o.holds.length) o.holds := by
  have l1 := h.len1
  have l2 := h.len2
  exact ⟨Or.inr ⟨b1, 0, _, rfl, h.lt1, hs1, by unfold maxLen; omega, fun i hi => by rw [Nat.zero_add]; exact h.at1 i hi⟩, Or.inr ⟨b2, 0, _, rfl, h.lt2, hs2, by unfold maxLen; omega, fun i hi => by rw [Nat.zero_add]; exact h.at2 i hi⟩⟩

theorem FB.low {W : World} {lo lo' hi p : Nat} {o : Ob} {vals : List ByteArray} {s1 s2 : Value} (h : FB W lo hi p o vals s1 s2) (hl : lo' ≤ lo) : FB W lo' hi p o vals s1 s2 :=
  ⟨h.box, h.c1.mono hl (Nat.le_refl _), h.c2.mono hl (Nat.le_refl _), Nat.le_trans hl h.l1, h.l2⟩

theorem out_new {a wC : World} {l mid : Nat} {o : Ob} {vals : List ByteArray} {s1 s2 : Value} (k : Below a.heap.size a wC) (h1 : CT wC l mid s1 vals) (h2 : CT wC mid wC.heap.size s2 o.holds) (m1 : l ≤ mid) (m2 : mid ≤ wC.heap.size) (hl : a.heap.size ≤ l) (W' : World)
    (hb : Below (wC.alloc (.cells #[.string o.kind, .string o.name, .string o.team, s1, .bool o.ending, s2, .int .i64 o.version] 30)).heap.size (wC.alloc (.cells #[.string o.kind, .string o.name, .string o.team, s1, .bool o.ending, s2, .int .i64 o.version] 30)) W') (hs : W'.heap.size = (wC.alloc (.cells #[.string o.kind, .string o.name, .string o.team, s1, .bool o.ending, s2, .int .i64 o.version] 30)).heap.size) :
    Below a.heap.size a W' ∧ FB W' a.heap.size W'.heap.size wC.heap.size o vals s1 s2 :=
  ⟨blw_trans (blw_alloc k _) hb, (FB.new h1 h2 m1 m2 hl (by rw [hs]; simp)).later hb⟩

theorem out_put {a wC : World} {l mid p : Nat} {o : Ob} {vals : List ByteArray} {s1 s2 : Value} (hO : OwnBlk wC p 30 7 ∧ p < l) (k : Below a.heap.size a wC) (h1 : CT wC l mid s1 vals) (h2 : CT wC mid wC.heap.size s2 o.holds) (m1 : l ≤ mid) (m2 : mid ≤ wC.heap.size) (hp : a.heap.size ≤ p) (W' : World)
    (hb : Below (puts wC p 0 0 [.string o.kind, .string o.name, .string o.team, s1, .bool o.ending, s2, .int .i64 o.version]).heap.size (puts wC p 0 0 [.string o.kind, .string o.name, .string o.team, s1, .bool o.ending, s2, .int .i64 o.version]) W') (hs : W'.heap.size = (puts wC p 0 0 [.string o.kind, .string o.name, .string o.team, s1, .bool o.ending, s2, .int .i64 o.version]).heap.size) :
    Below a.heap.size a W' ∧ FB W' a.heap.size W'.heap.size p o vals s1 s2 :=
  ⟨blw_trans (puts_below (a := a) 0 (B := p) hp [.string o.kind, .string o.name, .string o.team, s1, .bool o.ending, s2, .int .i64 o.version] wC 0 k) hb, (FB.put hO h1 h2 m1 m2 hp (by rw [hs, puts_size]; exact Nat.le_refl _)).later hb⟩
theorem stOf {w a W : World} {o : Ob} {v1 v2 : Value} {hi p : Nat} {vals : List ByteArray} {s1 s2 : Value} (hb : Below w.heap.size w a) (hx : BoxAt a w.heap.size o v1 v2) (hz : w.heap.size < a.heap.size) (h : Below a.heap.size a W ∧ FB W a.heap.size hi p o vals s1 s2) : St w W o v1 v2 hi p vals s1 s2 :=
  ⟨blw_trans hb h.1, hx.later h.1, h.2.low hz⟩

end Go.Proofs.YtfdahoekjpobaaaGreat
