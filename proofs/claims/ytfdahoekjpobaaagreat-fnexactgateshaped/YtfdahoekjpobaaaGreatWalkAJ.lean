/-
  Walks: GateFill: the program.
-/
import Derived.Deep.DeepCutAuto
import Derived.Test.YtfdahoekjpobaaaGreatWalkAI
namespace Go.Proofs.YtfdahoekjpobaaaGreat
open Go.RowKit Go.Deep

/-- While values are filled: the object lies in block X, its lists from w's end on, the place of the answer behind w's end. -/
structure FInvB (w wr : World) (X mid : Nat) (o : Ob) (vals : List ByteArray) (v1 v2 : Value) : Prop where
  bel : Below w.heap.size w wr
  own : OwnBlk wr (w.heap.size + 2) 30 7
  lt : X < wr.heap.size
  x0 : wr.cell? ⟨X, 0, none⟩ = some (.string o.kind)
  x1 : wr.cell? ⟨X, 1, none⟩ = some (.string o.name)
  x2 : wr.cell? ⟨X, 2, none⟩ = some (.string o.team)
  x3 : wr.cell? ⟨X, 3, none⟩ = some (v1)
  x4 : wr.cell? ⟨X, 4, none⟩ = some (.bool o.ending)
  x5 : wr.cell? ⟨X, 5, none⟩ = some (v2)
  x6 : wr.cell? ⟨X, 6, none⟩ = some (.int .i64 o.version)
  c1 : CT wr (w.heap.size + 3) mid v1 vals
  c2 : CT wr mid X v2 o.holds
  m1 : w.heap.size + 3 ≤ mid
  m2 : mid ≤ X

theorem FInvB.later {w wr wr' : World} {X mid : Nat} {o : Ob} {vals : List ByteArray} {v1 v2 : Value} (h : FInvB w wr X mid o vals v1 v2) (hb : Below wr.heap.size wr wr') : FInvB w wr' X mid o vals v1 v2 := by
  have c : ∀ j, wr'.cell? ⟨X, j, none⟩ = wr.cell? ⟨X, j, none⟩ := fun j => hb.cell (p := ⟨X, j, none⟩) h.lt
  exact ⟨blw_trans h.bel hb, h.own.later hb, Nat.lt_of_lt_of_le h.lt hb.size, (c 0).trans h.x0, (c 1).trans h.x1, (c 2).trans h.x2, (c 3).trans h.x3, (c 4).trans h.x4, (c 5).trans h.x5, (c 6).trans h.x6, h.c1.later hb, h.c2.later hb, h.m1, h.m2⟩

theorem FInvB.put {w wr : World} {X mid : Nat} {o : Ob} {vs : List ByteArray} {fs : List Fld} {q g cap : Nat} {v2 : Value} (h : FInvB w wr X mid o (fillTo vs fs q) (.slice (some ⟨g, 0, none⟩) vs.length cap) v2) (hq : q < vs.length) (he : (vs.getD q ByteArray.empty).toList.isEmpty = true) :
    FInvB w (wr.setCell ⟨g, q, none⟩ (.string (fs.getD q Fld.none).de)) X mid o (fillTo vs fs (q + 1)) (.slice (some ⟨g, 0, none⟩) vs.length cap) v2 := by
  obtain ⟨g1, g2, _, _, _, _⟩ := h.c1.row
  have m1 := h.m1
  have m2 := h.m2
  have c : ∀ j, (wr.setCell ⟨g, q, none⟩ (.string (fs.getD q Fld.none).de)).cell? ⟨X, j, none⟩ = wr.cell? ⟨X, j, none⟩ := fun j => sc_ne _ _ _ _ _ _ (Or.inl (by omega))
  exact ⟨h.bel.setCell (p := ⟨g, q, none⟩) (by show w.heap.size ≤ g; omega) _, h.own.sc_other (by omega) _ _, by rw [sc_size']; exact h.lt, (c 0).trans h.x0, (c 1).trans h.x1, (c 2).trans h.x2, (c 3).trans h.x3, (c 4).trans h.x4, (c 5).trans h.x5, (c 6).trans h.x6, h.c1.set hq he, h.c2.sc (Or.inl (by omega)) _ _, m1, m2⟩

theorem FInvB.keep {w wr : World} {X mid : Nat} {o : Ob} {vs : List ByteArray} {fs : List Fld} {q : Nat} {v1 v2 : Value} (h : FInvB w wr X mid o (fillTo vs fs q) v1 v2) (hq : q < vs.length) (he : (vs.getD q ByteArray.empty).toList.isEmpty = false) :
    FInvB w wr X mid o (fillTo vs fs (q + 1)) v1 v2 :=
  ⟨h.bel, h.own, h.lt, h.x0, h.x1, h.x2, h.x3, h.x4, h.x5, h.x6, h.c1.keep hq he, h.c2, h.m1, h.m2⟩

theorem FInvB.out {w W : World} {X mid : Nat} {o : Ob} {vals : List ByteArray} {v1 v2 : Value} (h : FInvB w W X mid o vals v1 v2) (L : List Value) (hL : L.length = 7) :
    (∀ j, j < 7 → (puts W (w.heap.size + 2) 0 0 L).cell? ⟨w.heap.size + 2, 0 + (0 + j), none⟩ = L[j]?) ∧ w.heap.size + 2 < (puts W (w.heap.size + 2) 0 0 L).heap.size ∧ CT (puts W (w.heap.size + 2) 0 0 L) w.heap.size mid v1 vals ∧ CT (puts W (w.heap.size + 2) 0 0 L) mid (puts W (w.heap.size + 2) 0 0 L).heap.size v2 o.holds ∧ w.heap.size ≤ mid ∧ mid ≤ (puts W (w.heap.size + 2) 0 0 L).heap.size ∧ Below w.heap.size w (puts W (w.heap.size + 2) 0 0 L) := by
  have m1 := h.m1
  have m2 := h.m2
  have l := h.lt
  rw [puts_size]
  refine ⟨fun j hj => puts_at 0 L W 0 h.own (by omega) j (by omega), h.own.lt, (CT.puts 0 (Or.inl (by omega)) L W 0 h.c1).mono (by omega) (Nat.le_refl _), (CT.puts 0 (Or.inl (by omega)) L W 0 h.c2).mono (Nat.le_refl _) (by omega), by omega, by omega, puts_below (a := w) 0 (B := w.heap.size + 2) (by omega) L W 0 h.bel⟩

theorem FInvB.outA {w W : World} {X mid : Nat} {o : Ob} {vals : List ByteArray} {v1 v2 : Value} (h : FInvB w W X mid o vals v1 v2) (L : List Value) (hL : L.length = 7) (x : Obj) :
    (∀ j, j < 7 → ((puts W (w.heap.size + 2) 0 0 L).alloc x).cell? ⟨w.heap.size + 2, 0 + (0 + j), none⟩ = L[j]?) ∧ CT ((puts W (w.heap.size + 2) 0 0 L).alloc x) w.heap.size mid v1 vals ∧ CT ((puts W (w.heap.size + 2) 0 0 L).alloc x) mid ((puts W (w.heap.size + 2) 0 0 L).alloc x).heap.size v2 o.holds ∧ w.heap.size ≤ mid ∧ mid ≤ ((puts W (w.heap.size + 2) 0 0 L).alloc x).heap.size ∧ Below w.heap.size w ((puts W (w.heap.size + 2) 0 0 L).alloc x) := by
  obtain ⟨h1, h2, h3, h4, h5, h6, h7⟩ := h.out L hL
  have hb : Below (puts W (w.heap.size + 2) 0 0 L).heap.size (puts W (w.heap.size + 2) 0 0 L) ((puts W (w.heap.size + 2) 0 0 L).alloc x) := blw_alloc (Below.refl _ _) x
  exact ⟨fun j hj => (World.cell?_alloc_past _ _ _ h2).trans (h1 j hj), h3.later hb, (h4.later hb).mono (Nat.le_refl _) hb.size, h5, Nat.le_trans h6 hb.size, blw_trans h7 hb⟩
end Go.Proofs.YtfdahoekjpobaaaGreat

namespace Go.Proofs.YtfdahoekjpobaaaGreat
open Go.RowKit Go.Deep

/-- The values of an object, filled by the fields of a shape. -/
def fillVals (fs : List Fld) (o : Ob) : List ByteArray := if o.values.length = fs.length then fillTo o.values fs fs.length else o.values

set_option maxHeartbeats 4000000 in
theorem fillObjI (kd : ByteArray) (b : Nat) (fs : List Fld) (o : Ob) (b1 : Option Addr) (c1 : Nat) (b2 : Option Addr) (c2 : Nat) (w : World) (hfl : fs.length ≤ 1048576) (hb : b < w.heap.size) (hf : ∀ i, i < fs.length → OwnFld w b (i * 11) (fs.getD i Fld.none)) (ho : ObG w b1 c1 b2 c2 o) :
    Calls Tryz.prog 51 #[.agg #[.string kd, .slice (some ⟨b, 0, none⟩) fs.length fs.length], .agg #[.string o.kind, .string o.name, .string o.team, .slice b1 o.values.length c1, .bool o.ending, .slice b2 o.holds.length c2, .int .i64 o.version]] w fun e w' => (∃ a1 n1 d1 a2 n2 d2 mid, e = .returned (.agg #[.string o.kind, .string o.name, .string o.team, .slice a1 n1 d1, .bool o.ending, .slice a2 n2 d2, .int .i64 o.version]) ∧ CT w' w.heap.size mid (.slice a1 n1 d1) (fillVals fs o) ∧ CT w' mid w'.heap.size (.slice a2 n2 d2) o.holds ∧ w.heap.size ≤ mid ∧ mid ≤ w'.heap.size) ∧ Below w.heap.size w w' := by
  have HA : Hid (ObG w b1 c1 b2 c2 o) := ho
  have HFl : Hid (b < w.heap.size ∧ ∀ i, i < fs.length → OwnFld w b (i * 11) (fs.getD i Fld.none)) := ⟨hb, hf⟩
  have hl1 := ho.len1
  clear ho hb hf
  obtain ⟨w0, hw0⟩ : ∃ w0, w0 = ((w.alloc (.cells #[.string kd, .slice (some ⟨b, 0, none⟩) fs.length fs.length] 56)).alloc (.cells #[.string o.kind, .string o.name, .string o.team, .slice b1 o.values.length c1, .bool o.ending, .slice b2 o.holds.length c2, .int .i64 o.version] 30)).alloc (.cells #[.string ⟨#[]⟩, .string ⟨#[]⟩, .string ⟨#[]⟩, .slice none 0 0, .bool false, .slice none 0 0, .int .i64 0] 30) := ⟨_, rfl⟩
  have HB0 : Hid (Below w.heap.size w w0) := by show Below _ _ _; rw [hw0]; exact blw_alloc (blw_alloc (blw_alloc (Below.refl _ _) _) _) _
  have HR0 : Hid (OwnBlk w0 (w.heap.size + 2) 30 7) := by show OwnBlk _ _ _ _; rw [hw0]; exact OwnBlk.alloc_at _ _ _ _ _ rfl (by simp)
  have HZ0 : Hid (w0.heap.size = w.heap.size + 3) := by show _ = _; rw [hw0]; simp
  have HX0 : Hid (w0.cell? ⟨w.heap.size, 0, none⟩ = some (.string kd) ∧ w0.cell? ⟨w.heap.size, 1, none⟩ = some (.slice (some ⟨b, 0, none⟩) fs.length fs.length) ∧ w0.cell? ⟨w.heap.size + 1, 0, none⟩ = some (.string o.kind) ∧ w0.cell? ⟨w.heap.size + 1, 1, none⟩ = some (.string o.name) ∧ w0.cell? ⟨w.heap.size + 1, 2, none⟩ = some (.string o.team) ∧ w0.cell? ⟨w.heap.size + 1, 3, none⟩ = some (.slice b1 o.values.length c1) ∧ w0.cell? ⟨w.heap.size + 1, 4, none⟩ = some (.bool o.ending) ∧ w0.cell? ⟨w.heap.size + 1, 5, none⟩ = some (.slice b2 o.holds.length c2) ∧ w0.cell? ⟨w.heap.size + 1, 6, none⟩ = some (.int .i64 o.version)) := by
    show _ ∧ _ ∧ _ ∧ _ ∧ _ ∧ _ ∧ _ ∧ _ ∧ _
    rw [hw0]
    have p0 : ∀ j, (((w.alloc (.cells #[.string kd, .slice (some ⟨b, 0, none⟩) fs.length fs.length] 56)).alloc (.cells #[.string o.kind, .string o.name, .string o.team, .slice b1 o.values.length c1, .bool o.ending, .slice b2 o.holds.length c2, .int .i64 o.version] 30)).alloc (.cells #[.string ⟨#[]⟩, .string ⟨#[]⟩, .string ⟨#[]⟩, .slice none 0 0, .bool false, .slice none 0 0, .int .i64 0] 30)).cell? ⟨w.heap.size, j, none⟩ = (#[.string kd, .slice (some ⟨b, 0, none⟩) fs.length fs.length] : Array Value)[j]? := fun j => ((World.cell?_alloc_past _ _ _ (by simp; omega)).trans (World.cell?_alloc_past _ _ _ (by simp))).trans (World.cell?_alloc_at _ _ _ _ rfl)
    have p1 : ∀ j, (((w.alloc (.cells #[.string kd, .slice (some ⟨b, 0, none⟩) fs.length fs.length] 56)).alloc (.cells #[.string o.kind, .string o.name, .string o.team, .slice b1 o.values.length c1, .bool o.ending, .slice b2 o.holds.length c2, .int .i64 o.version] 30)).alloc (.cells #[.string ⟨#[]⟩, .string ⟨#[]⟩, .string ⟨#[]⟩, .slice none 0 0, .bool false, .slice none 0 0, .int .i64 0] 30)).cell? ⟨w.heap.size + 1, j, none⟩ = (#[.string o.kind, .string o.name, .string o.team, .slice b1 o.values.length c1, .bool o.ending, .slice b2 o.holds.length c2, .int .i64 o.version] : Array Value)[j]? := fun j => (World.cell?_alloc_past _ _ _ (by simp)).trans (World.cell?_alloc_at _ _ _ _ (by simp))
    exact ⟨p0 0, p0 1, p1 0, p1 1, p1 2, p1 3, p1 4, p1 5, p1 6⟩
  obtain ⟨s0, s1, x0, x1, x2, x3, x4, x5, x6⟩ := HX0.out
  have hz0 : w.heap.size < w0.heap.size := by have := HZ0.out; omega
  have hz1 : w.heap.size + 1 < w0.heap.size := by have := HZ0.out; omega
  go_enter Tryz.func51, Tryz.ntmps51
  go_upto_region 1 with fail
  rw [← hw0]
  clear hw0
  go_wp2_with fail
  refine (copyObj o b1 c1 b2 c2 w0 (HA.out.later HB0.out)).mono ?_
  rintro e w1 ⟨⟨a1, n1, d1, a2, n2, d2, mid, rfl, hct1, hct2, hm1, hm2⟩, hb1⟩
  have hs1 : w.heap.size + 3 ≤ w1.heap.size := by have := hb1.size; rw [HZ0.out] at this; exact this
  rw [HZ0.out] at hct1 hm1
  have HB1 : Hid (Below w.heap.size w w1) := blw_trans HB0.out hb1
  have HR1 : Hid (OwnBlk w1 (w.heap.size + 2) 30 7) := HR0.out.later hb1
  have k3 : w1.cell? ⟨w.heap.size + 1, 3, none⟩ = some (.slice b1 o.values.length c1) := (hb1.cell (p := ⟨w.heap.size + 1, 3, none⟩) hz1).trans x3
  have k1 : w1.cell? ⟨w.heap.size, 1, none⟩ = some (.slice (some ⟨b, 0, none⟩) fs.length fs.length) := (hb1.cell (p := ⟨w.heap.size, 1, none⟩) hz0).trans s1
  obtain ⟨w2, hw2⟩ : ∃ w2, w2 = w1.alloc (.cells #[.string o.kind, .string o.name, .string o.team, .slice a1 n1 d1, .bool o.ending, .slice a2 n2 d2, .int .i64 o.version] 30) := ⟨_, rfl⟩
  obtain ⟨X, hX⟩ : ∃ X, X = w1.heap.size := ⟨_, rfl⟩
  have hb2 : Below w1.heap.size w1 w2 := by rw [hw2]; exact blw_alloc (Below.refl _ _) _
  have HI : Hid (FInvB w w2 X mid o o.values (.slice a1 n1 d1) (.slice a2 n2 d2)) := by
    show FInvB _ _ _ _ _ _ _ _
    rw [hX]
    have q : ∀ j, w2.cell? ⟨w1.heap.size, j, none⟩ = (#[.string o.kind, .string o.name, .string o.team, .slice a1 n1 d1, .bool o.ending, .slice a2 n2 d2, .int .i64 o.version] : Array Value)[j]? := fun j => by rw [hw2]; exact World.cell?_alloc_at _ _ _ _ rfl
    exact ⟨blw_trans HB1.out hb2, HR1.out.later hb2, by rw [hw2]; simp, q 0, q 1, q 2, q 3, q 4, q 5, q 6, hct1.later hb2, hct2.later hb2, hm1, hm2⟩
  have HK2 : Hid (w2.cell? ⟨w.heap.size + 1, 3, none⟩ = some (.slice b1 o.values.length c1) ∧ w2.cell? ⟨w.heap.size, 1, none⟩ = some (.slice (some ⟨b, 0, none⟩) fs.length fs.length) ∧ w.heap.size + 1 < w2.heap.size ∧ w.heap.size < w2.heap.size) := ⟨(hb2.cell (p := ⟨w.heap.size + 1, 3, none⟩) (by show w.heap.size + 1 < w1.heap.size; omega)).trans k3, (hb2.cell (p := ⟨w.heap.size, 1, none⟩) (by show w.heap.size < w1.heap.size; omega)).trans k1, by have := hb2.size; omega, by have := hb2.size; omega⟩
  go_upto_region 2 with fail
  rw [← hw2, ← hX]
  clear hw2 hX hb1 hb2 hct1 hct2 hm1 hm2 hs1 k1 k3 s0 s1 x0 x1 x2 x3 x4 x5 x6 hz0 hz1 HX0 HZ0 HR0 HB0 HB1 HR1
  obtain ⟨k3, k1, kz1, kz0⟩ := HK2.out
  obtain ⟨_, hR, z1, x0, x1, x2, x3, x4, x5, x6, _, _, _, _⟩ := HI.out
  have hfz := hR.frozen
  have z2 := hR.lt
  obtain ⟨y0, hy0⟩ := hR.cell 0 (by omega)
  obtain ⟨y1, hy1⟩ := hR.cell 1 (by omega)
  obtain ⟨y2, hy2⟩ := hR.cell 2 (by omega)
  obtain ⟨y3, hy3⟩ := hR.cell 3 (by omega)
  obtain ⟨y4, hy4⟩ := hR.cell 4 (by omega)
  obtain ⟨y5, hy5⟩ := hR.cell 5 (by omega)
  obtain ⟨y6, hy6⟩ := hR.cell 6 (by omega)
  clear hR
  by_cases heq : o.values.length = fs.length
  case neg =>
    have HF : Hid (fillVals fs o = o.values) := by show fillVals fs o = o.values; unfold fillVals; rw [if_neg heq]
    have hne : (((o.values.length : Int)) != (fs.length : Int)) = true := by simp; omega
    go_wp2
    obtain ⟨r, _, t1, t2, t3, t4, t5⟩ := HI.out.out [.string o.kind, .string o.name, .string o.team, .slice a1 n1 d1, .bool o.ending, .slice a2 n2 d2, .int .i64 o.version] rfl
    have r0 : (((((((w2.setCell ⟨w.heap.size + 2, 0, none⟩ (.string o.kind)).setCell ⟨w.heap.size + 2, 1, none⟩ (.string o.name)).setCell ⟨w.heap.size + 2, 2, none⟩ (.string o.team)).setCell ⟨w.heap.size + 2, 3, none⟩ (.slice a1 n1 d1)).setCell ⟨w.heap.size + 2, 4, none⟩ (.bool o.ending)).setCell ⟨w.heap.size + 2, 5, none⟩ (.slice a2 n2 d2)).setCell ⟨w.heap.size + 2, 6, none⟩ (.int .i64 o.version)).cell? ⟨w.heap.size + 2, 0, none⟩ = some (.string o.kind) := r 0 (by omega)
    have r1 : (((((((w2.setCell ⟨w.heap.size + 2, 0, none⟩ (.string o.kind)).setCell ⟨w.heap.size + 2, 1, none⟩ (.string o.name)).setCell ⟨w.heap.size + 2, 2, none⟩ (.string o.team)).setCell ⟨w.heap.size + 2, 3, none⟩ (.slice a1 n1 d1)).setCell ⟨w.heap.size + 2, 4, none⟩ (.bool o.ending)).setCell ⟨w.heap.size + 2, 5, none⟩ (.slice a2 n2 d2)).setCell ⟨w.heap.size + 2, 6, none⟩ (.int .i64 o.version)).cell? ⟨w.heap.size + 2, 1, none⟩ = some (.string o.name) := r 1 (by omega)
    have r2 : (((((((w2.setCell ⟨w.heap.size + 2, 0, none⟩ (.string o.kind)).setCell ⟨w.heap.size + 2, 1, none⟩ (.string o.name)).setCell ⟨w.heap.size + 2, 2, none⟩ (.string o.team)).setCell ⟨w.heap.size + 2, 3, none⟩ (.slice a1 n1 d1)).setCell ⟨w.heap.size + 2, 4, none⟩ (.bool o.ending)).setCell ⟨w.heap.size + 2, 5, none⟩ (.slice a2 n2 d2)).setCell ⟨w.heap.size + 2, 6, none⟩ (.int .i64 o.version)).cell? ⟨w.heap.size + 2, 2, none⟩ = some (.string o.team) := r 2 (by omega)
    have r3 : (((((((w2.setCell ⟨w.heap.size + 2, 0, none⟩ (.string o.kind)).setCell ⟨w.heap.size + 2, 1, none⟩ (.string o.name)).setCell ⟨w.heap.size + 2, 2, none⟩ (.string o.team)).setCell ⟨w.heap.size + 2, 3, none⟩ (.slice a1 n1 d1)).setCell ⟨w.heap.size + 2, 4, none⟩ (.bool o.ending)).setCell ⟨w.heap.size + 2, 5, none⟩ (.slice a2 n2 d2)).setCell ⟨w.heap.size + 2, 6, none⟩ (.int .i64 o.version)).cell? ⟨w.heap.size + 2, 3, none⟩ = some (.slice a1 n1 d1) := r 3 (by omega)
    have r4 : (((((((w2.setCell ⟨w.heap.size + 2, 0, none⟩ (.string o.kind)).setCell ⟨w.heap.size + 2, 1, none⟩ (.string o.name)).setCell ⟨w.heap.size + 2, 2, none⟩ (.string o.team)).setCell ⟨w.heap.size + 2, 3, none⟩ (.slice a1 n1 d1)).setCell ⟨w.heap.size + 2, 4, none⟩ (.bool o.ending)).setCell ⟨w.heap.size + 2, 5, none⟩ (.slice a2 n2 d2)).setCell ⟨w.heap.size + 2, 6, none⟩ (.int .i64 o.version)).cell? ⟨w.heap.size + 2, 4, none⟩ = some (.bool o.ending) := r 4 (by omega)
    have r5 : (((((((w2.setCell ⟨w.heap.size + 2, 0, none⟩ (.string o.kind)).setCell ⟨w.heap.size + 2, 1, none⟩ (.string o.name)).setCell ⟨w.heap.size + 2, 2, none⟩ (.string o.team)).setCell ⟨w.heap.size + 2, 3, none⟩ (.slice a1 n1 d1)).setCell ⟨w.heap.size + 2, 4, none⟩ (.bool o.ending)).setCell ⟨w.heap.size + 2, 5, none⟩ (.slice a2 n2 d2)).setCell ⟨w.heap.size + 2, 6, none⟩ (.int .i64 o.version)).cell? ⟨w.heap.size + 2, 5, none⟩ = some (.slice a2 n2 d2) := r 5 (by omega)
    have r6 : (((((((w2.setCell ⟨w.heap.size + 2, 0, none⟩ (.string o.kind)).setCell ⟨w.heap.size + 2, 1, none⟩ (.string o.name)).setCell ⟨w.heap.size + 2, 2, none⟩ (.string o.team)).setCell ⟨w.heap.size + 2, 3, none⟩ (.slice a1 n1 d1)).setCell ⟨w.heap.size + 2, 4, none⟩ (.bool o.ending)).setCell ⟨w.heap.size + 2, 5, none⟩ (.slice a2 n2 d2)).setCell ⟨w.heap.size + 2, 6, none⟩ (.int .i64 o.version)).cell? ⟨w.heap.size + 2, 6, none⟩ = some (.int .i64 o.version) := r 6 (by omega)
    refine bodyPost_ret (v := .agg #[.string o.kind, .string o.name, .string o.team, .slice a1 n1 d1, .bool o.ending, .slice a2 n2 d2, .int .i64 o.version]) (by simp only [results, Tryz.results51]; simp [go_sem, r0, r1, r2, r3, r4, r5, r6]) rfl ⟨⟨_, _, _, _, _, _, mid, rfl, ?_, t2, t3, t4⟩, t5⟩
    rw [HF.out]; exact t1
  have hne : (((o.values.length : Int)) != (fs.length : Int)) = false := by simp; omega
  have HF : Hid (fillVals fs o = fillTo o.values fs fs.length) := by show fillVals fs o = _; unfold fillVals; rw [if_pos heq]
  rcases HI.out.c1 with ⟨e1, e2⟩ | ⟨g, cap, e1, _, _, _, _, _⟩
  · injection e1 with e1 e3 e4
    subst e1 e3 e4
    have hfs0 : fs.length = 0 := by rw [← heq, e2]; rfl
    have HF' : Hid (fillVals fs o = o.values) := by show fillVals fs o = o.values; rw [HF.out, hfs0]; exact fillTo_zero _ _
    clear HF
    have HF := HF'
    clear HF' HFl
    go_wp2
    refine wp_loop_rounds 1 ?_
    rw [rounds_succ]
    go_wp2
    obtain ⟨r, _, t1, t2, t3, t4, t5⟩ := HI.out.out [.string o.kind, .string o.name, .string o.team, .slice none 0 0, .bool o.ending, .slice a2 n2 d2, .int .i64 o.version] rfl
    have r0 : (((((((w2.setCell ⟨w.heap.size + 2, 0, none⟩ (.string o.kind)).setCell ⟨w.heap.size + 2, 1, none⟩ (.string o.name)).setCell ⟨w.heap.size + 2, 2, none⟩ (.string o.team)).setCell ⟨w.heap.size + 2, 3, none⟩ (.slice none 0 0)).setCell ⟨w.heap.size + 2, 4, none⟩ (.bool o.ending)).setCell ⟨w.heap.size + 2, 5, none⟩ (.slice a2 n2 d2)).setCell ⟨w.heap.size + 2, 6, none⟩ (.int .i64 o.version)).cell? ⟨w.heap.size + 2, 0, none⟩ = some (.string o.kind) := r 0 (by omega)
    have r1 : (((((((w2.setCell ⟨w.heap.size + 2, 0, none⟩ (.string o.kind)).setCell ⟨w.heap.size + 2, 1, none⟩ (.string o.name)).setCell ⟨w.heap.size + 2, 2, none⟩ (.string o.team)).setCell ⟨w.heap.size + 2, 3, none⟩ (.slice none 0 0)).setCell ⟨w.heap.size + 2, 4, none⟩ (.bool o.ending)).setCell ⟨w.heap.size + 2, 5, none⟩ (.slice a2 n2 d2)).setCell ⟨w.heap.size + 2, 6, none⟩ (.int .i64 o.version)).cell? ⟨w.heap.size + 2, 1, none⟩ = some (.string o.name) := r 1 (by omega)
    have r2 : (((((((w2.setCell ⟨w.heap.size + 2, 0, none⟩ (.string o.kind)).setCell ⟨w.heap.size + 2, 1, none⟩ (.string o.name)).setCell ⟨w.heap.size + 2, 2, none⟩ (.string o.team)).setCell ⟨w.heap.size + 2, 3, none⟩ (.slice none 0 0)).setCell ⟨w.heap.size + 2, 4, none⟩ (.bool o.ending)).setCell ⟨w.heap.size + 2, 5, none⟩ (.slice a2 n2 d2)).setCell ⟨w.heap.size + 2, 6, none⟩ (.int .i64 o.version)).cell? ⟨w.heap.size + 2, 2, none⟩ = some (.string o.team) := r 2 (by omega)
    have r3 : (((((((w2.setCell ⟨w.heap.size + 2, 0, none⟩ (.string o.kind)).setCell ⟨w.heap.size + 2, 1, none⟩ (.string o.name)).setCell ⟨w.heap.size + 2, 2, none⟩ (.string o.team)).setCell ⟨w.heap.size + 2, 3, none⟩ (.slice none 0 0)).setCell ⟨w.heap.size + 2, 4, none⟩ (.bool o.ending)).setCell ⟨w.heap.size + 2, 5, none⟩ (.slice a2 n2 d2)).setCell ⟨w.heap.size + 2, 6, none⟩ (.int .i64 o.version)).cell? ⟨w.heap.size + 2, 3, none⟩ = some (.slice none 0 0) := r 3 (by omega)
    have r4 : (((((((w2.setCell ⟨w.heap.size + 2, 0, none⟩ (.string o.kind)).setCell ⟨w.heap.size + 2, 1, none⟩ (.string o.name)).setCell ⟨w.heap.size + 2, 2, none⟩ (.string o.team)).setCell ⟨w.heap.size + 2, 3, none⟩ (.slice none 0 0)).setCell ⟨w.heap.size + 2, 4, none⟩ (.bool o.ending)).setCell ⟨w.heap.size + 2, 5, none⟩ (.slice a2 n2 d2)).setCell ⟨w.heap.size + 2, 6, none⟩ (.int .i64 o.version)).cell? ⟨w.heap.size + 2, 4, none⟩ = some (.bool o.ending) := r 4 (by omega)
    have r5 : (((((((w2.setCell ⟨w.heap.size + 2, 0, none⟩ (.string o.kind)).setCell ⟨w.heap.size + 2, 1, none⟩ (.string o.name)).setCell ⟨w.heap.size + 2, 2, none⟩ (.string o.team)).setCell ⟨w.heap.size + 2, 3, none⟩ (.slice none 0 0)).setCell ⟨w.heap.size + 2, 4, none⟩ (.bool o.ending)).setCell ⟨w.heap.size + 2, 5, none⟩ (.slice a2 n2 d2)).setCell ⟨w.heap.size + 2, 6, none⟩ (.int .i64 o.version)).cell? ⟨w.heap.size + 2, 5, none⟩ = some (.slice a2 n2 d2) := r 5 (by omega)
    have r6 : (((((((w2.setCell ⟨w.heap.size + 2, 0, none⟩ (.string o.kind)).setCell ⟨w.heap.size + 2, 1, none⟩ (.string o.name)).setCell ⟨w.heap.size + 2, 2, none⟩ (.string o.team)).setCell ⟨w.heap.size + 2, 3, none⟩ (.slice none 0 0)).setCell ⟨w.heap.size + 2, 4, none⟩ (.bool o.ending)).setCell ⟨w.heap.size + 2, 5, none⟩ (.slice a2 n2 d2)).setCell ⟨w.heap.size + 2, 6, none⟩ (.int .i64 o.version)).cell? ⟨w.heap.size + 2, 6, none⟩ = some (.int .i64 o.version) := r 6 (by omega)
    refine bodyPost_ret (v := .agg #[.string o.kind, .string o.name, .string o.team, .slice none 0 0, .bool o.ending, .slice a2 n2 d2, .int .i64 o.version]) (by simp only [results, Tryz.results51]; simp [go_sem, r0, r1, r2, r3, r4, r5, r6]) rfl ⟨⟨_, _, _, _, _, _, mid, rfl, ?_, t2, t3, t4⟩, t5⟩
    rw [HF.out]; exact t1
  · injection e1 with e1 e3 e4
    subst e1 e3 e4
    have HI0 : Hid (FInvB w w2 X mid o (fillTo o.values fs 0) (.slice (some ⟨g, 0, none⟩) o.values.length d1) (.slice a2 n2 d2)) := by
      show FInvB _ _ _ _ _ _ _ _
      rw [fillTo_zero]; exact HI.out
    clear HI
    go_wp2
    clear x0 x1 x2 x3 x4 x5 x6 hfz hy0 hy1 hy2 hy3 hy4 hy5 hy6 k3 k1
    go_loopw [21] (fun i wr => ∃ q : Nat, q ≤ fs.length ∧ i = .int .i64 q ∧ FInvB w wr X mid o (fillTo o.values fs q) (.slice (some ⟨g, 0, none⟩) o.values.length d1) (.slice a2 n2 d2)) (fun i _ => fs.length - (intOf i).toNat)
    case atStart => exact ⟨0, Nat.zero_le _, rfl, HI0.out⟩
    case round =>
      obtain ⟨q, hq, rfl, hI⟩ := hrel
      have HI : Hid (FInvB w wr X mid o (fillTo o.values fs q) (.slice (some ⟨g, 0, none⟩) o.values.length d1) (.slice a2 n2 d2)) := hI
      have z1 := hI.lt
      have x0 := hI.x0
      have x1 := hI.x1
      have x2 := hI.x2
      have x3 := hI.x3
      have x4 := hI.x4
      have x5 := hI.x5
      have x6 := hI.x6
      clear hI
      by_cases hlt : q < fs.length
      · obtain ⟨f, hf⟩ : ∃ f, f = fs.getD q Fld.none := ⟨_, rfl⟩
        obtain ⟨bw, _, _, hfi⟩ := HFl.out.2 q hlt
        rw [← hf] at hfi
        have c := fun j => HI.out.bel.cell (p := ⟨b, j, none⟩) HFl.out.1
        have f0 := (c _).trans hfi.c0
        have f1 := (c _).trans hfi.c1
        have f2 := (c _).trans hfi.c2
        have f3 := (c _).trans hfi.c3
        have f4 := (c _).trans hfi.c4
        have f5 := (c _).trans hfi.c5
        have f6 := (c _).trans hfi.c6
        have f7 := (c _).trans hfi.c7
        have f8 := (c _).trans hfi.c8
        have f9 := (c _).trans hfi.c9
        have f10 := (c _).trans hfi.c10
        obtain ⟨g1, g2, g3, g4, g5, g6⟩ := HI.out.c1.row
        have hqv : q < o.values.length := by omega
        have u0 := g6 q (by rw [fillTo_len]; exact hqv)
        rw [fillTo_now _ _ _ hqv] at u0
        have hgz := g3.frozen
        have hgl := g3.lt
        obtain ⟨u, hu⟩ : ∃ u, u = o.values.getD q ByteArray.empty := ⟨_, rfl⟩
        rw [← hu] at u0
        have HU : Hid (u = o.values.getD q ByteArray.empty ∧ f = fs.getD q Fld.none) := ⟨hu, hf⟩
        clear hfi c hf hu g6 g5 g4 g3
        cases hem : u.toList.isEmpty
        · have HN : Hid (FInvB w wr X mid o (fillTo o.values fs (q + 1)) (.slice (some ⟨g, 0, none⟩) o.values.length d1) (.slice a2 n2 d2)) := HI.out.keep hqv (by rw [← HU.out.1]; exact hem)
          clear HI
          go_wp2
          go_roundw
          case rel => exact ⟨q + 1, by omega, by go_num, HN.out.later (blw_alloc (Below.refl _ _) _)⟩
          case measure => simp [intOf]; omega
        · have HN : Hid (FInvB w (wr.setCell ⟨g, q, none⟩ (.string f.de)) X mid o (fillTo o.values fs (q + 1)) (.slice (some ⟨g, 0, none⟩) o.values.length d1) (.slice a2 n2 d2)) := by
            show FInvB _ _ _ _ _ _ _ _
            rw [HU.out.2]; exact HI.out.put hqv (by rw [← HU.out.1]; exact hem)
          clear HI
          go_wp2
          go_roundw
          case rel => exact ⟨q + 1, by omega, by go_num, HN.out.later (blw_alloc (Below.refl _ _) _)⟩
          case measure => simp [intOf]; omega
      · obtain rfl : q = fs.length := by omega
        have hR := HI.out.own
        have hfz := hR.frozen
        have z2 := hR.lt
        obtain ⟨y0, hy0⟩ := hR.cell 0 (by omega)
        obtain ⟨y1, hy1⟩ := hR.cell 1 (by omega)
        obtain ⟨y2, hy2⟩ := hR.cell 2 (by omega)
        obtain ⟨y3, hy3⟩ := hR.cell 3 (by omega)
        obtain ⟨y4, hy4⟩ := hR.cell 4 (by omega)
        obtain ⟨y5, hy5⟩ := hR.cell 5 (by omega)
        obtain ⟨y6, hy6⟩ := hR.cell 6 (by omega)
        clear hR
        have HI' : Hid (FInvB w wr X mid o (fillTo o.values fs fs.length) (.slice (some ⟨g, 0, none⟩) fs.length d1) (.slice a2 n2 d2)) := by have := HI.out; rw [heq] at this; exact this
        clear HI
        have HI := HI'
        clear HI'
        go_wp2
        obtain ⟨r, _, t1, t2, t3, t4, t5⟩ := HI.out.out [.string o.kind, .string o.name, .string o.team, .slice (some ⟨g, 0, none⟩) fs.length d1, .bool o.ending, .slice a2 n2 d2, .int .i64 o.version] rfl
        have r0 : (((((((wr.setCell ⟨w.heap.size + 2, 0, none⟩ (.string o.kind)).setCell ⟨w.heap.size + 2, 1, none⟩ (.string o.name)).setCell ⟨w.heap.size + 2, 2, none⟩ (.string o.team)).setCell ⟨w.heap.size + 2, 3, none⟩ (.slice (some ⟨g, 0, none⟩) fs.length d1)).setCell ⟨w.heap.size + 2, 4, none⟩ (.bool o.ending)).setCell ⟨w.heap.size + 2, 5, none⟩ (.slice a2 n2 d2)).setCell ⟨w.heap.size + 2, 6, none⟩ (.int .i64 o.version)).cell? ⟨w.heap.size + 2, 0, none⟩ = some (.string o.kind) := r 0 (by omega)
        have r1 : (((((((wr.setCell ⟨w.heap.size + 2, 0, none⟩ (.string o.kind)).setCell ⟨w.heap.size + 2, 1, none⟩ (.string o.name)).setCell ⟨w.heap.size + 2, 2, none⟩ (.string o.team)).setCell ⟨w.heap.size + 2, 3, none⟩ (.slice (some ⟨g, 0, none⟩) fs.length d1)).setCell ⟨w.heap.size + 2, 4, none⟩ (.bool o.ending)).setCell ⟨w.heap.size + 2, 5, none⟩ (.slice a2 n2 d2)).setCell ⟨w.heap.size + 2, 6, none⟩ (.int .i64 o.version)).cell? ⟨w.heap.size + 2, 1, none⟩ = some (.string o.name) := r 1 (by omega)
        have r2 : (((((((wr.setCell ⟨w.heap.size + 2, 0, none⟩ (.string o.kind)).setCell ⟨w.heap.size + 2, 1, none⟩ (.string o.name)).setCell ⟨w.heap.size + 2, 2, none⟩ (.string o.team)).setCell ⟨w.heap.size + 2, 3, none⟩ (.slice (some ⟨g, 0, none⟩) fs.length d1)).setCell ⟨w.heap.size + 2, 4, none⟩ (.bool o.ending)).setCell ⟨w.heap.size + 2, 5, none⟩ (.slice a2 n2 d2)).setCell ⟨w.heap.size + 2, 6, none⟩ (.int .i64 o.version)).cell? ⟨w.heap.size + 2, 2, none⟩ = some (.string o.team) := r 2 (by omega)
        have r3 : (((((((wr.setCell ⟨w.heap.size + 2, 0, none⟩ (.string o.kind)).setCell ⟨w.heap.size + 2, 1, none⟩ (.string o.name)).setCell ⟨w.heap.size + 2, 2, none⟩ (.string o.team)).setCell ⟨w.heap.size + 2, 3, none⟩ (.slice (some ⟨g, 0, none⟩) fs.length d1)).setCell ⟨w.heap.size + 2, 4, none⟩ (.bool o.ending)).setCell ⟨w.heap.size + 2, 5, none⟩ (.slice a2 n2 d2)).setCell ⟨w.heap.size + 2, 6, none⟩ (.int .i64 o.version)).cell? ⟨w.heap.size + 2, 3, none⟩ = some (.slice (some ⟨g, 0, none⟩) fs.length d1) := r 3 (by omega)
        have r4 : (((((((wr.setCell ⟨w.heap.size + 2, 0, none⟩ (.string o.kind)).setCell ⟨w.heap.size + 2, 1, none⟩ (.string o.name)).setCell ⟨w.heap.size + 2, 2, none⟩ (.string o.team)).setCell ⟨w.heap.size + 2, 3, none⟩ (.slice (some ⟨g, 0, none⟩) fs.length d1)).setCell ⟨w.heap.size + 2, 4, none⟩ (.bool o.ending)).setCell ⟨w.heap.size + 2, 5, none⟩ (.slice a2 n2 d2)).setCell ⟨w.heap.size + 2, 6, none⟩ (.int .i64 o.version)).cell? ⟨w.heap.size + 2, 4, none⟩ = some (.bool o.ending) := r 4 (by omega)
        have r5 : (((((((wr.setCell ⟨w.heap.size + 2, 0, none⟩ (.string o.kind)).setCell ⟨w.heap.size + 2, 1, none⟩ (.string o.name)).setCell ⟨w.heap.size + 2, 2, none⟩ (.string o.team)).setCell ⟨w.heap.size + 2, 3, none⟩ (.slice (some ⟨g, 0, none⟩) fs.length d1)).setCell ⟨w.heap.size + 2, 4, none⟩ (.bool o.ending)).setCell ⟨w.heap.size + 2, 5, none⟩ (.slice a2 n2 d2)).setCell ⟨w.heap.size + 2, 6, none⟩ (.int .i64 o.version)).cell? ⟨w.heap.size + 2, 5, none⟩ = some (.slice a2 n2 d2) := r 5 (by omega)
        have r6 : (((((((wr.setCell ⟨w.heap.size + 2, 0, none⟩ (.string o.kind)).setCell ⟨w.heap.size + 2, 1, none⟩ (.string o.name)).setCell ⟨w.heap.size + 2, 2, none⟩ (.string o.team)).setCell ⟨w.heap.size + 2, 3, none⟩ (.slice (some ⟨g, 0, none⟩) fs.length d1)).setCell ⟨w.heap.size + 2, 4, none⟩ (.bool o.ending)).setCell ⟨w.heap.size + 2, 5, none⟩ (.slice a2 n2 d2)).setCell ⟨w.heap.size + 2, 6, none⟩ (.int .i64 o.version)).cell? ⟨w.heap.size + 2, 6, none⟩ = some (.int .i64 o.version) := r 6 (by omega)
        refine bodyPost_ret (v := .agg #[.string o.kind, .string o.name, .string o.team, .slice (some ⟨g, 0, none⟩) fs.length d1, .bool o.ending, .slice a2 n2 d2, .int .i64 o.version]) (by simp only [results, Tryz.results51]; simp [go_sem, r0, r1, r2, r3, r4, r5, r6]) rfl ⟨⟨_, _, _, _, _, _, mid, rfl, ?_, t2, t3, t4⟩, t5⟩
        rw [HF.out]; exact t1

end Go.Proofs.YtfdahoekjpobaaaGreat
