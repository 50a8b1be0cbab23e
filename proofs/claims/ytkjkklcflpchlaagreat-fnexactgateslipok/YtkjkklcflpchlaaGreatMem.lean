/-
  Fields and shapes as they lie in memory.
-/
import Derived.Test.YtkjkklcflpchlaaGreatWalkK
namespace Go.Proofs.YtkjkklcflpchlaaGreat
open Go.RowKit Go.Deep

structure Fld where
  nm : ByteArray
  kind : Int
  least : Int
  most : Int
  words : List ByteArray
  to : ByteArray
  role : Int
  must : Bool
  fixed : Bool
  de : ByteArray
  we : ByteArray

structure Shp where
  kind : ByteArray
  fields : List Fld

def Fld.none : Fld := ⟨ByteArray.empty, 0, 0, 0, [], ByteArray.empty, 0, false, false, ByteArray.empty, ByteArray.empty⟩
def Shp.none : Shp := ⟨ByteArray.empty, []⟩

def Fld.sized (f : Fld) : Prop := f.nm.size ≤ maxLen ∧ f.to.size ≤ maxLen ∧ f.de.size ≤ maxLen ∧ f.we.size ≤ maxLen

/-- A field of eleven cells, from o on in block b; its texts in a slice vs. -/
structure FldIs (w : World) (b o : Nat) (f : Fld) (vs : Value) : Prop where
  c0 : w.cell? ⟨b, o, none⟩ = some (.string f.nm)
  c1 : w.cell? ⟨b, o + 1, none⟩ = some (.int .i64 f.kind)
  c2 : w.cell? ⟨b, o + 2, none⟩ = some (.int .i64 f.least)
  c3 : w.cell? ⟨b, o + 3, none⟩ = some (.int .i64 f.most)
  c4 : w.cell? ⟨b, o + 4, none⟩ = some vs
  c5 : w.cell? ⟨b, o + 5, none⟩ = some (.string f.to)
  c6 : w.cell? ⟨b, o + 6, none⟩ = some (.int .i64 f.role)
  c7 : w.cell? ⟨b, o + 7, none⟩ = some (.bool f.must)
  c8 : w.cell? ⟨b, o + 8, none⟩ = some (.bool f.fixed)
  c9 : w.cell? ⟨b, o + 9, none⟩ = some (.string f.de)
  c10 : w.cell? ⟨b, o + 10, none⟩ = some (.string f.we)
  texts : Texts w vs f.words
  sized : f.sized

theorem FldIs.later {w w' : World} {b o : Nat} {f : Fld} {vs : Value} (h : FldIs w b o f vs) (hb : Below w.heap.size w w') (hlt : b < w.heap.size) : FldIs w' b o f vs := by
  have c : ∀ j, w'.cell? ⟨b, j, none⟩ = w.cell? ⟨b, j, none⟩ := fun j => hb.cell (p := ⟨b, j, none⟩) hlt
  exact ⟨(c _).trans h.c0, (c _).trans h.c1, (c _).trans h.c2, (c _).trans h.c3, (c _).trans h.c4, (c _).trans h.c5, (c _).trans h.c6, (c _).trans h.c7, (c _).trans h.c8, (c _).trans h.c9, (c _).trans h.c10, h.texts.later hb, h.sized⟩

def FldsAt (w : World) (v : Value) (fs : List Fld) : Prop :=
  (∃ a cap, v = .slice a 0 cap ∧ fs = []) ∨ ∃ b off cap, v = .slice (some ⟨b, off, none⟩) fs.length cap ∧ b < w.heap.size ∧ fs.length ≤ maxLen ∧ ∀ i, i < fs.length → ∃ vs, FldIs w b (off + i * 11) (fs.getD i Fld.none) vs

theorem FldsAt.later {w w' : World} {v : Value} {fs : List Fld} (h : FldsAt w v fs) (hb : Below w.heap.size w w') : FldsAt w' v fs := by
  rcases h with h | ⟨b, off, cap, rfl, h1, h2, h3⟩
  · exact Or.inl h
  · refine Or.inr ⟨b, off, cap, rfl, Nat.lt_of_lt_of_le h1 hb.size, h2, fun i hi => ?_⟩
    obtain ⟨vs, hvs⟩ := h3 i hi
    exact ⟨vs, hvs.later hb h1⟩

structure ShpIs (w : World) (b o : Nat) (s : Shp) (v : Value) : Prop where
  c0 : w.cell? ⟨b, o, none⟩ = some (.string s.kind)
  c1 : w.cell? ⟨b, o + 1, none⟩ = some v
  fields : FldsAt w v s.fields
  sized : s.kind.size ≤ maxLen

theorem ShpIs.later {w w' : World} {b o : Nat} {s : Shp} {v : Value} (h : ShpIs w b o s v) (hb : Below w.heap.size w w') (hlt : b < w.heap.size) : ShpIs w' b o s v := by
  have c : ∀ j, w'.cell? ⟨b, j, none⟩ = w.cell? ⟨b, j, none⟩ := fun j => hb.cell (p := ⟨b, j, none⟩) hlt
  exact ⟨(c _).trans h.c0, (c _).trans h.c1, h.fields.later hb, h.sized⟩

def ShpsAt (w : World) (v : Value) (ss : List Shp) : Prop :=
  (∃ a cap, v = .slice a 0 cap ∧ ss = []) ∨ ∃ b off cap, v = .slice (some ⟨b, off, none⟩) ss.length cap ∧ b < w.heap.size ∧ ss.length ≤ maxLen ∧ ∀ i, i < ss.length → ∃ x, ShpIs w b (off + i * 2) (ss.getD i Shp.none) x

theorem ShpsAt.later {w w' : World} {v : Value} {ss : List Shp} (h : ShpsAt w v ss) (hb : Below w.heap.size w w') : ShpsAt w' v ss := by
  rcases h with h | ⟨b, off, cap, rfl, h1, h2, h3⟩
  · exact Or.inl h
  · refine Or.inr ⟨b, off, cap, rfl, Nat.lt_of_lt_of_le h1 hb.size, h2, fun i hi => ?_⟩
    obtain ⟨vs, hvs⟩ := h3 i hi
    exact ⟨vs, hvs.later hb h1⟩

def Fld.small (f : Fld) : Prop := f.words.length ≤ 1048576
def Shp.small (s : Shp) : Prop := s.fields.length ≤ 1048576 ∧ ∀ f ∈ s.fields, f.small

/-- What sz.. answers: a number, and, if it is not below 0, that p holds. -/
def szP (p : Prop) (left r : Int) : Prop := -1 ≤ r ∧ r ≤ left ∧ (0 ≤ r → p)

theorem small_take {fs : List Fld} {k : Nat} (h : ∀ f ∈ fs.take k, f.small) (hk : k < fs.length) (hs : (fs.getD k Fld.none).small) : ∀ f ∈ fs.take (k + 1), f.small := by
  intro f hf
  rw [List.take_succ_eq_append_getElem hk, List.mem_append, List.mem_singleton] at hf
  rcases hf with hf | hf
  · exact h f hf
  · subst hf; simpa [hk] using hs

theorem small_whole {fs : List Fld} {k : Nat} (h : ∀ f ∈ fs.take k, f.small) (hk : fs.length ≤ k) : ∀ f ∈ fs, f.small := by
  rw [List.take_of_length_le hk] at h; exact h

theorem shp_take {p : Shp → Prop} {ss : List Shp} {k : Nat} (h : ∀ s ∈ ss.take k, p s) (hk : k < ss.length) (hs : p (ss.getD k Shp.none)) : ∀ s ∈ ss.take (k + 1), p s := by
  intro f hf
  rw [List.take_succ_eq_append_getElem hk, List.mem_append, List.mem_singleton] at hf
  rcases hf with hf | hf
  · exact h f hf
  · subst hf; simpa [hk] using hs

theorem shp_whole {p : Shp → Prop} {ss : List Shp} {k : Nat} (h : ∀ s ∈ ss.take k, p s) (hk : ss.length ≤ k) : ∀ s ∈ ss, p s := by
  rw [List.take_of_length_le hk] at h; exact h

end Go.Proofs.YtkjkklcflpchlaaGreat
