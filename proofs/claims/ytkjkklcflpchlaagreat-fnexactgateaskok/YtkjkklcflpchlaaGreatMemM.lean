/-
  Mends as they lie in memory.
-/
import Derived.Test.YtkjkklcflpchlaaGreatPuts
namespace Go.Proofs.YtkjkklcflpchlaaGreat
open Go.RowKit Go.Deep

structure Mnd where
  kind : ByteArray
  field : ByteArray
  whn : ByteArray
  is_ : ByteArray
  put : ByteArray
  frm : ByteArray

def Mnd.none : Mnd := ⟨ByteArray.empty, ByteArray.empty, ByteArray.empty, ByteArray.empty, ByteArray.empty, ByteArray.empty⟩

def Mnd.sized (m : Mnd) : Prop := m.kind.size ≤ maxLen ∧ m.field.size ≤ maxLen ∧ m.whn.size ≤ maxLen ∧ m.is_.size ≤ maxLen ∧ m.put.size ≤ maxLen ∧ m.frm.size ≤ maxLen

/-- A mend of six cells, from o on in block b. -/
structure MndIs (w : World) (b o : Nat) (m : Mnd) : Prop where
  c0 : w.cell? ⟨b, o, none⟩ = some (.string m.kind)
  c1 : w.cell? ⟨b, o + 1, none⟩ = some (.string m.field)
  c2 : w.cell? ⟨b, o + 2, none⟩ = some (.string m.whn)
  c3 : w.cell? ⟨b, o + 3, none⟩ = some (.string m.is_)
  c4 : w.cell? ⟨b, o + 4, none⟩ = some (.string m.put)
  c5 : w.cell? ⟨b, o + 5, none⟩ = some (.string m.frm)
  sized : m.sized

theorem MndIs.later {w w' : World} {b o : Nat} {m : Mnd} (h : MndIs w b o m) (hb : Below w.heap.size w w') (hlt : b < w.heap.size) : MndIs w' b o m := by
  have c : ∀ j, w'.cell? ⟨b, j, none⟩ = w.cell? ⟨b, j, none⟩ := fun j => hb.cell (p := ⟨b, j, none⟩) hlt
  exact ⟨(c _).trans h.c0, (c _).trans h.c1, (c _).trans h.c2, (c _).trans h.c3, (c _).trans h.c4, (c _).trans h.c5, h.sized⟩

def MndsAt (w : World) (v : Value) (ms : List Mnd) : Prop :=
  (∃ a cap, v = .slice a 0 cap ∧ ms = []) ∨ ∃ b off cap, v = .slice (some ⟨b, off, none⟩) ms.length cap ∧ b < w.heap.size ∧ ms.length ≤ maxLen ∧ ∀ i, i < ms.length → MndIs w b (off + i * 6) (ms.getD i Mnd.none)

theorem MndsAt.later {w w' : World} {v : Value} {ms : List Mnd} (h : MndsAt w v ms) (hb : Below w.heap.size w w') : MndsAt w' v ms := by
  rcases h with h | ⟨b, off, cap, rfl, h1, h2, h3⟩
  · exact Or.inl h
  · exact Or.inr ⟨b, off, cap, rfl, Nat.lt_of_lt_of_le h1 hb.size, h2, fun i hi => (h3 i hi).later hb h1⟩

/-- A list of mends of the call's own. -/
structure MndsIn (w : World) (B : Nat) (ms : List Mnd) : Prop where
  lt : B < w.heap.size
  len : ms.length ≤ 1048576
  at_ : ∀ i, i < ms.length → MndIs w B (i * 6) (ms.getD i Mnd.none)

theorem MndsIn.later {w w' : World} {B : Nat} {ms : List Mnd} (h : MndsIn w B ms) (hb : Below w.heap.size w w') : MndsIn w' B ms :=
  ⟨Nat.lt_of_lt_of_le h.lt hb.size, h.len, fun i hi => (h.at_ i hi).later hb h.lt⟩

theorem MndIs.puts {w : World} {B o : Nat} {m : Mnd} (h : MndIs w B o m) (o' : Nat) (vs : List Value) (ho : o + 6 ≤ o') : MndIs (puts w B o' 0 vs) B o m := by
  have c : ∀ j, j < o' → (YtkjkklcflpchlaaGreat.puts w B o' 0 vs).cell? ⟨B, j, none⟩ = w.cell? ⟨B, j, none⟩ := fun j hj => puts_other B o' B j vs w 0 (by omega)
  exact ⟨(c _ (by omega)).trans h.c0, (c _ (by omega)).trans h.c1, (c _ (by omega)).trans h.c2, (c _ (by omega)).trans h.c3, (c _ (by omega)).trans h.c4, (c _ (by omega)).trans h.c5, h.sized⟩

theorem own_put_mnd {w : World} {B : Nat} {t : TypeId} {n : Nat} (hO : OwnBlk w B t n) (o : Nat) (ho : o + 6 ≤ n) (m : Mnd) (hs : m.sized) :
    MndIs (puts w B o 0 [.string m.kind, .string m.field, .string m.whn, .string m.is_, .string m.put, .string m.frm]) B o m := by
  have c := fun i hi => puts_at o [.string m.kind, .string m.field, .string m.whn, .string m.is_, .string m.put, .string m.frm] w 0 hO (by simp; omega) i hi
  exact ⟨c 0 (by simp), c 1 (by simp), c 2 (by simp), c 3 (by simp), c 4 (by simp), c 5 (by simp), hs⟩

end Go.Proofs.YtkjkklcflpchlaaGreat
