/-
  Teams as they lie in memory.
-/
import Derived.Test.YtkehaeppnmlafaaOwn
namespace Go.Proofs.Ytkehaeppnmlafaa
open Go.RowKit Go.Deep

structure Tm where
  nm : ByteArray
  ov : ByteArray

def Tm.none : Tm := ⟨ByteArray.empty, ByteArray.empty⟩

def Tm.sized (m : Tm) : Prop := m.nm.size ≤ maxLen ∧ m.ov.size ≤ maxLen

/-- A team of two cells, from o on in block b. -/
structure TmIs (w : World) (b o : Nat) (m : Tm) : Prop where
  c0 : w.cell? ⟨b, o, none⟩ = some (.string m.nm)
  c1 : w.cell? ⟨b, o + 1, none⟩ = some (.string m.ov)
  sized : m.sized

theorem TmIs.later {w w' : World} {b o : Nat} {m : Tm} (h : TmIs w b o m) (hb : Below w.heap.size w w') (hlt : b < w.heap.size) : TmIs w' b o m := by
  have c : ∀ j, w'.cell? ⟨b, j, none⟩ = w.cell? ⟨b, j, none⟩ := fun j => hb.cell (p := ⟨b, j, none⟩) hlt
  exact ⟨(c _).trans h.c0, (c _).trans h.c1, h.sized⟩

def TmsAt (w : World) (v : Value) (ms : List Tm) : Prop :=
  (∃ a cap, v = .slice a 0 cap ∧ ms = []) ∨ ∃ b off cap, v = .slice (some ⟨b, off, none⟩) ms.length cap ∧ b < w.heap.size ∧ ms.length ≤ maxLen ∧ ∀ i, i < ms.length → TmIs w b (off + i * 2) (ms.getD i Tm.none)

theorem TmsAt.later {w w' : World} {v : Value} {ms : List Tm} (h : TmsAt w v ms) (hb : Below w.heap.size w w') : TmsAt w' v ms := by
  rcases h with h | ⟨b, off, cap, rfl, h1, h2, h3⟩
  · exact Or.inl h
  · exact Or.inr ⟨b, off, cap, rfl, Nat.lt_of_lt_of_le h1 hb.size, h2, fun i hi => (h3 i hi).later hb h1⟩

/-- A list of teams of the call's own. -/
structure TmsIn (w : World) (B : Nat) (ms : List Tm) : Prop where
  lt : B < w.heap.size
  len : ms.length ≤ 1048576
  at_ : ∀ i, i < ms.length → TmIs w B (i * 2) (ms.getD i Tm.none)

theorem TmsIn.later {w w' : World} {B : Nat} {ms : List Tm} (h : TmsIn w B ms) (hb : Below w.heap.size w w') : TmsIn w' B ms :=
  ⟨Nat.lt_of_lt_of_le h.lt hb.size, h.len, fun i hi => (h.at_ i hi).later hb h.lt⟩

theorem TmIs.puts {w : World} {B o : Nat} {m : Tm} (h : TmIs w B o m) (o' : Nat) (vs : List Value) (ho : o + 2 ≤ o') : TmIs (puts w B o' 0 vs) B o m := by
  have c : ∀ j, j < o' → (Ytkehaeppnmlafaa.puts w B o' 0 vs).cell? ⟨B, j, none⟩ = w.cell? ⟨B, j, none⟩ := fun j hj => puts_other B o' B j vs w 0 (by omega)
  exact ⟨(c _ (by omega)).trans h.c0, (c _ (by omega)).trans h.c1, h.sized⟩

theorem own_put_tm {w : World} {B : Nat} {t : TypeId} {n : Nat} (hO : OwnBlk w B t n) (o : Nat) (ho : o + 2 ≤ n) (m : Tm) (hs : m.sized) :
    TmIs (puts w B o 0 [.string m.nm, .string m.ov]) B o m := by
  have c := fun i hi => puts_at o [.string m.nm, .string m.ov] w 0 hO (by simp; omega) i hi
  exact ⟨c 0 (by simp), c 1 (by simp), hs⟩

end Go.Proofs.Ytkehaeppnmlafaa
