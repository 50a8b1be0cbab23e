/-
  Plain functions: when shapes are ok.
-/
import Derived.Test.YtbannihkgglpaaaGreatPuts
import Derived.Test.YtbannihkgglpaaaGreatPlainB
namespace Go.Proofs.YtbannihkgglpaaaGreat
open Go.RowKit Go.Deep

namespace Pl
def less (a b : ByteArray) : Bool := Op.bytesLess a.toList b.toList
def ascAt (l : List ByteArray) (i : Nat) : Bool := nameOk (l.getD i ByteArray.empty) && (decide (i = 0) || less (l.getD (i - 1) ByteArray.empty) (l.getD i ByteArray.empty))
def ascTo (l : List ByteArray) (k : Nat) : Bool := (List.range k).all (ascAt l)
def asc (l : List ByteArray) : Bool := ascTo l l.length
def isEmp (s : ByteArray) : Bool := s.toList.isEmpty

theorem to_succ (p : Nat → Bool) (k : Nat) : (List.range (k + 1)).all p = ((List.range k).all p && p k) := by
  rw [List.range_succ, List.all_append]; simp
theorem to_false (p : Nat → Bool) (n k : Nat) (h : k < n) (hp : p k = false) : (List.range n).all p = false := by
  rw [List.all_eq_false]
  exact ⟨k, List.mem_range.2 h, by simp [hp]⟩
end Pl

/-- The place of the first shape of a kind; the list's length, if there is none. -/
def kindAt (ss : List Shp) (k : ByteArray) : Nat := ss.findIdx (fun s => s.kind.toList == k.toList)
def hasKind (ss : List Shp) (k : ByteArray) : Bool := decide (kindAt ss k < ss.length)

def bareB (f : Fld) : Bool :=
  if f.kind = 1 then f.words.isEmpty && Pl.isEmp f.to && decide (f.role = 0)
  else if f.kind = 2 then decide (f.least = 0) && decide (f.most = 0) && Pl.isEmp f.to && decide (f.role = 0) && Pl.isEmp f.we
  else if f.kind = 3 then f.words.isEmpty && Pl.isEmp f.to && decide (f.role = 0) && Pl.isEmp f.we
  else decide (f.least = 0) && decide (f.most = 0) && f.words.isEmpty && Pl.isEmp f.we

def boundB (ss : List Shp) (f : Fld) : Bool :=
  if f.kind = 1 then decide (0 ≤ f.least) && decide (f.least ≤ f.most) && decide (f.most ≤ 1000000) && (Pl.isEmp f.we || Pl.nameOk f.we)
  else if f.kind = 2 then decide (1 ≤ f.words.length) && decide (f.words.length ≤ 6) && Pl.asc f.words
  else if f.kind = 3 then decide (1 ≤ f.least) && decide (f.least ≤ f.most) && decide (f.most ≤ 40)
  else hasKind ss f.to && decide (1 ≤ f.role) && decide (f.role ≤ 3) && Pl.isEmp f.de && (!decide (f.role = 2) || !f.must)

def isKind (k : Int) : Bool := decide (1 ≤ k) && decide (k ≤ 4)
def fitB (f : Fld) (v : ByteArray) : Bool := Pl.fits f.kind f.least f.most f.words v
def defB (f : Fld) : Bool := Pl.isEmp f.de || fitB f f.de
def fieldOk (ss : List Shp) (f : Fld) : Bool := isKind f.kind && bareB f && boundB ss f && defB f

def twice (fs : List Fld) (i : Nat) : Bool := (List.range i).any (fun j => (fs.getD j Fld.none).nm.toList == (fs.getD i Fld.none).nm.toList)
def fieldAt (ss : List Shp) (fs : List Fld) (i : Nat) : Bool := Pl.nameOk (fs.getD i Fld.none).nm && fieldOk ss (fs.getD i Fld.none) && !twice fs i
def fieldsTo (ss : List Shp) (fs : List Fld) (k : Nat) : Bool := (List.range k).all (fieldAt ss fs)
def fieldsOk (ss : List Shp) (fs : List Fld) : Bool := decide (fs.length ≤ 6) && fieldsTo ss fs fs.length
def shapeAt (ss : List Shp) (i : Nat) : Bool := Pl.nameOk (ss.getD i Shp.none).kind && (decide (i = 0) || Pl.less (ss.getD (i - 1) Shp.none).kind (ss.getD i Shp.none).kind) && fieldsOk ss (ss.getD i Shp.none).fields
def shapesTo (ss : List Shp) (k : Nat) : Bool := (List.range k).all (shapeAt ss)
def shapesOk (ss : List Shp) : Bool := decide (ss.length ≤ 6) && shapesTo ss ss.length

/-- A list of shapes of the call's own. -/
structure ShpsIn (w : World) (B : Nat) (ss : List Shp) : Prop where
  lt : B < w.heap.size
  len : ss.length ≤ 1048576
  small : ∀ s ∈ ss, s.small
  at_ : ∀ i, i < ss.length → OwnShp w B (i * 2) (ss.getD i Shp.none)
  own : OwnBlk w B 56 (ss.length * 2)

theorem ShpsIn.later {w w' : World} {B : Nat} {ss : List Shp} (h : ShpsIn w B ss) (hb : Below w.heap.size w w') : ShpsIn w' B ss :=
  ⟨Nat.lt_of_lt_of_le h.lt hb.size, h.len, h.small, fun i hi => (h.at_ i hi).later hb h.lt, h.own.later hb⟩

theorem kindAt_hit (ss : List Shp) (k : ByteArray) (i : Nat) (hi : i < ss.length) (hno : i ≤ kindAt ss k) (h : ((ss.getD i Shp.none).kind.toList == k.toList) = true) : kindAt ss k = i := by
  have e : ss.getD i Shp.none = ss[i] := by simp [hi]
  rw [e] at h
  have : kindAt ss k ≤ i := by
    unfold kindAt
    exact Nat.le_of_not_lt fun hlt => by
      have := List.not_of_lt_findIdx hlt
      simp [h] at this
  omega

theorem kindAt_miss (ss : List Shp) (k : ByteArray) (i : Nat) (hi : i < ss.length) (hno : i ≤ kindAt ss k) (h : ((ss.getD i Shp.none).kind.toList == k.toList) = false) : i + 1 ≤ kindAt ss k := by
  have e : ss.getD i Shp.none = ss[i] := by simp [hi]
  rw [e] at h
  by_cases hq : kindAt ss k = i
  · exfalso
    have hlt : kindAt ss k < ss.length := by omega
    have := List.findIdx_getElem (w := hlt)
    unfold kindAt at hq
    simp only [hq] at this
    rw [this] at h
    cases h
  · omega
end Go.Proofs.YtbannihkgglpaaaGreat
