/-
  Plain functions: when shapes are ok.
-/
import Derived.Test.YtkjkklcflpchlaaGreatPlain
import Derived.Test.YtkjkklcflpchlaaGreatPuts
namespace Go.Proofs.YtkjkklcflpchlaaGreat.Pl

theorem decVal_snoc (l : List UInt8) (c : UInt8) : decVal (l ++ [c]) = decVal l * 10 + ((c.toNat : Int) - 48) := by
  simp [decVal, List.foldl_append]

theorem decVal_take (s : ByteArray) (k : Nat) (h : k < s.size) : decVal (s.data.toList.take (k + 1)) = decVal (s.data.toList.take k) * 10 + ((s[k].toNat : Int) - 48) := by
  rw [take_snoc s k h, decVal_snoc]

/-- The number of up to k digits lies below ten to the k. -/
theorem decVal_bd (s : ByteArray) (k : Nat) (hk : k ≤ s.size) (h : (s.data.toList.take k).all digit = true) :
    0 ≤ decVal (s.data.toList.take k) ∧ decVal (s.data.toList.take k) + 1 ≤ ((10 ^ k : Nat) : Int) := by
  induction k with
  | zero => simp [decVal]
  | succ k ih =>
    have hlt : k < s.size := by omega
    rw [all_snoc _ _ _ hlt] at h
    simp only [Bool.and_eq_true] at h
    obtain ⟨ha, hb⟩ := h
    have ih' := ih (by omega) ha
    rw [decVal_take s k hlt, Nat.pow_succ]
    simp only [digit, Bool.and_eq_true, decide_eq_true_eq] at hb
    omega

theorem decVal_small (s : ByteArray) (k : Nat) (hk : k ≤ s.size) (h7 : k ≤ 7) (h : (s.data.toList.take k).all digit = true) :
    0 ≤ decVal (s.data.toList.take k) ∧ decVal (s.data.toList.take k) ≤ 9999999 := by
  have hb := decVal_bd s k hk h
  have : 10 ^ k ≤ 10 ^ 7 := Nat.pow_le_pow_right (by omega) h7
  omega

theorem head_eq (s : ByteArray) (h : 0 < s.size) : s.data.toList.headD 0 = s[0] := by
  have : s.data.toList ≠ [] := by
    intro e
    have : s.size = 0 := by
      have := congrArg List.length e
      simpa using this
    omega
  rw [List.headD_eq_head?_getD, List.head?_eq_some_head this]
  simp [List.head_eq_getElem]
  rfl

theorem lead_of (s : ByteArray) (h : 0 < s.size) : lead s = (decide (1 < s.size) && (s[0] == 48)) := by
  rw [lead, head_eq s h]

def numb (s : ByteArray) : Int := if decOk s then decVal s.data.toList else -1

theorem byte_beq (c d : UInt8) : (c == d) = ((c.toNat : Int) == (d.toNat : Int)) := by
  rw [Bool.eq_iff_iff]
  simp [← UInt8.toNat_inj]
  omega

theorem tl (s : ByteArray) : s.toList = s.data.toList := ByteArray.toList_eq s
theorem len_data (s : ByteArray) : s.data.toList.length = s.size := Array.length_toList
theorem empty_no (s : ByteArray) (h : 1 ≤ s.size) : s.toList.isEmpty = false := by
  rw [tl]
  rw [← len_data] at h
  revert h
  cases s.data.toList with
  | nil => intro h; exact absurd h (by decide)
  | cons a l => intro _; rfl
theorem empty_yes (s : ByteArray) (h : ¬ 1 ≤ s.size) : s.toList.isEmpty = true := by
  rw [tl]
  rw [← len_data] at h
  revert h
  cases s.data.toList with
  | nil => intro _; rfl
  | cons a l => intro h; exact absurd (Nat.succ_le_succ (Nat.zero_le l.length)) h
theorem one_byte (s : ByteArray) (h : s.size = 1) (c : UInt8) (hc : s.data.toList.headD 0 = c) : (s.toList == [c]) = true := by
  rw [tl]
  have h' : s.data.toList.length = 1 := by rw [len_data]; exact h
  obtain ⟨a, ha⟩ := List.length_eq_one_iff.1 h'
  rw [ha] at hc ⊢
  simpa using hc
theorem more_bytes (s : ByteArray) (h : 1 < s.size) (c : UInt8) : (s.toList == [c]) = false := by
  rw [tl, beq_eq_false_iff_ne]
  intro e
  have := congrArg List.length e
  rw [len_data] at this
  have e1 : [c].length = 1 := rfl
  omega
end Go.Proofs.YtkjkklcflpchlaaGreat.Pl

namespace Go.Proofs.YtkjkklcflpchlaaGreat
open Go.RowKit Go.Deep

namespace Pl
def less (a b : ByteArray) : Bool := Op.bytesLess a.toList b.toList
def ascAt (l : List ByteArray) (i : Nat) : Bool := nameOk (l.getD i ByteArray.empty) && (decide (i = 0) || less (l.getD (i - 1) ByteArray.empty) (l.getD i ByteArray.empty))
def ascTo (l : List ByteArray) (k : Nat) : Bool := (List.range k).all (ascAt l)
def asc (l : List ByteArray) : Bool := ascTo l l.length
def isEmp (s : ByteArray) : Bool := s.toList.isEmpty

theorem to_succ (p : Nat → Bool) (k : Nat) : (List.range (k + 1)).all p = ((List.range k).all p && p k) := by
  rw [List.range_succ, List.all_append]; simp
theorem to_false (p : Nat → Bool) (n k : Nat) (h : k < n) (hp : p k = false) : (List.range n).all p = false := by
  rw [List.all_eq_false]
  exact ⟨k, List.mem_range.2 h, by simp [hp]⟩
end Pl

/-- The place of the first shape of a kind; the list's length, if there is none. -/
def kindAt (ss : List Shp) (k : ByteArray) : Nat := ss.findIdx (fun s => s.kind.toList == k.toList)
def hasKind (ss : List Shp) (k : ByteArray) : Bool := decide (kindAt ss k < ss.length)

def bareB (f : Fld) : Bool :=
  if f.kind = 1 then f.words.isEmpty && Pl.isEmp f.to && decide (f.role = 0)
  else if f.kind = 2 then decide (f.least = 0) && decide (f.most = 0) && Pl.isEmp f.to && decide (f.role = 0) && Pl.isEmp f.we
  else if f.kind = 3 then f.words.isEmpty && Pl.isEmp f.to && decide (f.role = 0) && Pl.isEmp f.we
  else decide (f.least = 0) && decide (f.most = 0) && f.words.isEmpty && Pl.isEmp f.we

def boundB (ss : List Shp) (f : Fld) : Bool :=
  if f.kind = 1 then decide (0 ≤ f.least) && decide (f.least ≤ f.most) && decide (f.most ≤ 1000000) && (Pl.isEmp f.we || Pl.nameOk f.we)
  else if f.kind = 2 then decide (1 ≤ f.words.length) && decide (f.words.length ≤ 6) && Pl.asc f.words
  else if f.kind = 3 then decide (1 ≤ f.least) && decide (f.least ≤ f.most) && decide (f.most ≤ 40)
  else hasKind ss f.to && decide (1 ≤ f.role) && decide (f.role ≤ 3) && Pl.isEmp f.de && (!decide (f.role = 2) || !f.must)

def isKind (k : Int) : Bool := decide (1 ≤ k) && decide (k ≤ 4)
def fitB (f : Fld) (v : ByteArray) : Bool := Pl.fits f.kind f.least f.most f.words v
def defB (f : Fld) : Bool := Pl.isEmp f.de || fitB f f.de
def fieldOk (ss : List Shp) (f : Fld) : Bool := isKind f.kind && bareB f && boundB ss f && defB f

def twice (fs : List Fld) (i : Nat) : Bool := (List.range i).any (fun j => (fs.getD j Fld.none).nm.toList == (fs.getD i Fld.none).nm.toList)
def fieldAt (ss : List Shp) (fs : List Fld) (i : Nat) : Bool := Pl.nameOk (fs.getD i Fld.none).nm && fieldOk ss (fs.getD i Fld.none) && !twice fs i
def fieldsTo (ss : List Shp) (fs : List Fld) (k : Nat) : Bool := (List.range k).all (fieldAt ss fs)
def fieldsOk (ss : List Shp) (fs : List Fld) : Bool := decide (fs.length ≤ 6) && fieldsTo ss fs fs.length
def shapeAt (ss : List Shp) (i : Nat) : Bool := Pl.nameOk (ss.getD i Shp.none).kind && (decide (i = 0) || Pl.less (ss.getD (i - 1) Shp.none).kind (ss.getD i Shp.none).kind) && fieldsOk ss (ss.getD i Shp.none).fields
def shapesTo (ss : List Shp) (k : Nat) : Bool := (List.range k).all (shapeAt ss)
def shapesOk (ss : List Shp) : Bool := decide (ss.length ≤ 6) && shapesTo ss ss.length

/-- A list of shapes of the call's own. -/
structure ShpsIn (w : World) (B : Nat) (ss : List Shp) : Prop where
  lt : B < w.heap.size
  len : ss.length ≤ 1048576
  small : ∀ s ∈ ss, s.small
  at_ : ∀ i, i < ss.length → OwnShp w B (i * 2) (ss.getD i Shp.none)
  own : OwnBlk w B 99 (ss.length * 2)

theorem ShpsIn.later {w w' : World} {B : Nat} {ss : List Shp} (h : ShpsIn w B ss) (hb : Below w.heap.size w w') : ShpsIn w' B ss :=
  ⟨Nat.lt_of_lt_of_le h.lt hb.size, h.len, h.small, fun i hi => (h.at_ i hi).later hb h.lt, h.own.later hb⟩

theorem kindAt_hit (ss : List Shp) (k : ByteArray) (i : Nat) (hi : i < ss.length) (hno : i ≤ kindAt ss k) (h : ((ss.getD i Shp.none).kind.toList == k.toList) = true) : kindAt ss k = i := by
  have e : ss.getD i Shp.none = ss[i] := by simp [hi]
  rw [e] at h
  have : kindAt ss k ≤ i := by
    unfold kindAt
    exact Nat.le_of_not_lt fun hlt => by
      have := List.not_of_lt_findIdx hlt
      simp [h] at this
  omega

theorem kindAt_miss (ss : List Shp) (k : ByteArray) (i : Nat) (hi : i < ss.length) (hno : i ≤ kindAt ss k) (h : ((ss.getD i Shp.none).kind.toList == k.toList) = false) : i + 1 ≤ kindAt ss k := by
  have e : ss.getD i Shp.none = ss[i] := by simp [hi]
  rw [e] at h
  by_cases hq : kindAt ss k = i
  · exfalso
    have hlt : kindAt ss k < ss.length := by omega
    have := List.findIdx_getElem (w := hlt)
    unfold kindAt at hq
    simp only [hq] at this
    rw [this] at h
    cases h
  · omega
end Go.Proofs.YtkjkklcflpchlaaGreat
