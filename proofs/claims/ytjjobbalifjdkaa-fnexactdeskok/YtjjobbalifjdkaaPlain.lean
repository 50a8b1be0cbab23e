/-
  Plain functions on bytes, numbers and lists of texts: what a name, a decimal and a fitting value are. Nothing of the program.
-/
import Derived.WalkKit
namespace Go.Proofs.Ytjjobbalifjdkaa.Pl

def nameByte (c : UInt8) : Bool := (decide (97 ≤ c.toNat) && decide (c.toNat ≤ 122)) || (decide (48 ≤ c.toNat) && decide (c.toNat ≤ 57)) || decide (c.toNat = 45)
def nameBytes (s : ByteArray) : Bool := s.data.toList.all nameByte
def nameOk (s : ByteArray) : Bool := decide (1 ≤ s.size) && decide (s.size ≤ 16) && nameBytes s
def digit (c : UInt8) : Bool := decide (48 ≤ c.toNat) && decide (c.toNat ≤ 57)
def lead (s : ByteArray) : Bool := decide (1 < s.size) && (s.data.toList.headD 0 == 48)
def decOk (s : ByteArray) : Bool := decide (1 ≤ s.size) && decide (s.size ≤ 7) && !lead s && s.data.toList.all digit
def decVal (l : List UInt8) : Int := l.foldl (fun n c => n * 10 + ((c.toNat : Int) - 48)) 0
def has (ss : List ByteArray) (s : ByteArray) : Bool := ss.any (fun x => x.toList == s.toList)
def textByte (c : UInt8) : Bool := decide (33 ≤ c.toNat) && decide (c.toNat ≤ 126)
def textBytes (s : ByteArray) : Bool := s.data.toList.all textByte

def fits (kind least most : Int) (ss : List ByteArray) (v : ByteArray) : Bool :=
  if kind = 1 then decOk v && decide (least ≤ decVal v.data.toList) && decide (decVal v.data.toList ≤ most)
  else if kind = 2 then decide (1 ≤ v.size) && has ss v
  else if kind = 3 then decide (1 ≤ v.size) && textBytes v && decide (least ≤ (v.size : Int)) && decide ((v.size : Int) ≤ most)
  else if kind = 4 then nameOk v
  else false

theorem take_snoc (s : ByteArray) (k : Nat) (h : k < s.size) : s.data.toList.take (k + 1) = s.data.toList.take k ++ [s[k]] := by
  rw [List.take_succ_eq_append_getElem (by simpa using h)]; rfl

theorem all_snoc (p : UInt8 → Bool) (s : ByteArray) (k : Nat) (h : k < s.size) : (s.data.toList.take (k + 1)).all p = ((s.data.toList.take k).all p && p s[k]) := by
  rw [take_snoc s k h]; simp

theorem all_whole (p : UInt8 → Bool) (s : ByteArray) (k : Nat) (h : s.size ≤ k) : (s.data.toList.take k).all p = s.data.toList.all p := by
  rw [List.take_of_length_le (by simpa using h)]

theorem all_false (p : UInt8 → Bool) (s : ByteArray) (k : Nat) (h : k < s.size) (hp : p s[k] = false) : s.data.toList.all p = false := by
  rw [List.all_eq_false]
  exact ⟨s[k], List.getElem_mem (by simpa using h), by simp [hp]⟩

theorem has_snoc (ss : List ByteArray) (s : ByteArray) (k : Nat) (h : k < ss.length) : has (ss.take (k + 1)) s = (has (ss.take k) s || (ss[k].toList == s.toList)) := by
  unfold has; rw [List.take_succ_eq_append_getElem h, List.any_append]; simp only [List.any_cons, List.any_nil, Bool.or_false]

theorem has_true (ss : List ByteArray) (s : ByteArray) (k : Nat) (h : k < ss.length) (hp : (ss[k].toList == s.toList) = true) : has ss s = true := by
  simp only [has, List.any_eq_true]
  exact ⟨ss[k], List.getElem_mem h, hp⟩

theorem has_whole (ss : List ByteArray) (s : ByteArray) (k : Nat) (h : ss.length ≤ k) : has (ss.take k) s = has ss s := by
  rw [List.take_of_length_le h]

theorem ret_bool {a b : Bool} (h : a = b) : Ending.returned (.bool a) = .returned (.bool b) := by rw [h]
theorem ret_int {k : IntKind} {a b : Int} (h : a = b) : Ending.returned (.int k a) = .returned (.int k b) := by rw [h]

end Go.Proofs.Ytjjobbalifjdkaa.Pl
