/-
  Plain functions: what stands under what; when teams are ok.
-/
import Derived.Test.YtkehaeppnmlafaaMemT
import Derived.Test.YtkehaeppnmlafaaPlain
namespace Go.Proofs.Ytkehaeppnmlafaa
open Go.RowKit Go.Deep

namespace Pl
def less (a b : ByteArray) : Bool := Op.bytesLess a.toList b.toList
def isEmp (s : ByteArray) : Bool := s.toList.isEmpty

theorem to_succ (p : Nat → Bool) (k : Nat) : (List.range (k + 1)).all p = ((List.range k).all p && p k) := by
  rw [List.range_succ, List.all_append]; simp
theorem to_false (p : Nat → Bool) (n k : Nat) (h : k < n) (hp : p k = false) : (List.range n).all p = false := by
  rw [List.all_eq_false]
  exact ⟨k, List.mem_range.2 h, by simp [hp]⟩
theorem tl (s : ByteArray) : s.toList = s.data.toList := ByteArray.toList_eq s
theorem len_data (s : ByteArray) : s.data.toList.length = s.size := Array.length_toList
theorem empty_no (s : ByteArray) (h : 1 ≤ s.size) : s.toList.isEmpty = false := by
  rw [tl]
  rw [← len_data] at h
  revert h
  cases s.data.toList with
  | nil => intro h; exact absurd h (by decide)
  | cons a l => intro _; rfl
theorem name_full {s : ByteArray} (h : nameOk s = true) : s.toList.isEmpty = false := by
  simp only [nameOk, Bool.and_eq_true, decide_eq_true_eq] at h
  exact empty_no s h.1.1
end Pl

/-- What the first team of a name stands in. -/
def overOf : List Tm → ByteArray → ByteArray
  | [], _ => ByteArray.empty
  | t :: ts, n => if (t.nm.toList == n.toList) = true then t.ov else overOf ts n

theorem overOf_at (ts : List Tm) (n : ByteArray) (k : Nat) (hk : k < ts.length) :
    overOf (ts.drop k) n = if ((ts.getD k Tm.none).nm.toList == n.toList) = true then (ts.getD k Tm.none).ov else overOf (ts.drop (k + 1)) n := by
  have e : ts.getD k Tm.none = ts[k] := by simp [hk]
  rw [List.drop_eq_getElem_cons hk, e, overOf]

theorem overOf_end (ts : List Tm) (n : ByteArray) (k : Nat) (hk : ts.length ≤ k) : overOf (ts.drop k) n = ByteArray.empty := by
  rw [List.drop_of_length_le hk, overOf]

theorem overOf_size (n : ByteArray) : ∀ ts : List Tm, (∀ t ∈ ts, t.sized) → (overOf ts n).size ≤ maxLen
  | [], _ => by simp [overOf, maxLen]
  | t :: ts, h => by
    rw [overOf]
    split
    · exact (h t (by simp)).2
    · exact overOf_size n ts fun x hx => h x (by simp [hx])

theorem TmsIn.sized {w : World} {B : Nat} {ts : List Tm} (h : TmsIn w B ts) : ∀ t ∈ ts, t.sized := by
  intro t ht
  obtain ⟨i, hi, rfl⟩ := List.getElem_of_mem ht
  have := (h.at_ i hi).sized
  simpa [hi] using this

/-- Whether b is met in k steps from a. -/
def upTo (ts : List Tm) : Nat → ByteArray → ByteArray → Bool
  | 0, _, _ => false
  | k + 1, a, b => if Pl.isEmp (overOf ts a) = true then false else if ((overOf ts a).toList == b.toList) = true then true else upTo ts k (overOf ts a) b
def under (ts : List Tm) (a b : ByteArray) : Bool := (a.toList == b.toList) || upTo ts 4 a b

/-- Whether there is an end within k steps from a. -/
def high (ts : List Tm) : Nat → ByteArray → Bool
  | 0, _ => false
  | k + 1, a => if Pl.isEmp (overOf ts a) = true then true else high ts k (overOf ts a)

def isTeam (ts : List Tm) (n : ByteArray) : Bool := ts.any (fun t => t.nm.toList == n.toList)

def teamAt (ts : List Tm) (i : Nat) : Bool :=
  Pl.nameOk (ts.getD i Tm.none).nm && (decide (i = 0) || Pl.less (ts.getD (i - 1) Tm.none).nm (ts.getD i Tm.none).nm) && (Pl.isEmp (ts.getD i Tm.none).ov || isTeam ts (ts.getD i Tm.none).ov) && high ts 5 (ts.getD i Tm.none).nm
def teamsTo (ts : List Tm) (k : Nat) : Bool := (List.range k).all (teamAt ts)
def teamsOk (ts : List Tm) : Bool := decide (ts.length ≤ 12) && teamsTo ts ts.length

theorem teamsOk_false {ts : List Tm} {k : Nat} (hk : k < ts.length) (h : teamAt ts k = false) : teamsOk ts = false := by
  rw [teamsOk, teamsTo, Pl.to_false _ _ k hk h]; simp
theorem teamsTo_step {ts : List Tm} {k : Nat} (h : teamsTo ts k = true) (ha : teamAt ts k = true) : teamsTo ts (k + 1) = true := by
  unfold teamsTo at h ⊢; rw [Pl.to_succ, h, ha]; rfl

theorem isTeam_snoc (ts : List Tm) (n : ByteArray) (k : Nat) (h : k < ts.length) (hq : isTeam (ts.take k) n = false) (hn : ((ts.getD k Tm.none).nm.toList == n.toList) = false) : isTeam (ts.take (k + 1)) n = false := by
  have e : ts.getD k Tm.none = ts[k] := by simp [h]
  rw [e] at hn
  unfold isTeam at hq ⊢
  rw [List.take_succ_eq_append_getElem h, List.any_append, hq]; simp [hn]
theorem isTeam_hit (ts : List Tm) (n : ByteArray) (k : Nat) (h : k < ts.length) (hn : ((ts.getD k Tm.none).nm.toList == n.toList) = true) : isTeam ts n = true := by
  have e : ts.getD k Tm.none = ts[k] := by simp [h]
  rw [e] at hn
  unfold isTeam
  rw [List.any_eq_true]
  exact ⟨ts[k], List.getElem_mem h, hn⟩
theorem isTeam_all (ts : List Tm) (n : ByteArray) (k : Nat) (h : ts.length ≤ k) (hq : isTeam (ts.take k) n = false) : isTeam ts n = false := by
  rw [List.take_of_length_le h] at hq; exact hq

end Go.Proofs.Ytkehaeppnmlafaa
