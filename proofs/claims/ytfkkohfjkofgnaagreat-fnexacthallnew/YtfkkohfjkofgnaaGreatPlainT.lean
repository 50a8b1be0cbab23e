/-
  Plain functions: what stands under what; when teams are ok.
-/
import Derived.Test.YtfkkohfjkofgnaaGreatOwn
import Derived.Test.YtfkkohfjkofgnaaGreatPlain
namespace Go.Proofs.YtfkkohfjkofgnaaGreat
open Go.RowKit Go.Deep

structure Tm where
  nm : ByteArray
  ov : ByteArray

def Tm.none : Tm := ⟨ByteArray.empty, ByteArray.empty⟩

def Tm.sized (m : Tm) : Prop := m.nm.size ≤ maxLen ∧ m.ov.size ≤ maxLen

/-- A team of two cells, from o on in block b. -/
structure TmIs (w : World) (b o : Nat) (m : Tm) : Prop where
  c0 : w.cell? ⟨b, o, none⟩ = some (.string m.nm)
  c1 : w.cell? ⟨b, o + 1, none⟩ = some (.string m.ov)
  sized : m.sized

theorem TmIs.later {w w' : World} {b o : Nat} {m : Tm} (h : TmIs w b o m) (hb : Below w.heap.size w w') (hlt : b < w.heap.size) : TmIs w' b o m := by
  have c : ∀ j, w'.cell? ⟨b, j, none⟩ = w.cell? ⟨b, j, none⟩ := fun j => hb.cell (p := ⟨b, j, none⟩) hlt
  exact ⟨(c _).trans h.c0, (c _).trans h.c1, h.sized⟩

def TmsAt (w : World) (v : Value) (ms : List Tm) : Prop :=
  (∃ a cap, v = .slice a 0 cap ∧ ms = []) ∨ ∃ b off cap, v = .slice (some ⟨b, off, none⟩) ms.length cap ∧ b < w.heap.size ∧ ms.length ≤ maxLen ∧ ∀ i, i < ms.length → TmIs w b (off + i * 2) (ms.getD i Tm.none)

theorem TmsAt.later {w w' : World} {v : Value} {ms : List Tm} (h : TmsAt w v ms) (hb : Below w.heap.size w w') : TmsAt w' v ms := by
  rcases h with h | ⟨b, off, cap, rfl, h1, h2, h3⟩
  · exact Or.inl h
  · exact Or.inr ⟨b, off, cap, rfl, Nat.lt_of_lt_of_le h1 hb.size, h2, fun i hi => (h3 i hi).later hb h1⟩

/-- A list of teams of the call's own. -/
structure TmsIn (w : World) (B : Nat) (ms : List Tm) : Prop where
  lt : B < w.heap.size
  len : ms.length ≤ 1048576
  at_ : ∀ i, i < ms.length → TmIs w B (i * 2) (ms.getD i Tm.none)

theorem TmsIn.later {w w' : World} {B : Nat} {ms : List Tm} (h : TmsIn w B ms) (hb : Below w.heap.size w w') : TmsIn w' B ms :=
  ⟨Nat.lt_of_lt_of_le h.lt hb.size, h.len, fun i hi => (h.at_ i hi).later hb h.lt⟩

theorem TmIs.puts {w : World} {B o : Nat} {m : Tm} (h : TmIs w B o m) (o' : Nat) (vs : List Value) (ho : o + 2 ≤ o') : TmIs (puts w B o' 0 vs) B o m := by
  have c : ∀ j, j < o' → (YtfkkohfjkofgnaaGreat.puts w B o' 0 vs).cell? ⟨B, j, none⟩ = w.cell? ⟨B, j, none⟩ := fun j hj => puts_other B o' B j vs w 0 (by omega)
  exact ⟨(c _ (by omega)).trans h.c0, (c _ (by omega)).trans h.c1, h.sized⟩

theorem own_put_tm {w : World} {B : Nat} {t : TypeId} {n : Nat} (hO : OwnBlk w B t n) (o : Nat) (ho : o + 2 ≤ n) (m : Tm) (hs : m.sized) :
    TmIs (puts w B o 0 [.string m.nm, .string m.ov]) B o m := by
  have c := fun i hi => puts_at o [.string m.nm, .string m.ov] w 0 hO (by simp; omega) i hi
  exact ⟨c 0 (by simp), c 1 (by simp), hs⟩

end Go.Proofs.YtfkkohfjkofgnaaGreat

namespace Go.Proofs.YtfkkohfjkofgnaaGreat
open Go.RowKit Go.Deep

namespace Pl
def less (a b : ByteArray) : Bool := Op.bytesLess a.toList b.toList
def isEmp (s : ByteArray) : Bool := s.toList.isEmpty

theorem to_succ (p : Nat → Bool) (k : Nat) : (List.range (k + 1)).all p = ((List.range k).all p && p k) := by
  rw [List.range_succ, List.all_append]; simp
theorem to_false (p : Nat → Bool) (n k : Nat) (h : k < n) (hp : p k = false) : (List.range n).all p = false := by
  rw [List.all_eq_false]
  exact ⟨k, List.mem_range.2 h, by simp [hp]⟩
theorem tl (s : ByteArray) : s.toList = s.data.toList := ByteArray.toList_eq s
theorem len_data (s : ByteArray) : s.data.toList.length = s.size := Array.length_toList
theorem empty_no (s : ByteArray) (h : 1 ≤ s.size) : s.toList.isEmpty = false := by
  rw [tl]
  rw [← len_data] at h
  revert h
  cases s.data.toList with
  | nil => intro h; exact absurd h (by decide)
  | cons a l => intro _; rfl
theorem name_full {s : ByteArray} (h : nameOk s = true) : s.toList.isEmpty = false := by
  simp only [nameOk, Bool.and_eq_true, decide_eq_true_eq] at h
  exact empty_no s h.1.1
end Pl

/-- What the first team of a name stands in. -/
def overOf : List Tm → ByteArray → ByteArray
  | [], _ => ByteArray.empty
  | t :: ts, n => if (t.nm.toList == n.toList) = true then t.ov else overOf ts n

theorem overOf_at (ts : List Tm) (n : ByteArray) (k : Nat) (hk : k < ts.length) :
    overOf (ts.drop k) n = if ((ts.getD k Tm.none).nm.toList == n.toList) = true then (ts.getD k Tm.none).ov else overOf (ts.drop (k + 1)) n := by
  have e : ts.getD k Tm.none = ts[k] := by simp [hk]
  rw [List.drop_eq_getElem_cons hk, e, overOf]

theorem overOf_end (ts : List Tm) (n : ByteArray) (k : Nat) (hk : ts.length ≤ k) : overOf (ts.drop k) n = ByteArray.empty := by
  rw [List.drop_of_length_le hk, overOf]

theorem overOf_size (n : ByteArray) : ∀ ts : List Tm, (∀ t ∈ ts, t.sized) → (overOf ts n).size ≤ maxLen
  | [], _ => by simp [overOf, maxLen]
  | t :: ts, h => by
    rw [overOf]
    split
    · exact (h t (by simp)).2
    · exact overOf_size n ts fun x hx => h x (by simp [hx])

theorem TmsIn.sized {w : World} {B : Nat} {ts : List Tm} (h : TmsIn w B ts) : ∀ t ∈ ts, t.sized := by
  intro t ht
  obtain ⟨i, hi, rfl⟩ := List.getElem_of_mem ht
  have := (h.at_ i hi).sized
  simpa [hi] using this

/-- Whether b is met in k steps from a. -/
def upTo (ts : List Tm) : Nat → ByteArray → ByteArray → Bool
  | 0, _, _ => false
  | k + 1, a, b => if Pl.isEmp (overOf ts a) = true then false else if ((overOf ts a).toList == b.toList) = true then true else upTo ts k (overOf ts a) b
def under (ts : List Tm) (a b : ByteArray) : Bool := (a.toList == b.toList) || upTo ts 4 a b

/-- Whether there is an end within k steps from a. -/
def high (ts : List Tm) : Nat → ByteArray → Bool
  | 0, _ => false
  | k + 1, a => if Pl.isEmp (overOf ts a) = true then true else high ts k (overOf ts a)

def isTeam (ts : List Tm) (n : ByteArray) : Bool := ts.any (fun t => t.nm.toList == n.toList)

def teamAt (ts : List Tm) (i : Nat) : Bool :=
  Pl.nameOk (ts.getD i Tm.none).nm && (decide (i = 0) || Pl.less (ts.getD (i - 1) Tm.none).nm (ts.getD i Tm.none).nm) && (Pl.isEmp (ts.getD i Tm.none).ov || isTeam ts (ts.getD i Tm.none).ov) && high ts 5 (ts.getD i Tm.none).nm
def teamsTo (ts : List Tm) (k : Nat) : Bool := (List.range k).all (teamAt ts)
def teamsOk (ts : List Tm) : Bool := decide (ts.length ≤ 12) && teamsTo ts ts.length

theorem teamsOk_false {ts : List Tm} {k : Nat} (hk : k < ts.length) (h : teamAt ts k = false) : teamsOk ts = false := by
  rw [teamsOk, teamsTo, Pl.to_false _ _ k hk h]; simp
theorem teamsTo_step {ts : List Tm} {k : Nat} (h : teamsTo ts k = true) (ha : teamAt ts k = true) : teamsTo ts (k + 1) = true := by
  unfold teamsTo at h ⊢; rw [Pl.to_succ, h, ha]; rfl

theorem isTeam_snoc (ts : List Tm) (n : ByteArray) (k : Nat) (h : k < ts.length) (hq : isTeam (ts.take k) n = false) (hn : ((ts.getD k Tm.none).nm.toList == n.toList) = false) : isTeam (ts.take (k + 1)) n = false := by
  have e : ts.getD k Tm.none = ts[k] := by simp [h]
  rw [e] at hn
  unfold isTeam at hq ⊢
  rw [List.take_succ_eq_append_getElem h, List.any_append, hq]; simp [hn]
theorem isTeam_hit (ts : List Tm) (n : ByteArray) (k : Nat) (h : k < ts.length) (hn : ((ts.getD k Tm.none).nm.toList == n.toList) = true) : isTeam ts n = true := by
  have e : ts.getD k Tm.none = ts[k] := by simp [h]
  rw [e] at hn
  unfold isTeam
  rw [List.any_eq_true]
  exact ⟨ts[k], List.getElem_mem h, hn⟩
theorem isTeam_all (ts : List Tm) (n : ByteArray) (k : Nat) (h : ts.length ≤ k) (hq : isTeam (ts.take k) n = false) : isTeam ts n = false := by
  rw [List.take_of_length_le h] at hq; exact hq

end Go.Proofs.YtfkkohfjkofgnaaGreat
