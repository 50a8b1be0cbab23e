/-
  Rules and acts as they lie in memory.
-/
import Derived.Test.YtfkkohfjkofgnaaGreatPlainT
namespace Go.Proofs.YtfkkohfjkofgnaaGreat
open Go.RowKit Go.Deep

/-- A slice of numbers, handed in. -/
def IntsAt (w : World) (v : Value) (l : List Int) : Prop :=
  (∃ a cap, v = .slice a 0 cap ∧ l = []) ∨ ∃ b off cap, v = .slice (some ⟨b, off, none⟩) l.length cap ∧ b < w.heap.size ∧ l.length ≤ maxLen ∧ ∀ i, i < l.length → w.cell? ⟨b, off + i, none⟩ = some (.int .i64 (l.getD i 0))

theorem IntsAt.later {w w' : World} {v : Value} {l : List Int} (h : IntsAt w v l) (hb : Below w.heap.size w w') : IntsAt w' v l := by
  rcases h with h | ⟨g, off, c, rfl, h1, h2, h3⟩
  · exact Or.inl h
  · exact Or.inr ⟨g, off, c, rfl, Nat.lt_of_lt_of_le h1 hb.size, h2, fun i hi => (hb.cell (p := ⟨g, off + i, none⟩) h1).trans (h3 i hi)⟩

theorem IntsAt.slice {w : World} {v : Value} {l : List Int} (h : IntsAt w v l) : ∃ a c, v = .slice a l.length c := by
  rcases h with ⟨a, c, rfl, rfl⟩ | ⟨b, off, c, rfl, _⟩
  · exact ⟨a, c, rfl⟩
  · exact ⟨_, c, rfl⟩

/-- Numbers in a block of the call's own. -/
structure IntsIn (w : World) (b : Nat) (l : List Int) : Prop where
  lt : b < w.heap.size
  len : l.length ≤ 1048576
  at_ : ∀ i, i < l.length → w.cell? ⟨b, i, none⟩ = some (.int .i64 (l.getD i 0))

theorem IntsIn.later {w w' : World} {b : Nat} {l : List Int} (h : IntsIn w b l) (hb : Below w.heap.size w w') : IntsIn w' b l :=
  ⟨Nat.lt_of_lt_of_le h.lt hb.size, h.len, fun i hi => (hb.cell (p := ⟨b, i, none⟩) h.lt).trans (h.at_ i hi)⟩

structure Rul where
  verbs : List Int
  kind : ByteArray
  team : ByteArray
  pre : ByteArray

structure Deed where
  verb : Int
  kind : ByteArray
  team : ByteArray
  name : ByteArray

def Rul.none : Rul := ⟨[], ByteArray.empty, ByteArray.empty, ByteArray.empty⟩
def Rul.sized (r : Rul) : Prop := r.kind.size ≤ maxLen ∧ r.team.size ≤ maxLen ∧ r.pre.size ≤ maxLen
def Deed.sized (d : Deed) : Prop := d.kind.size ≤ maxLen ∧ d.team.size ≤ maxLen ∧ d.name.size ≤ maxLen

/- What is plain of them. -/

def verbAt (l : List Int) (i : Nat) : Bool := decide (1 ≤ l.getD i 0) && decide (l.getD i 0 ≤ 5) && (decide (i = 0) || decide (l.getD (i - 1) 0 < l.getD i 0))
def verbsTo (l : List Int) (k : Nat) : Bool := (List.range k).all (verbAt l)
def verbsOk (l : List Int) : Bool := !l.isEmpty && verbsTo l l.length
def ruleOk (r : Rul) : Bool := verbsOk r.verbs && (r.kind.toList.isEmpty || Pl.nameOk r.kind) && (r.team.toList.isEmpty || Pl.nameOk r.team) && (decide (r.pre.size ≤ 16) && Pl.nameBytes r.pre)

theorem verbsOk_false {l : List Int} {k : Nat} (hk : k < l.length) (h : verbAt l k = false) : verbsOk l = false := by
  rw [verbsOk, verbsTo, Pl.to_false _ _ k hk h]; simp
theorem verbsTo_step {l : List Int} {k : Nat} (h : verbsTo l k = true) (ha : verbAt l k = true) : verbsTo l (k + 1) = true := by
  unfold verbsTo at h ⊢; rw [Pl.to_succ, h, ha]; rfl

def begins (s p : ByteArray) : Bool := decide (p.size ≤ s.size) && ((s.extract 0 p.size).toList == p.toList)
def kindIn (q : ByteArray) (k : ByteArray) : Bool := q.toList.isEmpty || (q.toList == k.toList)
def teamIn (ts : List Tm) (q : ByteArray) (k : ByteArray) : Bool := q.toList.isEmpty || under ts k q
def given (ts : List Tm) (q : Rul) (kind team name : ByteArray) : Bool := kindIn q.kind kind && teamIn ts q.team team && begins name q.pre
def hasVerb (l : List Int) (v : Int) : Bool := l.any (fun x => x == v)
def allows (ts : List Tm) (r : Rul) (d : Deed) : Bool := teamsOk ts && ruleOk r && (hasVerb r.verbs d.verb && given ts r d.kind d.team d.name)

/- Sets of verbs, a bit each. -/
def bit (v : Int) : Nat := 1 <<< v.toNat
def setTo (l : List Int) (k : Nat) : Nat := ((l.take k).map bit).foldl (· ||| ·) 0
def setOf (l : List Int) : Nat := (l.map bit).foldl (· ||| ·) 0

theorem setTo_succ (l : List Int) (k : Nat) (hk : k < l.length) : setTo l (k + 1) = setTo l k ||| bit (l.getD k 0) := by
  have e : l.getD k 0 = l[k] := by simp [hk]
  unfold setTo
  rw [List.take_succ_eq_append_getElem hk, List.map_append, List.foldl_append, e]; rfl
theorem setTo_all (l : List Int) (k : Nat) (hk : l.length ≤ k) : setTo l k = setOf l := by
  unfold setTo setOf; rw [List.take_of_length_le hk]

end Go.Proofs.YtfkkohfjkofgnaaGreat
