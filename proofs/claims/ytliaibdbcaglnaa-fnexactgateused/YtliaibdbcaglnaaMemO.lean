/-
  An object in memory, as it is handed in and as it is copied: sizes, copies, equality; boxes of seven cells.
-/
import Derived.Test.YtliaibdbcaglnaaMemL
import Derived.Test.YtliaibdbcaglnaaObj
namespace Go.Proofs.Ytliaibdbcaglnaa
open Go.RowKit Go.Deep

theorem Box3.new' (W : World) (p : Nat) (v0 v1 v2 : Value) (t : TypeId) (hp : p = W.heap.size) : Box3 (W.alloc (.cells #[v0, v1, v2] t)) p v0 v1 v2 := by
  subst hp; exact Box3.new W v0 v1 v2 t

/-- Seven cells of the block p. -/
structure Box7 (W : World) (p : Nat) (v0 v1 v2 v3 v4 v5 v6 : Value) : Prop where
  lt : p < W.heap.size
  x0 : W.cell? ⟨p, 0, none⟩ = some v0
  x1 : W.cell? ⟨p, 1, none⟩ = some v1
  x2 : W.cell? ⟨p, 2, none⟩ = some v2
  x3 : W.cell? ⟨p, 3, none⟩ = some v3
  x4 : W.cell? ⟨p, 4, none⟩ = some v4
  x5 : W.cell? ⟨p, 5, none⟩ = some v5
  x6 : W.cell? ⟨p, 6, none⟩ = some v6

theorem Box7.later {W W' : World} {p : Nat} {v0 v1 v2 v3 v4 v5 v6 : Value} (h : Box7 W p v0 v1 v2 v3 v4 v5 v6) (hb : Below W.heap.size W W') : Box7 W' p v0 v1 v2 v3 v4 v5 v6 := by
  have c : ∀ j, W'.cell? ⟨p, j, none⟩ = W.cell? ⟨p, j, none⟩ := fun j => hb.cell (p := ⟨p, j, none⟩) h.lt
  exact ⟨Nat.lt_of_lt_of_le h.lt hb.size, (c 0).trans h.x0, (c 1).trans h.x1, (c 2).trans h.x2, (c 3).trans h.x3, (c 4).trans h.x4, (c 5).trans h.x5, (c 6).trans h.x6⟩
theorem Box7.new' (W : World) (p : Nat) (v0 v1 v2 v3 v4 v5 v6 : Value) (t : TypeId) (hp : p = W.heap.size) : Box7 (W.alloc (.cells #[v0, v1, v2, v3, v4, v5, v6] t)) p v0 v1 v2 v3 v4 v5 v6 := by
  subst hp; exact ⟨by simp, by simp, by simp, by simp, by simp, by simp, by simp, by simp⟩
theorem Box7.past {W : World} {p : Nat} {v0 v1 v2 v3 v4 v5 v6 : Value} (h : Box7 W p v0 v1 v2 v3 v4 v5 v6) (o : Obj) : Box7 (W.alloc o) p v0 v1 v2 v3 v4 v5 v6 := h.later (blw_alloc (Below.refl _ _) o)

structure ObAt (w : World) (v1 v2 : Value) (o : Ob) : Prop where
  t1 : Texts w v1 o.values
  t2 : Texts w v2 o.holds
  sized : o.sized

structure ObIn (w : World) (b1 b2 : Nat) (o : Ob) : Prop where
  arg : ObArg w b1 b2 o
  z1 : ∀ i, i < o.values.length → (o.values.getD i ByteArray.empty).size ≤ maxLen
  z2 : ∀ i, i < o.holds.length → (o.holds.getD i ByteArray.empty).size ≤ maxLen
  sized : o.sized

theorem ObAt.later {w w' : World} {v1 v2 : Value} {o : Ob} (h : ObAt w v1 v2 o) (hb : Below w.heap.size w w') : ObAt w' v1 v2 o := ⟨h.t1.later hb, h.t2.later hb, h.sized⟩
theorem ObIn.later {w w' : World} {b1 b2 : Nat} {o : Ob} (h : ObIn w b1 b2 o) (hb : Below w.heap.size w w') : ObIn w' b1 b2 o := ⟨h.arg.later hb, h.z1, h.z2, h.sized⟩

theorem ObIn.texts1 {w : World} {b1 b2 : Nat} {o : Ob} (h : ObIn w b1 b2 o) : Texts w (.slice (some ⟨b1, 0, none⟩) o.values.length o.values.length) o.values :=
  Or.inr ⟨b1, 0, _, rfl, h.arg.lt1, h.z1, by have := h.arg.len1; unfold maxLen; omega, fun i hi => by rw [Nat.zero_add]; exact h.arg.at1 i hi⟩
theorem ObIn.texts2 {w : World} {b1 b2 : Nat} {o : Ob} (h : ObIn w b1 b2 o) : Texts w (.slice (some ⟨b2, 0, none⟩) o.holds.length o.holds.length) o.holds :=
  Or.inr ⟨b2, 0, _, rfl, h.arg.lt2, h.z2, by have := h.arg.len2; unfold maxLen; omega, fun i hi => by rw [Nat.zero_add]; exact h.arg.at2 i hi⟩

theorem szObA (o : Ob) (v1 v2 : Value) (left : Int) (w : World) (h0 : 0 ≤ left) (h1 : left ≤ 1048576) (h : ObAt w v1 v2 o) :
    Calls Try.prog 6 #[.agg #[.string o.kind, .string o.name, .string o.team, v1, .bool o.ending, v2, .int .i64 o.version], .int .i64 left] w fun e w' => (∃ r : Int, e = .returned (.int .i64 r) ∧ szP (o.values.length ≤ 1048576 ∧ o.holds.length ≤ 1048576) left r) ∧ Below w.heap.size w w' :=
  szObj o v1 v2 left w h0 h1 h.t1 h.t2 h.sized

theorem toObA (o : Ob) (v1 v2 : Value) (w : World) (hs : o.values.length ≤ 1048576 ∧ o.holds.length ≤ 1048576) (h : ObAt w v1 v2 o) :
    Calls Try.prog 9 #[.agg #[.string o.kind, .string o.name, .string o.team, v1, .bool o.ending, v2, .int .i64 o.version]] w fun e w' => (∃ b1 b2, e = .returned (.agg #[.string o.kind, .string o.name, .string o.team, .slice (some ⟨b1, 0, none⟩) o.values.length o.values.length, .bool o.ending, .slice (some ⟨b2, 0, none⟩) o.holds.length o.holds.length, .int .i64 o.version]) ∧ ObIn w' b1 b2 o) ∧ Below w.heap.size w w' := by
  refine (toObj o v1 v2 w hs.1 hs.2 h.t1 h.t2).mono ?_
  rintro e w' ⟨⟨b1, b2, rfl, h1, _⟩, hb⟩
  exact ⟨⟨b1, b2, rfl, h1, h.t1.sizes, h.t2.sizes, h.sized⟩, hb⟩

theorem eqObA (o : Ob) (b1 b2 q1 q2 : Nat) (w : World) (h : ObIn w b1 b2 o) (h' : ObIn w q1 q2 o) :
    Calls Try.prog 12 #[.agg #[.string o.kind, .string o.name, .string o.team, .slice (some ⟨b1, 0, none⟩) o.values.length o.values.length, .bool o.ending, .slice (some ⟨b2, 0, none⟩) o.holds.length o.holds.length, .int .i64 o.version], .agg #[.string o.kind, .string o.name, .string o.team, .slice (some ⟨q1, 0, none⟩) o.values.length o.values.length, .bool o.ending, .slice (some ⟨q2, 0, none⟩) o.holds.length o.holds.length, .int .i64 o.version]] w fun e w' => e = .returned (.bool true) ∧ Below w.heap.size w w' :=
  eqObj o _ _ _ _ w h.texts1 h.texts2 h'.texts1 h'.texts2

end Go.Proofs.Ytliaibdbcaglnaa
