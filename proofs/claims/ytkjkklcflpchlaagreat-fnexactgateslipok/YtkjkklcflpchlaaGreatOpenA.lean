/-
  What reads as an ask lies in memory as the walks ask it.
-/
import Derived.Test.YtkjkklcflpchlaaGreatMemA
import Derived.Test.YtkjkklcflpchlaaGreatOpen
import Derived.Test.YtkjkklcflpchlaaGreatOpenR
namespace Go.Proofs.YtkjkklcflpchlaaGreat
open Go.ChangeShapes Go.WideShapes Go.ChangeAt Go.RowKit Go.Deep

theorem cellsAsk : Tryz.prog.cellsOf 32 = 15 := by kernel_rfl
theorem cellsRlA : Tryz.prog.cellsOf 30 = 4 := by kernel_rfl
theorem cellsTx : Tryz.prog.cellsOf 27 = 1 := by kernel_rfl

theorem listB15 {α : Type} {l : List α} (h : l.length = 15) : ∃ c0 c1 c2 c3 c4 c5 c6 c7 c8 c9 c10 c11 c12 c13 c14, l = [c0, c1, c2, c3, c4, c5, c6, c7, c8, c9, c10, c11, c12, c13, c14] := by
  match l, h with
  | [c0, c1, c2, c3, c4, c5, c6, c7, c8, c9, c10, c11, c12, c13, c14], _ => exact ⟨c0, c1, c2, c3, c4, c5, c6, c7, c8, c9, c10, c11, c12, c13, c14, rfl⟩
theorem listB12 {α : Type} {l : List α} (h : l.length = 12) : ∃ c0 c1 c2 c3 c4 c5 c6 c7 c8 c9 c10 c11, l = [c0, c1, c2, c3, c4, c5, c6, c7, c8, c9, c10, c11] := by
  match l, h with
  | [c0, c1, c2, c3, c4, c5, c6, c7, c8, c9, c10, c11], _ => exact ⟨c0, c1, c2, c3, c4, c5, c6, c7, c8, c9, c10, c11, rfl⟩

section
variable {H : Type} {enc : TypeId × Value → H} {W : World} {base : Nat} {sp : Nat → Bool} {held : Bool}

theorem open_ask {fuel : Nat} {cs : List Value} {x : DataW H × List MemPlace} (h : DataW.trod enc Tryz.prog W base sp held fuel 32 cs = some x) :
    ∃ (a : Ak) (v1 v2 : Value) (ra : Option Addr) (rc : Nat), cs = [.string a.who, .int .i64 a.verb, .string a.kind, .string a.name, .string a.team, v1, v2, .int .i64 a.seen, .string a.hold, .string a.to_, .slice ra a.rule.verbs.length rc, .string a.rule.kind, .string a.rule.team, .string a.rule.pre, .int .i64 a.number] ∧ AkAt W v1 v2 ra rc a := by
  obtain ⟨xs, n, _, _, hlen, hxs, hall⟩ := DataW.trod_struct Tryz.underlying32 h
  rw [cellsAsk] at hlen
  obtain ⟨c0, c1, c2, c3, c4, c5, c6, c7, c8, c9, c10, c11, c12, c13, c14, rfl⟩ := listB15 hlen
  obtain ⟨y0, y1, y2, y3, y4, y5, y6, y7, y8, y9, y10, y11, rfl⟩ := listB12 (l := xs) (by simpa using hxs)
  have a0 := hall 0 _ rfl
  have a1 := hall 1 _ rfl
  have a2 := hall 2 _ rfl
  have a3 := hall 3 _ rfl
  have a4 := hall 4 _ rfl
  have a5 := hall 5 _ rfl
  have a6 := hall 6 _ rfl
  have a7 := hall 7 _ rfl
  have a8 := hall 8 _ rfl
  have a9 := hall 9 _ rfl
  have a10 := hall 10 _ rfl
  have a11 := hall 11 _ rfl
  simp [cells9, cells3, cellsRlA, cellsTx] at a0 a1 a2 a3 a4 a5 a6 a7 a8 a9 a10 a11
  obtain ⟨k0, e0, _, s0⟩ := DataW.trod_string Tryz.underlying9 a0
  obtain ⟨k1, e1, _, _⟩ := DataW.trod_int Tryz.underlying3 a1
  obtain ⟨k2, e2, _, s2⟩ := DataW.trod_string Tryz.underlying9 a2
  obtain ⟨k3, e3, _, s3⟩ := DataW.trod_string Tryz.underlying9 a3
  obtain ⟨k4, e4, _, s4⟩ := DataW.trod_string Tryz.underlying9 a4
  obtain ⟨l5, t5⟩ := open_texts a5
  obtain ⟨l6, t6⟩ := open_texts a6
  obtain ⟨k7, e7, _, _⟩ := DataW.trod_int Tryz.underlying3 a7
  obtain ⟨k8, e8, _, s8⟩ := DataW.trod_string Tryz.underlying9 a8
  obtain ⟨k9, e9, _, s9⟩ := DataW.trod_string Tryz.underlying9 a9
  obtain ⟨r, ra, rc, hr, hl, hs, hi⟩ := open_rule a10
  obtain ⟨k11, e11, _, _⟩ := DataW.trod_int Tryz.underlying3 a11
  simp only [List.cons.injEq, and_true] at e0 e1 e2 e3 e4 e7 e8 e9 hr e11
  obtain ⟨rfl, rfl, rfl, rfl⟩ := hr
  subst e0 e1 e2 e3 e4 e7 e8 e9 e11
  exact ⟨⟨k0, k1, k2, k3, k4, l5, l6, k7, k8, k9, r, k11⟩, c5, c6, ra, rc, rfl, t5, t6, hi, s0, s2, s3, s4, s8, s9, hl, hs⟩
end
end Go.Proofs.YtkjkklcflpchlaaGreat
