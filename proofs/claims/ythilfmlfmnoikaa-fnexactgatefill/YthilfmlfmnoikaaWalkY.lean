/-
  Walks: the specification's l1FieldOk at any kind.
-/
import Derived.Test.YthilfmlfmnoikaaWalkX
namespace Go.Proofs.Ythilfmlfmnoikaa
open Go.RowKit Go.Deep

set_option maxHeartbeats 2000000 in
theorem l1Bare_0 (f : Fld) (b : Nat) (w : World) (hs : f.small) (h1 : (f.kind == 1) = false) (h2 : (f.kind == 2) = false) (h3 : (f.kind == 3) = false) (h4 : (f.kind == 4) = false) :
    Calls Try.prog 43 #[.agg #[.string f.nm, .int .i64 f.kind, .int .i64 f.least, .int .i64 f.most, .slice (some ⟨b, 0, none⟩) f.words.length f.words.length, .string f.to, .int .i64 f.role, .bool f.must, .bool f.fixed, .string f.de, .string f.we]] w fun e w' => (∃ r : Bool, e = .returned (.bool r)) ∧ Below w.heap.size w w' := by
  have hs' : f.words.length ≤ 1048576 := hs
  have g1 : (f.kind != 1) = true := by simp [bne, h1]
  have g2 : (f.kind != 2) = true := by simp [bne, h2]
  clear hs
  go_enter Try.func43, Try.ntmps43
  go_wp2
  all_goals go_ret
  all_goals exact ⟨⟨_, rfl⟩, blw_alloc (Below.refl _ _) _⟩

set_option maxHeartbeats 4000000 in
theorem fieldOkS_0 (f : Fld) (b : Nat) (v : Value) (ss : List Shp) (w : World) (hp : FldArg w b f) (h1 : (f.kind == 1) = false) (h2 : (f.kind == 2) = false) (h3 : (f.kind == 3) = false) (h4 : (f.kind == 4) = false) :
    Calls Try.prog 33 #[v, .agg #[.string f.nm, .int .i64 f.kind, .int .i64 f.least, .int .i64 f.most, .slice (some ⟨b, 0, none⟩) f.words.length f.words.length, .string f.to, .int .i64 f.role, .bool f.must, .bool f.fixed, .string f.de, .string f.we]] w fun e w' => e = .returned (.bool (Pl.nameOk f.nm && fieldOk ss f)) ∧ Below w.heap.size w w' := by
  have HP : Hid (FldArg w b f) := hp
  have hfo : fieldOk ss f = false := by
    simp only [beq_eq_false_iff_ne, ne_eq] at h1 h2 h3 h4
    have : isKind f.kind = false := by rw [Bool.eq_false_iff]; simp [isKind]; omega
    simp [fieldOk, this]
  have HBa : Hid (∀ W, Calls Try.prog 43 #[.agg #[.string f.nm, .int .i64 f.kind, .int .i64 f.least, .int .i64 f.most, .slice (some ⟨b, 0, none⟩) f.words.length f.words.length, .string f.to, .int .i64 f.role, .bool f.must, .bool f.fixed, .string f.de, .string f.we]] W fun e w' => (∃ r : Bool, e = .returned (.bool r)) ∧ Below W.heap.size W w') := fun W => l1Bare_0 f b W HP.out.small h1 h2 h3 h4
  have HFi : Hid (∀ W, Below w.heap.size w W → Calls Try.prog 44 #[.agg #[.string f.nm, .int .i64 f.kind, .int .i64 f.least, .int .i64 f.most, .slice (some ⟨b, 0, none⟩) f.words.length f.words.length, .string f.to, .int .i64 f.role, .bool f.must, .bool f.fixed, .string f.de, .string f.we], .string f.de] W fun e w' => e = .returned (.bool (fitB f f.de)) ∧ Below W.heap.size W w') := by
    intro W hW
    have Q := HP.out.later hW
    exact specFits_any f.nm f.kind f.least f.most b 0 f.words.length f.to f.role f.must f.fixed f.de f.we f.de f.words W Q.sized.2.2.1 Q.lt (by have : f.words.length ≤ 1048576 := Q.small; unfold maxLen; omega) Q.cells
  have hR : (Pl.nameOk f.nm && fieldOk ss f) = false := by rw [hfo]; simp
  rw [hR]
  have HN : Hid (f.nm.size ≤ maxLen) := HP.out.sized.1
  clear hp hfo hR HP
  cases hnm : Pl.nameOk f.nm
  · go_enter Try.func33, Try.ntmps33
    go_wp2_with (go_at_call 32; refine (l1NameOk_any _ _ HN.out).mono ?_; rintro e w' ⟨rfl, rfl⟩)
    go_ret
    exact ⟨rfl, blw_alloc (Below.refl _ _) _⟩
  go_enter Try.func33, Try.ntmps33
  go_wp2_with (go_at_call 32; refine (l1NameOk_any _ _ HN.out).mono ?_; rintro e w' ⟨rfl, rfl⟩)
  refine (HBa.out _).mono ?_
  rintro e w2 ⟨⟨r, rfl⟩, hb2⟩
  have hB2 := blw_trans (blw_alloc (Below.refl w.heap.size w) (.cells #[.string f.nm, .int .i64 f.kind, .int .i64 f.least, .int .i64 f.most, .slice (some ⟨b, 0, none⟩) f.words.length f.words.length, .string f.to, .int .i64 f.role, .bool f.must, .bool f.fixed, .string f.de, .string f.we] 61)) hb2
  have k2 : ∀ o, w2.cell? ⟨w.heap.size, o, none⟩ = (w.alloc (.cells #[.string f.nm, .int .i64 f.kind, .int .i64 f.least, .int .i64 f.most, .slice (some ⟨b, 0, none⟩) f.words.length f.words.length, .string f.to, .int .i64 f.role, .bool f.must, .bool f.fixed, .string f.de, .string f.we] 61)).cell? ⟨w.heap.size, o, none⟩ := fun o => hb2.cell (p := ⟨w.heap.size, o, none⟩) (by simp)
  have z2 : w.heap.size < w2.heap.size := by have := hb2.size; simp at this; omega
  clear hb2 HBa HN
  cases r
  · go_wp2
    go_ret
    exact ⟨rfl, hB2⟩
  cases hem : f.de.toList.isEmpty
  · cases hfi : fitB f f.de
    all_goals
      go_wp2_with fail
      refine (HFi.out _ hB2).mono ?_
      rintro e w3 ⟨rfl, hb3⟩
      have hB3 := blw_trans hB2 hb3
      have k3 : ∀ o, w3.cell? ⟨w.heap.size, o, none⟩ = (w.alloc (.cells #[.string f.nm, .int .i64 f.kind, .int .i64 f.least, .int .i64 f.most, .slice (some ⟨b, 0, none⟩) f.words.length f.words.length, .string f.to, .int .i64 f.role, .bool f.must, .bool f.fixed, .string f.de, .string f.we] 61)).cell? ⟨w.heap.size, o, none⟩ := fun o => (hb3.cell (p := ⟨w.heap.size, o, none⟩) z2).trans (k2 o)
      clear hb3 k2 HFi hB2 z2
      go_wp2
      go_ret
      exact ⟨rfl, hB3⟩
  · go_wp2
    go_ret
    exact ⟨rfl, hB2⟩

theorem fieldOkS (f : Fld) (b B : Nat) (ss : List Shp) (w : World) (h : ShpsIn w B ss) (hp : FldArg w b f) :
    Calls Try.prog 33 #[.slice (some ⟨B, 0, none⟩) ss.length ss.length, .agg #[.string f.nm, .int .i64 f.kind, .int .i64 f.least, .int .i64 f.most, .slice (some ⟨b, 0, none⟩) f.words.length f.words.length, .string f.to, .int .i64 f.role, .bool f.must, .bool f.fixed, .string f.de, .string f.we]] w fun e w' => e = .returned (.bool (Pl.nameOk f.nm && fieldOk ss f)) ∧ Below w.heap.size w w' := by
  by_cases h1 : f.kind = 1
  · have := fieldOkS_1 f b B ss w h1 h hp; rw [← h1] at this; exact this
  by_cases h2 : f.kind = 2
  · have := fieldOkS_2 f b B ss w h2 h hp; rw [← h2] at this; exact this
  by_cases h3 : f.kind = 3
  · have := fieldOkS_3 f b B ss w h3 h hp; rw [← h3] at this; exact this
  by_cases h4 : f.kind = 4
  · have := fieldOkS_4 f b B ss w h4 h hp; rw [← h4] at this; exact this
  exact fieldOkS_0 f b _ ss w hp (by simp [h1]) (by simp [h2]) (by simp [h3]) (by simp [h4])

end Go.Proofs.Ythilfmlfmnoikaa
