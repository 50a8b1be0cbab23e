/-
  What marks may change, and what they leave.
-/
import Derived.Test.YtfdahoekjpobaaaGreatOwn
import Derived.Test.YtfdahoekjpobaaaGreatWalkJ
namespace Go.Proofs.YtfdahoekjpobaaaGreat
open Go.RowKit Go.Deep

/-- Behind marks in blocks of S: other blocks are as they were; blocks of the call's own stay such; the slices in fields and shapes stay. -/
structure Marks (S : Nat → Prop) (w w' : World) : Prop where
  os : w'.os = w.os
  tape : w'.tape = w.tape
  output : w'.output = w.output
  size : w.heap.size ≤ w'.heap.size
  block : ∀ p, p < w.heap.size → ¬ S p → w'.heap[p]? = w.heap[p]?
  own : ∀ b t m, OwnBlk w b t m → OwnBlk w' b t m
  c27 : ∀ b m o, OwnBlk w b 84 m → o % 11 = 4 → w'.cell? ⟨b, o, none⟩ = w.cell? ⟨b, o, none⟩
  c66 : ∀ b m o, OwnBlk w b 56 m → o % 2 = 1 → w'.cell? ⟨b, o, none⟩ = w.cell? ⟨b, o, none⟩

theorem Marks.refl (S : Nat → Prop) (w : World) : Marks S w w := ⟨rfl, rfl, rfl, Nat.le_refl _, fun _ _ _ => rfl, fun _ _ _ h => h, fun _ _ _ _ _ => rfl, fun _ _ _ _ _ => rfl⟩

theorem Marks.trans {S : Nat → Prop} {a b c : World} (h : Marks S a b) (k : Marks S b c) : Marks S a c :=
  ⟨k.os.trans h.os, k.tape.trans h.tape, k.output.trans h.output, Nat.le_trans h.size k.size, fun p hp hS => (k.block p (Nat.lt_of_lt_of_le hp h.size) hS).trans (h.block p hp hS), fun b t m ho => k.own b t m (h.own b t m ho),
    fun b m o ho hm => (k.c27 b m o (h.own b 84 m ho) hm).trans (h.c27 b m o ho hm), fun b m o ho hm => (k.c66 b m o (h.own b 56 m ho) hm).trans (h.c66 b m o ho hm)⟩

theorem Marks.mono {S S' : Nat → Prop} {w w' : World} (h : Marks S w w') (hs : ∀ p, S p → S' p) : Marks S' w w' :=
  ⟨h.os, h.tape, h.output, h.size, fun p hp hn => h.block p hp (fun e => hn (hs p e)), h.own, h.c27, h.c66⟩

theorem Marks.of_below (S : Nat → Prop) {w w' : World} (h : Below w.heap.size w w') : Marks S w w' :=
  ⟨h.os, h.tape, h.output, h.size, fun p hp _ => h.block p hp, fun _ _ _ ho => ho.later h, fun b _ o ho _ => h.cell (p := ⟨b, o, none⟩) ho.lt, fun b _ o ho _ => h.cell (p := ⟨b, o, none⟩) ho.lt⟩

theorem Marks.sc {S : Nat → Prop} {w : World} {b : Nat} {t : TypeId} {m : Nat} (ho : OwnBlk w b t m) (hS : S b) (o : Nat) (v : Value) (h27 : t = 84 → o % 11 ≠ 4) (h66 : t = 56 → o % 2 ≠ 1) : Marks S w (w.setCell ⟨b, o, none⟩ v) := by
  refine ⟨rfl, rfl, rfl, by simp [World.setCell], fun p _ hn => Below.heap_setCell w ⟨b, o, none⟩ v p (fun e => hn (by rw [show p = b from e]; exact hS)), fun b' t' m' h' => ?_, fun b' m' o' h' hm => ?_, fun b' m' o' h' hm => ?_⟩
  · by_cases e : b' = b
    · subst e; exact h'.setCell o v
    · exact h'.sc_other e o v
  · refine sc_ne w b o v b' o' ?_
    by_cases e : b' = b
    · subst e
      have := ho.kind h'
      exact Or.inr (fun e2 => h27 this (by rw [← e2]; exact hm))
    · exact Or.inl e
  · refine sc_ne w b o v b' o' ?_
    by_cases e : b' = b
    · subst e
      have := ho.kind h'
      exact Or.inr (fun e2 => h66 this (by rw [← e2]; exact hm))
    · exact Or.inl e

theorem Marks.below {S : Nat → Prop} {a w w' : World} (h : Marks S w w') (hs : ∀ p, S p → a.heap.size ≤ p) (ha : Below a.heap.size a w) : Below a.heap.size a w' :=
  ⟨h.os.trans ha.os, h.tape.trans ha.tape, h.output.trans ha.output, Nat.le_trans ha.size h.size, fun p hp => (h.block p (Nat.lt_of_lt_of_le hp ha.size) (fun e => by have := hs p e; omega)).trans (ha.block p hp)⟩

theorem Marks.cell {S : Nat → Prop} {w w' : World} (h : Marks S w w') {b : Nat} (hb : b < w.heap.size) (hn : ¬ S b) (o : Nat) : w'.cell? ⟨b, o, none⟩ = w.cell? ⟨b, o, none⟩ :=
  World.cell?_of_block (w := w) (h.block b hb hn)

/-- A list of texts that may be marked. -/
def TxSk (w : World) (S : Nat → Prop) (v : Value) : Prop :=
  (∃ a c, v = .slice a 0 c) ∨ ∃ b n c m, v = .slice (some ⟨b, 0, none⟩) n c ∧ S b ∧ OwnBlk w b 9 m ∧ n ≤ m ∧ n ≤ 1048576
def FldsSk (w : World) (S : Nat → Prop) (v : Value) : Prop :=
  ∃ b n, v = .slice (some ⟨b, 0, none⟩) n n ∧ S b ∧ n ≤ 1048576 ∧ OwnBlk w b 84 (n * 11) ∧ ∀ j, j < n → ∃ v', w.cell? ⟨b, j * 11 + 4, none⟩ = some v' ∧ TxSk w S v'
def ShpsSk (w : World) (S : Nat → Prop) (B n : Nat) : Prop :=
  S B ∧ n ≤ 1048576 ∧ OwnBlk w B 56 (n * 2) ∧ ∀ i, i < n → ∃ v', w.cell? ⟨B, i * 2 + 1, none⟩ = some v' ∧ FldsSk w S v'

theorem TxSk.marks {S : Nat → Prop} {w w' : World} {v : Value} (h : TxSk w S v) (hm : Marks S w w') : TxSk w' S v := by
  rcases h with h | ⟨b, n, c, m, rfl, h1, h2, h3, h4⟩
  · exact Or.inl h
  · exact Or.inr ⟨b, n, c, m, rfl, h1, hm.own b 9 m h2, h3, h4⟩
theorem FldsSk.marks {S : Nat → Prop} {w w' : World} {v : Value} (h : FldsSk w S v) (hm : Marks S w w') : FldsSk w' S v := by
  obtain ⟨b, n, rfl, h1, h2, h3, h4⟩ := h
  refine ⟨b, n, rfl, h1, h2, hm.own b 84 _ h3, fun j hj => ?_⟩
  obtain ⟨v', h5, h6⟩ := h4 j hj
  exact ⟨v', (hm.c27 b _ _ h3 (by omega)).trans h5, h6.marks hm⟩
theorem ShpsSk.marks {S : Nat → Prop} {w w' : World} {B n : Nat} (h : ShpsSk w S B n) (hm : Marks S w w') : ShpsSk w' S B n := by
  obtain ⟨h1, h2, h3, h4⟩ := h
  refine ⟨h1, h2, hm.own B 56 _ h3, fun i hi => ?_⟩
  obtain ⟨v', h5, h6⟩ := h4 i hi
  exact ⟨v', (hm.c66 B _ _ h3 (by omega)).trans h5, h6.marks hm⟩

def mtF : Nat → Nat → ByteArray → ByteArray
  | 0, _, out => ⟨#[109]⟩ ++ out
  | f + 1, n, out => if n = 0 then ⟨#[109]⟩ ++ out else mtF f (n / 10) (⟨#[48 + UInt8.ofNat (n % 10)]⟩ ++ out)
def mt (k : Nat) : ByteArray := mtF k k ByteArray.empty
theorem mtF_zero (f : Nat) (out : ByteArray) : mtF f 0 out = ⟨#[109]⟩ ++ out := by cases f <;> simp [mtF]
theorem mtF_step (f n : Nat) (out : ByteArray) (h : 0 < n) : mtF (f + 1) n out = mtF f (n / 10) (⟨#[48 + UInt8.ofNat (n % 10)]⟩ ++ out) := by
  rw [mtF, if_neg (by omega)]
end Go.Proofs.YtfdahoekjpobaaaGreat
