/-
  What marks may change, and what they leave; the mark of a text.
-/
import Derived.Laws.IdiomStrings
import Derived.Laws.BytesString
import Derived.Deep.RegionWith
import Derived.Test.YtjjobbalifjdkaaOwn
import Derived.Test.YtjjobbalifjdkaaPlain
namespace Go.Proofs.Ytjjobbalifjdkaa
open Go.RowKit Go.Deep

/-- Behind marks in blocks of S: other blocks are as they were; blocks of the call's own stay such. -/
structure Marks (S : Nat → Prop) (w w' : World) : Prop where
  os : w'.os = w.os
  tape : w'.tape = w.tape
  output : w'.output = w.output
  size : w.heap.size ≤ w'.heap.size
  block : ∀ p, p < w.heap.size → ¬ S p → w'.heap[p]? = w.heap[p]?
  own : ∀ b t m, OwnBlk w b t m → OwnBlk w' b t m

theorem Marks.refl (S : Nat → Prop) (w : World) : Marks S w w := ⟨rfl, rfl, rfl, Nat.le_refl _, fun _ _ _ => rfl, fun _ _ _ h => h⟩
theorem Marks.trans {S : Nat → Prop} {a b c : World} (h : Marks S a b) (k : Marks S b c) : Marks S a c :=
  ⟨k.os.trans h.os, k.tape.trans h.tape, k.output.trans h.output, Nat.le_trans h.size k.size, fun p hp hS => (k.block p (Nat.lt_of_lt_of_le hp h.size) hS).trans (h.block p hp hS), fun b t m ho => k.own b t m (h.own b t m ho)⟩
theorem Marks.mono {S S' : Nat → Prop} {w w' : World} (h : Marks S w w') (hs : ∀ p, S p → S' p) : Marks S' w w' :=
  ⟨h.os, h.tape, h.output, h.size, fun p hp hn => h.block p hp (fun e => hn (hs p e)), h.own⟩
theorem Marks.of_below (S : Nat → Prop) {w w' : World} (h : Below w.heap.size w w') : Marks S w w' :=
  ⟨h.os, h.tape, h.output, h.size, fun p hp _ => h.block p hp, fun _ _ _ ho => ho.later h⟩
theorem Marks.sc {S : Nat → Prop} (w : World) {b : Nat} (hS : S b) (o : Nat) (v : Value) : Marks S w (w.setCell ⟨b, o, none⟩ v) := by
  refine ⟨rfl, rfl, rfl, by simp [World.setCell], fun p _ hn => Below.heap_setCell w ⟨b, o, none⟩ v p (fun e => hn (by rw [show p = b from e]; exact hS)), fun b' t' m' h' => ?_⟩
  by_cases e : b' = b
  · subst e; exact h'.setCell o v
  · exact h'.sc_other e o v
theorem Marks.puts {S : Nat → Prop} {b : Nat} (hS : S b) (o : Nat) : ∀ (vs : List Value) (w : World) (j : Nat), Marks S w (puts w b o j vs)
  | [], w, _ => Marks.refl S w
  | v :: vs, w, j => (Marks.sc w hS (o + j) v).trans (Marks.puts hS o vs _ (j + 1))
theorem Marks.below {S : Nat → Prop} {a w w' : World} (h : Marks S w w') (hs : ∀ p, S p → a.heap.size ≤ p) (ha : Below a.heap.size a w) : Below a.heap.size a w' :=
  ⟨h.os.trans ha.os, h.tape.trans ha.tape, h.output.trans ha.output, Nat.le_trans ha.size h.size, fun p hp => (h.block p (Nat.lt_of_lt_of_le hp ha.size) (fun e => by have := hs p e; omega)).trans (ha.block p hp)⟩
theorem Marks.cell {S : Nat → Prop} {w w' : World} (h : Marks S w w') {b : Nat} (hb : b < w.heap.size) (hn : ¬ S b) (o : Nat) : w'.cell? ⟨b, o, none⟩ = w.cell? ⟨b, o, none⟩ :=
  World.cell?_of_block (w := w) (h.block b hb hn)

def mtF : Nat → Nat → ByteArray → ByteArray
  | 0, _, out => ⟨#[109]⟩ ++ out
  | f + 1, n, out => if n = 0 then ⟨#[109]⟩ ++ out else mtF f (n / 10) (⟨#[48 + UInt8.ofNat (n % 10)]⟩ ++ out)
def mt (k : Nat) : ByteArray := mtF k k ByteArray.empty
theorem mtF_zero (f : Nat) (out : ByteArray) : mtF f 0 out = ⟨#[109]⟩ ++ out := by cases f <;> simp [mtF]
theorem mtF_step (f n : Nat) (out : ByteArray) (h : 0 < n) : mtF (f + 1) n out = mtF f (n / 10) (⟨#[48 + UInt8.ofNat (n % 10)]⟩ ++ out) := by
  rw [mtF, if_neg (by omega)]
theorem ret_str {a b : ByteArray} (h : a = b) : Ending.returned (.string a) = .returned (.string b) := by rw [h]

end Go.Proofs.Ytjjobbalifjdkaa
