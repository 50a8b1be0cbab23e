/-
  Ends: as they lie in memory; sizes, copies, equality.
-/
import Derived.Test.YtamhfnlogldpaaaMemBt
import Derived.Test.YtamhfnlogldpaaaPlain
namespace Go.Proofs.Ytamhfnlogldpaaa
open Go.RowKit Go.Deep


structure En where
  num : Int
  seen : Int

def En.none : En := ⟨0, 0⟩

def En.sized (_m : En) : Prop := True

structure EnIs (w : World) (b o : Nat) (m : En) : Prop where
  c0 : w.cell? ⟨b, o, none⟩ = some (.int .i64 m.num)
  c1 : w.cell? ⟨b, o + 1, none⟩ = some (.int .i64 m.seen)
  sized : m.sized

theorem EnIs.later {w w' : World} {b o : Nat} {m : En} (h : EnIs w b o m) (hb : Below w.heap.size w w') (hlt : b < w.heap.size) : EnIs w' b o m := by
  have c : ∀ j, w'.cell? ⟨b, j, none⟩ = w.cell? ⟨b, j, none⟩ := fun j => hb.cell (p := ⟨b, j, none⟩) hlt
  exact ⟨(c _).trans h.c0, (c _).trans h.c1, h.sized⟩

def EnsAt (w : World) (v : Value) (ms : List En) : Prop :=
  (∃ a cap, v = .slice a 0 cap ∧ ms = []) ∨ ∃ b off cap, v = .slice (some ⟨b, off, none⟩) ms.length cap ∧ b < w.heap.size ∧ ms.length ≤ maxLen ∧ ∀ i, i < ms.length → EnIs w b (off + i * 2) (ms.getD i En.none)

theorem EnsAt.later {w w' : World} {v : Value} {ms : List En} (h : EnsAt w v ms) (hb : Below w.heap.size w w') : EnsAt w' v ms := by
  rcases h with h | ⟨b, off, cap, rfl, h1, h2, h3⟩
  · exact Or.inl h
  · exact Or.inr ⟨b, off, cap, rfl, Nat.lt_of_lt_of_le h1 hb.size, h2, fun i hi => (h3 i hi).later hb h1⟩

structure EnsIn (w : World) (B : Nat) (ms : List En) : Prop where
  lt : B < w.heap.size
  len : ms.length ≤ 1048576
  at_ : ∀ i, i < ms.length → EnIs w B (i * 2) (ms.getD i En.none)
  own : OwnBlk w B 145 (ms.length * 2)

theorem EnsIn.later {w w' : World} {B : Nat} {ms : List En} (h : EnsIn w B ms) (hb : Below w.heap.size w w') : EnsIn w' B ms :=
  ⟨Nat.lt_of_lt_of_le h.lt hb.size, h.len, fun i hi => (h.at_ i hi).later hb h.lt, h.own.later hb⟩

theorem EnsIn.sc {w : World} {B p : Nat} {ms : List En} (h : EnsIn w B ms) (hp : p < B) (j : Nat) (v : Value) : EnsIn (w.setCell ⟨p, j, none⟩ v) B ms := by
  have c : ∀ q, (w.setCell ⟨p, j, none⟩ v).cell? ⟨B, q, none⟩ = w.cell? ⟨B, q, none⟩ := fun q => sc_ne _ _ _ _ _ _ (by omega)
  exact ⟨by rw [sc_size]; exact h.lt, h.len, fun i hi => by have h := h.at_ i hi; exact ⟨(c _).trans h.c0, (c _).trans h.c1, h.sized⟩, h.own.sc_other (by omega) _ _⟩

theorem EnIs.puts {w : World} {B o : Nat} {m : En} (h : EnIs w B o m) (o' : Nat) (vs : List Value) (ho : o + 2 ≤ o') : EnIs (puts w B o' 0 vs) B o m := by
  have c : ∀ j, j < o' → (Ytamhfnlogldpaaa.puts w B o' 0 vs).cell? ⟨B, j, none⟩ = w.cell? ⟨B, j, none⟩ := fun j hj => puts_other B o' B j vs w 0 (by omega)
  exact ⟨(c _ (by omega)).trans h.c0, (c _ (by omega)).trans h.c1, h.sized⟩

theorem own_put_en {w : World} {B : Nat} {t : TypeId} {n : Nat} (hO : OwnBlk w B t n) (o : Nat) (ho : o + 2 ≤ n) (m : En) (hs : m.sized) :
    EnIs (puts w B o 0 [.int .i64 m.num, .int .i64 m.seen]) B o m := by
  have c := fun i hi => puts_at o [.int .i64 m.num, .int .i64 m.seen] w 0 hO (by simp; omega) i hi
  exact ⟨c 0 (by simp), c 1 (by simp), hs⟩

theorem Try.info145 : (Try.prog.info? 145).map (fun i => (i.zero, i.size, i.bytes)) = some (some (.agg #[.int .i64 0, .int .i64 0]), 2, 16) := by kernel_rfl

theorem Try.underlying141' : Try.prog.underlying 141 = some (.slice 145) := by kernel_rfl

theorem make_en (n : Nat) (h : n ≤ 1048576) : ∃ cs : Array Value, cs.size = n * 2 ∧ ∀ W : World,
    (Instr.makeSlice 141 (.int .i64 (n : Int)) (.int .i64 (n : Int))).run Try.prog W = .ok (.slice (some ⟨W.heap.size, 0, none⟩) n n) (W.alloc (.cells cs 145)) := by
  obtain ⟨i, hi, hzz⟩ := Option.map_eq_some_iff.1 Try.info145
  simp only [Prod.mk.injEq] at hzz
  obtain ⟨hz, hs, hb⟩ := hzz
  refine ⟨madeCells (Value.agg #[.int .i64 0, .int .i64 0]).cells (n * 2), size_madeCells _ _, fun W => ?_⟩
  have hr := run_make (P := Try.prog) W 141 145 i _ Try.underlying141' hi hz .i64 .i64 n n (by omega) (Int.le_refl _) (by rw [hb]; omega) (by omega)
  simp only [Int.toNat_natCast, hs] at hr
  exact hr

end Go.Proofs.Ytamhfnlogldpaaa
