/-
  Walks: objects: sizes, copies, equality, marks.
-/
import Derived.Laws.AppendOwnNone
import Derived.Laws.IdiomStrings
import Derived.Laws.BytesString
import Derived.Deep.RegionWith
import Derived.Test.YtkjkklcflpchlaaGreatOwn
import Derived.Test.YtkjkklcflpchlaaGreatWalkJ
import Derived.Test.YtkjkklcflpchlaaGreatWalkK
import Derived.Test.YtkjkklcflpchlaaGreatPuts
namespace Go.Proofs.YtkjkklcflpchlaaGreat
open Go.RowKit Go.Deep

/-- Behind marks in blocks of S: other blocks are as they were; blocks of the call's own stay such; the slices in fields and shapes stay. -/
structure Marks (S : Nat → Prop) (w w' : World) : Prop where
  os : w'.os = w.os
  tape : w'.tape = w.tape
  output : w'.output = w.output
  size : w.heap.size ≤ w'.heap.size
  block : ∀ p, p < w.heap.size → ¬ S p → w'.heap[p]? = w.heap[p]?
  own : ∀ b t m, OwnBlk w b t m → OwnBlk w' b t m
  c27 : ∀ b m o, OwnBlk w b 160 m → o % 11 = 4 → w'.cell? ⟨b, o, none⟩ = w.cell? ⟨b, o, none⟩
  c66 : ∀ b m o, OwnBlk w b 99 m → o % 2 = 1 → w'.cell? ⟨b, o, none⟩ = w.cell? ⟨b, o, none⟩

theorem Marks.refl (S : Nat → Prop) (w : World) : Marks S w w := ⟨rfl, rfl, rfl, Nat.le_refl _, fun _ _ _ => rfl, fun _ _ _ h => h, fun _ _ _ _ _ => rfl, fun _ _ _ _ _ => rfl⟩

theorem Marks.trans {S : Nat → Prop} {a b c : World} (h : Marks S a b) (k : Marks S b c) : Marks S a c :=
  ⟨k.os.trans h.os, k.tape.trans h.tape, k.output.trans h.output, Nat.le_trans h.size k.size, fun p hp hS => (k.block p (Nat.lt_of_lt_of_le hp h.size) hS).trans (h.block p hp hS), fun b t m ho => k.own b t m (h.own b t m ho),
    fun b m o ho hm => (k.c27 b m o (h.own b 160 m ho) hm).trans (h.c27 b m o ho hm), fun b m o ho hm => (k.c66 b m o (h.own b 99 m ho) hm).trans (h.c66 b m o ho hm)⟩

theorem Marks.mono {S S' : Nat → Prop} {w w' : World} (h : Marks S w w') (hs : ∀ p, S p → S' p) : Marks S' w w' :=
  ⟨h.os, h.tape, h.output, h.size, fun p hp hn => h.block p hp (fun e => hn (hs p e)), h.own, h.c27, h.c66⟩

theorem Marks.of_below (S : Nat → Prop) {w w' : World} (h : Below w.heap.size w w') : Marks S w w' :=
  ⟨h.os, h.tape, h.output, h.size, fun p hp _ => h.block p hp, fun _ _ _ ho => ho.later h, fun b _ o ho _ => h.cell (p := ⟨b, o, none⟩) ho.lt, fun b _ o ho _ => h.cell (p := ⟨b, o, none⟩) ho.lt⟩

theorem Marks.sc {S : Nat → Prop} {w : World} {b : Nat} {t : TypeId} {m : Nat} (ho : OwnBlk w b t m) (hS : S b) (o : Nat) (v : Value) (h27 : t = 160 → o % 11 ≠ 4) (h66 : t = 99 → o % 2 ≠ 1) : Marks S w (w.setCell ⟨b, o, none⟩ v) := by
  refine ⟨rfl, rfl, rfl, by simp [World.setCell], fun p _ hn => Below.heap_setCell w ⟨b, o, none⟩ v p (fun e => hn (by rw [show p = b from e]; exact hS)), fun b' t' m' h' => ?_, fun b' m' o' h' hm => ?_, fun b' m' o' h' hm => ?_⟩
  · by_cases e : b' = b
    · subst e; exact h'.setCell o v
    · exact h'.sc_other e o v
  · refine sc_ne w b o v b' o' ?_
    by_cases e : b' = b
    · subst e
      have := ho.kind h'
      exact Or.inr (fun e2 => h27 this (by rw [← e2]; exact hm))
    · exact Or.inl e
  · refine sc_ne w b o v b' o' ?_
    by_cases e : b' = b
    · subst e
      have := ho.kind h'
      exact Or.inr (fun e2 => h66 this (by rw [← e2]; exact hm))
    · exact Or.inl e

theorem Marks.below {S : Nat → Prop} {a w w' : World} (h : Marks S w w') (hs : ∀ p, S p → a.heap.size ≤ p) (ha : Below a.heap.size a w) : Below a.heap.size a w' :=
  ⟨h.os.trans ha.os, h.tape.trans ha.tape, h.output.trans ha.output, Nat.le_trans ha.size h.size, fun p hp => (h.block p (Nat.lt_of_lt_of_le hp ha.size) (fun e => by have := hs p e; omega)).trans (ha.block p hp)⟩

theorem Marks.cell {S : Nat → Prop} {w w' : World} (h : Marks S w w') {b : Nat} (hb : b < w.heap.size) (hn : ¬ S b) (o : Nat) : w'.cell? ⟨b, o, none⟩ = w.cell? ⟨b, o, none⟩ :=
  World.cell?_of_block (w := w) (h.block b hb hn)

/-- A list of texts that may be marked. -/
def TxSk (w : World) (S : Nat → Prop) (v : Value) : Prop :=
  (∃ a c, v = .slice a 0 c) ∨ ∃ b n c m, v = .slice (some ⟨b, 0, none⟩) n c ∧ S b ∧ OwnBlk w b 9 m ∧ n ≤ m ∧ n ≤ 1048576
def FldsSk (w : World) (S : Nat → Prop) (v : Value) : Prop :=
  ∃ b n, v = .slice (some ⟨b, 0, none⟩) n n ∧ S b ∧ n ≤ 1048576 ∧ OwnBlk w b 160 (n * 11) ∧ ∀ j, j < n → ∃ v', w.cell? ⟨b, j * 11 + 4, none⟩ = some v' ∧ TxSk w S v'
def ShpsSk (w : World) (S : Nat → Prop) (B n : Nat) : Prop :=
  S B ∧ n ≤ 1048576 ∧ OwnBlk w B 99 (n * 2) ∧ ∀ i, i < n → ∃ v', w.cell? ⟨B, i * 2 + 1, none⟩ = some v' ∧ FldsSk w S v'

theorem TxSk.marks {S : Nat → Prop} {w w' : World} {v : Value} (h : TxSk w S v) (hm : Marks S w w') : TxSk w' S v := by
  rcases h with h | ⟨b, n, c, m, rfl, h1, h2, h3, h4⟩
  · exact Or.inl h
  · exact Or.inr ⟨b, n, c, m, rfl, h1, hm.own b 9 m h2, h3, h4⟩
theorem FldsSk.marks {S : Nat → Prop} {w w' : World} {v : Value} (h : FldsSk w S v) (hm : Marks S w w') : FldsSk w' S v := by
  obtain ⟨b, n, rfl, h1, h2, h3, h4⟩ := h
  refine ⟨b, n, rfl, h1, h2, hm.own b 160 _ h3, fun j hj => ?_⟩
  obtain ⟨v', h5, h6⟩ := h4 j hj
  exact ⟨v', (hm.c27 b _ _ h3 (by omega)).trans h5, h6.marks hm⟩
theorem ShpsSk.marks {S : Nat → Prop} {w w' : World} {B n : Nat} (h : ShpsSk w S B n) (hm : Marks S w w') : ShpsSk w' S B n := by
  obtain ⟨h1, h2, h3, h4⟩ := h
  refine ⟨h1, h2, hm.own B 99 _ h3, fun i hi => ?_⟩
  obtain ⟨v', h5, h6⟩ := h4 i hi
  exact ⟨v', (hm.c66 B _ _ h3 (by omega)).trans h5, h6.marks hm⟩

def mtF : Nat → Nat → ByteArray → ByteArray
  | 0, _, out => ⟨#[109]⟩ ++ out
  | f + 1, n, out => if n = 0 then ⟨#[109]⟩ ++ out else mtF f (n / 10) (⟨#[48 + UInt8.ofNat (n % 10)]⟩ ++ out)
def mt (k : Nat) : ByteArray := mtF k k ByteArray.empty
theorem mtF_zero (f : Nat) (out : ByteArray) : mtF f 0 out = ⟨#[109]⟩ ++ out := by cases f <;> simp [mtF]
theorem mtF_step (f n : Nat) (out : ByteArray) (h : 0 < n) : mtF (f + 1) n out = mtF f (n / 10) (⟨#[48 + UInt8.ofNat (n % 10)]⟩ ++ out) := by
  rw [mtF, if_neg (by omega)]
end Go.Proofs.YtkjkklcflpchlaaGreat

namespace Go.Proofs.YtkjkklcflpchlaaGreat
open Go.RowKit Go.Deep

/-- A list of texts in a block of the call's own from lo on, below hi, or nil. -/
def CT (w : World) (lo hi : Nat) (v : Value) (ss : List ByteArray) : Prop :=
  (v = .slice none 0 0 ∧ ss = []) ∨ ∃ g cap, v = .slice (some ⟨g, 0, none⟩) ss.length cap ∧ lo ≤ g ∧ g < hi ∧ OwnBlk w g 9 cap ∧ ss.length ≤ cap ∧ ∀ i, i < ss.length → w.cell? ⟨g, i, none⟩ = some (.string (ss.getD i ByteArray.empty))

theorem CT.of_owns {w : World} {lo : Nat} {v : Value} {ss : List ByteArray} (h : w.ownsRow lo 9 1 v ss.length (ss.map Value.string)) : CT w lo w.heap.size v ss := by
  rcases h with ⟨_, ⟨rfl, hn⟩ | ⟨g, cap, cur, rfl, hg, hb, hn, _, hcs, ht⟩⟩
  · exact Or.inl ⟨rfl, List.length_eq_zero_iff.1 hn⟩
  · have hO : OwnBlk w g 9 cap := ⟨cur, hb, by omega⟩
    refine Or.inr ⟨g, cap, rfl, hg, hO.lt, hO, hn, fun i hi => ?_⟩
    have hc : w.cell? ⟨g, i, none⟩ = cur[i]? := by simp [World.cell?, hb]
    rw [hc]
    have e : (cur.toList.take (ss.length * 1))[i]? = (ss.map Value.string)[i]? := by rw [ht]
    rw [List.getElem?_take, if_pos (by omega)] at e
    rw [← Array.getElem?_toList, e]
    simp [hi]

theorem CT.later {w w' : World} {lo hi : Nat} {v : Value} {ss : List ByteArray} (h : CT w lo hi v ss) (hb : Below w.heap.size w w') : CT w' lo hi v ss := by
  rcases h with h | ⟨g, cap, rfl, h1, h1', h2, h3, h4⟩
  · exact Or.inl h
  · exact Or.inr ⟨g, cap, rfl, h1, h1', h2.later hb, h3, fun i hi => (hb.cell (p := ⟨g, i, none⟩) h2.lt).trans (h4 i hi)⟩

theorem CT.sc {w : World} {lo hi : Nat} {v : Value} {ss : List ByteArray} (h : CT w lo hi v ss) {B : Nat} (hB : B < lo ∨ hi ≤ B) (o : Nat) (x : Value) : CT (w.setCell ⟨B, o, none⟩ x) lo hi v ss := by
  rcases h with h | ⟨g, cap, rfl, h1, h1', h2, h3, h4⟩
  · exact Or.inl h
  · exact Or.inr ⟨g, cap, rfl, h1, h1', h2.sc_other (by omega) o x, h3, fun i hi => (sc_ne w B o x g i (Or.inl (by omega))).trans (h4 i hi)⟩

theorem CT.mono {w : World} {lo hi lo' hi' : Nat} {v : Value} {ss : List ByteArray} (h : CT w lo hi v ss) (h1 : lo' ≤ lo) (h2 : hi ≤ hi') : CT w lo' hi' v ss := by
  rcases h with h | ⟨g, cap, rfl, g1, g2, g3, g4, g5⟩
  · exact Or.inl h
  · exact Or.inr ⟨g, cap, rfl, by omega, by omega, g3, g4, g5⟩

theorem below_of_grown {w w' : World} (hg : w.grownBy w' none) : Below w.heap.size w w' := Below.grown (Below.refl _ _) hg (Nat.le_refl _) (fun k e => by cases e)


theorem wpList_append_ownG {P : Program} (w : World) {ops : Array Oper} {rest : List Oper} {o : Oper} {a : Act} {Q : Exit → Act → World → Prop} (hgd : o.guard = none) (s x : Operand) (t : TypeId)
    (ho : o.op = .call { callee := .builtin .append, args := #[s, x], argTypes := #[t, t] })
    (base : Nat) (e : TypeId) (i : TypeInfo) (z : Value) (size bytes : Nat) (ht : P.underlying t = some (.slice e)) (hi : P.info? e = some i) (hz : i.zero = some z)
    (hsize : i.size = size) (hby : i.bytes = bytes) (hzs : z.cells.size = size) (hsz : 0 < size)
    (v : Value) (n : Nat) (xs : List Value) (hs : a.eval s = v) (hown : w.ownsRow base e size v n xs)
    (ad : Option Addr) (m c : Nat) (news : List Value) (hx : a.eval x = .slice ad m c) (hl : news.length = m * size)
    (hsrc : (ad = none ∧ m = 0 ∧ c = 0) ∨ ∃ a0, ad = some a0 ∧ ∀ j u, news[j]? = some u → w.cell? (a0.add j) = some u) (h1 : ∀ u ∈ news, u.oneCell' = true)
    (h63 : n + m ≤ maxLen) (hbytes : (n + m) * bytes ≤ 140737488355328) (hbase : base ≤ w.heap.size)
    (h : ∀ v' w', w'.ownsRow base e size v' (n + m) (xs ++ news) → w.grownBy w' v.ownBlock → (v' = .slice none 0 0 ↔ v = .slice none 0 0 ∧ m = 0) → wpList P ops Q rest (a.put o.dst v') w') : wpList P ops Q (o :: rest) a w := by
  rcases hsrc with ⟨rfl, rfl, rfl⟩ | ⟨a0, rfl, hnews⟩
  · have hn : news = [] := List.length_eq_zero_iff.1 (by simpa using hl)
    subst hn
    exact wpList_append_own_none hgd s x t ho base e i size ht hi v n xs hs hown hx (h v w (by simpa using hown) (World.grownBy.refl _ _) (by simp))
  · exact wpList_append_own w hgd s x t ho base e i z size bytes ht hi hz hsize hby hzs hsz v n xs hs hown a0 m c news hx hl hnews h1 h63 hbytes hbase h

/-- A list of texts that is handed in: in a block, or nil. -/
def TxG (w : World) (a : Option Addr) (c : Nat) (ss : List ByteArray) : Prop :=
  (a = none ∧ c = 0 ∧ ss = []) ∨ ∃ b, a = some ⟨b, 0, none⟩ ∧ b < w.heap.size ∧ ∀ i, i < ss.length → w.cell? ⟨b, i, none⟩ = some (.string (ss.getD i ByteArray.empty))

theorem TxG.later {w w' : World} {a : Option Addr} {c : Nat} {ss : List ByteArray} (h : TxG w a c ss) (hb : Below w.heap.size w w') : TxG w' a c ss := by
  rcases h with h | ⟨b, rfl, h1, h2⟩
  · exact Or.inl h
  · exact Or.inr ⟨b, rfl, Nat.lt_of_lt_of_le h1 hb.size, fun i hi => (hb.cell (p := ⟨b, i, none⟩) h1).trans (h2 i hi)⟩

theorem CT.g {w : World} {lo hi n c : Nat} {a : Option Addr} {ss : List ByteArray} (h : CT w lo hi (.slice a n c) ss) : n = ss.length ∧ TxG w a c ss := by
  rcases h with ⟨h, rfl⟩ | ⟨g, cap, h, _, _, h4, _, h6⟩
  · injection h with h1 h2 h3
    exact ⟨h2, Or.inl ⟨h1, h3, rfl⟩⟩
  · injection h with h1 h2 h3
    exact ⟨h2, Or.inr ⟨g, h1, h4.lt, h6⟩⟩

theorem src_cells {w : World} {b : Nat} {ss : List ByteArray} (hc : ∀ i, i < ss.length → w.cell? ⟨b, i, none⟩ = some (.string (ss.getD i ByteArray.empty))) :
    ∀ j u, (ss.map Value.string)[j]? = some u → w.cell? (Addr.add ⟨b, 0, none⟩ j) = some u := by
  intro j u hj
  rw [List.getElem?_map] at hj
  cases hq : ss[j]? with
  | none => rw [hq] at hj; cases hj
  | some s =>
    rw [hq] at hj
    have hjl : j < ss.length := by
      by_cases hjl : j < ss.length
      · exact hjl
      · rw [List.getElem?_eq_none (by omega)] at hq; cases hq
    have := hc j hjl
    have e : ss.getD j ByteArray.empty = s := by simp [hq]
    rw [e] at this
    injection hj with hj
    rw [← hj]
    by_cases h0 : j = 0
    · subst h0; simpa [Addr.add] using this
    · simpa [Addr.add, h0] using this

theorem TxG.src {w : World} {a : Option Addr} {c : Nat} {ss : List ByteArray} (h : TxG w a c ss) : (a = none ∧ ss.length = 0 ∧ c = 0) ∨ ∃ a0, a = some a0 ∧ ∀ j u, (ss.map Value.string)[j]? = some u → w.cell? (a0.add j) = some u := by
  rcases h with ⟨rfl, rfl, rfl⟩ | ⟨b, rfl, _, h⟩
  · exact Or.inl ⟨rfl, rfl, rfl⟩
  · exact Or.inr ⟨_, rfl, src_cells h⟩

end Go.Proofs.YtkjkklcflpchlaaGreat

namespace Go.Proofs.YtkjkklcflpchlaaGreat
open Go.RowKit Go.Deep

structure Ob where
  kind : ByteArray
  name : ByteArray
  team : ByteArray
  values : List ByteArray
  ending : Bool
  holds : List ByteArray
  version : Int

/-- An object that is handed in: its lists lie in the blocks b1, b2. -/
structure ObArg (w : World) (b1 b2 : Nat) (o : Ob) : Prop where
  lt1 : b1 < w.heap.size
  lt2 : b2 < w.heap.size
  len1 : o.values.length ≤ 1048576
  len2 : o.holds.length ≤ 1048576
  at1 : ∀ i, i < o.values.length → w.cell? ⟨b1, i, none⟩ = some (.string (o.values.getD i ByteArray.empty))
  at2 : ∀ i, i < o.holds.length → w.cell? ⟨b2, i, none⟩ = some (.string (o.holds.getD i ByteArray.empty))

theorem ObArg.later {w w' : World} {b1 b2 : Nat} {o : Ob} (h : ObArg w b1 b2 o) (hb : Below w.heap.size w w') : ObArg w' b1 b2 o :=
  ⟨Nat.lt_of_lt_of_le h.lt1 hb.size, Nat.lt_of_lt_of_le h.lt2 hb.size, h.len1, h.len2, fun i hi => (hb.cell (p := ⟨b1, i, none⟩) h.lt1).trans (h.at1 i hi), fun i hi => (hb.cell (p := ⟨b2, i, none⟩) h.lt2).trans (h.at2 i hi)⟩

/-- An object that is handed in: its lists lie in blocks, or are nil. -/
structure ObG (w : World) (b1 : Option Addr) (c1 : Nat) (b2 : Option Addr) (c2 : Nat) (o : Ob) : Prop where
  len1 : o.values.length ≤ 1048576
  len2 : o.holds.length ≤ 1048576
  at1 : TxG w b1 c1 o.values
  at2 : TxG w b2 c2 o.holds

theorem ObG.later {w w' : World} {b1 b2 : Option Addr} {c1 c2 : Nat} {o : Ob} (h : ObG w b1 c1 b2 c2 o) (hb : Below w.heap.size w w') : ObG w' b1 c1 b2 c2 o :=
  ⟨h.len1, h.len2, h.at1.later hb, h.at2.later hb⟩

theorem ObArg.g {w : World} {b1 b2 : Nat} {o : Ob} (c1 c2 : Nat) (h : ObArg w b1 b2 o) : ObG w (some ⟨b1, 0, none⟩) c1 (some ⟨b2, 0, none⟩) c2 o :=
  ⟨h.len1, h.len2, Or.inr ⟨b1, rfl, h.lt1, h.at1⟩, Or.inr ⟨b2, rfl, h.lt2, h.at2⟩⟩

end Go.Proofs.YtkjkklcflpchlaaGreat

namespace Go.Proofs.YtkjkklcflpchlaaGreat
open Go.RowKit Go.Deep

theorem sc_size' (w : World) (a : Addr) (v : Value) : (w.setCell a v).heap.size = w.heap.size := by simp [World.setCell]

theorem one_cells (ss : List ByteArray) : ∀ u ∈ ss.map Value.string, u.oneCell' = true := by
  intro u hu; simp at hu; obtain ⟨s, _, rfl⟩ := hu; rfl

theorem owns_empty (W : World) (base : Nat) (h : base ≤ W.heap.size) : (W.alloc (.cells #[] 9)).ownsRow base 9 1 (.slice (some ⟨W.heap.size, 0, none⟩) 0 0) 0 [] :=
  ⟨rfl, Or.inr ⟨W.heap.size, 0, #[], rfl, h, by show (W.heap.push _)[W.heap.size]? = _; simp, Nat.le_refl _, by unfold maxLen; omega, rfl, rfl⟩⟩

theorem OwnBlk.laterB {w w' : World} {B b : Nat} {t : TypeId} {m : Nat} (h : OwnBlk w b t m) (hb : Below B w w') (hlt : b < B) : OwnBlk w' b t m := by
  obtain ⟨cs, h1, h2⟩ := h
  exact ⟨cs, by rw [hb.block b hlt]; exact h1, h2⟩

end Go.Proofs.YtkjkklcflpchlaaGreat

namespace Go.Proofs.YtkjkklcflpchlaaGreat

def fB (k q : Nat) : Nat := k + q * 1048596
def sB (k q : Nat) : Nat := k + q * 1099600000000
def fTop (k : Nat) : Nat := fB k 1048576
def sTop (k : Nat) : Nat := sB k 1048576
theorem fB_zero (k : Nat) : fB k 0 = k := by simp [fB]
theorem sB_zero (k : Nat) : sB k 0 = k := by simp [sB]
theorem fB_step {k q a b : Nat} (h : a ≤ fB k q) (hb : b ≤ a + 1048596) : b ≤ fB k (q + 1) := by unfold fB at h ⊢; omega
theorem fB_small {k q a : Nat} (h : a ≤ fB k q) (hk : k ≤ 2000000000000000000) (hq : q ≤ 1048576) : a ≤ 2100000000000000000 := by unfold fB at h; omega
theorem fB_top {k q a : Nat} (h : a ≤ fB k q) (hq : q ≤ 1048576) : a ≤ fTop k := Nat.le_trans h (Nat.add_le_add_left (Nat.mul_le_mul_right _ hq) k)
theorem fTop_le (k : Nat) : fTop k ≤ k + 1099550000000 := by unfold fTop fB; omega
theorem sB_step {k q a b : Nat} (h : a ≤ sB k q) (hb : b ≤ fTop (a + 1)) : b ≤ sB k (q + 1) := by have := fTop_le (a + 1); unfold sB at h ⊢; omega
theorem sB_small {k q a : Nat} (h : a ≤ sB k q) (hk : k ≤ 1048576) (hq : q ≤ 1048576) : a ≤ 1200000000000000000 := by unfold sB at h; omega
theorem sB_top {k q a : Nat} (h : a ≤ sB k q) (hq : q ≤ 1048576) : a ≤ sTop k := Nat.le_trans h (Nat.add_le_add_left (Nat.mul_le_mul_right _ hq) k)
theorem sTop_le {k : Nat} (hk : k ≤ 1048576) : sTop k ≤ 1200000000000000000 := by unfold sTop sB; omega
end Go.Proofs.YtkjkklcflpchlaaGreat

namespace Go.Proofs.YtkjkklcflpchlaaGreat
open Go.RowKit Go.Deep

theorem ret_str {a b : ByteArray} (h : a = b) : Ending.returned (.string a) = .returned (.string b) := by rw [h]

end Go.Proofs.YtkjkklcflpchlaaGreat

namespace Go.Proofs.YtkjkklcflpchlaaGreat
open Go.RowKit Go.Deep

theorem Marks.set {S : Nat → Prop} {w0 w : World} (h : Marks S w0 w) {b m : Nat} (ho : OwnBlk w0 b 160 m) (hS : S b) (o : Nat) (v : Value) (h27 : o % 11 ≠ 4) : Marks S w0 (w.setCell ⟨b, o, none⟩ v) :=
  h.trans (Marks.sc (h.own _ _ _ ho) hS o v (fun _ => h27) (fun e => absurd e (by decide)))
theorem Marks.set66 {S : Nat → Prop} {w0 w : World} (h : Marks S w0 w) {b m : Nat} (ho : OwnBlk w0 b 99 m) (hS : S b) (o : Nat) (v : Value) (h66 : o % 2 ≠ 1) : Marks S w0 (w.setCell ⟨b, o, none⟩ v) :=
  h.trans (Marks.sc (h.own _ _ _ ho) hS o v (fun e => absurd e (by decide)) (fun _ => h66))
theorem Marks.bel {S : Nat → Prop} {w0 w w' : World} (h : Marks S w0 w) (hb : Below w.heap.size w w') : Marks S w0 w' := h.trans (Marks.of_below S hb)

end Go.Proofs.YtkjkklcflpchlaaGreat

namespace Go.Proofs.YtkjkklcflpchlaaGreat
open Go.RowKit Go.Deep

theorem OwnBlk.alloc_at (W : World) (cs : Array Value) (t : TypeId) (m n : Nat) (h : cs.size = m) (hn : n = W.heap.size) : OwnBlk (W.alloc (.cells cs t)) n t m := by
  subst hn; exact OwnBlk.alloc W cs t m h

def Ob.sized (o : Ob) : Prop := o.kind.size ≤ maxLen ∧ o.name.size ≤ maxLen ∧ o.team.size ≤ maxLen

theorem CT.texts {w : World} {lo hi : Nat} {v : Value} {ss : List ByteArray} (h : CT w lo hi v ss) (hl : ss.length ≤ 1048576) (hs : ∀ i, i < ss.length → (ss.getD i ByteArray.empty).size ≤ maxLen) : Texts w v ss := by
  rcases h with ⟨rfl, rfl⟩ | ⟨g, cap, rfl, g1, g2, g3, g4, g5⟩
  · exact Or.inl ⟨_, _, rfl, rfl⟩
  · exact Or.inr ⟨g, 0, cap, rfl, g3.lt, hs, by unfold maxLen; omega, fun i hi => by rw [Nat.zero_add]; exact g5 i hi⟩

set_option maxHeartbeats 400000 in
theorem eqTexts_nil (a a' : Option Addr) (c c' : Nat) (w : World) :
    Calls Tryz.prog 35 #[.slice a 0 c, .slice a' 0 c'] w fun e w' => e = .returned (.bool true) ∧ w = w' := by
  go_enter Tryz.func35, Tryz.ntmps35
  go_wp2
  refine wp_loop_rounds 1 ?_
  rw [rounds_succ]
  go_wp2
  go_ret
  exact ⟨rfl, rfl⟩

theorem eqTexts_any (v v' : Value) (ss : List ByteArray) (w : World) (h : Texts w v ss) (h' : Texts w v' ss) :
    Calls Tryz.prog 35 #[v, v'] w fun e w' => e = .returned (.bool true) ∧ Below w.heap.size w w' := by
  have nil : ∀ {u : Value}, Texts w u [] → ∃ a c, u = .slice a 0 c := by
    intro u hu
    rcases hu with ⟨a, c, rfl, _⟩ | ⟨b, off, cap, rfl, _⟩
    · exact ⟨a, c, rfl⟩
    · exact ⟨_, _, rfl⟩
  by_cases h0 : ss = []
  · subst h0
    obtain ⟨a, c, rfl⟩ := nil h
    obtain ⟨a', c', rfl⟩ := nil h'
    refine (eqTexts_nil a a' c c' w).mono ?_
    rintro e w' ⟨rfl, rfl⟩
    exact ⟨rfl, Below.refl _ _⟩
  · rcases h with ⟨_, _, _, e⟩ | ⟨b, off, cap, rfl, _, _, h3, h4⟩
    · exact absurd e h0
    rcases h' with ⟨_, _, _, e⟩ | ⟨b', off', cap', rfl, _, _, _, h4'⟩
    · exact absurd e h0
    exact eqTexts_row b off cap b' off' cap' ss w h3 h4 h4'

end Go.Proofs.YtkjkklcflpchlaaGreat
