/-
  A block of the call's own, and values put into it one behind the other.
-/
import Derived.Test.YtkjkklcflpchlaaGreatMem
import Derived.Test.YtkjkklcflpchlaaGreatOwn
namespace Go.Proofs.YtkjkklcflpchlaaGreat
open Go.RowKit Go.Deep

def puts (w : World) (B o j : Nat) : List Value → World
  | [] => w
  | v :: vs => puts (w.setCell ⟨B, o + j, none⟩ v) B o (j + 1) vs

theorem puts_size (B o : Nat) : ∀ (vs : List Value) (w : World) (j : Nat), (puts w B o j vs).heap.size = w.heap.size
  | [], _, _ => rfl
  | v :: vs, w, j => by rw [puts, puts_size B o vs]; simp [World.setCell]

theorem puts_own {B : Nat} {t : TypeId} {m : Nat} (o : Nat) : ∀ (vs : List Value) (w : World) (j : Nat), OwnBlk w B t m → OwnBlk (puts w B o j vs) B t m
  | [], _, _, h => h
  | v :: vs, _, _, h => puts_own o vs _ _ (h.setCell _ v)

theorem puts_below {a : World} {B : Nat} (o : Nat) (hB : a.heap.size ≤ B) : ∀ (vs : List Value) (w : World) (j : Nat), Below a.heap.size a w → Below a.heap.size a (puts w B o j vs)
  | [], _, _, h => h
  | v :: vs, _, _, h => puts_below o hB vs _ _ (h.setCell (p := ⟨B, _, none⟩) hB v)

theorem puts_other (B o b' o' : Nat) : ∀ (vs : List Value) (w : World) (j : Nat), (b' ≠ B ∨ o' < o + j ∨ o + j + vs.length ≤ o') → (puts w B o j vs).cell? ⟨b', o', none⟩ = w.cell? ⟨b', o', none⟩
  | [], _, _, _ => rfl
  | v :: vs, w, j, h => by
    rw [List.length_cons] at h
    rw [puts, puts_other B o b' o' vs _ (j + 1) (by omega)]
    exact sc_ne _ _ _ _ _ _ (by omega)

theorem puts_at {B : Nat} {t : TypeId} {m : Nat} (o : Nat) : ∀ (vs : List Value) (w : World) (j : Nat), OwnBlk w B t m → o + j + vs.length ≤ m → ∀ i, i < vs.length → (puts w B o j vs).cell? ⟨B, o + (j + i), none⟩ = vs[i]?
  | [], _, _, _, _, i, hi => absurd hi (Nat.not_lt_zero i)
  | v :: vs, w, j, h, hm, i, hi => by
    rw [List.length_cons] at hm hi
    cases i with
    | zero =>
      rw [puts, puts_other B o B (o + (j + 0)) vs _ (j + 1) (by omega)]
      exact sc_eq h (o + j) (by omega) v
    | succ i =>
      have := puts_at o vs _ (j + 1) (h.setCell (o + j) v) (by omega) i (by omega)
      rw [puts, show o + (j + (i + 1)) = o + (j + 1 + i) by omega, this]
      simp

theorem texts_puts {w : World} {b n c : Nat} {ss : List ByteArray} {B : Nat} (h : Texts w (.slice (some ⟨b, 0, none⟩) n c) ss) (hne : b ≠ B) (o j : Nat) (vs : List Value) :
    Texts (puts w B o j vs) (.slice (some ⟨b, 0, none⟩) n c) ss := by
  rcases h with h | ⟨b', off, cap, he, h1, h2, h3, h4⟩
  · exact Or.inl h
  · injection he with e1 e2 e3
    injection e1 with e1
    injection e1 with e1 e4 _
    subst e1 e4
    refine Or.inr ⟨b, 0, cap, by rw [e2, e3], by rw [puts_size]; exact h1, h2, h3, fun i hi => ?_⟩
    rw [puts_other B o b (0 + i) vs w j (Or.inl hne)]
    exact h4 i hi

/-- A field in the block B of the call's own; its texts behind B. -/
def OwnFld (w : World) (B o : Nat) (f : Fld) : Prop := ∃ b, (B < b ∧ OwnBlk w b 9 f.words.length) ∧ b < w.heap.size ∧ FldIs w B o f (.slice (some ⟨b, 0, none⟩) f.words.length f.words.length)

theorem own_puts_other {b B : Nat} {t : TypeId} {m : Nat} (o : Nat) (hne : b ≠ B) : ∀ (vs : List Value) (w : World) (j : Nat), OwnBlk w b t m → OwnBlk (puts w B o j vs) b t m
  | [], _, _, h => h
  | v :: vs, _, _, h => own_puts_other o hne vs _ _ (h.sc_other hne _ v)

theorem OwnFld.later {w w' : World} {B o : Nat} {f : Fld} (h : OwnFld w B o f) (hb : Below w.heap.size w w') (hlt : B < w.heap.size) : OwnFld w' B o f := by
  obtain ⟨b, h1, hl, h2⟩ := h
  exact ⟨b, ⟨h1.1, h1.2.later hb⟩, Nat.lt_of_lt_of_le hl hb.size, h2.later hb hlt⟩

theorem OwnFld.puts {w : World} {B o : Nat} {f : Fld} (h : OwnFld w B o f) (o' : Nat) (vs : List Value) (ho : o + 11 ≤ o') : OwnFld (puts w B o' 0 vs) B o f := by
  obtain ⟨b, h1, hl, h2⟩ := h
  have c : ∀ j, j < o' → (YtkjkklcflpchlaaGreat.puts w B o' 0 vs).cell? ⟨B, j, none⟩ = w.cell? ⟨B, j, none⟩ := fun j hj => puts_other B o' B j vs w 0 (by omega)
  have g1 := h1.1
  exact ⟨b, ⟨h1.1, own_puts_other o' (by omega) vs w 0 h1.2⟩, by rw [puts_size]; exact hl, (c _ (by omega)).trans h2.c0, (c _ (by omega)).trans h2.c1, (c _ (by omega)).trans h2.c2, (c _ (by omega)).trans h2.c3, (c _ (by omega)).trans h2.c4, (c _ (by omega)).trans h2.c5, (c _ (by omega)).trans h2.c6, (c _ (by omega)).trans h2.c7, (c _ (by omega)).trans h2.c8, (c _ (by omega)).trans h2.c9, (c _ (by omega)).trans h2.c10, texts_puts h2.texts (by omega) o' 0 vs, h2.sized⟩

theorem own_put {w : World} {B : Nat} {t : TypeId} {m : Nat} (hO : OwnBlk w B t m) (o : Nat) (ho : o + 11 ≤ m) (f : Fld) (b : Nat) (hb : B < b) (how : OwnBlk w b 9 f.words.length) (hlt : b < w.heap.size) (hsz : f.sized) (hsm : f.small)
    (hw : ∀ i, i < f.words.length → (f.words.getD i ByteArray.empty).size ≤ maxLen)
    (hc : ∀ i, i < f.words.length → w.cell? ⟨b, 0 + i, none⟩ = some (.string (f.words.getD i ByteArray.empty))) :
    OwnFld (puts w B o 0 [.string f.nm, .int .i64 f.kind, .int .i64 f.least, .int .i64 f.most, .slice (some ⟨b, 0, none⟩) f.words.length f.words.length, .string f.to, .int .i64 f.role, .bool f.must, .bool f.fixed, .string f.de, .string f.we]) B o f := by
  have c := fun i hi => puts_at o [.string f.nm, .int .i64 f.kind, .int .i64 f.least, .int .i64 f.most, .slice (some ⟨b, 0, none⟩) f.words.length f.words.length, .string f.to, .int .i64 f.role, .bool f.must, .bool f.fixed, .string f.de, .string f.we] w 0 hO (by simp; omega) i hi
  have ht : Texts w (.slice (some ⟨b, 0, none⟩) f.words.length f.words.length) f.words := Or.inr ⟨b, 0, _, rfl, hlt, hw, by have : f.words.length ≤ 1048576 := hsm; unfold maxLen; omega, hc⟩
  exact ⟨b, ⟨hb, own_puts_other o (by omega) _ w 0 how⟩, by rw [puts_size]; exact hlt, c 0 (by simp), c 1 (by simp), c 2 (by simp), c 3 (by simp), c 4 (by simp), c 5 (by simp), c 6 (by simp), c 7 (by simp), c 8 (by simp), c 9 (by simp), c 10 (by simp), texts_puts ht (by omega) o 0 _, hsz⟩

theorem Texts.sizes {w : World} {vs : Value} {ss : List ByteArray} (h : Texts w vs ss) : ∀ i, i < ss.length → (ss.getD i ByteArray.empty).size ≤ maxLen := by
  rcases h with ⟨a, cap, _, rfl⟩ | ⟨b, off, cap, _, _, h2, _, _⟩
  · intro i hi; exact absurd hi (Nat.not_lt_zero i)
  · exact h2

/-- A list of fields in a new block, whose shape is known. -/
theorem flds_of_own {w : World} {B : Nat} {fs : List Fld} (hlt : B < w.heap.size) (hl : fs.length ≤ 1048576) (h : ∀ i, i < fs.length → OwnFld w B (i * 11) (fs.getD i Fld.none)) :
    FldsAt w (.slice (some ⟨B, 0, none⟩) fs.length fs.length) fs :=
  Or.inr ⟨B, 0, _, rfl, hlt, by unfold maxLen; omega, fun i hi => by obtain ⟨b, _, _, h2⟩ := h i hi; rw [Nat.zero_add]; exact ⟨_, h2⟩⟩

theorem flds_puts {w : World} {b n c : Nat} {fs : List Fld} {B : Nat} (h : ∀ i, i < fs.length → OwnFld w b (i * 11) (fs.getD i Fld.none)) (hne : B < b) (hlt : b < w.heap.size) (hl : fs.length ≤ 1048576) (hn : n = fs.length) (hcn : c = fs.length) (o j : Nat) (vs : List Value) :
    FldsAt (puts w B o j vs) (.slice (some ⟨b, 0, none⟩) n c) fs := by
  subst hn hcn
  refine flds_of_own (by rw [puts_size]; exact hlt) hl fun i hi => ?_
  obtain ⟨b', h1, hl', h2⟩ := h i hi
  have c : ∀ q, (puts w B o j vs).cell? ⟨b, q, none⟩ = w.cell? ⟨b, q, none⟩ := fun q => puts_other B o b q vs w j (by omega)
  have g1 := h1.1
  exact ⟨b', ⟨h1.1, own_puts_other o (by omega) vs w j h1.2⟩, by rw [puts_size]; exact hl', (c _).trans h2.c0, (c _).trans h2.c1, (c _).trans h2.c2, (c _).trans h2.c3, (c _).trans h2.c4, (c _).trans h2.c5, (c _).trans h2.c6, (c _).trans h2.c7, (c _).trans h2.c8, (c _).trans h2.c9, (c _).trans h2.c10, texts_puts h2.texts (by omega) o j vs, h2.sized⟩

/-- A shape in the block B of the call's own; its fields behind B. -/
def OwnShp (w : World) (B o : Nat) (s : Shp) : Prop :=
  ∃ b, (B < b ∧ OwnBlk w b 160 (s.fields.length * 11)) ∧ b < w.heap.size ∧ s.fields.length ≤ 1048576 ∧ s.kind.size ≤ maxLen ∧ w.cell? ⟨B, o, none⟩ = some (.string s.kind) ∧ w.cell? ⟨B, o + 1, none⟩ = some (.slice (some ⟨b, 0, none⟩) s.fields.length s.fields.length) ∧
    ∀ i, i < s.fields.length → OwnFld w b (i * 11) (s.fields.getD i Fld.none)

theorem OwnShp.later {w w' : World} {B o : Nat} {s : Shp} (h : OwnShp w B o s) (hb : Below w.heap.size w w') (hlt : B < w.heap.size) : OwnShp w' B o s := by
  obtain ⟨b, h1, h2, h3, h4, h5, h6, h7⟩ := h
  exact ⟨b, ⟨h1.1, h1.2.later hb⟩, Nat.lt_of_lt_of_le h2 hb.size, h3, h4, (hb.cell (p := ⟨B, _, none⟩) hlt).trans h5, (hb.cell (p := ⟨B, _, none⟩) hlt).trans h6, fun i hi => (h7 i hi).later hb h2⟩

theorem OwnFld.puts_past {w : World} {B b o : Nat} {f : Fld} (h : OwnFld w b o f) (hne : B < b) (o' j : Nat) (vs : List Value) : OwnFld (YtkjkklcflpchlaaGreat.puts w B o' j vs) b o f := by
  obtain ⟨b', h1, hl', h2⟩ := h
  have c : ∀ q, (YtkjkklcflpchlaaGreat.puts w B o' j vs).cell? ⟨b, q, none⟩ = w.cell? ⟨b, q, none⟩ := fun q => puts_other B o' b q vs w j (by omega)
  have g1 := h1.1
  exact ⟨b', ⟨h1.1, own_puts_other o' (by omega) vs w j h1.2⟩, by rw [puts_size]; exact hl', (c _).trans h2.c0, (c _).trans h2.c1, (c _).trans h2.c2, (c _).trans h2.c3, (c _).trans h2.c4, (c _).trans h2.c5, (c _).trans h2.c6, (c _).trans h2.c7, (c _).trans h2.c8, (c _).trans h2.c9, (c _).trans h2.c10, texts_puts h2.texts (by omega) o' j vs, h2.sized⟩

theorem OwnShp.puts {w : World} {B o : Nat} {s : Shp} (h : OwnShp w B o s) (o' : Nat) (vs : List Value) (ho : o + 2 ≤ o') : OwnShp (puts w B o' 0 vs) B o s := by
  obtain ⟨b, h1, h2, h3, h4, h5, h6, h7⟩ := h
  have c : ∀ j, j < o' → (YtkjkklcflpchlaaGreat.puts w B o' 0 vs).cell? ⟨B, j, none⟩ = w.cell? ⟨B, j, none⟩ := fun j hj => puts_other B o' B j vs w 0 (by omega)
  have g1 := h1.1
  exact ⟨b, ⟨h1.1, own_puts_other o' (by omega) vs w 0 h1.2⟩, by rw [puts_size]; exact h2, h3, h4, (c _ (by omega)).trans h5, (c _ (by omega)).trans h6, fun i hi => (h7 i hi).puts_past h1.1 o' 0 vs⟩

theorem own_put_shp {w : World} {B : Nat} {t : TypeId} {m : Nat} (hO : OwnBlk w B t m) (o : Nat) (ho : o + 2 ≤ m) (s : Shp) (b : Nat) (hb : B < b) (how : OwnBlk w b 160 (s.fields.length * 11)) (hlt : b < w.heap.size) (hk : s.kind.size ≤ maxLen) (hsm : s.fields.length ≤ 1048576)
    (hf : ∀ i, i < s.fields.length → OwnFld w b (i * 11) (s.fields.getD i Fld.none)) :
    OwnShp (puts w B o 0 [.string s.kind, .slice (some ⟨b, 0, none⟩) s.fields.length s.fields.length]) B o s := by
  have c := fun i hi => puts_at o [.string s.kind, .slice (some ⟨b, 0, none⟩) s.fields.length s.fields.length] w 0 hO (by simp; omega) i hi
  exact ⟨b, ⟨hb, own_puts_other o (by omega) _ w 0 how⟩, by rw [puts_size]; exact hlt, hsm, hk, c 0 (by simp), c 1 (by simp), fun i hi => (hf i hi).puts_past hb o 0 _⟩

theorem shps_of_own {w : World} {B : Nat} {ss : List Shp} (hlt : B < w.heap.size) (hl : ss.length ≤ 1048576) (h : ∀ i, i < ss.length → OwnShp w B (i * 2) (ss.getD i Shp.none)) :
    ShpsAt w (.slice (some ⟨B, 0, none⟩) ss.length ss.length) ss :=
  Or.inr ⟨B, 0, _, rfl, hlt, by unfold maxLen; omega, fun i hi => by
    obtain ⟨b, h1, h2, h3, h4, h5, h6, h7⟩ := h i hi
    rw [Nat.zero_add]
    exact ⟨_, h5, h6, flds_of_own h2 h3 h7, h4⟩⟩

end Go.Proofs.YtkjkklcflpchlaaGreat
