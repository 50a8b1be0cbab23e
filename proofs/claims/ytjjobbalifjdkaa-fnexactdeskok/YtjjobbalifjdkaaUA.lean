/-
  Data by cells: shapes, data, what lies in memory (Raw: as it is read; Rep: in blocks of its own), marks.
-/
import Derived.StillTailTactics
import Derived.WalkSpells
import Derived.WalkLawsBesides
import Derived.Deep.DeepCutAuto
import Derived.Test.YtjjobbalifjdkaaUM
import Derived.Test.YtjjobbalifjdkaaLBx
namespace Go.Proofs.Ytjjobbalifjdkaa
open Go.RowKit Go.Deep

theorem uh {p : Prop} (h : p) : Hid p := h

/-- A cell's shape. -/
inductive Sh where
  | i
  | b
  | s
  | row (t : TypeId) (sh : List Sh)

/-- A cell's datum; a row holds the cells of all its elements. -/
inductive Dt where
  | i (n : Int)
  | b (x : Bool)
  | s (t : ByteArray)
  | row (n : Nat) (es : List Dt)

/-- How many marks. -/
def cntL : List Dt → Nat
  | [] => 0
  | .row _ es :: ds => cntL es + cntL ds
  | .i _ :: ds => 1 + cntL ds
  | .b _ :: ds => 1 + cntL ds
  | .s _ :: ds => 1 + cntL ds
/-- Marked from k on. -/
def mkL (k : Nat) : List Dt → List Dt
  | [] => []
  | .row n es :: ds => .row n (mkL k es) :: mkL (k + cntL es) ds
  | .i _ :: ds => .i (k : Int) :: mkL (k + 1) ds
  | .b _ :: ds => .b (k % 3 == 0) :: mkL (k + 1) ds
  | .s _ :: ds => .s (mt k) :: mkL (k + 1) ds
/-- How many marks a struct's lists take. -/
def cntT : List Dt → Nat
  | [] => 0
  | .row _ es :: ds => cntL es + cntT ds
  | .i _ :: ds => cntT ds
  | .b _ :: ds => cntT ds
  | .s _ :: ds => cntT ds
/-- A struct whose lists are marked. -/
def mkT (k : Nat) : List Dt → List Dt
  | [] => []
  | .row n es :: ds => .row n (mkL k es) :: mkT (k + cntL es) ds
  | .i n :: ds => .i n :: mkT k ds
  | .b x :: ds => .b x :: mkT k ds
  | .s t :: ds => .s t :: mkT k ds
/-- What the laws take for the size. -/
def wtL : List Dt → Nat
  | [] => 0
  | .row n es :: ds => n + wtL es + wtL ds
  | .i _ :: ds => wtL ds
  | .b _ :: ds => wtL ds
  | .s t :: ds => t.size + wtL ds

theorem cntL_app : ∀ (a b : List Dt), cntL (a ++ b) = cntL a + cntL b
  | [], b => by simp [cntL]
  | .row n es :: ds, b => by rw [List.cons_append, cntL, cntL, cntL_app ds b]; omega
  | .i _ :: ds, b => by rw [List.cons_append, cntL, cntL, cntL_app ds b]; omega
  | .b _ :: ds, b => by rw [List.cons_append, cntL, cntL, cntL_app ds b]; omega
  | .s _ :: ds, b => by rw [List.cons_append, cntL, cntL, cntL_app ds b]; omega
theorem wtL_app : ∀ (a b : List Dt), wtL (a ++ b) = wtL a + wtL b
  | [], b => by simp [wtL]
  | .row n es :: ds, b => by rw [List.cons_append, wtL, wtL, wtL_app ds b]; omega
  | .i _ :: ds, b => by rw [List.cons_append, wtL, wtL, wtL_app ds b]
  | .b _ :: ds, b => by rw [List.cons_append, wtL, wtL, wtL_app ds b]
  | .s _ :: ds, b => by rw [List.cons_append, wtL, wtL, wtL_app ds b]; omega
theorem cntT_app : ∀ (a b : List Dt), cntT (a ++ b) = cntT a + cntT b
  | [], b => by simp [cntT]
  | .row n es :: ds, b => by rw [List.cons_append, cntT, cntT, cntT_app ds b]; omega
  | .i _ :: ds, b => by rw [List.cons_append, cntT, cntT, cntT_app ds b]
  | .b _ :: ds, b => by rw [List.cons_append, cntT, cntT, cntT_app ds b]
  | .s _ :: ds, b => by rw [List.cons_append, cntT, cntT, cntT_app ds b]
theorem mkL_app : ∀ (a b : List Dt) (k : Nat), mkL k (a ++ b) = mkL k a ++ mkL (k + cntL a) b
  | [], b, k => by simp [mkL, cntL]
  | .row n es :: ds, b, k => by rw [List.cons_append, mkL, mkL, cntL, mkL_app ds b, Nat.add_assoc]; rfl
  | .i _ :: ds, b, k => by rw [List.cons_append, mkL, mkL, cntL, mkL_app ds b, Nat.add_assoc]; rfl
  | .b _ :: ds, b, k => by rw [List.cons_append, mkL, mkL, cntL, mkL_app ds b, Nat.add_assoc]; rfl
  | .s _ :: ds, b, k => by rw [List.cons_append, mkL, mkL, cntL, mkL_app ds b, Nat.add_assoc]; rfl
theorem mkT_app : ∀ (a b : List Dt) (k : Nat), mkT k (a ++ b) = mkT k a ++ mkT (k + cntT a) b
  | [], b, k => by simp [mkT, cntT]
  | .row n es :: ds, b, k => by rw [List.cons_append, mkT, mkT, cntT, mkT_app ds b, Nat.add_assoc]; rfl
  | .i _ :: ds, b, k => by rw [List.cons_append, mkT, mkT, cntT, mkT_app ds b]; rfl
  | .b _ :: ds, b, k => by rw [List.cons_append, mkT, mkT, cntT, mkT_app ds b]; rfl
  | .s _ :: ds, b, k => by rw [List.cons_append, mkT, mkT, cntT, mkT_app ds b]; rfl
theorem mkL_len : ∀ (a : List Dt) (k : Nat), (mkL k a).length = a.length
  | [], k => by simp [mkL]
  | .row n es :: ds, k => by rw [mkL, List.length_cons, List.length_cons, mkL_len ds]
  | .i _ :: ds, k => by rw [mkL, List.length_cons, List.length_cons, mkL_len ds]
  | .b _ :: ds, k => by rw [mkL, List.length_cons, List.length_cons, mkL_len ds]
  | .s _ :: ds, k => by rw [mkL, List.length_cons, List.length_cons, mkL_len ds]

def reps (n : Nat) (sh : List Sh) : List Sh := (List.replicate n sh).flatten
theorem reps_zero (sh : List Sh) : reps 0 sh = [] := rfl
theorem reps_succ (n : Nat) (sh : List Sh) : reps (n + 1) sh = sh ++ reps n sh := by simp [reps, List.replicate_succ]
theorem reps_add (a b : Nat) (sh : List Sh) : reps (a + b) sh = reps a sh ++ reps b sh := by rw [reps, reps, reps, ← List.flatten_append, List.replicate_append_replicate]
theorem reps_snoc (n : Nat) (sh : List Sh) : reps (n + 1) sh = reps n sh ++ sh := by rw [reps_add n 1, reps_succ 0, reps_zero, List.append_nil]
theorem reps_len (n : Nat) (sh : List Sh) : (reps n sh).length = n * sh.length := by
  induction n with
  | zero => simp [reps]
  | succ n ih => rw [reps_snoc, List.length_append, ih, Nat.succ_mul]
theorem reps_cut {n q : Nat} (h : q < n) (sh : List Sh) : reps n sh = reps q sh ++ (sh ++ reps (n - q - 1) sh) := by
  rw [← reps_succ, ← reps_add]; congr 1; omega

/-- Element q of a row of elements of k cells. -/
def el (k q : Nat) (es : List Dt) : List Dt := (es.drop (q * k)).take k
theorem el_cut (k q : Nat) (es : List Dt) : es = es.take (q * k) ++ (el k q es ++ es.drop (q * k + k)) := by
  rw [el, ← List.drop_drop, List.take_append_drop, List.take_append_drop]
theorem el_take (k q : Nat) (es : List Dt) : es.take (q * k + k) = es.take (q * k) ++ el k q es := by
  rw [el, List.take_add]
theorem el_mid {A e B : List Dt} {k q : Nat} (hA : A.length = q * k) (he : e.length = k) : el k q (A ++ (e ++ B)) = e := by
  rw [el, List.drop_append_of_le_length (by omega), List.drop_of_length_le (by omega), List.nil_append, List.take_append_of_le_length (by omega), List.take_of_length_le (by omega)]

/-- Data of these shapes. -/
inductive Typ : List Sh → List Dt → Prop
  | nil : Typ [] []
  | i (n : Int) {ss : List Sh} {ds : List Dt} (h : Typ ss ds) : Typ (.i :: ss) (.i n :: ds)
  | b (x : Bool) {ss : List Sh} {ds : List Dt} (h : Typ ss ds) : Typ (.b :: ss) (.b x :: ds)
  | s (t : ByteArray) {ss : List Sh} {ds : List Dt} (h : Typ ss ds) : Typ (.s :: ss) (.s t :: ds)
  | row (t : TypeId) (sh : List Sh) (n : Nat) (es : List Dt) (he : Typ (reps n sh) es) {ss : List Sh} {ds : List Dt} (h : Typ ss ds) : Typ (.row t sh :: ss) (.row n es :: ds)

theorem Typ.len {ss : List Sh} {ds : List Dt} (h : Typ ss ds) : ds.length = ss.length := by
  induction h with
  | nil => rfl
  | i n h ih => simp [ih]
  | b n h ih => simp [ih]
  | s n h ih => simp [ih]
  | row t sh n es he h _ ih => simp [ih]
theorem Typ.app {ss : List Sh} {ds : List Dt} (h : Typ ss ds) {ss' : List Sh} {ds' : List Dt} (h' : Typ ss' ds') : Typ (ss ++ ss') (ds ++ ds') := by
  induction h with
  | nil => exact h'
  | i n h ih => exact .i n ih
  | b n h ih => exact .b n ih
  | s n h ih => exact .s n ih
  | row t sh n es he h _ ih => exact .row t sh n es he ih
theorem Typ.cut : ∀ (s1 : List Sh) {s2 : List Sh} {ds : List Dt}, Typ (s1 ++ s2) ds → ∃ d1 d2, ds = d1 ++ d2 ∧ Typ s1 d1 ∧ Typ s2 d2
  | [], _, ds, h => ⟨[], ds, rfl, .nil, h⟩
  | _ :: s1, _, _, h => by
    rw [List.cons_append] at h
    cases h with
    | i n h => obtain ⟨d1, d2, rfl, h1, h2⟩ := Typ.cut s1 h; exact ⟨_ :: d1, d2, rfl, .i n h1, h2⟩
    | b n h => obtain ⟨d1, d2, rfl, h1, h2⟩ := Typ.cut s1 h; exact ⟨_ :: d1, d2, rfl, .b n h1, h2⟩
    | s n h => obtain ⟨d1, d2, rfl, h1, h2⟩ := Typ.cut s1 h; exact ⟨_ :: d1, d2, rfl, .s n h1, h2⟩
    | row t sh n es he h => obtain ⟨d1, d2, rfl, h1, h2⟩ := Typ.cut s1 h; exact ⟨_ :: d1, d2, rfl, .row t sh n es he h1, h2⟩
theorem Typ.mk {ss : List Sh} {ds : List Dt} (h : Typ ss ds) : ∀ k, Typ ss (mkL k ds) := by
  induction h with
  | nil => intro k; rw [mkL]; exact .nil
  | i n h ih => intro k; rw [mkL]; exact .i _ (ih _)
  | b n h ih => intro k; rw [mkL]; exact .b _ (ih _)
  | s n h ih => intro k; rw [mkL]; exact .s _ (ih _)
  | row t sh n es he h ih1 ih => intro k; rw [mkL]; exact .row t sh n _ (ih1 _) (ih _)
theorem Typ.mkT {ss : List Sh} {ds : List Dt} (h : Typ ss ds) : ∀ k, Typ ss (mkT k ds) := by
  induction h with
  | nil => intro k; rw [Go.Proofs.Ytjjobbalifjdkaa.mkT]; exact .nil
  | i n h ih => intro k; rw [Go.Proofs.Ytjjobbalifjdkaa.mkT]; exact .i _ (ih _)
  | b n h ih => intro k; rw [Go.Proofs.Ytjjobbalifjdkaa.mkT]; exact .b _ (ih _)
  | s n h ih => intro k; rw [Go.Proofs.Ytjjobbalifjdkaa.mkT]; exact .s _ (ih _)
  | row t sh n es he h ih1 ih => intro k; rw [Go.Proofs.Ytjjobbalifjdkaa.mkT]; exact .row t sh n _ (he.mk _) (ih _)
theorem Typ.el {n q : Nat} {sh : List Sh} {es : List Dt} (h : Typ (reps n sh) es) (hq : q < n) : Typ sh (el sh.length q es) := by
  rw [reps_cut hq] at h
  obtain ⟨d1, d2, rfl, h1, h2⟩ := Typ.cut _ h
  obtain ⟨d3, d4, rfl, h3, h4⟩ := Typ.cut _ h2
  rw [el_mid (by rw [h1.len, reps_len]) h3.len]
  exact h3
theorem Typ.rows {n : Nat} {sh : List Sh} {es : List Dt} (h : Typ (reps n sh) es) : es.length = n * sh.length := by rw [h.len, reps_len]
theorem mk_el {n q k : Nat} {sh : List Sh} {es : List Dt} (h : Typ (reps n sh) es) (hq : q < n) : Go.Proofs.Ytjjobbalifjdkaa.el sh.length q (mkL k es) = mkL (k + cntL (es.take (q * sh.length))) (Go.Proofs.Ytjjobbalifjdkaa.el sh.length q es) := by
  have hl := h.rows
  have hm : q * sh.length + sh.length ≤ n * sh.length := by rw [← Nat.succ_mul]; exact Nat.mul_le_mul_right _ hq
  have e1 : (es.take (q * sh.length)).length = q * sh.length := by rw [List.length_take]; omega
  have e2 := (h.el hq).len
  have : mkL k es = mkL k (es.take (q * sh.length) ++ (Go.Proofs.Ytjjobbalifjdkaa.el sh.length q es ++ es.drop (q * sh.length + sh.length))) := by rw [← el_cut]
  rw [this, mkL_app, mkL_app, el_mid (by rw [mkL_len, e1]) (by rw [mkL_len, e2])]

theorem rA_cut {w : World} {b o : Nat} {x y : List Value} (h : w.rangeAt b o (x ++ y)) : w.rangeAt b o x ∧ w.rangeAt b (o + x.length) y := by
  refine ⟨fun j v hv => h j v ?_, fun j v hv => ?_⟩
  · rw [List.getElem?_append_left ((List.getElem?_eq_some_iff.1 hv).1)]; exact hv
  · have := h (x.length + j) v (by rw [List.getElem?_append_right (by omega), show x.length + j - x.length = j by omega]; exact hv)
    rwa [← Nat.add_assoc] at this
theorem rA_app {w : World} {b o : Nat} {x y : List Value} (h1 : w.rangeAt b o x) (h2 : w.rangeAt b (o + x.length) y) : w.rangeAt b o (x ++ y) := fun j v hv => by
  by_cases hj : j < x.length
  · exact h1 j v (by rwa [List.getElem?_append_left hj] at hv)
  · have := h2 (j - x.length) v (by rwa [List.getElem?_append_right (by omega)] at hv)
    rwa [show o + x.length + (j - x.length) = o + j by omega] at this
theorem rA_nil (w : World) (b o : Nat) : w.rangeAt b o [] := fun j v hv => by simp at hv
theorem rA_same {w w' : World} {b o : Nat} {x : List Value} (h : w.rangeAt b o x) (hc : ∀ j, j < x.length → w'.cell? ⟨b, o + j, none⟩ = w.cell? ⟨b, o + j, none⟩) : w'.rangeAt b o x :=
  fun j v hv => (hc j (List.getElem?_eq_some_iff.1 hv).1).trans (h j v hv)
theorem rA_later {w w' : World} {b o : Nat} {x : List Value} (h : w.rangeAt b o x) (hl : b < w.heap.size) (hb : Below w.heap.size w w') : w'.rangeAt b o x :=
  rA_same h fun j _ => hb.cell (p := ⟨b, o + j, none⟩) hl
theorem rA_get {w : World} {b o : Nat} {x : List Value} (h : w.rangeAt b o x) (j : Nat) (v : Value) (hv : x[j]? = some v) : w.cell? ⟨b, o + j, none⟩ = some v := h j v hv

/-- Data as they are read: lists may lie anywhere. -/
inductive Raw (w : World) : List Sh → List Dt → List Value → Prop
  | nil : Raw w [] [] []
  | i (n : Int) {ss : List Sh} {ds : List Dt} {cs : List Value} (h : Raw w ss ds cs) : Raw w (.i :: ss) (.i n :: ds) (.int .i64 n :: cs)
  | b (x : Bool) {ss : List Sh} {ds : List Dt} {cs : List Value} (h : Raw w ss ds cs) : Raw w (.b :: ss) (.b x :: ds) (.bool x :: cs)
  | s (t : ByteArray) {ss : List Sh} {ds : List Dt} {cs : List Value} (h : Raw w ss ds cs) : Raw w (.s :: ss) (.s t :: ds) (.string t :: cs)
  | emp (t : TypeId) (sh : List Sh) (a : Option Addr) (c : Nat) {ss : List Sh} {ds : List Dt} {cs : List Value} (h : Raw w ss ds cs) : Raw w (.row t sh :: ss) (.row 0 [] :: ds) (.slice a 0 c :: cs)
  | row (t : TypeId) (sh : List Sh) (p o n c : Nat) (vs : List Value) (es : List Dt) (hp : p < w.heap.size) (hn : n ≤ maxLen ∧ n ≤ c) (hr : w.rangeAt p o vs) (he : Raw w (reps n sh) es vs) {ss : List Sh} {ds : List Dt} {cs : List Value} (h : Raw w ss ds cs) : Raw w (.row t sh :: ss) (.row n es :: ds) (.slice (some ⟨p, o, none⟩) n c :: cs)

theorem Raw.typ {w : World} {ss : List Sh} {ds : List Dt} {cs : List Value} (h : Raw w ss ds cs) : Typ ss ds := by
  induction h with
  | nil => exact .nil
  | i n h ih => exact .i n ih
  | b n h ih => exact .b n ih
  | s n h ih => exact .s n ih
  | emp t sh a c h ih => exact .row t sh 0 [] .nil ih
  | row t sh p o n c vs es hp hn hr he h ih1 ih => exact .row t sh n es ih1 ih
theorem Raw.len {w : World} {ss : List Sh} {ds : List Dt} {cs : List Value} (h : Raw w ss ds cs) : cs.length = ss.length := by
  induction h with
  | nil => rfl
  | i n h ih => simp [ih]
  | b n h ih => simp [ih]
  | s n h ih => simp [ih]
  | emp t sh a c h ih => simp [ih]
  | row t sh p o n c vs es hp hn hr he h _ ih => simp [ih]
theorem Raw.later {w w' : World} {ss : List Sh} {ds : List Dt} {cs : List Value} (h : Raw w ss ds cs) (hb : Below w.heap.size w w') : Raw w' ss ds cs := by
  induction h with
  | nil => exact .nil
  | i n h ih => exact .i n ih
  | b n h ih => exact .b n ih
  | s n h ih => exact .s n ih
  | emp t sh a c h ih => exact .emp t sh a c ih
  | row t sh p o n c vs es hp hn hr he h ih1 ih => exact .row t sh p o n c vs es (Nat.lt_of_lt_of_le hp hb.size) hn (rA_later hr hp hb) ih1 ih
theorem Raw.app {w : World} {ss : List Sh} {ds : List Dt} {cs : List Value} (h : Raw w ss ds cs) {ss' : List Sh} {ds' : List Dt} {cs' : List Value} (h' : Raw w ss' ds' cs') : Raw w (ss ++ ss') (ds ++ ds') (cs ++ cs') := by
  induction h with
  | nil => exact h'
  | i n h ih => exact .i n ih
  | b n h ih => exact .b n ih
  | s n h ih => exact .s n ih
  | emp t sh a c h ih => exact .emp t sh a c ih
  | row t sh p o n c vs es hp hn hr he h ih1 ih => exact .row t sh p o n c vs es hp hn hr he ih
theorem Raw.cut {w : World} : ∀ (s1 : List Sh) {s2 : List Sh} {ds : List Dt} {cs : List Value}, Raw w (s1 ++ s2) ds cs → ∃ d1 d2 c1 c2, ds = d1 ++ d2 ∧ cs = c1 ++ c2 ∧ Raw w s1 d1 c1 ∧ Raw w s2 d2 c2
  | [], _, ds, cs, h => ⟨[], ds, [], cs, rfl, rfl, .nil, h⟩
  | _ :: s1, _, _, _, h => by
    rw [List.cons_append] at h
    cases h with
    | i n h => obtain ⟨d1, d2, c1, c2, rfl, rfl, h1, h2⟩ := Raw.cut s1 h; exact ⟨_ :: d1, d2, _ :: c1, c2, rfl, rfl, .i n h1, h2⟩
    | b n h => obtain ⟨d1, d2, c1, c2, rfl, rfl, h1, h2⟩ := Raw.cut s1 h; exact ⟨_ :: d1, d2, _ :: c1, c2, rfl, rfl, .b n h1, h2⟩
    | s n h => obtain ⟨d1, d2, c1, c2, rfl, rfl, h1, h2⟩ := Raw.cut s1 h; exact ⟨_ :: d1, d2, _ :: c1, c2, rfl, rfl, .s n h1, h2⟩
    | emp t sh a c h => obtain ⟨d1, d2, c1, c2, rfl, rfl, h1, h2⟩ := Raw.cut s1 h; exact ⟨_ :: d1, d2, _ :: c1, c2, rfl, rfl, .emp t sh a c h1, h2⟩
    | row t sh p o n c vs es hp hn hr he h => obtain ⟨d1, d2, c1, c2, rfl, rfl, h1, h2⟩ := Raw.cut s1 h; exact ⟨_ :: d1, d2, _ :: c1, c2, rfl, rfl, .row t sh p o n c vs es hp hn hr he h1, h2⟩
/-- Element q of a row. -/
theorem Raw.el {w : World} {n q : Nat} {sh : List Sh} {es : List Dt} {vs : List Value} (h : Raw w (reps n sh) es vs) (hq : q < n) {p o : Nat} (hr : w.rangeAt p o vs) : ∃ ve, Raw w sh (Go.Proofs.Ytjjobbalifjdkaa.el sh.length q es) ve ∧ w.rangeAt p (o + q * sh.length) ve := by
  rw [reps_cut hq] at h
  obtain ⟨d1, d2, c1, c2, rfl, rfl, h1, h2⟩ := Raw.cut _ h
  obtain ⟨d3, d4, c3, c4, rfl, rfl, h3, h4⟩ := Raw.cut _ h2
  rw [el_mid (by rw [h1.typ.len, reps_len]) h3.typ.len]
  refine ⟨c3, h3, ?_⟩
  have := (rA_cut (rA_cut hr).2).1
  rwa [h1.len, reps_len] at this

/-- Data in blocks F of their own; tt: as the laws' copies are: from a block's first cell to its last. -/
inductive Rep (w : World) (tt : Bool) : List Sh → List Nat → List Dt → List Value → Prop
  | nil : Rep w tt [] [] [] []
  | i (n : Int) {ss : List Sh} {F : List Nat} {ds : List Dt} {cs : List Value} (h : Rep w tt ss F ds cs) : Rep w tt (.i :: ss) F (.i n :: ds) (.int .i64 n :: cs)
  | b (x : Bool) {ss : List Sh} {F : List Nat} {ds : List Dt} {cs : List Value} (h : Rep w tt ss F ds cs) : Rep w tt (.b :: ss) F (.b x :: ds) (.bool x :: cs)
  | s (t : ByteArray) {ss : List Sh} {F : List Nat} {ds : List Dt} {cs : List Value} (h : Rep w tt ss F ds cs) : Rep w tt (.s :: ss) F (.s t :: ds) (.string t :: cs)
  | emp (t : TypeId) (sh : List Sh) (a : Option Addr) (ht : tt = false) {ss : List Sh} {F : List Nat} {ds : List Dt} {cs : List Value} (h : Rep w tt ss F ds cs) : Rep w tt (.row t sh :: ss) F (.row 0 [] :: ds) (.slice a 0 0 :: cs)
  | row (t : TypeId) (sh : List Sh) (p o n c : Nat) (u : TypeId) (m : Nat) (vs : List Value) (es : List Dt) (G : List Nat) (ho : OwnBlk w p u m) (hm : o + c * sh.length ≤ m) (ht : tt = true → u = t ∧ m = n * sh.length ∧ o = 0 ∧ c = n) (hn : n ≤ maxLen ∧ n ≤ c) (hr : w.rangeAt p o vs) (he : Rep w tt (reps n sh) G es vs) {ss : List Sh} {F : List Nat} {ds : List Dt} {cs : List Value} (h : Rep w tt ss F ds cs) : Rep w tt (.row t sh :: ss) (p :: (G ++ F)) (.row n es :: ds) (.slice (some ⟨p, o, none⟩) n c :: cs)

theorem Rep.raw {w : World} {tt : Bool} {ss : List Sh} {F : List Nat} {ds : List Dt} {cs : List Value} (h : Rep w tt ss F ds cs) : Raw w ss ds cs := by
  induction h with
  | nil => exact .nil
  | i n h ih => exact .i n ih
  | b n h ih => exact .b n ih
  | s n h ih => exact .s n ih
  | emp t sh a ht h ih => exact .emp t sh a 0 ih
  | row t sh p o n c u m vs es G ho hm ht hn hr he h ih1 ih => exact .row t sh p o n c vs es ho.lt hn hr ih1 ih
theorem Rep.loose {w : World} {ss : List Sh} {F : List Nat} {ds : List Dt} {cs : List Value} (h : Rep w true ss F ds cs) : Rep w false ss F ds cs := by
  induction h with
  | nil => exact .nil
  | i n h ih => exact .i n ih
  | b n h ih => exact .b n ih
  | s n h ih => exact .s n ih
  | emp t sh a ht h ih => exact .emp t sh a rfl ih
  | row t sh p o n c u m vs es G ho hm ht hn hr he h ih1 ih => exact .row t sh p o n c u m vs es G ho hm (by simp) hn hr ih1 ih
theorem Rep.lt {w : World} {tt : Bool} {ss : List Sh} {F : List Nat} {ds : List Dt} {cs : List Value} (h : Rep w tt ss F ds cs) : ∀ p ∈ F, p < w.heap.size := by
  induction h with
  | nil => intro p hp; cases hp
  | i n h ih => exact ih
  | b n h ih => exact ih
  | s n h ih => exact ih
  | emp t sh a ht h ih => exact ih
  | row t sh p o n c u m vs es G ho hm ht hn hr he h ih1 ih =>
    intro q hq
    rcases List.mem_cons.1 hq with rfl | hq
    · exact ho.lt
    · rcases List.mem_append.1 hq with hq | hq
      · exact ih1 q hq
      · exact ih q hq
/-- What other blocks become does not matter. -/
theorem Rep.keep {w w' : World} {tt : Bool} {ss : List Sh} {F : List Nat} {ds : List Dt} {cs : List Value} {S : Nat → Prop} (h : Rep w tt ss F ds cs) (hb : Marks S w w') : (∀ p ∈ F, ¬ S p) → Rep w' tt ss F ds cs := by
  induction h with
  | nil => intro _; exact .nil
  | i n h ih => intro hS; exact .i n (ih hS)
  | b n h ih => intro hS; exact .b n (ih hS)
  | s n h ih => intro hS; exact .s n (ih hS)
  | emp t sh a ht h ih => intro hS; exact .emp t sh a ht (ih hS)
  | row t sh p o n c u m vs es G ho hm ht hn hr he h ih1 ih =>
    intro hS
    refine .row t sh p o n c u m vs es G (hb.own _ _ _ ho) hm ht hn (rA_same hr fun j _ => ?_) (ih1 fun q hq => hS q (by simp [hq])) (ih fun q hq => hS q (by simp [hq]))
    exact hb.cell ho.lt (hS p (by simp)) _
theorem Rep.later {w w' : World} {tt : Bool} {ss : List Sh} {F : List Nat} {ds : List Dt} {cs : List Value} (h : Rep w tt ss F ds cs) (hb : Below w.heap.size w w') : Rep w' tt ss F ds cs :=
  h.keep (Marks.of_below (fun _ => False) hb) fun _ _ e => e
theorem Rep.app {w : World} {tt : Bool} {ss : List Sh} {F : List Nat} {ds : List Dt} {cs : List Value} (h : Rep w tt ss F ds cs) {ss' : List Sh} {F' : List Nat} {ds' : List Dt} {cs' : List Value} (h' : Rep w tt ss' F' ds' cs') : Rep w tt (ss ++ ss') (F ++ F') (ds ++ ds') (cs ++ cs') := by
  induction h with
  | nil => exact h'
  | i n h ih => exact .i n ih
  | b n h ih => exact .b n ih
  | s n h ih => exact .s n ih
  | emp t sh a ht h ih => exact .emp t sh a ht ih
  | row t sh p o n c u m vs es G ho hm ht hn hr he h ih1 ih => rw [List.cons_append, List.cons_append, List.cons_append, List.cons_append, List.append_assoc]; exact .row t sh p o n c u m vs es G ho hm ht hn hr he ih
theorem Rep.cut {w : World} {tt : Bool} : ∀ (s1 : List Sh) {s2 : List Sh} {F : List Nat} {ds : List Dt} {cs : List Value}, Rep w tt (s1 ++ s2) F ds cs → ∃ F1 F2 d1 d2 c1 c2, F = F1 ++ F2 ∧ ds = d1 ++ d2 ∧ cs = c1 ++ c2 ∧ Rep w tt s1 F1 d1 c1 ∧ Rep w tt s2 F2 d2 c2
  | [], _, F, ds, cs, h => ⟨[], F, [], ds, [], cs, rfl, rfl, rfl, .nil, h⟩
  | _ :: s1, _, _, _, _, h => by
    rw [List.cons_append] at h
    cases h with
    | i n h => obtain ⟨F1, F2, d1, d2, c1, c2, rfl, rfl, rfl, h1, h2⟩ := Rep.cut s1 h; exact ⟨F1, F2, _ :: d1, d2, _ :: c1, c2, rfl, rfl, rfl, .i n h1, h2⟩
    | b n h => obtain ⟨F1, F2, d1, d2, c1, c2, rfl, rfl, rfl, h1, h2⟩ := Rep.cut s1 h; exact ⟨F1, F2, _ :: d1, d2, _ :: c1, c2, rfl, rfl, rfl, .b n h1, h2⟩
    | s n h => obtain ⟨F1, F2, d1, d2, c1, c2, rfl, rfl, rfl, h1, h2⟩ := Rep.cut s1 h; exact ⟨F1, F2, _ :: d1, d2, _ :: c1, c2, rfl, rfl, rfl, .s n h1, h2⟩
    | emp t sh a ht h => obtain ⟨F1, F2, d1, d2, c1, c2, rfl, rfl, rfl, h1, h2⟩ := Rep.cut s1 h; exact ⟨F1, F2, _ :: d1, d2, _ :: c1, c2, rfl, rfl, rfl, .emp t sh a ht h1, h2⟩
    | row t sh p o n c u m vs es G ho hm ht hn hr he h =>
      obtain ⟨F1, F2, d1, d2, c1, c2, rfl, rfl, rfl, h1, h2⟩ := Rep.cut s1 h
      exact ⟨p :: (G ++ F1), F2, _ :: d1, d2, _ :: c1, c2, by simp, rfl, rfl, .row t sh p o n c u m vs es G ho hm ht hn hr he h1, h2⟩
theorem Rep.len {w : World} {tt : Bool} {ss : List Sh} {F : List Nat} {ds : List Dt} {cs : List Value} (h : Rep w tt ss F ds cs) : cs.length = ss.length := h.raw.len
theorem Raw.one {w : World} {ss : List Sh} {ds : List Dt} {cs : List Value} (h : Raw w ss ds cs) : ∀ v ∈ cs, v.oneCell' = true := by
  induction h with
  | nil => intro v hv; cases hv
  | i n h ih => intro v hv; rcases List.mem_cons.1 hv with rfl | hv; rfl; exact ih v hv
  | b n h ih => intro v hv; rcases List.mem_cons.1 hv with rfl | hv; rfl; exact ih v hv
  | s n h ih => intro v hv; rcases List.mem_cons.1 hv with rfl | hv; rfl; exact ih v hv
  | emp t sh a c h ih => intro v hv; rcases List.mem_cons.1 hv with rfl | hv; rfl; exact ih v hv
  | row t sh p o n c vs es hp hn hr he h _ ih => intro v hv; rcases List.mem_cons.1 hv with rfl | hv; rfl; exact ih v hv

/-- A change inside kk cells of block p, from off on (they hold cs now), and in blocks of S. -/
structure Pg (w w' : World) (p off kk : Nat) (u : TypeId) (m : Nat) (cs : List Value) (S : Nat → Prop) : Prop where
  own : OwnBlk w' p u m
  mks : Marks (fun b => b = p ∨ S b) w w'
  out : ∀ j, (j < off ∨ off + kk ≤ j) → w'.cell? ⟨p, j, none⟩ = w.cell? ⟨p, j, none⟩
  at_ : w'.rangeAt p off cs
theorem Pg.refl {w : World} {p off kk : Nat} {u : TypeId} {m : Nat} {cs : List Value} (S : Nat → Prop) (ho : OwnBlk w p u m) (hr : w.rangeAt p off cs) : Pg w w p off kk u m cs S := ⟨ho, Marks.refl _ _, fun _ _ => rfl, hr⟩
theorem Pg.store {w w' : World} {p off kk : Nat} {u : TypeId} {m : Nat} {cs : List Value} {S : Nat → Prop} (h : Pg w w' p off kk u m cs S) (j : Nat) (v : Value) (hj : j < kk) (hm : off + kk ≤ m) : Pg w (w'.setCell ⟨p, off + j, none⟩ v) p off kk u m (cs.set j v) S := by
  refine ⟨h.own.setCell _ _, h.mks.trans (Marks.sc (S := fun b => b = p ∨ S b) w' (Or.inl rfl) _ _), fun i hi => ?_, fun i x hx => ?_⟩
  · exact (sc_ne _ _ _ _ _ _ (Or.inr (by omega))).trans (h.out i hi)
  · rw [List.getElem?_set] at hx
    by_cases e : j = i
    · subst e
      rw [if_pos rfl] at hx
      split at hx
      · injection hx with hx; subst hx; exact sc_eq h.own _ (by omega) _
      · cases hx
    · rw [if_neg e] at hx
      exact (sc_ne _ _ _ _ _ _ (Or.inr (by omega))).trans (h.at_ i x hx)
theorem Pg.later {w w' w2 : World} {p off kk : Nat} {u : TypeId} {m : Nat} {cs : List Value} {S : Nat → Prop} (h : Pg w w' p off kk u m cs S) (hb : Below w'.heap.size w' w2) : Pg w w2 p off kk u m cs S :=
  ⟨h.own.later hb, h.mks.trans (Marks.of_below _ hb), fun j hj => (hb.cell (p := ⟨p, j, none⟩) h.own.lt).trans (h.out j hj), rA_later h.at_ h.own.lt hb⟩
theorem Pg.marks {w w' w2 : World} {p off kk : Nat} {u : TypeId} {m : Nat} {cs : List Value} {S S' : Nat → Prop} (h : Pg w w' p off kk u m cs S) (hb : Marks S' w' w2) (hs : ∀ b, S' b → S b) (hp : ¬ S' p) : Pg w w2 p off kk u m cs S :=
  ⟨hb.own _ _ _ h.own, h.mks.trans (hb.mono fun b e => Or.inr (hs b e)), fun j hj => (hb.cell h.own.lt hp j).trans (h.out j hj), rA_same h.at_ fun _ _ => hb.cell h.own.lt hp _⟩

theorem Pg.mono {w w' : World} {p off kk : Nat} {u : TypeId} {m : Nat} {cs : List Value} {S S' : Nat → Prop} (h : Pg w w' p off kk u m cs S) (hs : ∀ b, S b → S' b) : Pg w w' p off kk u m cs S' :=
  ⟨h.own, h.mks.mono fun b e => e.imp id (hs b), h.out, h.at_⟩
theorem Pg.grow {w w' w2 : World} {p off kk : Nat} {u : TypeId} {m : Nat} {cs : List Value} {A B : List Nat} (h : Pg w w' p off kk u m cs (· ∈ A)) (hb : Marks (· ∈ B) w' w2) (hp : p ∉ B) : Pg w w2 p off kk u m cs (· ∈ A ++ B) :=
  (h.mono (fun _ e => List.mem_append_left _ e)).marks hb (fun _ e => List.mem_append_right _ e) hp
theorem nd_app {A B : List Nat} (h : (A ++ B).Nodup) : A.Nodup ∧ B.Nodup ∧ ∀ x ∈ A, x ∉ B := by
  rw [List.nodup_append] at h
  exact ⟨h.1, h.2.1, fun x hx hb => h.2.2 x hx x hb rfl⟩

/-- A row of its own. -/
structure Row (w : World) (sh : List Sh) (p o n : Nat) (u : TypeId) (m : Nat) (G : List Nat) (es : List Dt) : Prop where
  own : OwnBlk w p u m
  le : o + n * sh.length ≤ m
  out : ∃ vs, w.rangeAt p o vs ∧ Rep w false (reps n sh) G es vs
theorem Row.open {w : World} {sh : List Sh} {p o n : Nat} {u : TypeId} {m : Nat} {G : List Nat} {es : List Dt} (h : Row w sh p o n u m G es) (hnd : (p :: G).Nodup) (q : Nat) (hq : q < n) :
    ∃ Ge ve, Rep w false sh Ge (el sh.length q es) ve ∧ w.rangeAt p (o + q * sh.length) ve ∧ p ∉ Ge ∧ Ge.Nodup ∧ (∀ b ∈ Ge, b ∈ G) ∧
      ∀ w' e' ve', Pg w w' p (o + q * sh.length) sh.length u m ve' (· ∈ Ge) → Rep w' false sh Ge e' ve' → Row w' sh p o n u m G (es.take (q * sh.length) ++ (e' ++ es.drop (q * sh.length + sh.length))) := by
  obtain ⟨ho, hle, vs, hr, hR⟩ := h
  rw [reps_cut hq] at hR
  obtain ⟨F1, F2, d1, d2, c1, c2, rfl, rfl, rfl, h1, h2⟩ := Rep.cut _ hR
  obtain ⟨F3, F4, d3, d4, c3, c4, rfl, rfl, rfl, h3, h4⟩ := Rep.cut _ h2
  have e1 : d1.length = q * sh.length := by rw [h1.raw.typ.len, reps_len]
  have e3 : d3.length = sh.length := h3.raw.typ.len
  have k1 : c1.length = q * sh.length := by rw [h1.len, reps_len]
  have k3 : c3.length = sh.length := h3.len
  obtain ⟨r1, r2⟩ := rA_cut hr
  obtain ⟨r3, r4⟩ := rA_cut r2
  rw [k1] at r3 r4
  rw [k3] at r4
  rw [List.nodup_cons, List.nodup_append, List.nodup_append] at hnd
  obtain ⟨hp, hd1, ⟨hd3, hd4, hx34⟩, hx1⟩ := hnd
  simp only [List.mem_append, not_or] at hp
  rw [el_mid e1 e3]
  refine ⟨F3, c3, h3, r3, hp.2.1, hd3, fun b hb => by simp [hb], fun w' e' ve' hP hE => ?_⟩
  have t1 : (d1 ++ (d3 ++ d4)).take (q * sh.length) = d1 := by rw [List.take_append_of_le_length (by omega), List.take_of_length_le (by omega)]
  have t2 : (d1 ++ (d3 ++ d4)).drop (q * sh.length + sh.length) = d4 := by
    rw [← List.append_assoc, List.drop_append_of_le_length (by rw [List.length_append]; omega), List.drop_of_length_le (by rw [List.length_append]; omega), List.nil_append]
  rw [t1, t2]
  refine ⟨hP.own, hle, c1 ++ (ve' ++ c4), rA_app ?_ (rA_app ?_ ?_), ?_⟩
  · exact rA_same r1 fun j hj => hP.out _ (Or.inl (by omega))
  · rw [k1]; exact hP.at_
  · have : ve'.length = sh.length := hE.len
    rw [k1, this]
    exact rA_same r4 fun j hj => hP.out _ (Or.inr (by omega))
  · rw [reps_cut hq]
    refine (h1.keep hP.mks ?_).app (hE.app (h4.keep hP.mks ?_))
    · rintro b hb (rfl | e)
      · exact hp.1 hb
      · exact hx1 b hb b (by simp [e]) rfl
    · rintro b hb (rfl | e)
      · exact hp.2.2 hb
      · exact hx34 b e b hb rfl

/-- A list of its own as a row, or empty. -/
theorem Rep.slice {w : World} {tt : Bool} {t : TypeId} {sh : List Sh} {F : List Nat} {n : Nat} {es : List Dt} {v : Value} (h : Rep w tt [.row t sh] F [.row n es] [v]) :
    (tt = false ∧ n = 0 ∧ es = [] ∧ F = [] ∧ ∃ a, v = .slice a 0 0) ∨ ∃ p o c u m G, v = .slice (some ⟨p, o, none⟩) n c ∧ F = p :: G ∧ (n ≤ maxLen ∧ n ≤ c ∧ o + c * sh.length ≤ m) ∧ OwnBlk w p u m ∧ o + n * sh.length ≤ m ∧ (tt = true → u = t ∧ m = n * sh.length ∧ o = 0 ∧ c = n) ∧ ∃ vs, w.rangeAt p o vs ∧ Rep w tt (reps n sh) G es vs := by
  cases h with
  | emp t sh a ht h => cases h; exact Or.inl ⟨ht, rfl, rfl, rfl, a, rfl⟩
  | row t sh p o n c u m vs es G ho hm ht hn hr he h => cases h; exact Or.inr ⟨p, o, c, u, m, G, rfl, by simp, ⟨hn.1, hn.2, hm⟩, ho, Nat.le_trans (Nat.add_le_add_left (Nat.mul_le_mul_right _ hn.2) o) hm, ht, vs, hr, he⟩
theorem Raw.slice {w : World} {t : TypeId} {sh : List Sh} {n : Nat} {es : List Dt} {v : Value} (h : Raw w [.row t sh] [.row n es] [v]) :
    (n = 0 ∧ es = [] ∧ ∃ a c, v = .slice a 0 c) ∨ ∃ p o c, v = .slice (some ⟨p, o, none⟩) n c ∧ p < w.heap.size ∧ (n ≤ maxLen ∧ n ≤ c) ∧ ∃ vs, w.rangeAt p o vs ∧ Raw w (reps n sh) es vs := by
  cases h with
  | emp t sh a c h => cases h; exact Or.inl ⟨rfl, rfl, a, c, rfl⟩
  | row t sh p o n c vs es hp hn hr he h => cases h; exact Or.inr ⟨p, o, c, rfl, hp, hn, vs, hr, he⟩
theorem Raw.len0 {w : World} {t : TypeId} {sh : List Sh} {n : Nat} {es : List Dt} {v : Value} (h : Raw w [.row t sh] [.row n es] [v]) : ∃ a c, v = .slice a n c := by
  rcases h.slice with ⟨rfl, _, a, c, rfl⟩ | ⟨p, o, c, rfl, _⟩
  · exact ⟨a, c, rfl⟩
  · exact ⟨_, c, rfl⟩
theorem Rep.of_row {w : World} {t : TypeId} {sh : List Sh} {p o n c : Nat} {u : TypeId} {m : Nat} {G : List Nat} {es : List Dt} (h : Row w sh p o n u m G es) (hn : n ≤ maxLen ∧ n ≤ c ∧ o + c * sh.length ≤ m) : Rep w false [.row t sh] (p :: G) [.row n es] [.slice (some ⟨p, o, none⟩) n c] := by
  obtain ⟨ho, hle, vs, hr, hR⟩ := h
  have := Rep.row t sh p o n c u m vs es G ho hn.2.2 (by simp) ⟨hn.1, hn.2.1⟩ hr hR .nil
  rwa [List.append_nil] at this
theorem Rep.c_i {w : World} {tt : Bool} {ss : List Sh} {F : List Nat} {n : Int} {ds : List Dt} {cs : List Value} (h : Rep w tt (.i :: ss) F (.i n :: ds) cs) : ∃ x, cs = .int .i64 n :: x ∧ Rep w tt ss F ds x := by
  cases h with | i n h => exact ⟨_, rfl, h⟩
theorem Rep.c_b {w : World} {tt : Bool} {ss : List Sh} {F : List Nat} {n : Bool} {ds : List Dt} {cs : List Value} (h : Rep w tt (.b :: ss) F (.b n :: ds) cs) : ∃ x, cs = .bool n :: x ∧ Rep w tt ss F ds x := by
  cases h with | b n h => exact ⟨_, rfl, h⟩
theorem Rep.c_s {w : World} {tt : Bool} {ss : List Sh} {F : List Nat} {n : ByteArray} {ds : List Dt} {cs : List Value} (h : Rep w tt (.s :: ss) F (.s n :: ds) cs) : ∃ x, cs = .string n :: x ∧ Rep w tt ss F ds x := by
  cases h with | s n h => exact ⟨_, rfl, h⟩
theorem Rep.c_n {w : World} {tt : Bool} {F : List Nat} {cs : List Value} (h : Rep w tt [] F [] cs) : cs = [] ∧ F = [] := by
  cases h; exact ⟨rfl, rfl⟩
theorem Rep.c_r {w : World} {tt : Bool} {t : TypeId} {sh ss : List Sh} {F : List Nat} {n : Nat} {es ds : List Dt} {cs : List Value} (h : Rep w tt (.row t sh :: ss) F (.row n es :: ds) cs) : ∃ F0 F1 v x, F = F0 ++ F1 ∧ cs = v :: x ∧ Rep w tt [.row t sh] F0 [.row n es] [v] ∧ Rep w tt ss F1 ds x := by
  cases h with
  | emp t sh a ht h => exact ⟨[], _, _, _, rfl, rfl, .emp t sh a ht .nil, h⟩
  | row t sh p o n c u m vs es G ho hm ht hn hr he h => exact ⟨p :: (G ++ []), _, _, _, by simp, rfl, .row t sh p o n c u m vs es G ho hm ht hn hr he .nil, h⟩
theorem Raw.c_i {w : World} {ss : List Sh} {n : Int} {ds : List Dt} {cs : List Value} (h : Raw w (.i :: ss) (.i n :: ds) cs) : ∃ x, cs = .int .i64 n :: x ∧ Raw w ss ds x := by
  cases h with | i n h => exact ⟨_, rfl, h⟩
theorem Raw.c_b {w : World} {ss : List Sh} {n : Bool} {ds : List Dt} {cs : List Value} (h : Raw w (.b :: ss) (.b n :: ds) cs) : ∃ x, cs = .bool n :: x ∧ Raw w ss ds x := by
  cases h with | b n h => exact ⟨_, rfl, h⟩
theorem Raw.c_s {w : World} {ss : List Sh} {n : ByteArray} {ds : List Dt} {cs : List Value} (h : Raw w (.s :: ss) (.s n :: ds) cs) : ∃ x, cs = .string n :: x ∧ Raw w ss ds x := by
  cases h with | s n h => exact ⟨_, rfl, h⟩
theorem Raw.c_n {w : World} {cs : List Value} (h : Raw w [] [] cs) : cs = [] := by
  cases h; rfl
theorem Raw.c_r {w : World} {t : TypeId} {sh ss : List Sh} {n : Nat} {es ds : List Dt} {cs : List Value} (h : Raw w (.row t sh :: ss) (.row n es :: ds) cs) : ∃ v x, cs = v :: x ∧ Raw w [.row t sh] [.row n es] [v] ∧ Raw w ss ds x := by
  cases h with
  | emp t sh a c h => exact ⟨_, _, rfl, .emp t sh a c .nil, h⟩
  | row t sh p o n c vs es hp hn hr he h => exact ⟨_, _, rfl, .row t sh p o n c vs es hp hn hr he .nil, h⟩
theorem app_cut {A : Type} : ∀ {a b c d : List A}, a ++ b = c ++ d → a.length = c.length → a = c ∧ b = d
  | [], _, [], _, h, _ => ⟨rfl, h⟩
  | x :: a, b, y :: c, d, h, hl => by
    simp only [List.cons_append, List.cons.injEq] at h
    obtain ⟨h1, h2⟩ := app_cut h.2 (by simpa using hl)
    exact ⟨by rw [h.1, h1], h2⟩
theorem Rep.cut2 {w : World} {tt : Bool} {s1 s2 : List Sh} {F : List Nat} {d1 d2 : List Dt} {cs : List Value} (h : Rep w tt (s1 ++ s2) F (d1 ++ d2) cs) (t : Typ s1 d1) : ∃ F1 F2 c1 c2, F = F1 ++ F2 ∧ cs = c1 ++ c2 ∧ Rep w tt s1 F1 d1 c1 ∧ Rep w tt s2 F2 d2 c2 := by
  obtain ⟨F1, F2, x1, x2, c1, c2, rfl, e, rfl, h1, h2⟩ := Rep.cut s1 h
  obtain ⟨rfl, rfl⟩ := app_cut e (by rw [t.len, h1.raw.typ.len])
  exact ⟨F1, F2, c1, c2, rfl, rfl, h1, h2⟩
theorem Raw.cut2 {w : World} {s1 s2 : List Sh} {d1 d2 : List Dt} {cs : List Value} (h : Raw w (s1 ++ s2) (d1 ++ d2) cs) (t : Typ s1 d1) : ∃ c1 c2, cs = c1 ++ c2 ∧ Raw w s1 d1 c1 ∧ Raw w s2 d2 c2 := by
  obtain ⟨x1, x2, c1, c2, e, rfl, h1, h2⟩ := Raw.cut s1 h
  obtain ⟨rfl, rfl⟩ := app_cut e (by rw [t.len, h1.typ.len])
  exact ⟨c1, c2, rfl, h1, h2⟩
theorem Typ.c_i {ss : List Sh} {ds : List Dt} (h : Typ (.i :: ss) ds) : ∃ n x, ds = .i n :: x ∧ Typ ss x := by
  cases h with | i n h => exact ⟨_, _, rfl, h⟩
theorem Typ.c_b {ss : List Sh} {ds : List Dt} (h : Typ (.b :: ss) ds) : ∃ n x, ds = .b n :: x ∧ Typ ss x := by
  cases h with | b n h => exact ⟨_, _, rfl, h⟩
theorem Typ.c_s {ss : List Sh} {ds : List Dt} (h : Typ (.s :: ss) ds) : ∃ n x, ds = .s n :: x ∧ Typ ss x := by
  cases h with | s n h => exact ⟨_, _, rfl, h⟩
theorem Typ.c_n {ds : List Dt} (h : Typ [] ds) : ds = [] := by
  cases h; rfl
theorem Typ.c_r {t : TypeId} {sh ss : List Sh} {ds : List Dt} (h : Typ (.row t sh :: ss) ds) : ∃ n es x, ds = .row n es :: x ∧ Typ (reps n sh) es ∧ Typ ss x := by
  cases h with | row t sh n es he h => exact ⟨_, _, _, rfl, he, h⟩
/-- Ahead of element q the row is as it was marked, behind it as it was. -/
theorem half_el {n q k : Nat} {sh : List Sh} {es : List Dt} (h : Typ (reps n sh) es) (hq : q < n) : el sh.length q (mkL k (es.take (q * sh.length)) ++ es.drop (q * sh.length)) = el sh.length q es := by
  have hl := h.rows
  have hm : q * sh.length + sh.length ≤ n * sh.length := by rw [← Nat.succ_mul]; exact Nat.mul_le_mul_right _ hq
  have e1 : (mkL k (es.take (q * sh.length))).length = q * sh.length := by rw [mkL_len, List.length_take]; omega
  rw [el, List.drop_append_of_le_length (by omega), List.drop_of_length_le (by omega), List.nil_append, el]
theorem half_next {n q k : Nat} {sh : List Sh} {es : List Dt} (h : Typ (reps n sh) es) (hq : q < n) : (mkL k (es.take (q * sh.length)) ++ es.drop (q * sh.length)).take (q * sh.length) ++ (mkL (k + cntL (es.take (q * sh.length))) (el sh.length q es) ++ (mkL k (es.take (q * sh.length)) ++ es.drop (q * sh.length)).drop (q * sh.length + sh.length)) = mkL k (es.take ((q + 1) * sh.length)) ++ es.drop ((q + 1) * sh.length) := by
  have hl := h.rows
  have hm : q * sh.length + sh.length ≤ n * sh.length := by rw [← Nat.succ_mul]; exact Nat.mul_le_mul_right _ hq
  have e1 : (mkL k (es.take (q * sh.length))).length = q * sh.length := by rw [mkL_len, List.length_take]; omega
  rw [Nat.succ_mul, el_take, mkL_app, List.take_append_of_le_length (by omega), List.take_of_length_le (by omega), List.append_assoc]
  congr 2
  rw [List.drop_append, List.drop_of_length_le (by omega), List.nil_append, e1, show q * sh.length + sh.length - q * sh.length = sh.length by omega, List.drop_drop]
theorem cnt_next {n q : Nat} {sh : List Sh} {es : List Dt} (_h : Typ (reps n sh) es) (_hq : q < n) : cntL (es.take ((q + 1) * sh.length)) = cntL (es.take (q * sh.length)) + cntL (el sh.length q es) := by
  rw [Nat.succ_mul, el_take, cntL_app]
theorem cnt_le (m : Nat) (es : List Dt) : cntL (es.take m) ≤ cntL es := by
  have : cntL es = cntL (es.take m ++ es.drop m) := by rw [List.take_append_drop]
  rw [this, cntL_app]; omega
theorem cnt_el {q k : Nat} {es : List Dt} : cntL (es.take (q * k)) + cntL (el k q es) ≤ cntL es := by
  rw [← cntL_app, ← el_take]; exact cnt_le _ _
end Go.Proofs.Ytjjobbalifjdkaa
