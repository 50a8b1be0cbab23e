/-
  Sheets: the edits of a block: the program.
-/
import Derived.Test.YtojcopamegmeeaaEVp
import Derived.Test.YtojcopamegmeeaaEPv
import Derived.Test.YtojcopamegmeeaaUL
import Derived.Test.YtojcopamegmeeaaUC
import Derived.Test.YtojcopamegmeeaaESd
import Derived.Test.YtojcopamegmeeaaEGa
import Derived.Test.YtojcopamegmeeaaEIo
import Derived.Test.YtojcopamegmeeaaEJq
import Derived.Test.YtojcopamegmeeaaEGn
import Derived.Test.YtojcopamegmeeaaEFp
import Derived.Test.YtojcopamegmeeaaEFd
import Derived.Test.YtojcopamegmeeaaUB
namespace Go.Proofs.Ytojcopamegmeeaa
open Go.RowKit Go.Deep

/-- Lines compared one by one. -/
def Pl.eqL (f : Pl.Ln → Pl.Ln → Bool) : List Pl.Ln → List Pl.Ln → Bool
  | [], [] => true
  | a :: x, b :: y => f a b && Pl.eqL f x y
  | _, _ => false
theorem eqL_len (f : Pl.Ln → Pl.Ln → Bool) : ∀ A B : List Pl.Ln, A.length ≠ B.length → Pl.eqL f A B = false
  | [], [], h => by simp at h
  | [], _ :: _, _ => rfl
  | _ :: _, [], _ => rfl
  | a :: x, b :: y, h => by rw [Pl.eqL, eqL_len f x y (by simpa using h), Bool.and_false]
theorem eqL_at (f : Pl.Ln → Pl.Ln → Bool) {A B : List Pl.Ln} {k : Nat} (h1 : k < A.length) (h2 : k < B.length) : Pl.eqL f (A.drop k) (B.drop k) = (f (A.getD k Pl.lnNo) (B.getD k Pl.lnNo) && Pl.eqL f (A.drop (k + 1)) (B.drop (k + 1))) := by
  have e1 : A.getD k Pl.lnNo = A[k] := by simp [h1]
  have e2 : B.getD k Pl.lnNo = B[k] := by simp [h2]
  rw [List.drop_eq_getElem_cons h1, List.drop_eq_getElem_cons h2, Pl.eqL, e1, e2]
theorem words_cmp (A B : List ByteArray) : Pl.wordsEq A B = (cmpW A B == 0) := by
  unfold Pl.wordsEq
  by_cases h : cmpW A B = 0
  · have e := (cmpW_zero A B).1 h
    subst e
    have hl : Pl.lessW A A = false := by
      cases q : Pl.lessW A A
      · rfl
      · have := (totW.neg A A).2 q; omega
    rw [hl, h]; rfl
  · have e : (cmpW A B == 0) = false := by simpa using h
    rw [e]
    cases q : Pl.lessW A B
    · rw [totW.tri A B q h]; rfl
    · rfl
theorem cmpLn_key (rs : List Pl.Ru) (x y : Pl.Ln) (h : x.key = y.key) : (cmpLn rs x y == 0) = Pl.wordsEq x.ws y.ws := by
  rw [words_cmp]
  unfold cmpLn pick2
  rw [h, if_pos ((numCmp_zero _ _).2 rfl)]
theorem linesOf_key {l : List Pl.Ln} {key : ByteArray} : ∀ x ∈ Pl.linesOf l key, x.key = key := fun x hx => by
  unfold Pl.linesOf at hx
  exact tl_inj (by simpa using (List.mem_filter.1 hx).2)
theorem eqL_same (rs : List Pl.Ru) (key : ByteArray) : ∀ A B : List Pl.Ln, (∀ x ∈ A, x.key = key) → (∀ y ∈ B, y.key = key) → Pl.eqL (fun x y => cmpLn rs x y == 0) A B = Pl.sameLns A B
  | [], [], _, _ => rfl
  | [], _ :: _, _, _ => rfl
  | _ :: _, [], _, _ => rfl
  | a :: x, b :: y, h1, h2 => by
    have ha := h1 a (by simp)
    have hb := h2 b (by simp)
    have e : (a.key.toList == b.key.toList) = true := by rw [ha, hb]; simp
    rw [Pl.eqL, Pl.sameLns, eqL_same rs key x y (fun z hz => h1 z (by simp [hz])) (fun z hz => h2 z (by simp [hz])), e, cmpLn_key rs a b (ha.trans hb.symm), Bool.true_and]
theorem keyCh_pr (rs : List Pl.Ru) (x y : Pl.Bl) (r : Pl.Ru) (hk : x.kind = y.kind) (hn : x.name = y.name) : Pl.keyCh x y r = if Pl.eqL (fun x y => cmpLn rs x y == 0) (Pl.linesOf x.lines r.key) (Pl.linesOf y.lines r.key) then [] else [⟨if (Pl.linesOf y.lines r.key).length = 0 then 4 else 3, y.kind, y.name, r.key, Pl.linesOf y.lines r.key⟩] := by
  unfold Pl.keyCh
  rw [eqL_same rs r.key _ _ linesOf_key linesOf_key, hk, hn]
theorem getD_app_lt {α : Type} (d : α) {l m : List α} {i : Nat} (h : i < l.length) : (l ++ m).getD i d = l.getD i d := by
  simp [List.getElem?_append_left h]
theorem getD_app_ge {α : Type} (d : α) {l m : List α} {i : Nat} (h : l.length ≤ i) : (l ++ m).getD i d = m.getD (i - l.length) d := by
  simp [List.getElem?_append_right h]

end Go.Proofs.Ytojcopamegmeeaa

namespace Go.Proofs.Ytojcopamegmeeaa
open Go.RowKit Go.Deep

theorem lt_heapF {W : World} {p : Nat} {x : Obj} (h : W.heap[p]? = some x) : p < W.heap.size := (Array.getElem?_eq_some_iff.1 h).1
/-- All but the blocks of S is as it was. -/
structure Frm (S : Nat → Prop) (w w' : World) : Prop where
  os : w'.os = w.os
  tape : w'.tape = w.tape
  output : w'.output = w.output
  size : w.heap.size ≤ w'.heap.size
  block : ∀ p, p < w.heap.size → ¬ S p → w'.heap[p]? = w.heap[p]?
theorem Frm.refl (S : Nat → Prop) (w : World) : Frm S w w := ⟨rfl, rfl, rfl, Nat.le_refl _, fun _ _ _ => rfl⟩
theorem Frm.trans {S : Nat → Prop} {a b c : World} (h : Frm S a b) (k : Frm S b c) : Frm S a c :=
  ⟨k.os.trans h.os, k.tape.trans h.tape, k.output.trans h.output, Nat.le_trans h.size k.size, fun p hp hn => (k.block p (Nat.lt_of_lt_of_le hp h.size) hn).trans (h.block p hp hn)⟩
theorem Marks.frm {S T : Nat → Prop} {a b : World} (h : Marks S a b) (hS : ∀ p, S p → T p) : Frm T a b := ⟨h.os, h.tape, h.output, h.size, fun p hp hn => h.block p hp (fun q => hn (hS p q))⟩
theorem Frm.of_below {S : Nat → Prop} {a b : World} (h : Below a.heap.size a b) : Frm S a b := ⟨h.os, h.tape, h.output, h.size, fun p hp _ => h.block p hp⟩
theorem Frm.of_grown {S : Nat → Prop} {a b : World} {row : Option Nat} (h : a.grownBy b row) (hr : ∀ p, row = some p → S p) : Frm S a b := ⟨h.os, h.tape, h.output, h.size, fun p hp hn => h.block p hp (fun e => hn (hr p e.symm))⟩
theorem Frm.below {S : Nat → Prop} {x a b : World} (h : Frm S a b) (hS : ∀ p, S p → x.heap.size ≤ p) (hb : Below x.heap.size x a) : Below x.heap.size x b :=
  ⟨h.os.trans hb.os, h.tape.trans hb.tape, h.output.trans hb.output, Nat.le_trans hb.size h.size, fun p hp => (h.block p (Nat.lt_of_lt_of_le hp hb.size) (fun q => by have := hS p q; omega)).trans (hb.block p hp)⟩
theorem OwnBlk.frm {S : Nat → Prop} {a b : World} {p : Nat} {t : TypeId} {m : Nat} (h : OwnBlk a p t m) (k : Frm S a b) (hp : ¬ S p) : OwnBlk b p t m := by
  have hl := h.lt
  obtain ⟨c, h1, h2⟩ := h
  exact ⟨c, (k.block p hl hp).trans h1, h2⟩
theorem WBox.frm {S : Nat → Prop} {a b : World} {p : Nat} {t : TypeId} {cs : List Value} (h : WBox a p t cs) (k : Frm S a b) (hp : ¬ S p) : WBox b p t cs :=
  ⟨h.own.frm k hp, rA_same h.at_ fun j _ => World.cell?_of_block (a := ⟨p, 0 + j, none⟩) (k.block p h.own.lt hp)⟩
theorem Rep.frm {w w' : World} {tt : Bool} {ss : List Sh} {F : List Nat} {ds : List Dt} {cs : List Value} {S : Nat → Prop} (h : Rep w tt ss F ds cs) (hb : Frm S w w') : (∀ p ∈ F, ¬ S p) → Rep w' tt ss F ds cs := by
  induction h with
  | nil => intro _; exact .nil
  | i n h ih => intro hS; exact .i n (ih hS)
  | b n h ih => intro hS; exact .b n (ih hS)
  | s n h ih => intro hS; exact .s n (ih hS)
  | emp t sh a ht h ih => intro hS; exact .emp t sh a ht (ih hS)
  | row t sh p o n c u m vs es G ho hm ht hn hr he h ih1 ih =>
    intro hS
    refine .row t sh p o n c u m vs es G (ho.frm hb (hS p (by simp))) hm ht hn (rA_same hr fun j _ => ?_) (ih1 fun q hq => hS q (by simp [hq])) (ih fun q hq => hS q (by simp [hq]))
    exact World.cell?_of_block (a := ⟨p, _, none⟩) (hb.block p ho.lt (hS p (by simp)))


theorem Frm.mono {S T : Nat → Prop} {a b : World} (h : Frm S a b) (hs : ∀ p, S p → T p) : Frm T a b := ⟨h.os, h.tape, h.output, h.size, fun p hp hn => h.block p hp fun q => hn (hs p q)⟩
theorem owns_frm {S : Nat → Prop} {W W' : World} {lo : Nat} {e : TypeId} {size : Nat} {v : Value} {n : Nat} {xs : List Value} (h : W.ownsRow lo e size v n xs) (k : Frm S W W') (hn : ∀ g, v.ownBlock = some g → ¬ S g) : W'.ownsRow lo e size v n xs := by
  refine ⟨h.1, ?_⟩
  rcases h.2 with q | ⟨g, cap, cur, e1, h1, h2, r⟩
  · exact .inl q
  · exact .inr ⟨g, cap, cur, e1, h1, (k.block g (lt_heapF h2) (hn g (by rw [e1]; rfl))).trans h2, r⟩
theorem owns_lo {W : World} {lo : Nat} {e : TypeId} {size : Nat} {v : Value} {n : Nat} {xs : List Value} (h : W.ownsRow lo e size v n xs) {g : Nat} (hg : v.ownBlock = some g) : lo ≤ g ∧ ∃ cur, W.heap[g]? = some (.cells cur e (0, 0)) := by
  rcases h.2 with ⟨q, _⟩ | ⟨g', cap, cur, e1, h1, h2, r⟩
  · rw [q] at hg; cases hg
  · rw [e1] at hg
    injection hg with hg
    have hg' : g' = g := hg
    subst hg'
    exact ⟨h1, cur, h2⟩
/-- Rows of elements of two types are never one block. -/
theorem owns_apart {W : World} {lo lo' : Nat} {e e' : TypeId} {s s' : Nat} {v v' : Value} {n n' : Nat} {xs xs' : List Value} (h : W.ownsRow lo e s v n xs) (h' : W.ownsRow lo' e' s' v' n' xs') (hne : e ≠ e') {g : Nat} (hg : v.ownBlock = some g) : v'.ownBlock ≠ some g := fun hg' => by
  obtain ⟨_, c, h1⟩ := owns_lo h hg
  obtain ⟨_, c', h2⟩ := owns_lo h' hg'
  rw [h1] at h2
  injection h2 with h2
  injection h2 with _ h2
  exact hne h2
/-- A row and what its elements hold: a list that can be read. -/
theorem owns_rawX {W : World} {lo : Nat} {t : TypeId} {sh : List Sh} {v : Value} {n : Nat} {es : List Dt} {cs : List Value} {F : List Nat} {tt : Bool} (h : W.ownsRow lo t sh.length v n cs) (hr : Rep W tt (reps n sh) F es cs) (he : n = 0 → es = []) (hn : n ≤ maxLen) : Raw W [.row t sh] [.row n es] [v] := by
  rcases h.2 with ⟨q, q2⟩ | ⟨g, cap, cur, e1, h1, h2, h3, h4, h5, h6⟩
  · subst q2
    rw [q, he rfl]; exact .emp _ _ _ _ .nil
  · rw [e1]
    refine .row t sh g 0 n cap cs es (lt_heapF h2) ⟨hn, h3⟩ ?_ hr.raw .nil
    intro j u hj
    rw [Nat.zero_add]
    rw [← h6, List.getElem?_take] at hj
    simp only [World.cell?, h2]
    split at hj
    · simpa using hj
    · cases hj
/-- .. and a list in memory of one's own. -/
theorem owns_repX {W : World} {lo : Nat} {t : TypeId} {sh : List Sh} {v : Value} {n : Nat} {es : List Dt} {cs : List Value} {F : List Nat} (h : W.ownsRow lo t sh.length v n cs) (hr : Rep W false (reps n sh) F es cs) (he : n = 0 → es = []) (hn : n ≤ maxLen) (hnd : F.Nodup) (hlo : ∀ b ∈ F, lo ≤ b) (hg : ∀ g, v.ownBlock = some g → g ∉ F) :
    ∃ G, Rep W false [.row t sh] G [.row n es] [v] ∧ G.Nodup ∧ (∀ b ∈ G, lo ≤ b) ∧ (∀ b ∈ G, b ∈ F ∨ v.ownBlock = some b) := by
  rcases h.2 with ⟨q, q2⟩ | ⟨g, cap, cur, e1, h1, h2, h3, h4, h5, h6⟩
  · subst q2
    rw [q, he rfl]
    exact ⟨[], .emp _ _ _ rfl .nil, List.nodup_nil, by simp, by simp⟩
  · have hb : v.ownBlock = some g := by rw [e1]; rfl
    refine ⟨g :: F ++ [], ?_, ?_, ?_, ?_⟩
    · rw [e1]
      refine Rep.row t sh g 0 n cap t cur.size cs es F ⟨cur, h2, rfl⟩ (by rw [h5, Nat.zero_add]; exact Nat.le_refl _) (by intro h; cases h) ⟨hn, h3⟩ ?_ hr .nil
      intro j u hj
      rw [Nat.zero_add]
      rw [← h6, List.getElem?_take] at hj
      simp only [World.cell?, h2]
      split at hj
      · simpa using hj
      · cases hj
    · rw [List.append_nil]; exact List.nodup_cons.2 ⟨hg g hb, hnd⟩
    · intro b hb'
      rw [List.append_nil] at hb'
      rcases List.mem_cons.1 hb' with rfl | q
      · exact h1
      · exact hlo b q
    · intro b hb'
      rw [List.append_nil] at hb'
      rcases List.mem_cons.1 hb' with rfl | q
      · exact Or.inr hb
      · exact Or.inl q

/-- What a list's cells hold is of one cell each. -/
theorem rep_one {W : World} {tt : Bool} {ss : List Sh} {F : List Nat} {ds : List Dt} {cs : List Value} (h : Rep W tt ss F ds cs) : ∀ u ∈ cs, u.oneCell' = true := by
  induction h with
  | nil => intro u hu; cases hu
  | i n h ih => intro u hu; rcases List.mem_cons.1 hu with rfl | q; exact rfl; exact ih u q
  | b n h ih => intro u hu; rcases List.mem_cons.1 hu with rfl | q; exact rfl; exact ih u q
  | s n h ih => intro u hu; rcases List.mem_cons.1 hu with rfl | q; exact rfl; exact ih u q
  | emp t sh a ht h ih => intro u hu; rcases List.mem_cons.1 hu with rfl | q; exact rfl; exact ih u q
  | row t sh p o n c u' m vs es G ho hm ht hn hr he h ih1 ih => intro u hu; rcases List.mem_cons.1 hu with rfl | q; exact rfl; exact ih u q

end Go.Proofs.Ytojcopamegmeeaa

namespace Go.Proofs.Ytojcopamegmeeaa
open Go.RowKit Go.Deep

theorem Try.under_edits : Try.prog.underlying 48 = some (.slice 51) := by kernel_rfl
theorem Try.info_edit : (Try.prog.info? 51).map (fun i => (i.zero, i.size, i.bytes)) = some (some .nilIface, 1, 16) := by kernel_rfl
theorem ln_not_edit : (69 : Nat) ≠ 51 := by decide
/-- An edit: what the interface holds. -/
inductive EdV (B W : World) : Pl.Ch → Value → Prop
  | gone (k n : ByteArray) : EdV B W ⟨1, k, n, Pl.txNo, []⟩ (.iface 91 (.agg #[.string k, .string n]))
  | new (k n : ByteArray) (l : List Pl.Ln) (a : Option Addr) (c : Nat) (h : Raw B shLns [lnsD l] [.slice a l.length c]) : EdV B W ⟨2, k, n, Pl.txNo, l⟩ (.iface 94 (.agg #[.string k, .string n, .slice a l.length c]))
  | set (k n key : ByteArray) (l : List Pl.Ln) (a : Option Addr) (c : Nat) (xs : List Value) (h : W.ownsRow 0 69 2 (.slice a l.length c) l.length xs) (hr : Raw B (reps l.length shSheetLine) (l.flatMap lnD) xs) : EdV B W ⟨3, k, n, key, l⟩ (.iface 121 (.agg #[.string k, .string n, .string key, .slice a l.length c]))
  | unset (k n key : ByteArray) : EdV B W ⟨4, k, n, key, []⟩ (.iface 119 (.agg #[.string k, .string n, .string key]))
theorem owns_weak {W : World} {lo lo' : Nat} {e : TypeId} {size n : Nat} {v : Value} {xs : List Value} (h : W.ownsRow lo e size v n xs) (hl : lo' ≤ lo) : W.ownsRow lo' e size v n xs :=
  ⟨h.1, h.2.imp id fun ⟨g, cap, cur, h1, h2, h3⟩ => ⟨g, cap, cur, h1, Nat.le_trans hl h2, h3⟩⟩
theorem EdV.later {B W W' : World} {c : Pl.Ch} {u : Value} (h : EdV B W c u) (hb : Below W.heap.size W W') : EdV B W' c u := by
  cases h with
  | gone k n => exact .gone k n
  | new k n l a c h => exact .new k n l a c h
  | set k n key l a c xs h hr => exact .set k n key l a c xs (owns_lt_later h hb) hr
  | unset k n key => exact .unset k n key
theorem EdV.frm {B W W' : World} {S : Nat → Prop} {c : Pl.Ch} {u : Value} (h : EdV B W c u) (hb : Frm S W W') (hS : ∀ g, S g → ∃ cur o, W.heap[g]? = some (.cells cur 51 o)) : EdV B W' c u := by
  cases h with
  | gone k n => exact .gone k n
  | new k n l a c h => exact .new k n l a c h
  | set k n key l a c xs h hr =>
    refine .set k n key l a c xs (owns_frm h hb fun g hg hs => ?_) hr
    obtain ⟨_, cur, h1⟩ := owns_lo h hg
    obtain ⟨cur2, o, h2⟩ := hS g hs
    rw [h1] at h2
    injection h2 with h2
    injection h2 with _ h2
    exact ln_not_edit h2
  | unset k n key => exact .unset k n key
theorem EdV.one {B W : World} {c : Pl.Ch} {u : Value} (h : EdV B W c u) : u.oneCell' = true := by cases h <;> rfl
/-- A row of edits of one's own. -/
structure EdR (B : World) (lo : Nat) (W : World) (v : Value) (l : List Pl.Ch) (xs : List Value) : Prop where
  row : W.ownsRow lo 51 1 v l.length xs
  len : xs.length = l.length
  els : ∀ i, i < l.length → EdV B W (l.getD i Pl.chNo) (xs.getD i .nilIface)
theorem EdR.nil (B : World) (lo : Nat) (W : World) : EdR B lo W (.slice none 0 0) [] [] := ⟨⟨by simp, Or.inl ⟨rfl, rfl⟩⟩, rfl, fun i h => by simp at h⟩
theorem EdR.later {B W W' : World} {lo : Nat} {v : Value} {l : List Pl.Ch} {xs : List Value} (h : EdR B lo W v l xs) (hb : Below W.heap.size W W') : EdR B lo W' v l xs := ⟨owns_lt_later h.row hb, h.len, fun i hi => (h.els i hi).later hb⟩
theorem EdR.weak {B W : World} {lo lo' : Nat} {v : Value} {l : List Pl.Ch} {xs : List Value} (h : EdR B lo W v l xs) (hl : lo' ≤ lo) : EdR B lo' W v l xs := ⟨owns_weak h.row hl, h.len, h.els⟩
theorem EdR.shape {B W : World} {lo : Nat} {v : Value} {l : List Pl.Ch} {xs : List Value} (h : EdR B lo W v l xs) : ∃ a c, v = .slice a l.length c := by
  rcases h.row.2 with ⟨e, e0⟩ | ⟨_, _, _, e, _⟩
  · exact ⟨_, _, by rw [e, e0]⟩
  · exact ⟨_, _, e⟩
/-- A list of edits that can be read. -/
structure EdS (B W : World) (s : Value) (m : List Pl.Ch) (ys : List Value) : Prop where
  len : ys.length = m.length
  els : ∀ i, i < m.length → EdV B W (m.getD i Pl.chNo) (ys.getD i .nilIface)
  at_ : (m.length = 0 ∧ s = .slice none 0 0) ∨ ∃ p o c, s = .slice (some ⟨p, o, none⟩) m.length c ∧ p < W.heap.size ∧ ∀ j u, ys[j]? = some u → W.cell? ⟨p, o + j, none⟩ = some u
theorem EdR.src {B W : World} {lo : Nat} {v : Value} {l : List Pl.Ch} {xs : List Value} (h : EdR B lo W v l xs) : EdS B W v l xs := by
  refine ⟨h.len, h.els, ?_⟩
  rcases h.row.2 with ⟨e, e0⟩ | ⟨g, cap, cur, e1, h1, h2, h3, h4, h5, h6⟩
  · exact Or.inl ⟨e0, e⟩
  · refine Or.inr ⟨g, 0, cap, e1, lt_heapF h2, fun j u hj => ?_⟩
    rw [Nat.zero_add]
    rw [← h6, List.getElem?_take] at hj
    simp only [World.cell?, h2]
    split at hj
    · simpa using hj
    · cases hj
/-- One edit in a block of its own. -/
theorem EdS.one {B W : World} {c : Pl.Ch} {u : Value} (h : EdV B W c u) (t : TypeId) : EdS B (W.alloc (.cells #[u] t)) (.slice (some ⟨W.heap.size, 0, none⟩) 1 1) [c] [u] := by
  refine ⟨rfl, fun i hi => ?_, Or.inr ⟨W.heap.size, 0, 1, rfl, by simp, fun j x hj => ?_⟩⟩
  · obtain rfl : i = 0 := by simpa using hi
    exact h.later (blw_alloc (Below.refl _ _) _)
  · have := (LBox.new W #[u] t _ rfl).at_ j x (by simpa using hj)
    exact this
/-- Edits put behind a row of one's own. -/
theorem ed_app {B W : World} {lo : Nat} {v s : Value} {l m : List Pl.Ch} {xs ys : List Value} (ty : TypeId) (h : EdR B lo W v l xs) (hs : EdS B W s m ys) (hlo : lo ≤ W.heap.size) (hn : l.length + m.length ≤ 1000000000) :
    ∃ a c W', (Builtin.append_ #[48, 48] ty #[v, s]).run Try.prog W = .ok (.slice a (l.length + m.length) c) W' ∧ EdR B lo W' (.slice a (l.length + m.length) c) (l ++ m) (xs ++ ys) ∧ W.grownBy W' v.ownBlock := by
  obtain ⟨i, hi, ei⟩ := Option.map_eq_some_iff.1 Try.info_edit
  simp only [Prod.mk.injEq] at ei
  obtain ⟨hz, hs1, hby⟩ := ei
  have h63 : l.length + m.length ≤ maxLen := by unfold maxLen; omega
  have hbb : (l.length + m.length) * 16 ≤ 140737488355328 := by omega
  have key : ∀ (u : Value) (W' : World), W'.ownsRow lo 51 1 u (l.length + m.length) (xs ++ ys) → W.grownBy W' v.ownBlock → EdR B lo W' u (l ++ m) (xs ++ ys) := by
    intro u W' hown hg
    have hfr : Frm (fun p => v.ownBlock = some p) W W' := Frm.of_grown hg fun p hp => hp
    have hS : ∀ g, v.ownBlock = some g → ∃ cur o, W.heap[g]? = some (.cells cur 51 o) := fun g hg => by obtain ⟨_, cur, q⟩ := owns_lo h.row hg; exact ⟨cur, _, q⟩
    refine ⟨by rw [List.length_append]; exact hown, by rw [List.length_append, List.length_append, h.len, hs.len], fun j hj => ?_⟩
    rw [List.length_append] at hj
    by_cases hjl : j < l.length
    · rw [getD_app_lt _ hjl, getD_app_lt _ (by rw [h.len]; exact hjl)]
      exact (h.els j hjl).frm hfr hS
    · rw [getD_app_ge _ (by omega), getD_app_ge _ (by rw [h.len]; omega), h.len]
      exact (hs.els _ (by omega)).frm hfr hS
  have shp : ∀ (u : Value) (W' : World), EdR B lo W' u (l ++ m) (xs ++ ys) → ∃ a c, u = .slice a (l.length + m.length) c := fun u W' q => by obtain ⟨a, c, e⟩ := q.shape; exact ⟨a, c, by rw [e, List.length_append]⟩
  rcases hs.at_ with ⟨h0, rfl⟩ | ⟨p, o, c, rfl, hp, hc⟩
  · have hy : ys = [] := List.eq_nil_of_length_eq_zero (by rw [hs.len]; exact h0)
    have hrun := run_append_owned_none (P := Try.prog) (w := W) lo 48 ty 51 i 1 Try.under_edits hi v l.length xs h.row
    have hg : W.grownBy W v.ownBlock := ⟨rfl, rfl, rfl, Nat.le_refl _, fun _ _ _ => rfl⟩
    have hk := key v W (by rw [h0, hy, Nat.add_zero, List.append_nil]; exact h.row) hg
    obtain ⟨a, c, e⟩ := shp v W hk
    subst e
    exact ⟨a, c, W, hrun, hk, hg⟩
  · obtain ⟨u, W', hrun, h2, h3, _, h5⟩ := run_append_own_at (P := Try.prog) W lo 48 ty 51 i .nilIface 1 16 Try.under_edits hi hz hs1 hby rfl (by decide) v l.length xs h.row ⟨p, o, none⟩ m.length c ys (by rw [hs.len, Nat.mul_one]) (fun j x hj => by rw [Addr.add_mid]; exact hc j x hj) (fun x hx => by
      obtain ⟨j, hj, rfl⟩ := List.getElem_of_mem hx
      have := hs.els j (by rw [← hs.len]; exact hj)
      have e : ys.getD j .nilIface = ys[j] := by simp [hj]
      rw [e] at this
      exact this.one) h63 hbb hlo
    have hk := key u W' h2 h3
    obtain ⟨a, c, e⟩ := shp u W' hk
    subst e
    exact ⟨a, c, W', hrun, hk, h3⟩
theorem EdR.below {B X W W' : World} {lo : Nat} {v : Value} {l : List Pl.Ch} {xs : List Value} (h : EdR B lo W v l xs) (hb : Below X.heap.size X W) (hg : W.grownBy W' v.ownBlock) (hl : X.heap.size ≤ lo) : Below X.heap.size X W' :=
  blw_grown hb hg fun _ hb => Nat.le_trans hl (owns_blk_lt h.row hb).1
/-- Lines that are set, as a list that can be read. -/
theorem sv_raw {B W : World} {lo : Nat} {l : List Pl.Ln} {v : Value} {xs : List Value} (h : W.ownsRow lo 69 2 v l.length xs) (hr : Raw B (reps l.length shSheetLine) (l.flatMap lnD) xs) (hb : Below B.heap.size B W) : Raw W shLns [lnsD l] [v] := by
  rcases h.2 with ⟨rfl, h0⟩ | ⟨g, cap, cur, rfl, q2, q3, q4, q5, q6, q7⟩
  · have hl : l = [] := List.eq_nil_of_length_eq_zero h0
    subst hl
    exact .emp _ _ none 0 .nil
  · refine .row 69 shSheetLine g 0 l.length cap xs (l.flatMap lnD) (Array.getElem?_eq_some_iff.1 q3).1 ⟨Nat.le_trans q4 q5, q4⟩ ?_ (hr.later hb) .nil
    intro j x hx
    rw [← q7] at hx
    have hl : j < l.length * 2 := by have := (List.getElem?_eq_some_iff.1 hx).1; rw [List.length_take] at this; omega
    rw [List.getElem?_take_of_lt hl] at hx
    rw [Nat.zero_add]
    simp only [World.cell?, q3]
    simpa using hx

end Go.Proofs.Ytojcopamegmeeaa

namespace Go.Proofs.Ytojcopamegmeeaa
open Go.RowKit Go.Deep

/-- A function's answer: lines in a row of its own, the words where they were. -/
def AnsV (w0 w : World) (m : List Pl.Ln) (e : Ending) (w' : World) : Prop := ∃ v xs, e = .returned v ∧ w'.ownsRow w.heap.size 69 2 v m.length xs ∧ Raw w0 (reps m.length shSheetLine) (m.flatMap lnD) xs ∧ Below w.heap.size w w'

set_option maxRecDepth 8000 in
set_option maxHeartbeats 8000000 in
theorem thoseDiff (l : List Pl.Ln) (pr : Pl.Ln → Bool) (v : Value) (B : Nat) (w : World) (w0 : World) (hb0 : Below w0.heap.size w0 w) (h : Raw w0 shLns [lnsD l] [v]) (hl : l.length ≤ 4194304)
    (hF : ∀ (x : Pl.Ln) (aw : Option Addr) (cw : Nat) (W : World), x ∈ l → Below w.heap.size w W → Raw W shTxs [.row x.ws.length (txD x.ws)] [.slice aw x.ws.length cw] → Calls Try.prog 66 #[.agg #[.string x.key, .slice aw x.ws.length cw], .pointer (some ⟨B, 0, none⟩)] W fun e w' => e = .returned (.bool (pr x)) ∧ Below W.heap.size W w') :
    Calls Try.prog 67 #[v, .func (.func 66) #[] #[.pointer (some ⟨B, 0, none⟩)]] w (AnsV w0 w (l.filter pr)) := by
  have HB0 := uh hb0
  clear hb0
  have HL := uh h
  have HF := uh hF
  obtain ⟨va, vc, ev⟩ := h.len0
  subst ev
  clear h hF
  obtain ⟨n, hn⟩ : ∃ n, n = l.length := ⟨_, rfl⟩
  have HN := uh hn
  have hnn : l.length = n := hn.symm
  clear hn
  rw [hnn] at hl
  rw [hnn]
  clear hnn
  go_enter Try.func67, Try.ntmps67
  go_wp2
  go_loopw [5, 10] (fun vo vi wr => ∃ (k : Nat) (xs : List Value), k ≤ n ∧ vi = .int .i64 k ∧ Sv w wr 69 shSheetLine vo ((l.take k).filter pr).length (((l.take k).filter pr).flatMap lnD) xs ∧ Raw w0 (reps ((l.take k).filter pr).length shSheetLine) (((l.take k).filter pr).flatMap lnD) xs ∧ Below w.heap.size w wr) (fun _ vi _ => n - (intOf vi).toNat)
  case atStart => exact ⟨0, [], Nat.zero_le _, rfl, ⟨(Gr.nil w w.heap.size _ shSheetLine).row, .nil⟩, .nil, Below.refl _ _⟩
  case round =>
    obtain ⟨k, xs, hk, rfl, hG, hRW, hB⟩ := hrel
    have HRW := uh hRW
    clear hRW
    have HGr := uh hG
    have HBr := uh hB
    obtain ⟨ua, uc, huu⟩ := hG.shape
    subst huu
    clear hG hB
    by_cases hlt : k < n
    rotate_left
    · have hks : l.take k = l := List.take_of_length_le (by have := HN.out; omega)
      rw [hks] at HGr HRW ⊢
      have HD : Hid (AnsV w0 w (l.filter pr) (.returned (.slice ua (l.filter pr).length uc)) wr) := ⟨_, xs, rfl, HGr.out.row, HRW.out, HBr.out⟩
      clear hks
      go_wp2
      go_ret
      exact HD.out
    have hkL : k < l.length := by have := HN.out; omega
    rcases lns_open HL.out with ⟨e0, _⟩ | ⟨p, o, c, hv, hp, hml, hopen⟩
    · omega
    rw [← HN.out] at hv
    injection hv with g1 _ g3
    subst g1; subst g3
    obtain ⟨aw, cw, hgx, hrx⟩ := hopen k hkL
    have HST := uh (filt_stepE (pr := pr) hkL)
    have hle : ((l.take k).filter pr).length ≤ n := Nat.le_trans (List.length_filter_le _ _) (by rw [List.length_take]; omega)
    have HXM : Hid (l.getD k Pl.lnNo ∈ l) := by
      show _ ∈ _
      have e : l.getD k Pl.lnNo = l[k] := by simp [hkL]
      rw [e]; exact List.getElem_mem hkL
    obtain ⟨x, hx⟩ : ∃ x, x = l.getD k Pl.lnNo := ⟨_, rfl⟩
    rw [← hx] at hgx hrx HST HXM
    have hgr : wr.rangeAt p (o + k * 2) [.string x.key, .slice aw x.ws.length cw] := rA_later hgx hp (blw_trans HB0.out HBr.out)
    have HRX : Hid (Raw w0 shSheetLine (lnD x) [.string x.key, .slice aw x.ws.length cw]) := .s _ hrx
    obtain ⟨m, hm⟩ : ∃ m, m = ((l.take k).filter pr).length := ⟨_, rfl⟩
    rw [← hm] at HGr HRW hle ⊢
    have HM := uh hm
    have hk0 : (0 : Int) ≤ (k : Int) := by omega
    have hkn : (k : Int) < (n : Int) := by omega
    obtain ⟨y, hy⟩ : ∃ y, y = wr.alloc (.cells #[.string x.key, .slice aw x.ws.length cw] 69) := ⟨_, rfl⟩
    have hby : Below wr.heap.size wr y := by rw [hy]; exact blw_alloc (Below.refl _ _) _
    obtain ⟨z0, hz0⟩ : ∃ z, z = wr.heap.size := ⟨_, rfl⟩
    have HG : Hid (LBox y z0 [.string x.key, .slice aw x.ws.length cw]) := by show LBox _ _ _; rw [hy]; exact LBox.new _ #[.string x.key, .slice aw x.ws.length cw] _ _ hz0
    have HC := uh (HF.out x aw cw y HXM.out (blw_trans HBr.out hby) (hrx.later (blw_trans HB0.out (blw_trans HBr.out hby))))
    clear hx hgx hrx hopen hml hm
    go_upto_region 5 with (refine wpList_load_mid rfl 69 _ rfl p (o + k * 2) rfl [.string x.key, .slice aw x.ws.length cw] _ hgr Try.underlying69 rfl (by kernel_rfl) ?_)
    rw [← hy, ← hz0]
    clear hy hgr hp
    replace HGr := uh (HGr.out.later hby)
    replace HBr := uh (blw_trans HBr.out hby)
    clear hby hz0
    have hgl := HG.out.lt
    have hga := HG.out.at_
    go_wp2_with (refine wpList_load_mid rfl 69 _ rfl z0 0 rfl [.string x.key, .slice aw x.ws.length cw] _ hga Try.underlying69 rfl (by kernel_rfl) ?_)
    refine HC.out.mono ?_
    rintro e w1 ⟨rfl, hb1⟩
    replace HGr := uh (HGr.out.later hb1)
    replace HBr := uh (blw_trans HBr.out hb1)
    replace HG := uh (HG.out.later hb1)
    clear hb1 hgl hga HC
    cases hq : pr x
    · have HE : Hid ((l.take (k + 1)).filter pr = (l.take k).filter pr) := by show _ = _; rw [HST.out, hq]; rfl
      clear hq
      go_wp2
      go_roundw
      case rel => exact ⟨k + 1, xs, by omega, by go_num, by rw [HE.out, ← HM.out]; exact HGr.out, by rw [HE.out, ← HM.out]; exact HRW.out, HBr.out⟩
      case measure => simp [intOf]; omega
    · have HE : Hid ((l.take (k + 1)).filter pr = (l.take k).filter pr ++ [x]) := by show _ = _; rw [HST.out, hq]; rfl
      clear hq
      have hgl := HG.out.lt
      have hga := HG.out.at_
      go_wp2_with first | refine wpList_load_mid rfl 69 _ rfl z0 0 rfl [.string x.key, .slice aw x.ws.length cw] _ hga Try.underlying69 rfl (by kernel_rfl) ?_ | (refine sv_push (wa := w) rfl _ _ rfl (.slice ua m uc) m _ xs rfl (HGr.out.later (blw_alloc (Below.refl _ _) _)) w1.heap.size 1 (lnD x) [.string x.key, .slice aw x.ws.length cw] rfl (HRX.out.later HB0.out) (World.news_of_block (cs := #[.string x.key, .slice aw x.ws.length cw]) (heap_alloc_new w1 _)) (by omega) (Nat.le_trans HBr.out.size (by simp)) ?_; intro gg1 cc1 w2 q1 q2; have HQ := uh (And.intro q1 (HGr.out.later (blw_alloc (Below.refl _ _) _) |>.below (blw_alloc HBr.out _) q2)); clear q1 q2)
      go_roundw
      case rel => exact ⟨k + 1, _, by omega, by go_num, by rw [HE.out, List.length_append, ← HM.out, List.flatMap_append, List.flatMap_singleton]; exact HQ.out.1, by rw [HE.out, List.length_append, ← HM.out, List.flatMap_append, List.flatMap_singleton]; show Raw w0 (reps (m + 1) shSheetLine) _ _; rw [reps_snoc]; exact HRW.out.app HRX.out, HQ.out.2⟩
      case measure => simp [intOf]; omega


set_option maxHeartbeats 1000000 in
/-- The closure: is it a line of this key? -/
theorem diffIsI (x key : ByteArray) (v1 : Value) (B : Nat) (w : World) (hB : w.cell? ⟨B, 0, none⟩ = some (.string key)) (hlt : B < w.heap.size) :
    Calls Try.prog 66 #[.agg #[.string x, v1], .pointer (some ⟨B, 0, none⟩)] w fun e w' => e = .returned (.bool (x.toList == key.toList)) ∧ Below w.heap.size w w' := by
  have hne : B ≠ w.heap.size := by omega
  go_enter Try.func66, Try.ntmps66
  go_wp2
  go_ret
  refine ⟨rfl, ?_⟩
  repeat (first | exact Below.refl _ _ | refine blw_alloc ?_ _ | refine Below.drew ?_)

set_option maxRecDepth 8000 in
set_option maxHeartbeats 16000000 in
/-- The closure: are two lines alike? -/
theorem diffAlikeI (rs : List Pl.Ru) (ra : Option Addr) (rc : Nat) (x y : Pl.Ln) (ax ay : Option Addr) (cx cy B : Nat) (w : World) (hB : LBox w B [.slice ra rs.length rc]) (hl : rs.length ≤ 100) (h : Raw w [.row 73 shSheetRule] [rulesD rs] [.slice ra rs.length rc]) (hx : Raw w shTxs [.row x.ws.length (txD x.ws)] [.slice ax x.ws.length cx]) (hy : Raw w shTxs [.row y.ws.length (txD y.ws)] [.slice ay y.ws.length cy]) :
    Calls Try.prog 65 #[.agg #[.string x.key, .slice ax x.ws.length cx], .agg #[.string y.key, .slice ay y.ws.length cy], .pointer (some ⟨B, 0, none⟩)] w fun e w' => e = .returned (.bool (cmpLn rs x y == 0)) ∧ Below w.heap.size w w' := by
  obtain ⟨b0, hb0⟩ : ∃ b, b = w.heap.size := ⟨_, rfl⟩
  obtain ⟨wa, hwa⟩ : ∃ wa, wa = (w.alloc (.cells #[.string x.key, .slice ax x.ws.length cx] 69)).alloc (.cells #[.string y.key, .slice ay y.ws.length cy] 69) := ⟨_, rfl⟩
  have HBA : Hid (Below w.heap.size w wa) := by show Below _ _ _; rw [hwa]; exact blw_alloc (blw_alloc (Below.refl _ _) _) _
  have HX : Hid (LBox wa b0 [.string x.key, .slice ax x.ws.length cx]) := by show LBox _ _ _; rw [hwa, hb0]; exact (LBox.new w #[.string x.key, .slice ax x.ws.length cx] _ _ rfl).past _
  have HY : Hid (LBox wa (b0 + 1) [.string y.key, .slice ay y.ws.length cy]) := by show LBox _ _ _; rw [hwa]; exact LBox.new _ #[.string y.key, .slice ay y.ws.length cy] _ _ (by simp [hb0])
  have HK := uh (hB.later HBA.out)
  have HC := uh (cmpLnI rs ra rc x y ax ay cx cy wa hl (h.later HBA.out) (hx.later HBA.out) (hy.later HBA.out))
  obtain ⟨m, hm⟩ : ∃ m, m = cmpLn rs x y := ⟨_, rfl⟩
  rw [← hm] at HC
  rw [← hm]
  clear hB hl h hx hy hm
  go_enter Try.func65, Try.ntmps65
  go_upto_region 1 with fail
  rw [← hwa, ← hb0]
  clear hwa hb0
  have xk := HK.out.at_
  have xa := HX.out.at_
  have ya := HY.out.at_
  have xkl := HK.out.lt
  have xal := HX.out.lt
  have yal := HY.out.lt
  go_wp2_with (first | refine wpList_load_mid rfl 81 _ rfl B 0 rfl [.slice ra rs.length rc] _ xk Try.underlying81 rfl (by kernel_rfl) ?_ | refine wpList_load_mid rfl 69 _ rfl b0 0 rfl [.string x.key, .slice ax x.ws.length cx] _ xa Try.underlying69 rfl (by kernel_rfl) ?_ | refine wpList_load_mid rfl 69 _ rfl (b0 + 1) 0 rfl [.string y.key, .slice ay y.ws.length cy] _ ya Try.underlying69 rfl (by kernel_rfl) ?_)
  refine HC.out.mono ?_
  rintro e w1 ⟨rfl, hb⟩
  have HB2 := uh (blw_trans HBA.out hb)
  clear hb xk xa ya xkl xal yal
  go_wp2
  go_ret
  exact ⟨rfl, HB2.out⟩

set_option maxRecDepth 8000 in
set_option maxHeartbeats 16000000 in
theorem eqFuncI (A B : List Pl.Ln) (va vb : Value) (p0 : Nat) (f : Pl.Ln → Pl.Ln → Bool) (w : World) (hA : Raw w shLns [lnsD A] [va]) (hB : Raw w shLns [lnsD B] [vb])
    (hF : ∀ (x y : Pl.Ln) (ax ay : Option Addr) (cx cy : Nat) (X : World), Below w.heap.size w X → Raw X shTxs [.row x.ws.length (txD x.ws)] [.slice ax x.ws.length cx] → Raw X shTxs [.row y.ws.length (txD y.ws)] [.slice ay y.ws.length cy] → Calls Try.prog 65 #[.agg #[.string x.key, .slice ax x.ws.length cx], .agg #[.string y.key, .slice ay y.ws.length cy], .pointer (some ⟨p0, 0, none⟩)] X fun e w' => e = .returned (.bool (f x y)) ∧ Below X.heap.size X w') :
    Calls Try.prog 68 #[va, vb, .func (.func 65) #[] #[.pointer (some ⟨p0, 0, none⟩)]] w fun e w' => e = .returned (.bool (Pl.eqL f A B)) ∧ Below w.heap.size w w' := by
  obtain ⟨a1, c1, rfl⟩ := hA.len0
  obtain ⟨a2, c2, rfl⟩ := hB.len0
  have HF := uh hF
  clear hF
  obtain ⟨R, hR⟩ : ∃ R, R = Pl.eqL f A B := ⟨_, rfl⟩
  have HR : Hid (R = Pl.eqL f A B) := hR
  rw [← hR]
  clear hR
  by_cases hlen : A.length = B.length
  rotate_left
  · have hne : ((A.length : Int) != (B.length : Int)) = true := by simp; omega
    have HE : Hid (R = false) := HR.out.trans (eqL_len f A B hlen)
    clear hlen hA hB
    go_enter Try.func68, Try.ntmps68
    go_wp2
    go_ret
    exact ⟨Pl.ret_bool HE.out.symm, Below.refl _ _⟩
  have HA := uh (lns_open hA)
  have HB := uh (lns_open hB)
  obtain ⟨n, hn⟩ : ∃ n, n = A.length := ⟨_, rfl⟩
  have hm : B.length = n := by omega
  rw [← hn] at HA
  rw [hm] at HB
  rw [← hn, hm]
  have HN : Hid (n = A.length ∧ n = B.length) := ⟨hn, hm.symm⟩
  have hnm : n ≤ maxLen := by
    rcases HA.out with ⟨h, _⟩ | ⟨_, _, _, _, _, h, _⟩
    · omega
    · exact h
  unfold maxLen at hnm
  have hne0 : ((n : Int) != (n : Int)) = false := by simp
  clear hA hB hn hm hlen
  go_enter Try.func68, Try.ntmps68
  go_wp2
  go_loopw [17] (fun i wr => ∃ k : Nat, k ≤ n ∧ i = .int .i64 k ∧ Hid (R = Pl.eqL f (A.drop k) (B.drop k)) ∧ Below w.heap.size w wr) (fun i _ => n - (intOf i).toNat)
  case atStart => exact ⟨0, Nat.zero_le _, rfl, HR, Below.refl _ _⟩
  case round =>
    obtain ⟨k, hk, rfl, HI, hB⟩ := hrel
    have HBW := uh hB
    clear hB
    by_cases hlt : k < n
    rotate_left
    · obtain rfl : k = n := by omega
      have HE : Hid (R = true) := by show R = _; rw [HI.out, List.drop_of_length_le (by have := HN.out.1; omega), List.drop_of_length_le (by have := HN.out.2; omega)]; rfl
      go_wp2
      go_ret
      exact ⟨Pl.ret_bool HE.out.symm, HBW.out⟩
    rcases HA.out with ⟨e0, _⟩ | ⟨p, o, c, hv, hp, _, hc⟩
    · omega
    injection hv with g1 _ g3
    subst g1; subst g3
    rcases HB.out with ⟨e0, _⟩ | ⟨p2, o2, c2', hv2, hp2, _, hc2⟩
    · omega
    injection hv2 with k1 _ k3
    subst k1; subst k3
    obtain ⟨ax, cx, hgx, hrx⟩ := hc k (by omega)
    obtain ⟨ay, cy, hgy, hry⟩ := hc2 k (by omega)
    have HS : Hid _ := uh (eqL_at f (A := A) (B := B) (k := k) (by rw [← HN.out.1]; exact hlt) (by rw [← HN.out.2]; exact hlt))
    obtain ⟨x, hx⟩ : ∃ x, x = A.getD k Pl.lnNo := ⟨_, rfl⟩
    obtain ⟨y, hy⟩ : ∃ y, y = B.getD k Pl.lnNo := ⟨_, rfl⟩
    rw [← hx] at HS hgx hrx
    rw [← hy] at HS hgy hry
    have hgx1 : wr.rangeAt p (o + k * 2) [.string x.key, .slice ax x.ws.length cx] := rA_later hgx hp HBW.out
    obtain ⟨w1, hw1⟩ : ∃ z, z = wr.alloc (.cells #[.string x.key, .slice ax x.ws.length cx] 69) := ⟨_, rfl⟩
    have hb1 : Below wr.heap.size wr w1 := by rw [hw1]; exact blw_alloc (Below.refl _ _) _
    obtain ⟨w2, hw2⟩ : ∃ z, z = w1.alloc (.cells #[.string y.key, .slice ay y.ws.length cy] 69) := ⟨_, rfl⟩
    have hb2 : Below w1.heap.size w1 w2 := by rw [hw2]; exact blw_alloc (Below.refl _ _) _
    have HB1 := uh (blw_trans HBW.out hb1)
    have HB2 := uh (blw_trans HB1.out hb2)
    obtain ⟨z0, hz0⟩ : ∃ z, z = wr.heap.size := ⟨_, rfl⟩
    obtain ⟨z1, hz1⟩ : ∃ z, z = w1.heap.size := ⟨_, rfl⟩
    have HXB : Hid (LBox w2 z0 [.string x.key, .slice ax x.ws.length cx]) := by show LBox _ _ _; refine LBox.later ?_ hb2; rw [hw1]; exact LBox.new _ #[.string x.key, .slice ax x.ws.length cx] _ _ hz0
    have HYB : Hid (LBox w2 z1 [.string y.key, .slice ay y.ws.length cy]) := by show LBox _ _ _; rw [hw2]; exact LBox.new _ #[.string y.key, .slice ay y.ws.length cy] _ _ hz1
    have hgy1 : w1.rangeAt p2 (o2 + k * 2) [.string y.key, .slice ay y.ws.length cy] := rA_later hgy hp2 HB1.out
    have HCF := uh (HF.out x y ax ay cx cy w2 HB2.out (hrx.later HB2.out) (hry.later HB2.out))
    have hk0 : (0 : Int) ≤ (k : Int) := by omega
    have hkn : (k : Int) < (n : Int) := by omega
    obtain ⟨b, hb0⟩ : ∃ b, b = f x y := ⟨_, rfl⟩
    rw [← hb0] at HCF HS
    clear hx hy hgx hrx hgy hry hp hp2 hc hc2 hb0 hb1 hb2
    go_upto_region 6 with (refine wpList_load_mid rfl 69 _ rfl p (o + k * 2) rfl [.string x.key, .slice ax x.ws.length cx] _ hgx1 Try.underlying69 rfl (by kernel_rfl) ?_)
    rw [← hw1, ← hz0]
    clear hw1 hz0 hgx1
    go_upto_region 7 with (refine wpList_load_mid rfl 69 _ rfl p2 (o2 + k * 2) rfl [.string y.key, .slice ay y.ws.length cy] _ hgy1 Try.underlying69 rfl (by kernel_rfl) ?_)
    rw [← hw2, ← hz1]
    clear hw2 hz1 hgy1
    have xa := HXB.out.at_
    have xl := HXB.out.lt
    have ya := HYB.out.at_
    have yl := HYB.out.lt
    go_wp2_with (first | refine wpList_load_mid rfl 69 _ rfl z0 0 rfl [.string x.key, .slice ax x.ws.length cx] _ xa Try.underlying69 rfl (by kernel_rfl) ?_ | refine wpList_load_mid rfl 69 _ rfl z1 0 rfl [.string y.key, .slice ay y.ws.length cy] _ ya Try.underlying69 rfl (by kernel_rfl) ?_)
    refine HCF.out.mono ?_
    rintro e w3 ⟨rfl, hb3⟩
    have HB3 := uh (blw_trans HB2.out hb3)
    clear hb3 xa xl ya yl HCF
    cases b
    · have HE : Hid (R = false) := by show R = _; rw [HI.out, HS.out]; rfl
      go_wp2
      go_ret
      exact ⟨Pl.ret_bool HE.out.symm, HB3.out⟩
    · have HE : Hid (R = Pl.eqL f (A.drop (k + 1)) (B.drop (k + 1))) := by show R = _; rw [HI.out, HS.out, Bool.true_and]
      go_wp2
      go_roundw
      case rel => exact ⟨k + 1, by omega, by go_num, HE, HB3.out⟩
      case measure => simp [intOf]; omega

end Go.Proofs.Ytojcopamegmeeaa

namespace Go.Proofs.Ytojcopamegmeeaa
open Go.RowKit Go.Deep

def VEa (w0 : World) (b0 : Nat) (z0 : Nat) (lo : Nat) (xc : Nat) (yc : Nat) (xa : Option Addr) (ya : Option Addr) (x : Pl.Bl) (y : Pl.Bl) (m1 : List Pl.Ln) (m2 : List Pl.Ln) : Nat → Value → World → Prop
  | 0, vv, _ => vv = .pointer (some ⟨(b0 + 1), 2, none⟩)
  | 1, vv, _ => vv = .slice xa x.lines.length xc
  | 2, vv, _ => vv = .func (.func 66) #[] #[.pointer (some ⟨z0, 0, none⟩)]
  | 3, vv, W => ∃ y1 y2 xs, vv = .slice y1 m1.length y2 ∧ W.ownsRow lo 69 2 (.slice y1 m1.length y2) m1.length xs ∧ Raw w0 (reps m1.length shSheetLine) (m1.flatMap lnD) xs
  | 4, vv, _ => vv = .pointer (some ⟨(b0 + 2), 2, none⟩)
  | 5, vv, _ => vv = .slice ya y.lines.length yc
  | 6, vv, _ => vv = .func (.func 66) #[] #[.pointer (some ⟨z0, 0, none⟩)]
  | 7, vv, W => ∃ y1 y2 xs, vv = .slice y1 m2.length y2 ∧ W.ownsRow lo 69 2 (.slice y1 m2.length y2) m2.length xs ∧ Raw w0 (reps m2.length shSheetLine) (m2.flatMap lnD) xs
  | 8, vv, W => ∃ y1 y2 xs, vv = .slice y1 m1.length y2 ∧ W.ownsRow lo 69 2 (.slice y1 m1.length y2) m1.length xs ∧ Raw w0 (reps m1.length shSheetLine) (m1.flatMap lnD) xs
  | 9, vv, W => ∃ y1 y2 xs, vv = .slice y1 m2.length y2 ∧ W.ownsRow lo 69 2 (.slice y1 m2.length y2) m2.length xs ∧ Raw w0 (reps m2.length shSheetLine) (m2.flatMap lnD) xs
  | _, _, _ => True
theorem VEa_mono (w0 : World) (b0 : Nat) (z0 : Nat) (lo : Nat) (xc : Nat) (yc : Nat) (xa : Option Addr) (ya : Option Addr) (x : Pl.Bl) (y : Pl.Bl) (m1 : List Pl.Ln) (m2 : List Pl.Ln) : ∀ jj vv W W', Below W.heap.size W W' → VEa w0 b0 z0 lo xc yc xa ya x y m1 m2 jj vv W → VEa w0 b0 z0 lo xc yc xa ya x y m1 m2 jj vv W' := by
  intro jj vv W W' hb h
  match jj with
  | 0 => exact h
  | 1 => exact h
  | 2 => exact h
  | 3 =>
    obtain ⟨y1, y2, xs, h1, h2, h3⟩ := h
    exact ⟨y1, y2, xs, h1, owns_lt_later h2 hb, h3⟩
  | 4 => exact h
  | 5 => exact h
  | 6 => exact h
  | 7 =>
    obtain ⟨y1, y2, xs, h1, h2, h3⟩ := h
    exact ⟨y1, y2, xs, h1, owns_lt_later h2 hb, h3⟩
  | 8 =>
    obtain ⟨y1, y2, xs, h1, h2, h3⟩ := h
    exact ⟨y1, y2, xs, h1, owns_lt_later h2 hb, h3⟩
  | 9 =>
    obtain ⟨y1, y2, xs, h1, h2, h3⟩ := h
    exact ⟨y1, y2, xs, h1, owns_lt_later h2 hb, h3⟩
  | n + 10 => exact trivial

theorem owns_shape {W : World} {lo : Nat} {t : TypeId} {s n : Nat} {v : Value} {xs : List Value} (h : W.ownsRow lo t s v n xs) : ∃ a c, v = .slice a n c := by
  rcases h.2 with ⟨e, e0⟩ | ⟨_, _, _, e, _⟩
  · exact ⟨_, _, by rw [e, e0]⟩
  · exact ⟨_, _, e⟩
def edTo (x y : Pl.Bl) (rs : List Pl.Ru) (k : Nat) : List Pl.Ch := (rs.take k).flatMap (Pl.keyCh x y)
theorem edTo_step {x y : Pl.Bl} {rs : List Pl.Ru} {k : Nat} (hk : k < rs.length) : edTo x y rs (k + 1) = edTo x y rs k ++ Pl.keyCh x y (rs.getD k Pl.ruNo) := by
  unfold edTo
  rw [Pl.take_snocD Pl.ruNo rs k hk, List.flatMap_append, List.flatMap_singleton]
theorem keyCh_len (x y : Pl.Bl) (r : Pl.Ru) : (Pl.keyCh x y r).length ≤ 1 := by
  unfold Pl.keyCh
  split <;> simp
theorem edTo_len (x y : Pl.Bl) (rs : List Pl.Ru) : ∀ k, (edTo x y rs k).length ≤ k
  | 0 => by simp [edTo]
  | k + 1 => by
    by_cases h : k < rs.length
    · rw [edTo_step h, List.length_append]
      have := edTo_len x y rs k
      have := keyCh_len x y (rs.getD k Pl.ruNo)
      omega
    · have e : edTo x y rs (k + 1) = edTo x y rs k := by unfold edTo; rw [List.take_of_length_le (by omega), List.take_of_length_le (by omega)]
      rw [e]
      have := edTo_len x y rs k
      omega
set_option maxRecDepth 8000 in
set_option maxHeartbeats 16000000 in
theorem editsI (x y : Pl.Bl) (ra xa ya : Option Addr) (rc xc yc : Nat) (w0 w : World) (hb0 : Below w0.heap.size w0 w) (hr : Raw w [.row 73 shSheetRule] [rulesD (Pl.rulesOf x.kind)] [.slice ra (Pl.rulesOf x.kind).length rc]) (hx : Raw w0 shLns [lnsD x.lines] [.slice xa x.lines.length xc]) (hy : Raw w0 shLns [lnsD y.lines] [.slice ya y.lines.length yc]) (hk : x.kind = y.kind) (hn : x.name = y.name) (hlx : x.lines.length ≤ 4194304) (hly : y.lines.length ≤ 4194304) :
    Calls Try.prog 42 #[.agg #[.slice ra (Pl.rulesOf x.kind).length rc], .agg #[.string x.kind, .string x.name, .slice xa x.lines.length xc], .agg #[.string y.kind, .string y.name, .slice ya y.lines.length yc]] w fun e w' => ∃ v xs, e = .returned v ∧ EdR w0 w.heap.size w' v (Pl.diffBl x y) xs ∧ Below w.heap.size w w' := by
  have HX := uh hx
  have HY := uh hy
  have HLX := uh (And.intro hlx hly)
  have HR := uh hr
  have HB0 := uh hb0
  have HRL := uh (rules_len x.kind)
  have HDE : Hid (Pl.diffBl x y = (Pl.rulesOf x.kind).flatMap (Pl.keyCh x y)) := rfl
  have HKP := uh (fun r => keyCh_pr (Pl.rulesOf x.kind) x y r hk hn)
  obtain ⟨rs, hrs⟩ : ∃ rs, rs = Pl.rulesOf x.kind := ⟨_, rfl⟩
  rw [← hrs] at HR HRL HDE HKP
  rw [← hrs]
  clear hx hy hlx hly hr hb0 hrs hk hn
  obtain ⟨n, hn⟩ : ∃ n, n = rs.length := ⟨_, rfl⟩
  have HN := uh hn
  have e1 : rs.length = n := hn.symm
  clear hn
  rw [e1]
  clear e1
  have hn12 : n ≤ 12 := by have := HN.out; have := HRL.out; omega
  obtain ⟨b0, hb0⟩ : ∃ b, b = w.heap.size := ⟨_, rfl⟩
  obtain ⟨wa, hwa⟩ : ∃ wa, wa = ((w.alloc (.cells #[.slice ra n rc] 81)).alloc (.cells #[.string x.kind, .string x.name, .slice xa x.lines.length xc] 42)).alloc (.cells #[.string y.kind, .string y.name, .slice ya y.lines.length yc] 42) := ⟨_, rfl⟩
  have HB : Hid (Below w.heap.size w wa) := by show Below _ _ _; rw [hwa]; exact blw_alloc (blw_alloc (blw_alloc (Below.refl _ _) _) _) _
  have HKB : Hid (LBox wa b0 [.slice ra n rc]) := by show LBox _ _ _; rw [hwa, hb0]; exact ((LBox.new w #[.slice ra n rc] _ _ rfl).past _).past _
  have HXB0 : Hid (LBox wa (b0 + 1) [.string x.kind, .string x.name, .slice xa x.lines.length xc]) := by show LBox _ _ _; rw [hwa]; exact (LBox.new _ #[.string x.kind, .string x.name, .slice xa x.lines.length xc] _ _ (by simp [hb0])).past _
  have HYB0 : Hid (LBox wa (b0 + 2) [.string y.kind, .string y.name, .slice ya y.lines.length yc]) := by show LBox _ _ _; rw [hwa]; exact LBox.new _ #[.string y.kind, .string y.name, .slice ya y.lines.length yc] _ _ (by simp [hb0])
  have HZ := uh hb0
  have HCH := uh (headOfI y.kind y.name (.slice ya y.lines.length yc) wa)
  go_enter Try.func42, Try.ntmps42
  go_upto_region 1 with fail
  rw [← hwa, ← hb0]
  clear hwa hb0
  have ya0 := HYB0.out.at_
  have yl0 := HYB0.out.lt
  go_wp2_with (refine wpList_load_mid rfl 42 _ rfl (b0 + 2) 0 rfl [.string y.kind, .string y.name, .slice ya y.lines.length yc] _ ya0 Try.underlying42 rfl (by kernel_rfl) ?_)
  refine HCH.out.mono ?_
  rintro e w1 ⟨rfl, hb1⟩
  obtain ⟨w2, hw2⟩ : ∃ z, z = w1.alloc (.cells #[.string y.kind, .string y.name] 88) := ⟨_, rfl⟩
  have hb2 : Below w1.heap.size w1 w2 := by rw [hw2]; exact blw_alloc (Below.refl _ _) _
  obtain ⟨bh, hbh⟩ : ∃ z, z = w1.heap.size := ⟨_, rfl⟩
  have HHD : Hid (LBox w2 bh [.string y.kind, .string y.name]) := by show LBox _ _ _; rw [hw2]; exact LBox.new _ #[.string y.kind, .string y.name] _ _ hbh
  have HB2 := uh (blw_trans HB.out (blw_trans hb1 hb2))
  have HKB2 := uh (HKB.out.later (blw_trans hb1 hb2))
  have HXB2 := uh (HXB0.out.later (blw_trans hb1 hb2))
  have HYB2 := uh (HYB0.out.later (blw_trans hb1 hb2))
  clear hb1 hb2 ya0 yl0 HKB HXB0 HYB0 HCH
  go_upto_region 2 with fail
  rw [← hw2, ← hbh]
  clear hw2 hbh
  have HE0 := uh (EdR.nil w0 w2.heap.size w2)
  have k0 := HKB2.out.get 0 _ rfl
  have kl := HKB2.out.lt
  go_wp2
  clear k0 kl
  go_loopw [9, 21] (fun vo vi wr => ∃ (q : Nat) (xs : List Value), q ≤ n ∧ vi = .int .i64 q ∧ EdR w0 w2.heap.size wr vo (edTo x y rs q) xs ∧ Below w2.heap.size w2 wr) (fun _ vi _ => n - (intOf vi).toNat)
  case atStart => exact ⟨0, [], Nat.zero_le _, rfl, HE0.out, Below.refl _ _⟩
  case round =>
    obtain ⟨q, xs, hq, rfl, hE, hB⟩ := hrel
    have HE := uh hE
    have HBr := uh hB
    obtain ⟨ua, uc, huu⟩ := hE.shape
    subst huu
    clear hE hB HE0
    by_cases hlt : q < n
    rotate_left
    · have hks : edTo x y rs q = Pl.diffBl x y := by unfold edTo; rw [HDE.out, List.take_of_length_le (by have := HN.out; omega)]
      obtain ⟨dd, hdd⟩ : ∃ z, z = edTo x y rs q := ⟨_, rfl⟩
      rw [← hdd] at HE hks ⊢
      have HD : Hid (EdR w0 w.heap.size wr (.slice ua dd.length uc) (Pl.diffBl x y) xs) := by rw [← hks]; exact HE.out.weak HB2.out.size
      clear hdd hks HE
      go_wp2
      go_ret
      exact ⟨_, xs, rfl, HD.out, blw_trans HB2.out HBr.out⟩
    have hqL : q < rs.length := by have := HN.out; omega
    obtain ⟨p, o, c, a1, c1, v3, hv, hp, hgx, _, hv3⟩ := rule_at (HR.out.later (blw_trans HB2.out HBr.out)) hqL
    obtain ⟨a3, c3, e3⟩ := hv3.len0
    subst e3
    clear hv3
    rw [← HN.out] at hv
    injection hv with g1 _ g3
    subst g1; subst g3
    have HST := uh (edTo_step (x := x) (y := y) hqL)
    have HKR := uh (HKP.out (rs.getD q Pl.ruNo))
    obtain ⟨r, hrr⟩ : ∃ z, z = rs.getD q Pl.ruNo := ⟨_, rfl⟩
    rw [← hrr] at hgx HST HKR
    have hal : (edTo x y rs q).length ≤ 12 := by have := edTo_len x y rs q; omega
    obtain ⟨ac0, hac⟩ : ∃ z, z = edTo x y rs q := ⟨_, rfl⟩
    rw [← hac] at HE HST hal ⊢
    obtain ⟨an, han⟩ : ∃ z, z = ac0.length := ⟨_, rfl⟩
    rw [← han] at HE hal ⊢
    have HAN := uh han
    have HAL : Hid (ac0.length ≤ 12) := by show _ ≤ _; rw [← han]; exact hal
    have hk0 : (0 : Int) ≤ (q : Int) := by omega
    have hkn : (q : Int) < (n : Int) := by omega
    obtain ⟨w5, hw5⟩ : ∃ z, z = wr.alloc (.cells #[.string r.key, .slice a1 r.args.length c1, .bool r.many, .slice a3 r.dflt.length c3] 73) := ⟨_, rfl⟩
    have hb5 : Below wr.heap.size wr w5 := by rw [hw5]; exact blw_alloc (Below.refl _ _) _
    obtain ⟨z0, hz0⟩ : ∃ z, z = wr.heap.size := ⟨_, rfl⟩
    have HRB : Hid (LBox w5 z0 [.string r.key, .slice a1 r.args.length c1, .bool r.many, .slice a3 r.dflt.length c3]) := by show LBox _ _ _; rw [hw5]; exact LBox.new _ #[.string r.key, .slice a1 r.args.length c1, .bool r.many, .slice a3 r.dflt.length c3] _ _ hz0
    have HB5 := uh (blw_trans HBr.out hb5)
    have HE5 := uh (HE.out.later hb5)
    have HXB := uh (HXB2.out.later HB5.out)
    have HYB := uh (HYB2.out.later HB5.out)
    clear hrr hac han hp hb5 hal HE
    go_upto_region 7 with (refine wpList_load_mid rfl 73 _ rfl p (o + q * 4) rfl [.string r.key, .slice a1 r.args.length c1, .bool r.many, .slice a3 r.dflt.length c3] _ hgx Try.underlying73 rfl (by kernel_rfl) ?_)
    rw [← hw5, ← hz0]
    clear hw5 hz0 hgx
    have HW5 := uh (blw_trans HB2.out HB5.out)
    obtain ⟨m1, hm1⟩ : ∃ z, z = Pl.linesOf x.lines r.key := ⟨_, rfl⟩
    obtain ⟨m2, hm2⟩ : ∃ z, z = Pl.linesOf y.lines r.key := ⟨_, rfl⟩
    have HT1 : Hid (∀ X, Below w5.heap.size w5 X → Calls Try.prog 67 #[.slice xa x.lines.length xc, .func (.func 66) #[] #[.pointer (some ⟨z0, 0, none⟩)]] X (AnsV w0 X m1)) := fun X hX => by
      rw [hm1]
      exact thoseDiff x.lines (fun t => t.key.toList == r.key.toList) (.slice xa x.lines.length xc) z0 X w0 (blw_trans HB0.out (blw_trans HW5.out hX)) HX.out HLX.out.1 (fun t aw cw Z _ hZ _ => diffIsI t.key r.key _ z0 Z ((HRB.out.later (blw_trans hX hZ)).get 0 _ rfl) (HRB.out.later (blw_trans hX hZ)).lt)
    have HT2 : Hid (∀ X, Below w5.heap.size w5 X → Calls Try.prog 67 #[.slice ya y.lines.length yc, .func (.func 66) #[] #[.pointer (some ⟨z0, 0, none⟩)]] X (AnsV w0 X m2)) := fun X hX => by
      rw [hm2]
      exact thoseDiff y.lines (fun t => t.key.toList == r.key.toList) (.slice ya y.lines.length yc) z0 X w0 (blw_trans HB0.out (blw_trans HW5.out hX)) HY.out HLX.out.2 (fun t aw cw Z _ hZ _ => diffIsI t.key r.key _ z0 Z ((HRB.out.later (blw_trans hX hZ)).get 0 _ rfl) (HRB.out.later (blw_trans hX hZ)).lt)
    rw [← hm1, ← hm2] at HKR
    clear hm1 hm2
    go_upto_region 8 with fail
    refine RY.region_past w5 (Below.refl _ _) (VEa w0 b0 z0 w5.heap.size xc yc xa ya x y m1 m2) (VEa_mono _ _ _ _ _ _ _ _ _ _ _ _) (by kernel_rfl) (by kernel_rfl) (by kernel_rfl) (by kernel_rfl) ?_ ?_
    · intro ii o' ho a X hX hk hd
      have z_b0___1_ := HXB.out.later hX
      have z_b0___1_l := z_b0___1_.lt
      have z_b0___2_ := HYB.out.later hX
      have z_b0___2_l := z_b0___2_.lt
      match ii, ho with
      | 0, ho =>
        injection ho with ho; subst ho
        have e4 : a.tmps[4]?.getD undef = .pointer (some ⟨(b0 + 1), 0, none⟩) := (RY.ev_tmp a 4).trans ((hk 4 (by kernel_rfl)).trans rfl)
        exact Or.inl ⟨.pointer (some ⟨(b0 + 1), 2, none⟩), X, by simp [execOp, go_sem, e4], Below.refl _ _, rfl⟩
      | 1, ho =>
        injection ho with ho; subst ho
        have e26 : a.tmps[26]?.getD undef = .pointer (some ⟨(b0 + 1), 2, none⟩) := (RY.ev_tmp a 26).trans (hd 0 _ 26 rfl rfl ⟨⟨0, .data⟩, by simp, rfl, rfl⟩)
        have ycl_ := z_b0___1_.get 2 _ rfl
        exact Or.inl ⟨.slice xa x.lines.length xc, X, by simp [execOp, go_sem, e26, ycl_], Below.refl _ _, rfl⟩
      | 2, ho =>
        injection ho with ho; subst ho
        have e12 : a.tmps[12]?.getD undef = .func (.func 66) #[] #[.pointer (some ⟨z0, 0, none⟩)] := (RY.ev_tmp a 12).trans ((hk 12 (by kernel_rfl)).trans rfl)
        exact Or.inl ⟨.func (.func 66) #[] #[.pointer (some ⟨z0, 0, none⟩)], X, by simp [execOp, go_sem, e12], Below.refl _ _, rfl⟩
      | 3, ho =>
        injection ho with ho; subst ho
        have e27 : a.tmps[27]?.getD undef = .slice xa x.lines.length xc := (RY.ev_tmp a 27).trans (hd 1 _ 27 rfl rfl ⟨⟨1, .data⟩, by simp, rfl, rfl⟩)
        have e28 : a.tmps[28]?.getD undef = .func (.func 66) #[] #[.pointer (some ⟨z0, 0, none⟩)] := (RY.ev_tmp a 28).trans (hd 2 _ 28 rfl rfl ⟨⟨2, .data⟩, by simp, rfl, rfl⟩)
        refine Or.inr ⟨67, #[.slice xa x.lines.length xc, .func (.func 66) #[] #[.pointer (some ⟨z0, 0, none⟩)]], by simp [go_sem, e27, e28], (HT1.out X hX).mono ?_⟩
        rintro e W' ⟨v, xs, rfl, hown, hraw, hb⟩
        obtain ⟨x1, x2, hx⟩ := owns_shape hown
        subst hx
        exact ⟨_, rfl, hb, x1, x2, xs, rfl, owns_weak hown hX.size, hraw⟩
      | 4, ho =>
        injection ho with ho; subst ho
        have e5 : a.tmps[5]?.getD undef = .pointer (some ⟨(b0 + 2), 0, none⟩) := (RY.ev_tmp a 5).trans ((hk 5 (by kernel_rfl)).trans rfl)
        exact Or.inl ⟨.pointer (some ⟨(b0 + 2), 2, none⟩), X, by simp [execOp, go_sem, e5], Below.refl _ _, rfl⟩
      | 5, ho =>
        injection ho with ho; subst ho
        have e30 : a.tmps[30]?.getD undef = .pointer (some ⟨(b0 + 2), 2, none⟩) := (RY.ev_tmp a 30).trans (hd 4 _ 30 rfl rfl ⟨⟨4, .data⟩, by simp, rfl, rfl⟩)
        have ycl_ := z_b0___2_.get 2 _ rfl
        exact Or.inl ⟨.slice ya y.lines.length yc, X, by simp [execOp, go_sem, e30, ycl_], Below.refl _ _, rfl⟩
      | 6, ho =>
        injection ho with ho; subst ho
        have e12 : a.tmps[12]?.getD undef = .func (.func 66) #[] #[.pointer (some ⟨z0, 0, none⟩)] := (RY.ev_tmp a 12).trans ((hk 12 (by kernel_rfl)).trans rfl)
        exact Or.inl ⟨.func (.func 66) #[] #[.pointer (some ⟨z0, 0, none⟩)], X, by simp [execOp, go_sem, e12], Below.refl _ _, rfl⟩
      | 7, ho =>
        injection ho with ho; subst ho
        have e31 : a.tmps[31]?.getD undef = .slice ya y.lines.length yc := (RY.ev_tmp a 31).trans (hd 5 _ 31 rfl rfl ⟨⟨5, .data⟩, by simp, rfl, rfl⟩)
        have e32 : a.tmps[32]?.getD undef = .func (.func 66) #[] #[.pointer (some ⟨z0, 0, none⟩)] := (RY.ev_tmp a 32).trans (hd 6 _ 32 rfl rfl ⟨⟨6, .data⟩, by simp, rfl, rfl⟩)
        refine Or.inr ⟨67, #[.slice ya y.lines.length yc, .func (.func 66) #[] #[.pointer (some ⟨z0, 0, none⟩)]], by simp [go_sem, e31, e32], (HT2.out X hX).mono ?_⟩
        rintro e W' ⟨v, xs, rfl, hown, hraw, hb⟩
        obtain ⟨x1, x2, hx⟩ := owns_shape hown
        subst hx
        exact ⟨_, rfl, hb, x1, x2, xs, rfl, owns_weak hown hX.size, hraw⟩
      | 8, ho =>
        injection ho with ho; subst ho
        obtain ⟨y1, y2, xs29, q29, hO29, hR29⟩ := hd 3 _ 29 rfl rfl ⟨⟨3, .data⟩, by simp, rfl, rfl⟩
        have e29 : a.tmps[29]?.getD undef = .slice y1 m1.length y2 := (RY.ev_tmp a 29).trans q29
        exact Or.inl ⟨_, X, by simp [execOp, go_sem, e29], Below.refl _ _, y1, y2, xs29, rfl, hO29, hR29⟩
      | 9, ho =>
        injection ho with ho; subst ho
        obtain ⟨y1, y2, xs33, q33, hO33, hR33⟩ := hd 7 _ 33 rfl rfl ⟨⟨7, .data⟩, by simp, rfl, rfl⟩
        have e33 : a.tmps[33]?.getD undef = .slice y1 m2.length y2 := (RY.ev_tmp a 33).trans q33
        exact Or.inl ⟨_, X, by simp [execOp, go_sem, e33], Below.refl _ _, y1, y2, xs33, rfl, hO33, hR33⟩
      | n + 10, ho => simp at ho
    intro X vs hX hvs
    obtain ⟨wa1, wc1, xs1, q13, hO1, hR1⟩ := hvs 8 _ 13 rfl rfl
    obtain ⟨wa2, wc2, xs2, q14, hO2, hR2⟩ := hvs 9 _ 14 rfl rfl
    simp only [RY.putAll, Act.put, List.setIfInBounds_toArray, List.set_cons_zero, List.set_cons_succ]
    generalize vs 26 = s26
    generalize vs 27 = s27
    generalize vs 28 = s28
    generalize vs 29 = s29
    generalize vs 30 = s30
    generalize vs 31 = s31
    generalize vs 32 = s32
    generalize vs 33 = s33
    rw [q13]
    rw [q14]
    clear hvs
    obtain ⟨W5, hW5⟩ : ∃ z, z = X := ⟨_, rfl⟩
    rw [← hW5] at hX hO1 hO2 ⊢
    have HX5 := uh (blw_trans HB5.out hX)
    have HO1 := uh (And.intro hO1 hR1)
    have HO2 := uh (And.intro hO2 hR2)
    have HE5b := uh (HE5.out.later hX)
    have HRB5 := uh (HRB.out.later hX)
    have HWW := uh (blw_trans HB0.out (blw_trans HB2.out HX5.out))
    have HCE := uh (eqFuncI m1 m2 (.slice wa1 m1.length wc1) (.slice wa2 m2.length wc2) b0 (fun x y => cmpLn rs x y == 0) W5 (sv_raw hO1 hR1 HWW.out) (sv_raw hO2 hR2 HWW.out) (fun x y ax ay cx cy Z hZ h1 h2 => diffAlikeI rs _ _ x y ax ay cx cy b0 Z (by rw [← HN.out]; exact (HKB2.out.later HX5.out).later hZ) (by have := HRL.out; omega) (by exact HR.out.later (blw_trans (blw_trans HB2.out HX5.out) hZ)) h1 h2))
    obtain ⟨eb, heb⟩ : ∃ z, z = Pl.eqL (fun x y => cmpLn rs x y == 0) m1 m2 := ⟨_, rfl⟩
    rw [← heb] at HCE HKR
    clear hW5 hX hO1 hO2 hR1 hR2 heb q13 q14 HE5 HRB HT1 HT2 HXB HYB
    go_wp2_with fail
    refine HCE.out.mono ?_
    rintro e W6 ⟨rfl, hb6⟩
    have HB6 : Hid (Below w.heap.size w W6) := blw_trans HB2.out (blw_trans HX5.out hb6)
    have HE6 := uh (HE5b.out.later hb6)
    have HRB6 := uh (HRB5.out.later hb6)
    have HHD6 := uh ((HHD.out.later HX5.out).later hb6)
    have HO6 := uh (owns_lt_later HO2.out.1 hb6)
    have HB26 := uh (blw_trans HX5.out hb6)
    clear hb6 HCE HE5b HRB5 HO1
    cases eb
    rotate_left
    · have HKC : Hid (Pl.keyCh x y r = []) := by show _ = _; rw [HKR.out]; rfl
      have HE9 : Hid (EdR w0 w2.heap.size W6 (.slice ua an uc) (edTo x y rs (q + 1)) xs) := by show EdR _ _ _ _ _ _; rw [HST.out, HKC.out, List.append_nil]; exact HE6.out
      go_wp2
      go_roundw
      case rel => exact ⟨q + 1, xs, by omega, by go_num, HE9.out, HB26.out⟩
      case measure => simp [intOf]; omega
    replace HKR : Hid (Pl.keyCh x y r = [⟨if m2.length = 0 then 4 else 3, y.kind, y.name, r.key, m2⟩]) := by show _ = _; rw [HKR.out]; rfl
    have HO2R := HO2.out.2
    obtain ⟨mn, hmn⟩ : ∃ z, z = m2.length := ⟨_, rfl⟩
    rw [← hmn]
    have HMN := uh hmn
    clear hmn
    have hmn6 : mn ≤ 4194304 ∨ True := Or.inr trivial
    by_cases h0 : mn = 0
    · subst h0
      have hm0 : m2 = [] := List.eq_nil_of_length_eq_zero HMN.out.symm
      have HKC : Hid (Pl.keyCh x y r = [⟨4, y.kind, y.name, r.key, m2⟩]) := by show _ = _; rw [HKR.out, if_pos HMN.out.symm]
      have HU : Hid (EdV w0 W6 ⟨4, y.kind, y.name, r.key, m2⟩ (.iface 119 (.agg #[.string y.kind, .string y.name, .string r.key]))) := by show EdV _ _ _ _; rw [hm0]; exact .unset _ _ _
      obtain ⟨wb, hwb⟩ : ∃ z, z = W6.alloc (.cells #[.iface 119 (.agg #[.string y.kind, .string y.name, .string r.key])] 51) := ⟨_, rfl⟩
      have hbb : Below W6.heap.size W6 wb := by rw [hwb]; exact blw_alloc (Below.refl _ _) _
      have HSRC : Hid (EdS w0 wb (.slice (some ⟨W6.heap.size, 0, none⟩) 1 1) [⟨4, y.kind, y.name, r.key, m2⟩] [.iface 119 (.agg #[.string y.kind, .string y.name, .string r.key])]) := by show EdS _ _ _ _ _; rw [hwb]; exact EdS.one HU.out 51
      obtain ⟨av, cv, W7, hrun, hE7, hg7⟩ := ed_app 48 (HE6.out.later hbb) HSRC.out (blw_trans HB26.out hbb).size (by have := HAL.out; rw [List.length_singleton]; omega)
      have HE7 := uh hE7
      have HB27 := uh (HE6.out.later hbb |>.below (blw_trans HB26.out hbb) hg7 (Nat.le_refl _))
      rw [hwb, ← HAN.out, List.length_singleton] at hrun
      rw [List.length_singleton, ← HAN.out] at HE7
      have hh := HHD6.out.at_
      have hhl := HHD6.out.lt
      have rr := HRB6.out.get 0 _ rfl
      have rl := HRB6.out.lt
      clear hbb hwb hE7 hg7
      go_wp2_with (first | refine wpList_load_mid rfl 88 _ rfl bh 0 rfl [.string y.kind, .string y.name] _ hh Try.underlying88 rfl (by kernel_rfl) ?_ | (at_builtin; refine Go.Lib.wpList_append_run _ rfl _ _ 48 48 rfl _ _ rfl rfl _ W7 hrun ?_))
      clear hrun hh hhl rr rl
      go_roundw
      case rel => exact ⟨q + 1, _, by omega, by go_num, by rw [HST.out, HKC.out]; exact HE7.out, HB27.out⟩
      case measure => simp [intOf]; omega
    · have hm1 : ¬ ((mn : Int) = 0) := by omega
      have HKC : Hid (Pl.keyCh x y r = [⟨3, y.kind, y.name, r.key, m2⟩]) := by show _ = _; rw [HKR.out, if_neg (by rw [← HMN.out]; exact h0)]
      have HU : Hid (EdV w0 W6 ⟨3, y.kind, y.name, r.key, m2⟩ (.iface 121 (.agg #[.string y.kind, .string y.name, .string r.key, .slice wa2 mn wc2]))) := by show EdV _ _ _ _; rw [HMN.out]; exact .set _ _ _ _ _ _ _ (owns_weak HO6.out (Nat.zero_le _)) HO2R
      obtain ⟨wb, hwb⟩ : ∃ z, z = W6.alloc (.cells #[.iface 121 (.agg #[.string y.kind, .string y.name, .string r.key, .slice wa2 mn wc2])] 51) := ⟨_, rfl⟩
      have hbb : Below W6.heap.size W6 wb := by rw [hwb]; exact blw_alloc (Below.refl _ _) _
      have HSRC : Hid (EdS w0 wb (.slice (some ⟨W6.heap.size, 0, none⟩) 1 1) [⟨3, y.kind, y.name, r.key, m2⟩] [.iface 121 (.agg #[.string y.kind, .string y.name, .string r.key, .slice wa2 mn wc2])]) := by show EdS _ _ _ _ _; rw [hwb]; exact EdS.one HU.out 51
      obtain ⟨av, cv, W7, hrun, hE7, hg7⟩ := ed_app 48 (HE6.out.later hbb) HSRC.out (blw_trans HB26.out hbb).size (by have := HAL.out; rw [List.length_singleton]; omega)
      have HE7 := uh hE7
      have HB27 := uh (HE6.out.later hbb |>.below (blw_trans HB26.out hbb) hg7 (Nat.le_refl _))
      rw [hwb, ← HAN.out, List.length_singleton] at hrun
      rw [List.length_singleton, ← HAN.out] at HE7
      have hh := HHD6.out.at_
      have hhl := HHD6.out.lt
      have rr := HRB6.out.get 0 _ rfl
      have rl := HRB6.out.lt
      clear hbb hwb hE7 hg7
      go_wp2_with (first | refine wpList_load_mid rfl 88 _ rfl bh 0 rfl [.string y.kind, .string y.name] _ hh Try.underlying88 rfl (by kernel_rfl) ?_ | (at_builtin; refine Go.Lib.wpList_append_run _ rfl _ _ 48 48 rfl _ _ rfl rfl _ W7 hrun ?_))
      clear hrun hh hhl rr rl
      go_roundw
      case rel => exact ⟨q + 1, _, by omega, by go_num, by rw [HST.out, HKC.out]; exact HE7.out, HB27.out⟩
      case measure => simp [intOf]; omega

end Go.Proofs.Ytojcopamegmeeaa
