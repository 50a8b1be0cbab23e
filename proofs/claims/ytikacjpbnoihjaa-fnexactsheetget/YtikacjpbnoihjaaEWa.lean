/-
  Sheets: bare bytes, digits, how a word is written: the specification.
-/
import Derived.Deep.AppendLies
import Derived.Laws.AppendOwn
import Derived.Test.YtikacjpbnoihjaaProg
import Derived.RowKit
import Derived.WalkKit
import Derived.WalkSpells
import Derived.WalkLawsBesides
import Derived.Laws.IdiomStrings
import Derived.Deep.RegionHeldLaw
import Derived.Test.YtikacjpbnoihjaaUB
import Derived.Test.YtikacjpbnoihjaaEPl
namespace Go.Proofs.Ytikacjpbnoihjaa
open Go.RowKit Go.Deep

/-- A row of one's own that may grow; what its elements lead to lies in blocks G of its own. -/
structure Gr (W : World) (lo : Nat) (t : TypeId) (sh : List Sh) (v : Value) (n : Nat) (G : List Nat) (es : List Dt) (xs : List Value) : Prop where
  row : W.ownsRow lo t sh.length v n xs
  rep : Rep W false (reps n sh) G es xs
  nd : G.Nodup
  fr : ∀ b ∈ G, lo ≤ b ∧ v.ownBlock ≠ some b
theorem owns_blk_lt {W : World} {lo e size m : Nat} {v : Value} {xs : List Value} (h : W.ownsRow lo e size v m xs) {g : Nat} (hg : v.ownBlock = some g) : lo ≤ g ∧ g < W.heap.size := by
  rcases h.2 with ⟨q, _⟩ | ⟨g', cap, cur, q1, q2, q3, _⟩
  · rw [q] at hg; cases hg
  · rw [q1] at hg; injection hg with hg; subst hg; exact ⟨q2, (Array.getElem?_eq_some_iff.1 q3).1⟩
theorem owns_lt_later {w w' : World} {lo : Nat} {e : TypeId} {size : Nat} {v : Value} {n : Nat} {xs : List Value} (h : w.ownsRow lo e size v n xs) (hb : Below w.heap.size w w') : w'.ownsRow lo e size v n xs := by
  refine ⟨h.1, h.2.imp id ?_⟩
  rintro ⟨g, cap, cur, h1, h2, h3, h4⟩
  exact ⟨g, cap, cur, h1, h2, (hb.block g (Array.getElem?_eq_some_iff.1 h3).1).trans h3, h4⟩
theorem Gr.later {W W' : World} {lo : Nat} {t : TypeId} {sh : List Sh} {v : Value} {n : Nat} {G : List Nat} {es : List Dt} {xs : List Value} (h : Gr W lo t sh v n G es xs) (hb : Below W.heap.size W W') : Gr W' lo t sh v n G es xs :=
  ⟨owns_lt_later h.row hb, h.rep.later hb, h.nd, h.fr⟩
theorem Gr.nil (W : World) (lo : Nat) (t : TypeId) (sh : List Sh) : Gr W lo t sh (.slice none 0 0) 0 [] [] [] :=
  ⟨⟨by simp, Or.inl ⟨rfl, rfl⟩⟩, .nil, List.nodup_nil, by simp⟩
theorem Gr.emp {W : World} {lo g : Nat} {t : TypeId} (sh : List Sh) (hg : W.heap[g]? = some (.cells #[] t (0, 0))) (hl : lo ≤ g) : Gr W lo t sh (.slice (some ⟨g, 0, none⟩) 0 0) 0 [] [] [] :=
  ⟨⟨by simp, Or.inr ⟨g, 0, #[], rfl, hl, hg, Nat.le_refl _, by decide, by simp, by simp⟩⟩, .nil, List.nodup_nil, by simp⟩
theorem mks_grown {W W' : World} {row : Option Nat} (hg : W.grownBy W' row) (hown : ∀ b u m, row = some b → OwnBlk W b u m → OwnBlk W' b u m) : Marks (fun b => row = some b) W W' :=
  ⟨hg.os, hg.tape, hg.output, hg.size, fun p hp hn => hg.block p hp (fun e => hn e.symm), fun b u m ho => by
    by_cases e : row = some b
    · exact hown b u m e ho
    · obtain ⟨cs, h1, h2⟩ := ho
      exact ⟨cs, (hg.block b (Array.getElem?_eq_some_iff.1 h1).1 (fun q => e q.symm)).trans h1, h2⟩⟩
/-- Data that do not lie in the row that has grown. -/
theorem Rep.grown {W W' : World} {tt : Bool} {ss : List Sh} {F : List Nat} {ds : List Dt} {cs : List Value} {row : Option Nat} (h : Rep W tt ss F ds cs) (hg : W.grownBy W' row) : (∀ b ∈ F, row ≠ some b) → Rep W' tt ss F ds cs := by
  induction h with
  | nil => intro _; exact .nil
  | i n h ih => intro hS; exact .i n (ih hS)
  | b n h ih => intro hS; exact .b n (ih hS)
  | s n h ih => intro hS; exact .s n (ih hS)
  | emp t sh a ht h ih => intro hS; exact .emp t sh a ht (ih hS)
  | row t sh p o n c u m vs es G ho hm ht hn hr he h ih1 ih =>
    intro hS
    have hb : W'.heap[p]? = W.heap[p]? := hg.block p ho.lt (fun e => hS p (by simp) e.symm)
    refine .row t sh p o n c u m vs es G ?_ hm ht hn (rA_same hr fun j _ => ?_) (ih1 fun q hq => hS q (by simp [hq])) (ih fun q hq => hS q (by simp [hq]))
    · obtain ⟨cs, h1, h2⟩ := ho; exact ⟨cs, hb.trans h1, h2⟩
    · exact World.cell?_of_block (a := ⟨p, o + j, none⟩) hb
theorem blw_grown {a W W' : World} {row : Option Nat} (h : Below a.heap.size a W) (hg : W.grownBy W' row) (hr : ∀ b, row = some b → a.heap.size ≤ b) : Below a.heap.size a W' :=
  ⟨hg.os.trans h.os, hg.tape.trans h.tape, hg.output.trans h.output, Nat.le_trans h.size hg.size, fun p hp => (hg.block p (Nat.lt_of_lt_of_le hp h.size) (fun e => by have := hr p e.symm; omega)).trans (h.block p hp)⟩
theorem LBox.grown {W W' : World} {row : Option Nat} {p : Nat} {cs : List Value} (h : LBox W p cs) (hg : W.grownBy W' row) (hn : row ≠ some p) : LBox W' p cs :=
  ⟨Nat.lt_of_lt_of_le h.lt hg.size, rA_same h.at_ fun j _ => World.cell?_of_block (a := ⟨p, 0 + j, none⟩) (hg.block p h.lt (fun e => hn e.symm))⟩
theorem Gr.shape {W : World} {lo : Nat} {t : TypeId} {sh : List Sh} {v : Value} {n : Nat} {G : List Nat} {es : List Dt} {xs : List Value} (h : Gr W lo t sh v n G es xs) : ∃ a c, v = .slice a n c := by
  rcases h.row.2 with ⟨e, rfl⟩ | ⟨_, _, _, e, _⟩
  · exact ⟨_, _, e⟩
  · exact ⟨_, _, e⟩
theorem Gr.blk {W : World} {lo : Nat} {t : TypeId} {sh : List Sh} {v : Value} {n : Nat} {G : List Nat} {es : List Dt} {xs : List Value} (h : Gr W lo t sh v n G es xs) {p : Nat} (hp : p < lo) : v.ownBlock ≠ some p := fun e => by
  have := (owns_blk_lt h.row e).1; omega
theorem news_new (W : World) (cs : Array Value) (t : TypeId) : ∀ j u, cs.toList[j]? = some u → (W.alloc (.cells cs t)).cell? ((⟨W.heap.size, 0, none⟩ : Addr).add j) = some u := fun j u hu => by
  rw [Addr.add_mid, Nat.zero_add]
  refine (World.cell?_alloc_at _ _ _ _ rfl).trans ?_
  simpa using hu
/-- One element more, by an append. -/
theorem Gr.push {W w2 w3 : World} {lo : Nat} {t : TypeId} {sh : List Sh} {v : Value} {n : Nat} {G F : List Nat} {es e : List Dt} {xs c : List Value} {g cap : Nat} (h : Gr W lo t sh v n G es xs) (hb : Below W.heap.size W w2) (hr : Rep w2 false sh F e c) (hnd : F.Nodup) (hf : ∀ b ∈ F, W.heap.size ≤ b) (hlo : lo ≤ W.heap.size)
    (hown : w3.ownsRow lo t sh.length (.slice (some ⟨g, 0, none⟩) (n + 1) cap) (n + 1) (xs ++ c)) (hg : w2.grownBy w3 v.ownBlock) {H : Nat} (hH : w2.heap.size ≤ H) (hgg : v.ownBlock = some g ∨ g = H) :
    Gr w3 lo t sh (.slice (some ⟨g, 0, none⟩) (n + 1) cap) (n + 1) (G ++ F) (es ++ e) (xs ++ c) := by
  have h2 := h.later hb
  have hvF : ∀ b ∈ F, v.ownBlock ≠ some b := fun b hb e => by have := (owns_blk_lt h.row e).2; have := hf b hb; omega
  refine ⟨hown, ?_, ?_, ?_⟩
  · rw [reps_snoc]
    exact (h2.rep.grown hg fun b hb => (h2.fr b hb).2).app (hr.grown hg hvF)
  · rw [List.nodup_append]
    exact ⟨h.nd, hnd, fun a ha b hb e => by have := h.rep.lt a ha; have := hf b hb; omega⟩
  · intro b hb
    rcases List.mem_append.1 hb with hb | hb
    · refine ⟨(h2.fr b hb).1, fun e => ?_⟩
      have e1 : g = b := by injection e
      rcases hgg with q | q
      · exact (h2.fr b hb).2 (by rw [q, e1])
      · have := h2.rep.lt b hb; omega
    · refine ⟨Nat.le_trans hlo (hf b hb), fun e => ?_⟩
      have e1 : g = b := by injection e
      rcases hgg with q | q
      · exact hvF b hb (by rw [q, e1])
      · have := hr.lt b hb; omega
/-- A row that has grown, as data of its own. -/
theorem Gr.done {W : World} {lo : Nat} {t : TypeId} {sh : List Sh} {v : Value} {n : Nat} {G : List Nat} {es : List Dt} {xs : List Value} (h : Gr W lo t sh v n G es xs) : ∃ F, Rep W false [.row t sh] F [.row n es] [v] ∧ F.Nodup ∧ ∀ b ∈ F, lo ≤ b := by
  rcases h.row.2 with ⟨rfl, rfl⟩ | ⟨g, cap, cur, rfl, q2, q3, q4, q5, q6, q7⟩
  · have hr := h.rep
    rw [reps_zero] at hr
    cases hr
    exact ⟨[], .emp _ _ none rfl .nil, List.nodup_nil, by simp⟩
  · refine ⟨g :: (G ++ []), .row t sh g 0 n cap t (cap * sh.length) xs es G ⟨cur, q3, q6⟩ (by omega) (by simp) ⟨Nat.le_trans q4 q5, q4⟩ ?_ h.rep .nil, ?_, ?_⟩
    · intro j x hx
      rw [← q7] at hx
      have hl : j < n * sh.length := by have := (List.getElem?_eq_some_iff.1 hx).1; rw [List.length_take] at this; omega
      rw [List.getElem?_take_of_lt hl] at hx
      rw [Nat.zero_add]
      simp only [World.cell?, q3]
      simpa using hx
    · rw [List.append_nil, List.nodup_cons]
      exact ⟨fun e => (h.fr g e).2 rfl, h.nd⟩
    · intro b hb
      rw [List.append_nil] at hb
      rcases List.mem_cons.1 hb with rfl | hb
      · exact q2
      · exact (h.fr b hb).1

theorem flat_len2 {α : Type} (f : α → List Dt) (k : Nat) (hf : ∀ x, (f x).length = k) : ∀ l : List α, (l.flatMap f).length = l.length * k
  | [] => by simp
  | x :: xs => by rw [List.flatMap_cons, List.length_append, hf, flat_len2 f k hf xs, List.length_cons, Nat.add_mul]; omega
theorem el_flat {α : Type} (d : α) (f : α → List Dt) (k : Nat) (hf : ∀ x, (f x).length = k) (l : List α) (q : Nat) (hq : q < l.length) : el k q (l.flatMap f) = f (l.getD q d) := by
  have e : l = l.take q ++ (l.getD q d :: l.drop (q + 1)) := by
    have : l.getD q d = l[q] := by simp [hq]
    rw [this, List.getElem_cons_drop, List.take_append_drop]
  have hl : ((l.take q).flatMap f).length = q * k := by rw [flat_len2 f k hf, List.length_take]; congr 1; omega
  have e2 : l.flatMap f = (l.take q).flatMap f ++ (f (l.getD q d) ++ (l.drop (q + 1)).flatMap f) := by
    conv => lhs; rw [e]
    rw [List.flatMap_append, List.flatMap_cons]
  rw [e2]
  exact el_mid hl (hf _)
theorem typ_rows {α : Type} {sh : List Sh} (f : α → List Dt) (h : ∀ e, Typ sh e → ∃ m, e = f m) : ∀ {n : Nat} {es : List Dt}, Typ (reps n sh) es → ∃ ms : List α, ms.length = n ∧ es = ms.flatMap f
  | 0, es, t => ⟨[], rfl, by rw [reps_zero] at t; rw [t.c_n]; rfl⟩
  | n + 1, es, t => by
    rw [reps_succ] at t
    obtain ⟨d1, d2, rfl, t1, t2⟩ := Typ.cut _ t
    obtain ⟨m, rfl⟩ := h d1 t1
    obtain ⟨ms, rfl, rfl⟩ := typ_rows f h t2
    exact ⟨m :: ms, by simp, by simp⟩
theorem wt_mem {α : Type} (f : α → List Dt) : ∀ (l : List α) (x : α), x ∈ l → wtL (f x) ≤ wtL (l.flatMap f)
  | y :: ys, x, hx => by
    rw [List.flatMap_cons, wtL_app]
    rcases List.mem_cons.1 hx with rfl | hx
    · omega
    · have := wt_mem f ys x hx; omega
/-- The elements of a list of data. -/
theorem raw_at {α : Type} (d : α) (f : α → List Dt) {W : World} {t : TypeId} {sh : List Sh} {l : List α} {v : Value} (hf : ∀ x, (f x).length = sh.length) (h : Raw W [.row t sh] [.row l.length (l.flatMap f)] [v]) :
    ∃ a c, v = .slice a l.length c ∧ l.length ≤ c ∧ l.length ≤ maxLen ∧ ∀ i, i < l.length → ∃ b off ve, a = some ⟨b, off, none⟩ ∧ b < W.heap.size ∧ W.rangeAt b (off + i * sh.length) ve ∧ Raw W sh (f (l.getD i d)) ve := by
  rcases h.slice with ⟨h0, _, a, c, rfl⟩ | ⟨p, o, c, rfl, hp, hn, vs, hr, hR⟩
  · refine ⟨a, c, by rw [h0], by omega, by rw [h0]; exact Nat.zero_le _, fun i hi => by omega⟩
  · refine ⟨_, c, rfl, hn.2, hn.1, fun i hi => ?_⟩
    obtain ⟨ve, hE, hg⟩ := hR.el hi hr
    rw [el_flat d f _ hf l i hi] at hE
    exact ⟨p, o, ve, rfl, hp, hg, hE⟩
end Go.Proofs.Ytikacjpbnoihjaa

namespace Go.Proofs.Ytikacjpbnoihjaa
open Go.RowKit Go.Deep

set_option maxHeartbeats 1000000 in
theorem l37In_any (n lo hi : Int) (w : World) :
    Calls Try.prog 53 #[.int .i64 n, .int .i64 lo, .int .i64 hi] w fun e w' => e = .returned (.bool (decide (lo ≤ n) && decide (n ≤ hi))) ∧ w = w' := by
  by_cases h : lo ≤ n
  all_goals
    go_enter Try.func53, Try.ntmps53
    go_wp2
    go_ret
    exact ⟨Pl.ret_bool (by rw [Bool.eq_iff_iff]; simp; try omega), rfl⟩

end Go.Proofs.Ytikacjpbnoihjaa
