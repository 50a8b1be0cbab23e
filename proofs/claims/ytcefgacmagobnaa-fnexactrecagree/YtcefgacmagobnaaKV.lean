/-
  Recorders as data by cells.
-/
import Derived.Deep.AppendLies
import Derived.Laws.AppendOwn
import Derived.Test.YtcefgacmagobnaaUB
import Derived.Test.YtcefgacmagobnaaKSh
import Derived.Test.YtcefgacmagobnaaRvP
import Derived.Test.YtcefgacmagobnaaRvH
import Derived.Test.YtcefgacmagobnaaUL
namespace Go.Proofs.Ytcefgacmagobnaa
open Go.RowKit Go.Deep

/-- A row of one's own that may grow; what its elements lead to lies in blocks G of its own. -/
structure Gr (W : World) (lo : Nat) (t : TypeId) (sh : List Sh) (v : Value) (n : Nat) (G : List Nat) (es : List Dt) (xs : List Value) : Prop where
  row : W.ownsRow lo t sh.length v n xs
  rep : Rep W false (reps n sh) G es xs
  nd : G.Nodup
  fr : ∀ b ∈ G, lo ≤ b ∧ v.ownBlock ≠ some b
theorem owns_blk_lt {W : World} {lo e size m : Nat} {v : Value} {xs : List Value} (h : W.ownsRow lo e size v m xs) {g : Nat} (hg : v.ownBlock = some g) : lo ≤ g ∧ g < W.heap.size := by
  rcases h.2 with ⟨q, _⟩ | ⟨g', cap, cur, q1, q2, q3, _⟩
  · rw [q] at hg; cases hg
  · rw [q1] at hg; injection hg with hg; subst hg; exact ⟨q2, (Array.getElem?_eq_some_iff.1 q3).1⟩
theorem owns_lt_later {w w' : World} {lo : Nat} {e : TypeId} {size : Nat} {v : Value} {n : Nat} {xs : List Value} (h : w.ownsRow lo e size v n xs) (hb : Below w.heap.size w w') : w'.ownsRow lo e size v n xs := by
  refine ⟨h.1, h.2.imp id ?_⟩
  rintro ⟨g, cap, cur, h1, h2, h3, h4⟩
  exact ⟨g, cap, cur, h1, h2, (hb.block g (Array.getElem?_eq_some_iff.1 h3).1).trans h3, h4⟩
theorem Gr.later {W W' : World} {lo : Nat} {t : TypeId} {sh : List Sh} {v : Value} {n : Nat} {G : List Nat} {es : List Dt} {xs : List Value} (h : Gr W lo t sh v n G es xs) (hb : Below W.heap.size W W') : Gr W' lo t sh v n G es xs :=
  ⟨owns_lt_later h.row hb, h.rep.later hb, h.nd, h.fr⟩
theorem Gr.nil (W : World) (lo : Nat) (t : TypeId) (sh : List Sh) : Gr W lo t sh (.slice none 0 0) 0 [] [] [] :=
  ⟨⟨by simp, Or.inl ⟨rfl, rfl⟩⟩, .nil, List.nodup_nil, by simp⟩
theorem Gr.emp {W : World} {lo g : Nat} {t : TypeId} (sh : List Sh) (hg : W.heap[g]? = some (.cells #[] t (0, 0))) (hl : lo ≤ g) : Gr W lo t sh (.slice (some ⟨g, 0, none⟩) 0 0) 0 [] [] [] :=
  ⟨⟨by simp, Or.inr ⟨g, 0, #[], rfl, hl, hg, Nat.le_refl _, by decide, by simp, by simp⟩⟩, .nil, List.nodup_nil, by simp⟩
theorem mks_grown {W W' : World} {row : Option Nat} (hg : W.grownBy W' row) (hown : ∀ b u m, row = some b → OwnBlk W b u m → OwnBlk W' b u m) : Marks (fun b => row = some b) W W' :=
  ⟨hg.os, hg.tape, hg.output, hg.size, fun p hp hn => hg.block p hp (fun e => hn e.symm), fun b u m ho => by
    by_cases e : row = some b
    · exact hown b u m e ho
    · obtain ⟨cs, h1, h2⟩ := ho
      exact ⟨cs, (hg.block b (Array.getElem?_eq_some_iff.1 h1).1 (fun q => e q.symm)).trans h1, h2⟩⟩
/-- Data that do not lie in the row that has grown. -/
theorem Rep.grown {W W' : World} {tt : Bool} {ss : List Sh} {F : List Nat} {ds : List Dt} {cs : List Value} {row : Option Nat} (h : Rep W tt ss F ds cs) (hg : W.grownBy W' row) : (∀ b ∈ F, row ≠ some b) → Rep W' tt ss F ds cs := by
  induction h with
  | nil => intro _; exact .nil
  | i n h ih => intro hS; exact .i n (ih hS)
  | b n h ih => intro hS; exact .b n (ih hS)
  | s n h ih => intro hS; exact .s n (ih hS)
  | emp t sh a ht h ih => intro hS; exact .emp t sh a ht (ih hS)
  | row t sh p o n c u m vs es G ho hm ht hn hr he h ih1 ih =>
    intro hS
    have hb : W'.heap[p]? = W.heap[p]? := hg.block p ho.lt (fun e => hS p (by simp) e.symm)
    refine .row t sh p o n c u m vs es G ?_ hm ht hn (rA_same hr fun j _ => ?_) (ih1 fun q hq => hS q (by simp [hq])) (ih fun q hq => hS q (by simp [hq]))
    · obtain ⟨cs, h1, h2⟩ := ho; exact ⟨cs, hb.trans h1, h2⟩
    · exact World.cell?_of_block (a := ⟨p, o + j, none⟩) hb
theorem blw_grown {a W W' : World} {row : Option Nat} (h : Below a.heap.size a W) (hg : W.grownBy W' row) (hr : ∀ b, row = some b → a.heap.size ≤ b) : Below a.heap.size a W' :=
  ⟨hg.os.trans h.os, hg.tape.trans h.tape, hg.output.trans h.output, Nat.le_trans h.size hg.size, fun p hp => (hg.block p (Nat.lt_of_lt_of_le hp h.size) (fun e => by have := hr p e.symm; omega)).trans (h.block p hp)⟩
theorem LBox.grown {W W' : World} {row : Option Nat} {p : Nat} {cs : List Value} (h : LBox W p cs) (hg : W.grownBy W' row) (hn : row ≠ some p) : LBox W' p cs :=
  ⟨Nat.lt_of_lt_of_le h.lt hg.size, rA_same h.at_ fun j _ => World.cell?_of_block (a := ⟨p, 0 + j, none⟩) (hg.block p h.lt (fun e => hn e.symm))⟩
theorem Gr.shape {W : World} {lo : Nat} {t : TypeId} {sh : List Sh} {v : Value} {n : Nat} {G : List Nat} {es : List Dt} {xs : List Value} (h : Gr W lo t sh v n G es xs) : ∃ a c, v = .slice a n c := by
  rcases h.row.2 with ⟨e, rfl⟩ | ⟨_, _, _, e, _⟩
  · exact ⟨_, _, e⟩
  · exact ⟨_, _, e⟩
theorem Gr.blk {W : World} {lo : Nat} {t : TypeId} {sh : List Sh} {v : Value} {n : Nat} {G : List Nat} {es : List Dt} {xs : List Value} (h : Gr W lo t sh v n G es xs) {p : Nat} (hp : p < lo) : v.ownBlock ≠ some p := fun e => by
  have := (owns_blk_lt h.row e).1; omega
theorem news_new (W : World) (cs : Array Value) (t : TypeId) : ∀ j u, cs.toList[j]? = some u → (W.alloc (.cells cs t)).cell? ((⟨W.heap.size, 0, none⟩ : Addr).add j) = some u := fun j u hu => by
  rw [Addr.add_mid, Nat.zero_add]
  refine (World.cell?_alloc_at _ _ _ _ rfl).trans ?_
  simpa using hu
/-- One element more, by an append. -/
theorem Gr.push {W w2 w3 : World} {lo : Nat} {t : TypeId} {sh : List Sh} {v : Value} {n : Nat} {G F : List Nat} {es e : List Dt} {xs c : List Value} {g cap : Nat} (h : Gr W lo t sh v n G es xs) (hb : Below W.heap.size W w2) (hr : Rep w2 false sh F e c) (hnd : F.Nodup) (hf : ∀ b ∈ F, W.heap.size ≤ b) (hlo : lo ≤ W.heap.size)
    (hown : w3.ownsRow lo t sh.length (.slice (some ⟨g, 0, none⟩) (n + 1) cap) (n + 1) (xs ++ c)) (hg : w2.grownBy w3 v.ownBlock) {H : Nat} (hH : w2.heap.size ≤ H) (hgg : v.ownBlock = some g ∨ g = H) :
    Gr w3 lo t sh (.slice (some ⟨g, 0, none⟩) (n + 1) cap) (n + 1) (G ++ F) (es ++ e) (xs ++ c) := by
  have h2 := h.later hb
  have hvF : ∀ b ∈ F, v.ownBlock ≠ some b := fun b hb e => by have := (owns_blk_lt h.row e).2; have := hf b hb; omega
  refine ⟨hown, ?_, ?_, ?_⟩
  · rw [reps_snoc]
    exact (h2.rep.grown hg fun b hb => (h2.fr b hb).2).app (hr.grown hg hvF)
  · rw [List.nodup_append]
    exact ⟨h.nd, hnd, fun a ha b hb e => by have := h.rep.lt a ha; have := hf b hb; omega⟩
  · intro b hb
    rcases List.mem_append.1 hb with hb | hb
    · refine ⟨(h2.fr b hb).1, fun e => ?_⟩
      have e1 : g = b := by injection e
      rcases hgg with q | q
      · exact (h2.fr b hb).2 (by rw [q, e1])
      · have := h2.rep.lt b hb; omega
    · refine ⟨Nat.le_trans hlo (hf b hb), fun e => ?_⟩
      have e1 : g = b := by injection e
      rcases hgg with q | q
      · exact hvF b hb (by rw [q, e1])
      · have := hr.lt b hb; omega
/-- A row that has grown, as data of its own. -/
theorem Gr.done {W : World} {lo : Nat} {t : TypeId} {sh : List Sh} {v : Value} {n : Nat} {G : List Nat} {es : List Dt} {xs : List Value} (h : Gr W lo t sh v n G es xs) : ∃ F, Rep W false [.row t sh] F [.row n es] [v] ∧ F.Nodup ∧ ∀ b ∈ F, lo ≤ b := by
  rcases h.row.2 with ⟨rfl, rfl⟩ | ⟨g, cap, cur, rfl, q2, q3, q4, q5, q6, q7⟩
  · have hr := h.rep
    rw [reps_zero] at hr
    cases hr
    exact ⟨[], .emp _ _ none rfl .nil, List.nodup_nil, by simp⟩
  · refine ⟨g :: (G ++ []), .row t sh g 0 n cap t (cap * sh.length) xs es G ⟨cur, q3, q6⟩ (by omega) (by simp) ⟨Nat.le_trans q4 q5, q4⟩ ?_ h.rep .nil, ?_, ?_⟩
    · intro j x hx
      rw [← q7] at hx
      have hl : j < n * sh.length := by have := (List.getElem?_eq_some_iff.1 hx).1; rw [List.length_take] at this; omega
      rw [List.getElem?_take_of_lt hl] at hx
      rw [Nat.zero_add]
      simp only [World.cell?, q3]
      simpa using hx
    · rw [List.append_nil, List.nodup_cons]
      exact ⟨fun e => (h.fr g e).2 rfl, h.nd⟩
    · intro b hb
      rw [List.append_nil] at hb
      rcases List.mem_cons.1 hb with rfl | hb
      · exact q2
      · exact (h.fr b hb).1

theorem flat_len2 {α : Type} (f : α → List Dt) (k : Nat) (hf : ∀ x, (f x).length = k) : ∀ l : List α, (l.flatMap f).length = l.length * k
  | [] => by simp
  | x :: xs => by rw [List.flatMap_cons, List.length_append, hf, flat_len2 f k hf xs, List.length_cons, Nat.add_mul]; omega
theorem el_flat {α : Type} (d : α) (f : α → List Dt) (k : Nat) (hf : ∀ x, (f x).length = k) (l : List α) (q : Nat) (hq : q < l.length) : el k q (l.flatMap f) = f (l.getD q d) := by
  have e : l = l.take q ++ (l.getD q d :: l.drop (q + 1)) := by
    have : l.getD q d = l[q] := by simp [hq]
    rw [this, List.getElem_cons_drop, List.take_append_drop]
  have hl : ((l.take q).flatMap f).length = q * k := by rw [flat_len2 f k hf, List.length_take]; congr 1; omega
  have e2 : l.flatMap f = (l.take q).flatMap f ++ (f (l.getD q d) ++ (l.drop (q + 1)).flatMap f) := by
    conv => lhs; rw [e]
    rw [List.flatMap_append, List.flatMap_cons]
  rw [e2]
  exact el_mid hl (hf _)
theorem typ_rows {α : Type} {sh : List Sh} (f : α → List Dt) (h : ∀ e, Typ sh e → ∃ m, e = f m) : ∀ {n : Nat} {es : List Dt}, Typ (reps n sh) es → ∃ ms : List α, ms.length = n ∧ es = ms.flatMap f
  | 0, es, t => ⟨[], rfl, by rw [reps_zero] at t; rw [t.c_n]; rfl⟩
  | n + 1, es, t => by
    rw [reps_succ] at t
    obtain ⟨d1, d2, rfl, t1, t2⟩ := Typ.cut _ t
    obtain ⟨m, rfl⟩ := h d1 t1
    obtain ⟨ms, rfl, rfl⟩ := typ_rows f h t2
    exact ⟨m :: ms, by simp, by simp⟩
theorem wt_mem {α : Type} (f : α → List Dt) : ∀ (l : List α) (x : α), x ∈ l → wtL (f x) ≤ wtL (l.flatMap f)
  | y :: ys, x, hx => by
    rw [List.flatMap_cons, wtL_app]
    rcases List.mem_cons.1 hx with rfl | hx
    · omega
    · have := wt_mem f ys x hx; omega
/-- The elements of a list of data. -/
theorem raw_at {α : Type} (d : α) (f : α → List Dt) {W : World} {t : TypeId} {sh : List Sh} {l : List α} {v : Value} (hf : ∀ x, (f x).length = sh.length) (h : Raw W [.row t sh] [.row l.length (l.flatMap f)] [v]) :
    ∃ a c, v = .slice a l.length c ∧ l.length ≤ c ∧ l.length ≤ maxLen ∧ ∀ i, i < l.length → ∃ b off ve, a = some ⟨b, off, none⟩ ∧ b < W.heap.size ∧ W.rangeAt b (off + i * sh.length) ve ∧ Raw W sh (f (l.getD i d)) ve := by
  rcases h.slice with ⟨h0, _, a, c, rfl⟩ | ⟨p, o, c, rfl, hp, hn, vs, hr, hR⟩
  · refine ⟨a, c, by rw [h0], by omega, by rw [h0]; exact Nat.zero_le _, fun i hi => by omega⟩
  · refine ⟨_, c, rfl, hn.2, hn.1, fun i hi => ?_⟩
    obtain ⟨ve, hE, hg⟩ := hR.el hi hr
    rw [el_flat d f _ hf l i hi] at hE
    exact ⟨p, o, ve, rfl, hp, hg, hE⟩
end Go.Proofs.Ytcefgacmagobnaa

namespace Go.Proofs.Ytcefgacmagobnaa
open Go.RowKit Go.Deep

def eRs (m : Rs) : List Dt := [.i m.bal, .s m.txt]
def eTx (t : Tx) : List Dt := [.s t]
def eNu (n : Nu) : List Dt := [.i n]
def eRd (d : Rd) : List Dt := [.i d.prom, .i d.known, .row d.slots.length (d.slots.flatMap eRs)]
def eRm (m : Rm) : List Dt := [.i m.kind, .i m.frm, .i m.to_, .i m.bal, .i m.ix, .i m.known, .s m.txt, .row m.slots.length (m.slots.flatMap eRs)]
def eRa (a : Ra) : List Dt := [.i a.ix, .row a.frs.length (a.frs.flatMap eNu)]
def eRr (K : Rr) : List Dt := .i K.num :: .i K.of_ :: .b K.up :: (eRd K.safe ++ ((eRd K.disk ++ (.row K.held.length (K.held.flatMap eRm) :: .row K.wish.length (K.wish.flatMap eTx) :: .b K.lead :: .b K.try_ :: .i K.bal :: .row K.yes.length (K.yes.flatMap eNu) :: .row K.best.length (K.best.flatMap eRs) :: .row K.acks.length (K.acks.flatMap eRa) :: .i K.heard :: []))))

theorem dRs (e : List Dt) (h : Typ shRecSlot e) : ∃ m, e = eRs m := by obtain ⟨a, b, rfl⟩ := typRecSlot h; exact ⟨⟨a, b⟩, rfl⟩
theorem dTx (e : List Dt) (h : Typ [.s] e) : ∃ m, e = eTx m := by obtain ⟨a, rfl⟩ := typT1 h; exact ⟨a, rfl⟩
theorem dNu (e : List Dt) (h : Typ [.i] e) : ∃ m, e = eNu m := by obtain ⟨a, rfl⟩ := typN1 h; exact ⟨a, rfl⟩
theorem dRd (e : List Dt) (h : Typ shRecDisk e) : ∃ m, e = eRd m := by
  obtain ⟨a, b, n, es, rfl, t⟩ := typRecDisk h
  obtain ⟨ms, rfl, rfl⟩ := typ_rows eRs dRs t
  exact ⟨⟨a, b, ms⟩, rfl⟩
theorem dRm (e : List Dt) (h : Typ shRecMessage e) : ∃ m, e = eRm m := by
  obtain ⟨a0, a1, a2, a3, a4, a5, a6, n, es, rfl, t⟩ := typRecMessage h
  obtain ⟨ms, rfl, rfl⟩ := typ_rows eRs dRs t
  exact ⟨⟨a0, a1, a2, a3, a4, a5, a6, ms⟩, rfl⟩
theorem dRa (e : List Dt) (h : Typ shRecAck e) : ∃ m, e = eRa m := by
  obtain ⟨a, n, es, rfl, t⟩ := typRecAck h
  obtain ⟨ms, rfl, rfl⟩ := typ_rows eNu dNu t
  exact ⟨⟨a, ms⟩, rfl⟩
theorem dRr (e : List Dt) (h : Typ shRecorder e) : ∃ K, e = eRr K := by
  obtain ⟨a0, a1, a2, d3, d4, n5, e5, n6, e6, a7, a8, a9, n10, e10, n11, e11, n12, e12, a13, rfl, t3, t4, t5, t6, t10, t11, t12⟩ := segTypRecorder h
  obtain ⟨s, rfl⟩ := dRd _ t3
  obtain ⟨d, rfl⟩ := dRd _ t4
  obtain ⟨m5, rfl, rfl⟩ := typ_rows eRm dRm t5
  obtain ⟨m6, rfl, rfl⟩ := typ_rows eTx dTx t6
  obtain ⟨m10, rfl, rfl⟩ := typ_rows eNu dNu t10
  obtain ⟨m11, rfl, rfl⟩ := typ_rows eRs dRs t11
  obtain ⟨m12, rfl, rfl⟩ := typ_rows eRa dRa t12
  exact ⟨⟨a0, a1, a2, s, d, m5, m6, a7, a8, a9, m10, m11, m12, a13⟩, rfl⟩

theorem getD_mem {α : Type} {l : List α} {i : Nat} {d : α} (h : i < l.length) : l.getD i d ∈ l := by
  have : l.getD i d = l[i] := by simp [h]
  rw [this]; exact List.getElem_mem h

theorem vRs {W : World} {l : List Rs} {v : Value} {t : TypeId} (h : Raw W [.row t shRecSlot] [.row l.length (l.flatMap eRs)] [v]) (hw : wtL (l.flatMap eRs) ≤ 1048576) : ∃ a c, v = .slice a l.length c ∧ l.length ≤ c ∧ RssV W a l := by
  obtain ⟨a, c, rfl, hc, hm, hall⟩ := raw_at Rs.none eRs (fun _ => rfl) h
  refine ⟨a, c, rfl, hc, hm, fun i hi => ?_⟩
  obtain ⟨b, off, ve, rfl, hb, hg, hE⟩ := hall i hi
  obtain rfl := rawRecSlot hE
  refine ⟨b, off, rfl, hb, ⟨hg 0 _ rfl, hg 1 _ rfl, ?_⟩⟩
  have := wt_mem eRs l _ (getD_mem (d := Rs.none) hi)
  simp only [eRs, wtL] at this
  show ByteArray.size _ ≤ 9223372036854775807
  omega
theorem vTx {W : World} {l : List Tx} {v : Value} {t : TypeId} (h : Raw W [.row t [.s]] [.row l.length (l.flatMap eTx)] [v]) (hw : l.length + wtL (l.flatMap eTx) ≤ 1048576) : ∃ a c, v = .slice a l.length c ∧ l.length ≤ c ∧ TxsV W a l := by
  obtain ⟨a, c, rfl, hc, hm, hall⟩ := raw_at ByteArray.empty eTx (fun _ => rfl) h
  refine ⟨a, c, rfl, hc, by omega, fun i hi => ?_⟩
  obtain ⟨b, off, ve, rfl, hb, hg, hE⟩ := hall i hi
  obtain rfl := rawT1 hE
  have := wt_mem eTx l _ (getD_mem (d := ByteArray.empty) hi)
  simp only [eTx, wtL] at this
  refine ⟨b, off, rfl, hb, ?_, by show _ ≤ 9223372036854775807; omega⟩
  have := hg 0 _ rfl
  simpa using this
theorem vNu {W : World} {l : List Nu} {v : Value} {t : TypeId} (h : Raw W [.row t [.i]] [.row l.length (l.flatMap eNu)] [v]) (hw : l.length ≤ 1048576) : ∃ a c, v = .slice a l.length c ∧ l.length ≤ c ∧ NusV W a l := by
  obtain ⟨a, c, rfl, hc, hm, hall⟩ := raw_at 0 eNu (fun _ => rfl) h
  refine ⟨a, c, rfl, hc, hw, fun i hi => ?_⟩
  obtain ⟨b, off, ve, rfl, hb, hg, hE⟩ := hall i hi
  obtain rfl := rawN1 hE
  refine ⟨b, off, rfl, hb, ?_⟩
  have := hg 0 _ rfl
  simpa using this
theorem vRm {W : World} {l : List Rm} {v : Value} {t : TypeId} (h : Raw W [.row t shRecMessage] [.row l.length (l.flatMap eRm)] [v]) (hw : l.length + wtL (l.flatMap eRm) ≤ 1048576) : ∃ a c, v = .slice a l.length c ∧ l.length ≤ c ∧ RmsV W a l := by
  obtain ⟨a, c, rfl, hc, hm, hall⟩ := raw_at Rm.none eRm (fun _ => rfl) h
  refine ⟨a, c, rfl, hc, by omega, fun i hi => ?_⟩
  obtain ⟨b, off, ve, rfl, hb, hg, hE⟩ := hall i hi
  obtain ⟨v7, rfl, r7⟩ := rawRecMessage hE
  have := wt_mem eRm l _ (getD_mem (d := Rm.none) hi)
  simp only [eRm, wtL] at this
  obtain ⟨a0, c0, rfl, _, hv⟩ := vRs r7 (by omega)
  exact ⟨b, off, a0, c0, rfl, hb, ⟨hg 0 _ rfl, hg 1 _ rfl, hg 2 _ rfl, hg 3 _ rfl, hg 4 _ rfl, hg 5 _ rfl, hg 6 _ rfl, hg 7 _ rfl⟩, hv⟩
theorem vRa {W : World} {l : List Ra} {v : Value} {t : TypeId} (h : Raw W [.row t shRecAck] [.row l.length (l.flatMap eRa)] [v]) (hw : l.length + wtL (l.flatMap eRa) ≤ 1048576) : ∃ a c, v = .slice a l.length c ∧ l.length ≤ c ∧ RasV W a l := by
  obtain ⟨a, c, rfl, hc, hm, hall⟩ := raw_at Ra.none eRa (fun _ => rfl) h
  refine ⟨a, c, rfl, hc, by omega, fun i hi => ?_⟩
  obtain ⟨b, off, ve, rfl, hb, hg, hE⟩ := hall i hi
  obtain ⟨v1, rfl, r1⟩ := rawRecAck hE
  have := wt_mem eRa l _ (getD_mem (d := Ra.none) hi)
  simp only [eRa, wtL] at this
  obtain ⟨a0, c0, rfl, _, hv⟩ := vNu r1 (by omega)
  exact ⟨b, off, a0, c0, rfl, hb, hg 0 _ rfl, hg 1 _ rfl, hv⟩
/-- A recorder as the walks of RecValid ask it. -/
theorem vRr {W : World} {K : Rr} {cs : List Value} (h : Raw W shRecorder (eRr K) cs) (hw : wtL (eRr K) ≤ 1048576) : ∃ a0 a1 a2 a3 a4 a5 a6 c0 c1 c2 c3 c4 c5 c6, cs = RrC K a0 a1 a2 a3 a4 a5 a6 c0 c1 c2 c3 c4 c5 c6 ∧ RrV W a0 a1 a2 a3 a4 a5 a6 K ∧ K.safe.slots.length ≤ c0 ∧ K.disk.slots.length ≤ c1 ∧ K.wish.length ≤ c3 := by
  simp only [eRr, eRd, wtL, wtL_app] at hw
  obtain ⟨x0, rfl, h1⟩ := h.c_i
  obtain ⟨x1, rfl, h2⟩ := h1.c_i
  obtain ⟨x2, rfl, h3⟩ := h2.c_b
  obtain ⟨x3, rfl, h4⟩ := h3.c_i
  obtain ⟨x4, rfl, h5⟩ := h4.c_i
  obtain ⟨v5, x5, rfl, r5, h6⟩ := h5.c_r
  obtain ⟨x6, rfl, h7⟩ := h6.c_i
  obtain ⟨x7, rfl, h8⟩ := h7.c_i
  obtain ⟨v8, x8, rfl, r8, h9⟩ := h8.c_r
  obtain ⟨v9, x9, rfl, r9, h10⟩ := h9.c_r
  obtain ⟨v10, x10, rfl, r10, h11⟩ := h10.c_r
  obtain ⟨x11, rfl, h12⟩ := h11.c_b
  obtain ⟨x12, rfl, h13⟩ := h12.c_b
  obtain ⟨x13, rfl, h14⟩ := h13.c_i
  obtain ⟨v14, x14, rfl, r14, h15⟩ := h14.c_r
  obtain ⟨v15, x15, rfl, r15, h16⟩ := h15.c_r
  obtain ⟨v16, x16, rfl, r16, h17⟩ := h16.c_r
  obtain ⟨x17, rfl, h18⟩ := h17.c_i
  obtain rfl := h18.c_n
  obtain ⟨a0, c0, rfl, k0, q0⟩ := vRs r5 (by omega)
  obtain ⟨a1, c1, rfl, k1, q1⟩ := vRs r8 (by omega)
  obtain ⟨a2, c2, rfl, k2, q2⟩ := vRm r9 (by omega)
  obtain ⟨a3, c3, rfl, k3, q3⟩ := vTx r10 (by omega)
  obtain ⟨a4, c4, rfl, k4, q4⟩ := vNu r14 (by omega)
  obtain ⟨a5, c5, rfl, k5, q5⟩ := vRs r15 (by omega)
  obtain ⟨a6, c6, rfl, k6, q6⟩ := vRa r16 (by omega)
  exact ⟨a0, a1, a2, a3, a4, a5, a6, c0, c1, c2, c3, c4, c5, c6, rfl, ⟨q0, q1, q2, q3, q4, q5, q6, by omega⟩, k0, k1, k3⟩
theorem shB_rec : shB shRecorder = true := by simp [shB]
theorem cnt_rr {ds : List Dt} (t : Typ shRecorder ds) (hw : wtL ds ≤ 1048576) : cntT ds ≤ 1000000000 := by
  have h1 := cntT_le ds
  have h2 : cntL ds ≤ 18 + 32 * wtL ds := cnt_wt t shB_rec
  omega
end Go.Proofs.Ytcefgacmagobnaa
