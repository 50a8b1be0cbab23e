/-
  The reader of sheets: a line is added: the program.
-/
import Derived.Test.YtdllbcafbfkngaaGreatDoorEXb
import Derived.Test.YtdllbcafbfkngaaGreatDoorEKi
namespace Go.Proofs.YtdllbcafbfkngaaGreatDoor
open Go.RowKit Go.Deep

theorem made_ln (X : World) (lo : Nat) (a : ByteArray) (v : Value) (h : lo ≤ X.heap.size) : (X.alloc (.cells #[.string a, v] 62)).ownsRow lo 62 2 (.slice (some ⟨X.heap.size, 0, none⟩) 1 1) 1 [.string a, v] :=
  ⟨rfl, .inr ⟨X.heap.size, 1, _, rfl, h, heap_alloc_new X _, Nat.le_refl _, by decide, rfl, rfl⟩⟩
theorem owns_cell {W : World} {lo : Nat} {e : TypeId} {size g n q : Nat} {xs : List Value} (h : W.ownsRow lo e size (.slice (some ⟨g, 0, none⟩) n q) n xs) {j : Nat} (hj : j < n * size) : (∃ v, W.cell? ⟨g, j, none⟩ = some v) ∧ g < W.heap.size ∧ W.frozen? ⟨g, j, none⟩ = false := by
  rcases h.2 with ⟨e1, _⟩ | ⟨g', cap, cur, e1, h1, h2, h3, h4, h5, h6⟩
  · cases e1
  · injection e1 with e1
    injection e1 with e1
    injection e1 with e1
    subst e1
    have hl : j < cur.size := by rw [h5]; exact Nat.lt_of_lt_of_le hj (Nat.mul_le_mul_right _ h3)
    exact ⟨⟨cur[j], by simp [World.cell?, h2, hl]⟩, lt_heap h2, frozen_blk h2 j⟩
theorem owns_set {W : World} {lo : Nat} {e : TypeId} {size g n q : Nat} {xs : List Value} (h : W.ownsRow lo e size (.slice (some ⟨g, 0, none⟩) n q) n xs) (j : Nat) (v : Value) : (W.setCell ⟨g, j, none⟩ v).ownsRow lo e size (.slice (some ⟨g, 0, none⟩) n q) n (xs.set j v) := by
  refine ⟨by rw [List.length_set]; exact h.1, ?_⟩
  rcases h.2 with ⟨e1, _⟩ | ⟨g', cap, cur, e1, h1, h2, h3, h4, h5, h6⟩
  · cases e1
  · have e2 := e1
    injection e1 with e1
    injection e1 with e1
    injection e1 with e1
    subst e1
    refine .inr ⟨g, cap, cur.setIfInBounds j v, e2, h1, ?_, h3, h4, by rw [Array.size_setIfInBounds]; exact h5, ?_⟩
    · simp only [World.setCell]
      rw [Array.getElem?_modify, if_pos rfl, h2]; rfl
    · rw [Array.toList_setIfInBounds, ← h6, List.take_set]
theorem set_mid3 (ca cb : List Value) (a b c v : Value) {k : Nat} (h : ca.length = k * 3) : (ca ++ [a, b, c] ++ cb).set (k * 3 + 2) v = ca ++ [a, b, v] ++ cb := by
  rw [List.append_assoc, List.set_append_right _ _ (by omega), show k * 3 + 2 - ca.length = 2 by omega, List.append_assoc]
  rfl
/-- What 'rule' answers, by its cells, and whether there is one. -/
theorem ruAns_open2 {l : List Pl.Ru} {key : ByteArray} {W : World} {e : Ending} (h : RuAns l key W e) (har : ∀ r ∈ l, ∀ z ∈ r.args, 1 ≤ z ∧ z ≤ 6) :
    ∃ c0 a1 n1 c1 a3 n3 c3, e = .returned (.tuple #[.agg #[.string c0, .slice a1 n1 c1, .bool (Pl.manyL l key), .slice a3 n3 c3], .bool (Pl.ruIx l key).isSome]) ∧
      ((Pl.ruIx l key).isSome = true → ∀ (X : World), Below W.heap.size W X → ∀ (ws : List ByteArray) (wv : Value), Raw X [.row 9 [.s]] [.row ws.length (txD ws)] [wv] → (∀ y ∈ ws, y.size ≤ maxLen) → Calls Tryz.prog 75 #[.agg #[.string c0, .slice a1 n1 c1, .bool (Pl.manyL l key), .slice a3 n3 c3], wv] X fun e w' => e = .returned (.bool (Pl.fitsL l key ws)) ∧ Below X.heap.size X w') := by
  unfold RuAns at h
  unfold Pl.manyL Pl.fitsL
  cases hix : Pl.ruIx l key with
  | none =>
    rw [hix] at h
    simp only at h ⊢
    exact ⟨_, _, _, _, _, _, _, h, (fun h => by cases h)⟩
  | some j =>
    rw [hix] at h
    simp only at h ⊢
    have hj := Pl.ruIx_lt hix
    obtain ⟨a1, c1, a3, c3, he, hA, hD⟩ := h
    refine ⟨_, _, _, _, _, _, _, he, fun _ X hX ws wv hw hs => sheetTakesI _ _ _ a1 c1 _ ws wv X (hA.later hX) hw ?_ hs⟩
    have e : l.getD j Pl.ruNo = l[j] := by simp [hj]
    rw [e]; exact har _ (List.getElem_mem hj)
/-- The code that 'add' tells. -/
def adC (l : List Pl.Ru) (had : Nat) (x : Pl.Ln) (ag : Bool) : Nat :=
  if (Pl.ruIx l x.key).isSome = false then 5 else if Pl.fitsL l x.key x.ws = false then 7 else if (ag || (decide (0 < had) && !Pl.manyL l x.key)) = true then 6 else if had = 10 then 10 else 0
def VAa9 (rb : Nat) (g : Nat) (n : Nat) (q : Nat) (pl : Nat) : Nat → Value → World → Prop
  | 0, vv, _ => vv = .pointer (some ⟨rb, 0, none⟩)
  | 1, vv, _ => vv = .pointer (some ⟨rb, 0, none⟩)
  | 2, vv, _ => vv = .pointer (some ⟨rb, 5, none⟩)
  | 3, vv, _ => vv = .slice (some ⟨g, 0, none⟩) n q
  | 4, vv, _ => vv = .pointer (some ⟨rb, 0, none⟩)
  | 5, vv, _ => vv = .pointer (some ⟨rb, 0, none⟩)
  | 6, vv, _ => vv = .pointer (some ⟨rb, 6, none⟩)
  | 7, vv, _ => vv = .int .i64 (pl : Int)
  | 8, vv, _ => vv = .pointer (some ⟨g, pl * 3, none⟩)
  | 9, vv, _ => vv = .pointer (some ⟨g, pl * 3, none⟩)
  | _, _, _ => True
theorem VAa9_mono (rb : Nat) (g : Nat) (n : Nat) (q : Nat) (pl : Nat) : ∀ jj vv W W', Below W.heap.size W W' → VAa9 rb g n q pl jj vv W → VAa9 rb g n q pl jj vv W' := by
  intro jj vv W W' hb h
  match jj with
  | 0 => exact h
  | 1 => exact h
  | 2 => exact h
  | 3 => exact h
  | 4 => exact h
  | 5 => exact h
  | 6 => exact h
  | 7 => exact h
  | 8 => exact h
  | 9 => exact h
  | n + 10 => exact trivial
def VAb9 (g : Nat) (pl : Nat) (q5 : Nat) (ln : Nat) (lq : Nat) (had : Nat) (l1 : Option Addr) (key : ByteArray) : Nat → Value → World → Prop
  | 0, vv, _ => vv = .pointer (some ⟨g, pl * 3, none⟩)
  | 1, vv, _ => vv = .pointer (some ⟨g, pl * 3, none⟩)
  | 2, vv, _ => vv = .pointer (some ⟨g, pl * 3 + 2, none⟩)
  | 3, vv, _ => vv = .slice l1 ln lq
  | 4, vv, _ => vv = .pointer (some ⟨q5, 0, none⟩)
  | 5, vv, _ => vv = .string key
  | 6, vv, _ => vv = .int .i64 (had : Int)
  | 7, vv, _ => vv = .int .i64 (had : Int)
  | _, _, _ => True
theorem VAb9_mono (g : Nat) (pl : Nat) (q5 : Nat) (ln : Nat) (lq : Nat) (had : Nat) (l1 : Option Addr) (key : ByteArray) : ∀ jj vv W W', Below W.heap.size W W' → VAb9 g pl q5 ln lq had l1 key jj vv W → VAb9 g pl q5 ln lq had l1 key jj vv W' := by
  intro jj vv W W' hb h
  match jj with
  | 0 => exact h
  | 1 => exact h
  | 2 => exact h
  | 3 => exact h
  | 4 => exact h
  | 5 => exact h
  | 6 => exact h
  | 7 => exact h
  | n + 8 => exact trivial
def VAc9 (g : Nat) (pl : Nat) (ln : Nat) (lq : Nat) (pi : Nat) (m : Nat) (tc : Nat) (rc : Nat) (l1 : Option Addr) (ta : Option Addr) (ra : Option Addr) (l : List Pl.Ru) (key : ByteArray) (ag : Bool) : Nat → Value → World → Prop
  | 0, vv, _ => vv = .pointer (some ⟨g, pl * 3, none⟩)
  | 1, vv, _ => vv = .pointer (some ⟨g, pl * 3, none⟩)
  | 2, vv, _ => vv = .pointer (some ⟨g, pl * 3 + 2, none⟩)
  | 3, vv, _ => vv = .slice l1 ln lq
  | 4, vv, _ => vv = .agg #[.string key, .slice ta m tc]
  | 5, vv, _ => vv = .agg #[.slice ra l.length rc]
  | 6, vv, _ => vv = .func (.func 74) #[.agg #[.slice ra l.length rc]] #[]
  | 7, vv, _ => vv = .tuple #[.int .i64 (pi : Int), .bool ag]
  | 8, vv, _ => vv = .tuple #[.int .i64 (pi : Int), .bool ag]
  | 9, vv, _ => vv = .int .i64 (pi : Int)
  | 10, vv, _ => vv = .bool ag
  | 11, vv, _ => vv = .int .i64 (pi : Int)
  | 12, vv, _ => vv = .bool ag
  | _, _, _ => True
theorem VAc9_mono (g : Nat) (pl : Nat) (ln : Nat) (lq : Nat) (pi : Nat) (m : Nat) (tc : Nat) (rc : Nat) (l1 : Option Addr) (ta : Option Addr) (ra : Option Addr) (l : List Pl.Ru) (key : ByteArray) (ag : Bool) : ∀ jj vv W W', Below W.heap.size W W' → VAc9 g pl ln lq pi m tc rc l1 ta ra l key ag jj vv W → VAc9 g pl ln lq pi m tc rc l1 ta ra l key ag jj vv W' := by
  intro jj vv W W' hb h
  match jj with
  | 0 => exact h
  | 1 => exact h
  | 2 => exact h
  | 3 => exact h
  | 4 => exact h
  | 5 => exact h
  | 6 => exact h
  | 7 => exact h
  | 8 => exact h
  | 9 => exact h
  | 10 => exact h
  | 11 => exact h
  | 12 => exact h
  | n + 13 => exact trivial
def VAd9 (g : Nat) (pl : Nat) (ln : Nat) (lq : Nat) (pi : Nat) (m : Nat) (tc : Nat) (nw : Nat) (l1 : Option Addr) (ta : Option Addr) (key : ByteArray) : Nat → Value → World → Prop
  | 0, vv, _ => vv = .pointer (some ⟨g, pl * 3, none⟩)
  | 1, vv, _ => vv = .pointer (some ⟨g, pl * 3, none⟩)
  | 2, vv, _ => vv = .pointer (some ⟨g, pl * 3, none⟩)
  | 3, vv, _ => vv = .pointer (some ⟨g, pl * 3 + 2, none⟩)
  | 4, vv, _ => vv = .slice l1 ln lq
  | 5, vv, _ => vv = .int .i64 (pi : Int)
  | 6, vv, _ => vv = .agg #[.string key, .slice ta m tc]
  | 7, vv, W => ∃ gg, vv = .slice (some ⟨gg, 0, none⟩) 1 1 ∧ W.ownsRow nw 62 2 (.slice (some ⟨gg, 0, none⟩) 1 1) 1 [.string key, .slice ta m tc]
  | 8, vv, _ => vv = undef
  | 9, vv, _ => vv = .pointer (some ⟨g, pl * 3, none⟩)
  | 10, vv, _ => vv = .pointer (some ⟨g, pl * 3 + 2, none⟩)
  | _, _, _ => True
theorem VAd9_mono (g : Nat) (pl : Nat) (ln : Nat) (lq : Nat) (pi : Nat) (m : Nat) (tc : Nat) (nw : Nat) (l1 : Option Addr) (ta : Option Addr) (key : ByteArray) : ∀ jj vv W W', Below W.heap.size W W' → VAd9 g pl ln lq pi m tc nw l1 ta key jj vv W → VAd9 g pl ln lq pi m tc nw l1 ta key jj vv W' := by
  intro jj vv W W' hb h
  match jj with
  | 0 => exact h
  | 1 => exact h
  | 2 => exact h
  | 3 => exact h
  | 4 => exact h
  | 5 => exact h
  | 6 => exact h
  | 7 =>
    obtain ⟨gg, h1, h2⟩ := h
    exact ⟨gg, h1, owns_frm h2 (Frm.of_below (S := fun _ => False) hb) (fun _ _ h => h)⟩
  | 8 => exact h
  | 9 => exact h
  | 10 => exact h
  | n + 11 => exact trivial

set_option maxRecDepth 8000 in
set_option maxHeartbeats 64000000 in
theorem addI (rb mb : Nat) (lv : Value) (at_ : Int) (p o m wc : Nat) (ws : List ByteArray) (g n q pl : Nat) (ca cb : List Value) (kind name : ByteArray) (l1 : Option Addr) (ln lq : Nat) (L : List Pl.Ln) (cl : List Value) (FL : List Nat) (l : List Pl.Ru) (ra : Option Addr) (rc : Nat) (w0 w : World)
    (hrd : WBox w rb 79 [.map (some mb), lv, .int .i64 at_, .slice (some ⟨p, o, none⟩) (m + 1) wc, .bool false, .slice (some ⟨g, 0, none⟩) n q, .int .i64 (pl : Int)]) (hwm : ws.length = m + 1) (hw : Raw w shTxs [.row (m + 1) (txD ws)] [.slice (some ⟨p, o, none⟩) (m + 1) wc]) (hwz : ∀ x ∈ ws, x.size ≤ maxLen)
    (hob : w.ownsRow (rb + 1) 37 3 (.slice (some ⟨g, 0, none⟩) n q) n (ca ++ [.string kind, .string name, .slice l1 ln lq] ++ cb)) (hca : ca.length = pl * 3) (hpn : pl < n) (_ : n ≤ 60)
    (hol : w.ownsRow (rb + 1) 62 2 (.slice l1 ln lq) ln cl) (hLn : L.length = ln) (hrl : Rep w false (reps ln shSheetLine) FL (L.flatMap lnD) cl) (hln : ln ≤ 1000)
    (hb0 : Below w0.heap.size w0 w) (hlk : ∀ W, Below w.heap.size w W → (Instr.lookup 76 (.map (some mb)) (.string kind) false).run Tryz.prog W = .ok (.agg #[.slice ra l.length rc]) W)
    (hrr : Raw w0 [.row 68 shSheetRule] [rulesD l] [.slice ra l.length rc]) (hl100 : l.length ≤ 100) (har : ∀ r ∈ l, ∀ z ∈ r.args, 1 ≤ z ∧ z ≤ 6)
    (pi : Nat) (hpi : pi ≤ L.length) (h1 : ∀ i, i < pi → cmpLn l (L.getD i Pl.lnNo) (Pl.insLn ws) < 0) (h2 : ∀ i, pi ≤ i → i < L.length → 0 ≤ cmpLn l (L.getD i Pl.lnNo) (Pl.insLn ws)) (ag : Bool) (hag : ag = (decide (pi < L.length) && decide (cmpLn l (L.getD pi Pl.lnNo) (Pl.insLn ws) = 0)))
    (ta : Option Addr) (tc : Nat) (hta : (if wc = 1 then (some ⟨p, o, none⟩ : Option Addr) else some ⟨p, o + 1, none⟩) = ta) (htc : wc - 1 = tc) (htr : Raw w shTxs [.row m (txD (ws.drop 1))] [.slice ta m tc]) :
    Calls Tryz.prog 55 #[.pointer (some ⟨rb, 0, none⟩)] w fun e w' =>
      (adC l (Pl.keyCnt L (Pl.insLn ws).key) (Pl.insLn ws) ag ≠ 0 ∧ e = .returned (.iface 51 (.agg #[.int .i64 at_, .int .i64 (adC l (Pl.keyCnt L (Pl.insLn ws).key) (Pl.insLn ws) ag : Nat)])) ∧ Below w.heap.size w w') ∨
      (adC l (Pl.keyCnt L (Pl.insLn ws).key) (Pl.insLn ws) ag = 0 ∧ e = .returned .nilIface ∧ ∃ g' q', w'.ownsRow (rb + 1) 37 3 (.slice (some ⟨g, 0, none⟩) n q) n (ca ++ [.string kind, .string name, .slice (some ⟨g', 0, none⟩) (ln + 1) q'] ++ cb) ∧ w'.ownsRow (rb + 1) 62 2 (.slice (some ⟨g', 0, none⟩) (ln + 1) q') (ln + 1) (cl.take (pi * 2) ++ [.string (Pl.insLn ws).key, .slice ta m tc] ++ cl.drop (pi * 2)) ∧ Frm (fun b => b = g ∨ (Value.slice l1 ln lq).ownBlock = some b) w w' ∧ (l1 = some ⟨g', 0, none⟩ ∨ w.heap.size ≤ g')) := by
  have HRD := uh hrd
  have HOWB0 := uh hob
  have HOWL0 := uh hol
  have HX1 : Hid (∀ u ∈ cl, u.oneCell' = true) := rep_one hrl
  have HCA := uh hca
  have HPLN := uh hpn
  have HLK := uh hlk
  have HAR := uh har
  have HRR := uh (hrr.later hb0)
  have c2 := hrd.get 2 _ rfl
  have cl_ := hrd.own.lt
  have HFT := uh (fun (code : Int) (W : World) (hW : Below w.heap.size w W) => faultI rb at_ code W ((hW.cell (p := ⟨rb, 2, none⟩) cl_).trans c2) (Nat.lt_of_lt_of_le cl_ hW.size))
  have HRAWL : Hid (Raw w shLns [lnsD L] [.slice l1 ln lq]) := by
    have q := owns_rawX (sh := shSheetLine) hol hrl (fun h => by rw [List.eq_nil_of_length_eq_zero (hLn.trans h)]; rfl) (by unfold maxLen; omega)
    show Raw _ _ _ _
    unfold lnsD
    rw [hLn]; exact q
  obtain ⟨x, hx⟩ : ∃ x, x = Pl.insLn ws := ⟨_, rfl⟩
  have HXE := uh hx
  have hxk : ws.getD 0 Pl.txNo = x.key := by rw [hx]; rfl
  have hxw : ws.drop 1 = x.ws := by rw [hx]; rfl
  have hxl : x.ws.length = m := by rw [← hxw, List.length_drop]; omega
  have HXL := uh hxl
  rw [← hx] at h1 h2 hag ⊢
  rw [hxw] at htr
  have HTR := uh htr
  have HXZ : Hid (∀ y ∈ x.ws, y.size ≤ maxLen) := fun y hy => hwz y (by rw [← hxw] at hy; exact List.mem_of_mem_drop hy)
  have HBS0 := uh (fun (X : World) (hX : Below w.heap.size w X) => binLn l ra rc hl100 L (.slice l1 ln lq) x ta tc pi X (HRR.out.later hX) (HRAWL.out.later hX) (by rw [hxl]; exact HTR.out.later hX) (by omega) hpi h1 h2)
  have HCN0 := uh (fun (X : World) (hX : Below w.heap.size w X) => countI L (.slice l1 ln lq) x.key X (HRAWL.out.later hX) (by omega))
  have HRU0 := uh (fun (X : World) (hX : Below w.heap.size w X) => ruleJ l ra rc x.key w X hX hl100 HRR.out)
  rw [← hag] at HBS0
  rw [hxl] at HBS0
  obtain ⟨had, hhad⟩ : ∃ had, had = Pl.keyCnt L x.key := ⟨_, rfl⟩
  rw [← hhad] at HCN0 ⊢
  have HPI : Hid (pi ≤ ln) := by show _ ≤ _; omega
  have HLN : Hid (ln ≤ 1000) := hln
  have HADC : Hid (adC l had x ag = if (Pl.ruIx l x.key).isSome = false then 5 else if Pl.fitsL l x.key x.ws = false then 7 else if (ag || (decide (0 < had) && !Pl.manyL l x.key)) = true then 6 else if had = 10 then 10 else 0) := rfl
  obtain ⟨key, hkey⟩ : ∃ key, key = x.key := ⟨_, rfl⟩
  rw [← hkey] at HBS0 HCN0 HRU0 HADC hxk ⊢
  have hrg : w.rangeAt g (pl * 3) [.string kind, .string name, .slice l1 ln lq] := by
    rcases hob.2 with ⟨e1, _⟩ | ⟨g', cap, cur, e1, _, h2', _, _, _, h6⟩
    · cases e1
    · injection e1 with e1
      injection e1 with e1
      injection e1 with e1
      subst e1
      intro j u hj
      have hj3 : j < 3 := (List.getElem?_eq_some_iff.1 hj).1
      have q : (ca ++ [.string kind, .string name, .slice l1 ln lq] ++ cb)[pl * 3 + j]? = some u := by
        rw [List.append_assoc, List.getElem?_append_right (by omega), show pl * 3 + j - ca.length = j by omega, List.getElem?_append_left (by simpa using hj3)]
        exact hj
      rw [← h6, List.getElem?_take] at q
      simp only [World.cell?, h2']
      split at q
      · simpa using q
      · cases q
  have hgl : g < w.heap.size := by obtain ⟨_, cur, hcur⟩ := owns_lo hob (g := g) rfl; exact lt_heap hcur
  have HGX0 := uh hrg
  have HPZ0 := uh hgl
  have hpl0 : (0 : Int) ≤ (pl : Int) := by omega
  have hpln : (pl : Int) < (n : Int) := by omega
  have y0 : w.cell? ⟨p, o, none⟩ = some (.string key) := by
    rw [← hxk]
    rcases txs_open (by rw [hwm]; exact hw) with ⟨e0, _⟩ | ⟨p', o', c', hv, _, _, hopen⟩
    · omega
    injection hv with g1 _ _
    injection g1 with g1
    injection g1 with e1 e2
    subst e1; subst e2
    simpa using hopen 0 (by omega)
  have hpw : p < w.heap.size := by
    rcases hw.slice with ⟨e0, _⟩ | ⟨p', o', c', hv, hp', _⟩
    · omega
    injection hv with g1 _ _
    injection g1 with g1
    injection g1 with e1 _
    rw [e1]; exact hp'
  have HTA := uh (And.intro hta htc)
  have c0 := hrd.get 0 _ rfl
  have c3 := hrd.get 3 _ rfl
  have c4 := hrd.get 4 _ rfl
  have b0 : w.cell? ⟨g, pl * 3, none⟩ = some (.string kind) := rA_get hrg 0 _ rfl
  clear hrd hob hol hrl hrr hb0 hlk har hw hwz htr hta htc hhad hkey hxk hxw hx h1 h2 hag hrg HRAWL
  go_enter Tryz.func55, Tryz.ntmps55
  go_upto_region 3 with fail
  refine RY.region_past w (Below.refl _ _) (VAa9 rb g n q pl) (VAa9_mono _ _ _ _ _) (by kernel_rfl) (by kernel_rfl) (by kernel_rfl) (by kernel_rfl) ?_ ?_
  · intro ii o' ho a X hX hk hd
    have zrb := HRD.out.later hX
    have zrbl := zrb.own.lt
    match ii, ho with
    | 0, ho =>
      injection ho with ho; subst ho
      have e0 : a.tmps[0]?.getD undef = .pointer (some ⟨rb, 0, none⟩) := (RY.ev_tmp a 0).trans ((hk 0 (by kernel_rfl)).trans rfl)
      exact Or.inl ⟨.pointer (some ⟨rb, 0, none⟩), X, by simp [execOp, go_sem, e0], Below.refl _ _, rfl⟩
    | 1, ho =>
      injection ho with ho; subst ho
      have e18 : a.tmps[18]?.getD undef = .pointer (some ⟨rb, 0, none⟩) := (RY.ev_tmp a 18).trans (hd 0 _ 18 rfl rfl ⟨⟨0, .data⟩, by simp, rfl, rfl⟩)
      exact Or.inl ⟨.pointer (some ⟨rb, 0, none⟩), X, by simp [execOp, go_sem, e18], Below.refl _ _, rfl⟩
    | 2, ho =>
      injection ho with ho; subst ho
      have e19 : a.tmps[19]?.getD undef = .pointer (some ⟨rb, 0, none⟩) := (RY.ev_tmp a 19).trans (hd 1 _ 19 rfl rfl ⟨⟨1, .data⟩, by simp, rfl, rfl⟩)
      exact Or.inl ⟨.pointer (some ⟨rb, 5, none⟩), X, by simp [execOp, go_sem, e19], Below.refl _ _, rfl⟩
    | 3, ho =>
      injection ho with ho; subst ho
      have e20 : a.tmps[20]?.getD undef = .pointer (some ⟨rb, 5, none⟩) := (RY.ev_tmp a 20).trans (hd 2 _ 20 rfl rfl ⟨⟨2, .data⟩, by simp, rfl, rfl⟩)
      have ycl_ := zrb.get 5 _ rfl
      exact Or.inl ⟨.slice (some ⟨g, 0, none⟩) n q, X, by simp [execOp, go_sem, e20, ycl_], Below.refl _ _, rfl⟩
    | 4, ho =>
      injection ho with ho; subst ho
      have e0 : a.tmps[0]?.getD undef = .pointer (some ⟨rb, 0, none⟩) := (RY.ev_tmp a 0).trans ((hk 0 (by kernel_rfl)).trans rfl)
      exact Or.inl ⟨.pointer (some ⟨rb, 0, none⟩), X, by simp [execOp, go_sem, e0], Below.refl _ _, rfl⟩
    | 5, ho =>
      injection ho with ho; subst ho
      have e22 : a.tmps[22]?.getD undef = .pointer (some ⟨rb, 0, none⟩) := (RY.ev_tmp a 22).trans (hd 4 _ 22 rfl rfl ⟨⟨4, .data⟩, by simp, rfl, rfl⟩)
      exact Or.inl ⟨.pointer (some ⟨rb, 0, none⟩), X, by simp [execOp, go_sem, e22], Below.refl _ _, rfl⟩
    | 6, ho =>
      injection ho with ho; subst ho
      have e23 : a.tmps[23]?.getD undef = .pointer (some ⟨rb, 0, none⟩) := (RY.ev_tmp a 23).trans (hd 5 _ 23 rfl rfl ⟨⟨5, .data⟩, by simp, rfl, rfl⟩)
      exact Or.inl ⟨.pointer (some ⟨rb, 6, none⟩), X, by simp [execOp, go_sem, e23], Below.refl _ _, rfl⟩
    | 7, ho =>
      injection ho with ho; subst ho
      have e24 : a.tmps[24]?.getD undef = .pointer (some ⟨rb, 6, none⟩) := (RY.ev_tmp a 24).trans (hd 6 _ 24 rfl rfl ⟨⟨6, .data⟩, by simp, rfl, rfl⟩)
      have ycl_ := zrb.get 6 _ rfl
      exact Or.inl ⟨.int .i64 (pl : Int), X, by simp [execOp, go_sem, e24, ycl_], Below.refl _ _, rfl⟩
    | 8, ho =>
      injection ho with ho; subst ho
      have e21 : a.tmps[21]?.getD undef = .slice (some ⟨g, 0, none⟩) n q := (RY.ev_tmp a 21).trans (hd 3 _ 21 rfl rfl ⟨⟨3, .data⟩, by simp, rfl, rfl⟩)
      have e25 : a.tmps[25]?.getD undef = .int .i64 (pl : Int) := (RY.ev_tmp a 25).trans (hd 7 _ 25 rfl rfl ⟨⟨7, .data⟩, by simp, rfl, rfl⟩)
      exact Or.inl ⟨.pointer (some ⟨g, pl * 3, none⟩), X, by simp [execOp, go_sem, e21, e25, hpl0, hpln], Below.refl _ _, rfl⟩
    | 9, ho =>
      injection ho with ho; subst ho
      have e26 : a.tmps[26]?.getD undef = .pointer (some ⟨g, pl * 3, none⟩) := (RY.ev_tmp a 26).trans (hd 8 _ 26 rfl rfl ⟨⟨8, .data⟩, by simp, rfl, rfl⟩)
      exact Or.inl ⟨.pointer (some ⟨g, pl * 3, none⟩), X, by simp [execOp, go_sem, e26], Below.refl _ _, rfl⟩
    | n + 10, ho => simp at ho
  intro X vs hX hvs
  have q3 : vs 3 = _ := hvs 9 _ 3 rfl rfl
  simp only [RY.putAll, Act.put, List.setIfInBounds_toArray, List.set_cons_zero, List.set_cons_succ]
  rw [q3]
  generalize vs 18 = s18
  generalize vs 19 = s19
  generalize vs 20 = s20
  generalize vs 21 = s21
  generalize vs 22 = s22
  generalize vs 23 = s23
  generalize vs 24 = s24
  generalize vs 25 = s25
  generalize vs 26 = s26
  clear hvs q3
  have HW0 : Hid (Below w.heap.size w X) := hX
  obtain ⟨w1, hw1⟩ : ∃ w1, w1 = X := ⟨_, rfl⟩
  rw [← hw1] at HW0 ⊢
  clear hw1 hX
  have hm0 : (0 : Int) < (m : Int) + 1 := by omega
  have f1 : ∀ W, Below w.heap.size w W → W.cell? ⟨rb, 0, none⟩ = some (.map (some mb)) ∧ W.cell? ⟨g, pl * 3, none⟩ = some (.string kind) ∧ rb < W.heap.size ∧ g < W.heap.size := fun W h => ⟨(h.cell (p := ⟨rb, 0, none⟩) cl_).trans c0, (h.cell (p := ⟨g, pl * 3, none⟩) hgl).trans b0, Nat.lt_of_lt_of_le cl_ h.size, Nat.lt_of_lt_of_le hgl h.size⟩
  have HF1 := uh f1
  have f2 : ∀ W, Below w.heap.size w W → W.cell? ⟨rb, 3, none⟩ = some (.slice (some ⟨p, o, none⟩) (m + 1) wc) ∧ W.cell? ⟨p, o, none⟩ = some (.string key) ∧ rb < W.heap.size ∧ p < W.heap.size := fun W h => ⟨(h.cell (p := ⟨rb, 3, none⟩) cl_).trans c3, (h.cell (p := ⟨p, o, none⟩) hpw).trans y0, Nat.lt_of_lt_of_le cl_ h.size, Nat.lt_of_lt_of_le hpw h.size⟩
  have HF2 := uh f2
  clear f1 f2 c0 c2 c3 c4 b0 y0 hpw hgl cl_
  have hbA : Below w.heap.size w (w1.alloc (.cells #[.slice none 0 0] 107)).drew := Below.drew (blw_alloc HW0.out _)
  obtain ⟨a0, a1_, a2_, a3_⟩ := HF1.out w1.drew (Below.drew HW0.out)
  obtain ⟨b0, b1_, b2_, b3_⟩ := HF1.out _ hbA
  have zk := HLK.out w1.drew (Below.drew HW0.out)
  have zka := HLK.out _ hbA
  clear hbA
  go_upto_region 4 with fail
  go_region
  all_goals
    clear a0 a1_ a2_ a3_ b0 b1_ b2_ b3_ zk zka
    obtain ⟨w4, hw4⟩ : ∃ w4, w4 = (w1.alloc (.cells #[.slice ra l.length rc] 107)).drew := ⟨_, rfl⟩
    obtain ⟨q4, hq4⟩ : ∃ q4, q4 = w1.heap.size := ⟨_, rfl⟩
    have HQ4a : Hid (WBox w4 q4 107 [.slice ra l.length rc]) := by
      show WBox _ _ _ _
      rw [hw4, hq4]
      exact (WBox.new w1 [.slice ra l.length rc] 107 _ rfl).later (Below.drew (Below.refl _ _))
    have HW4 : Hid (Below w.heap.size w w4) := by show Below _ _ _; rw [hw4]; exact Below.drew (blw_alloc HW0.out _)
    have hbA : Below w.heap.size w (w4.alloc (.cells #[.string { data := #[] }, .slice none 0 0] 62)).drew := Below.drew (blw_alloc HW4.out _)
    obtain ⟨a0, a1_, a2_, a3_⟩ := HF2.out w4.drew (Below.drew HW4.out)
    obtain ⟨b0, b1_, b2_, b3_⟩ := HF2.out _ hbA
    clear hbA
    go_upto_region 5 with fail
    rw [← hw4, ← hq4]
    clear hw4 hq4
    go_region
    all_goals
      clear a0 a1_ a2_ a3_ b0 b1_ b2_ b3_
      obtain ⟨w5, hw5⟩ : ∃ w5, w5 = (w4.alloc (.cells #[.string key, .slice ta m tc] 62)).drew := ⟨_, rfl⟩
      obtain ⟨q5, hq5⟩ : ∃ q5, q5 = w4.heap.size := ⟨_, rfl⟩
      have HQ5a : Hid (WBox w5 q5 62 [.string key, .slice ta m tc]) := by
        show WBox _ _ _ _
        rw [hw5, hq5]
        exact (WBox.new w4 [.string key, .slice ta m tc] 62 _ rfl).later (Below.drew (Below.refl _ _))
      have H45 : Hid (Below w4.heap.size w4 w5) := by show Below _ _ _; rw [hw5]; exact Below.drew (blw_alloc (Below.refl _ _) _)
      have HW5 : Hid (Below w.heap.size w w5) := blw_trans HW4.out H45.out
      have HQ4b := uh (HQ4a.out.later H45.out)
      have e4 := HQ4b.out.get 0 _ rfl
      have e4l := HQ4b.out.own.lt
      have e5 := HQ5a.out.get 0 _ rfl
      have e5l := HQ5a.out.own.lt
      have HRU := uh (HRU0.out w5 HW5.out)
      go_upto_region 6 with fail
      rw [HTA.out.1, HTA.out.2]
      rw [← hw5, ← hq5]
      clear hw5 hq5
      go_wp2_with fail
      refine HRU.out.mono ?_
      rintro e w6a ⟨hra, hb6⟩
      obtain ⟨r0, ra1, rn1, rc1, ra3, rn3, rc3, he, hyes⟩ := ruAns_open2 hra HAR.out
      subst he
      have HYES := uh hyes
      clear hra hyes HRU e4 e4l e5 e5l
      obtain ⟨mn, hmn⟩ : ∃ mn, mn = Pl.manyL l key := ⟨_, rfl⟩
      obtain ⟨kn, hkn⟩ : ∃ kn, kn = (Pl.ruIx l key).isSome := ⟨_, rfl⟩
      rw [← hmn, ← hkn] at HYES ⊢
      rw [← hmn, ← hkn] at HADC
      clear hmn hkn
      obtain ⟨w6, hw6⟩ : ∃ w6, w6 = w6a.alloc (.cells #[.string r0, .slice ra1 rn1 rc1, .bool mn, .slice ra3 rn3 rc3] 68) := ⟨_, rfl⟩
      obtain ⟨q6, hq6⟩ : ∃ q6, q6 = w6a.heap.size := ⟨_, rfl⟩
      have H56 : Hid (Below w5.heap.size w5 w6) := by show Below _ _ _; rw [hw6]; exact blw_alloc hb6 _
      have HQ6a : Hid (WBox w6 q6 68 [.string r0, .slice ra1 rn1 rc1, .bool mn, .slice ra3 rn3 rc3]) := by show WBox _ _ _ _; rw [hw6, hq6]; exact WBox.new w6a [.string r0, .slice ra1 rn1 rc1, .bool mn, .slice ra3 rn3 rc3] 68 _ rfl
      have HW6 : Hid (Below w.heap.size w w6) := blw_trans HW5.out H56.out
      have HQ4 := uh (HQ4b.out.later H56.out)
      have HQ5 := uh (HQ5a.out.later H56.out)
      have HGX : Hid (w6.rangeAt g (pl * 3) [.string kind, .string name, .slice l1 ln lq]) := rA_later HGX0.out HPZ0.out HW6.out
      have HPZ : Hid (g < w6.heap.size) := Nat.lt_of_lt_of_le HPZ0.out HW6.out.size
      have HCN := uh (fun (X : World) (hX : Below w6.heap.size w6 X) => HCN0.out X (blw_trans HW6.out hX))
      go_upto_region 7 with fail
      rw [← hw6, ← hq6]
      clear hw6 hq6 hb6
      refine RY.region_past w6 (Below.refl _ _) (VAb9 g pl q5 ln lq had l1 key) (VAb9_mono _ _ _ _ _ _ _ _) (by kernel_rfl) (by kernel_rfl) (by kernel_rfl) (by kernel_rfl) ?_ ?_
      · intro ii o' ho a X hX hk hd
        have zq5 := HQ5.out.later hX
        have zq5l := zq5.own.lt
        match ii, ho with
        | 0, ho =>
          injection ho with ho; subst ho
          have e3 : a.tmps[3]?.getD undef = .pointer (some ⟨g, pl * 3, none⟩) := (RY.ev_tmp a 3).trans ((hk 3 (by kernel_rfl)).trans rfl)
          exact Or.inl ⟨.pointer (some ⟨g, pl * 3, none⟩), X, by simp [execOp, go_sem, e3], Below.refl _ _, rfl⟩
        | 1, ho =>
          injection ho with ho; subst ho
          have e57 : a.tmps[57]?.getD undef = .pointer (some ⟨g, pl * 3, none⟩) := (RY.ev_tmp a 57).trans (hd 0 _ 57 rfl rfl ⟨⟨0, .data⟩, by simp, rfl, rfl⟩)
          exact Or.inl ⟨.pointer (some ⟨g, pl * 3, none⟩), X, by simp [execOp, go_sem, e57], Below.refl _ _, rfl⟩
        | 2, ho =>
          injection ho with ho; subst ho
          have e58 : a.tmps[58]?.getD undef = .pointer (some ⟨g, pl * 3, none⟩) := (RY.ev_tmp a 58).trans (hd 1 _ 58 rfl rfl ⟨⟨1, .data⟩, by simp, rfl, rfl⟩)
          exact Or.inl ⟨.pointer (some ⟨g, pl * 3 + 2, none⟩), X, by simp [execOp, go_sem, e58], Below.refl _ _, rfl⟩
        | 3, ho =>
          injection ho with ho; subst ho
          have e59 : a.tmps[59]?.getD undef = .pointer (some ⟨g, pl * 3 + 2, none⟩) := (RY.ev_tmp a 59).trans (hd 2 _ 59 rfl rfl ⟨⟨2, .data⟩, by simp, rfl, rfl⟩)
          have ypl_ := Nat.lt_of_lt_of_le HPZ.out hX.size
          have ycl_ : X.cell? ⟨g, pl * 3 + 2, none⟩ = some (.slice l1 ln lq) := by have q := rA_get (rA_later HGX.out HPZ.out hX) 2 _ rfl; simpa using q
          exact Or.inl ⟨.slice l1 ln lq, X, by simp [execOp, go_sem, e59, ycl_], Below.refl _ _, rfl⟩
        | 4, ho =>
          injection ho with ho; subst ho
          have e5 : a.tmps[5]?.getD undef = .pointer (some ⟨q5, 0, none⟩) := (RY.ev_tmp a 5).trans ((hk 5 (by kernel_rfl)).trans rfl)
          exact Or.inl ⟨.pointer (some ⟨q5, 0, none⟩), X, by simp [execOp, go_sem, e5], Below.refl _ _, rfl⟩
        | 5, ho =>
          injection ho with ho; subst ho
          have e61 : a.tmps[61]?.getD undef = .pointer (some ⟨q5, 0, none⟩) := (RY.ev_tmp a 61).trans (hd 4 _ 61 rfl rfl ⟨⟨4, .data⟩, by simp, rfl, rfl⟩)
          have ycl_ := zq5.get 0 _ rfl
          exact Or.inl ⟨.string key, X, by simp [execOp, go_sem, e61, ycl_], Below.refl _ _, rfl⟩
        | 6, ho =>
          injection ho with ho; subst ho
          have e60 : a.tmps[60]?.getD undef = .slice l1 ln lq := (RY.ev_tmp a 60).trans (hd 3 _ 60 rfl rfl ⟨⟨3, .data⟩, by simp, rfl, rfl⟩)
          have e62 : a.tmps[62]?.getD undef = .string key := (RY.ev_tmp a 62).trans (hd 5 _ 62 rfl rfl ⟨⟨5, .data⟩, by simp, rfl, rfl⟩)
          refine Or.inr ⟨72, #[.slice l1 ln lq, .string key], by simp [go_sem, e60, e62], (HCN.out X hX).mono ?_⟩
          rintro e W' ⟨rfl, hb⟩
          exact ⟨_, rfl, hb, rfl⟩
        | 7, ho =>
          injection ho with ho; subst ho
          have e63 : a.tmps[63]?.getD undef = .int .i64 (had : Int) := (RY.ev_tmp a 63).trans (hd 6 _ 63 rfl rfl ⟨⟨6, .data⟩, by simp, rfl, rfl⟩)
          exact Or.inl ⟨.int .i64 (had : Int), X, by simp [execOp, go_sem, e63], Below.refl _ _, rfl⟩
        | n + 8, ho => simp at ho
      intro X vs hX hvs
      have q8 : vs 8 = _ := hvs 7 _ 8 rfl rfl
      simp only [RY.putAll, Act.put, List.setIfInBounds_toArray, List.set_cons_zero, List.set_cons_succ]
      rw [q8]
      generalize vs 57 = s57
      generalize vs 58 = s58
      generalize vs 59 = s59
      generalize vs 60 = s60
      generalize vs 61 = s61
      generalize vs 62 = s62
      generalize vs 63 = s63
      clear hvs q8
      have HW7 : Hid (Below w.heap.size w X) := blw_trans HW6.out hX
      have HQ4_ := uh (HQ4.out.later hX)
      have HQ5_ := uh (HQ5.out.later hX)
      have HQ6b := uh (HQ6a.out.later hX)
      obtain ⟨w7, hw7⟩ : ∃ w7, w7 = X := ⟨_, rfl⟩
      rw [← hw7] at HW7 HQ4_ HQ5_ HQ6b ⊢
      clear hw7 hX
      replace HQ4 := HQ4_
      replace HQ5 := HQ5_
      clear HQ4_ HQ5_
      replace HGX : Hid (w7.rangeAt g (pl * 3) [.string kind, .string name, .slice l1 ln lq]) := rA_later HGX0.out HPZ0.out HW7.out
      replace HPZ : Hid (g < w7.heap.size) := Nat.lt_of_lt_of_le HPZ0.out HW7.out.size
      have HBS := uh (fun (X : World) (hX : Below w7.heap.size w7 X) => HBS0.out X (blw_trans HW7.out hX))
      go_upto_region 8 with fail
      refine RY.region_past w7 (Below.refl _ _) (VAc9 g pl ln lq pi m tc rc l1 ta ra l key ag) (VAc9_mono _ _ _ _ _ _ _ _ _ _ _ _ _ _) (by kernel_rfl) (by kernel_rfl) (by kernel_rfl) (by kernel_rfl) ?_ ?_
      · intro ii o' ho a X hX hk hd
        have zq5 := HQ5.out.later hX
        have zq5l := zq5.own.lt
        have zq4 := HQ4.out.later hX
        have zq4l := zq4.own.lt
        match ii, ho with
        | 0, ho =>
          injection ho with ho; subst ho
          have e3 : a.tmps[3]?.getD undef = .pointer (some ⟨g, pl * 3, none⟩) := (RY.ev_tmp a 3).trans ((hk 3 (by kernel_rfl)).trans rfl)
          exact Or.inl ⟨.pointer (some ⟨g, pl * 3, none⟩), X, by simp [execOp, go_sem, e3], Below.refl _ _, rfl⟩
        | 1, ho =>
          injection ho with ho; subst ho
          have e65 : a.tmps[65]?.getD undef = .pointer (some ⟨g, pl * 3, none⟩) := (RY.ev_tmp a 65).trans (hd 0 _ 65 rfl rfl ⟨⟨0, .data⟩, by simp, rfl, rfl⟩)
          exact Or.inl ⟨.pointer (some ⟨g, pl * 3, none⟩), X, by simp [execOp, go_sem, e65], Below.refl _ _, rfl⟩
        | 2, ho =>
          injection ho with ho; subst ho
          have e66 : a.tmps[66]?.getD undef = .pointer (some ⟨g, pl * 3, none⟩) := (RY.ev_tmp a 66).trans (hd 1 _ 66 rfl rfl ⟨⟨1, .data⟩, by simp, rfl, rfl⟩)
          exact Or.inl ⟨.pointer (some ⟨g, pl * 3 + 2, none⟩), X, by simp [execOp, go_sem, e66], Below.refl _ _, rfl⟩
        | 3, ho =>
          injection ho with ho; subst ho
          have e67 : a.tmps[67]?.getD undef = .pointer (some ⟨g, pl * 3 + 2, none⟩) := (RY.ev_tmp a 67).trans (hd 2 _ 67 rfl rfl ⟨⟨2, .data⟩, by simp, rfl, rfl⟩)
          have ypl_ := Nat.lt_of_lt_of_le HPZ.out hX.size
          have ycl_ : X.cell? ⟨g, pl * 3 + 2, none⟩ = some (.slice l1 ln lq) := by have q := rA_get (rA_later HGX.out HPZ.out hX) 2 _ rfl; simpa using q
          exact Or.inl ⟨.slice l1 ln lq, X, by simp [execOp, go_sem, e67, ycl_], Below.refl _ _, rfl⟩
        | 4, ho =>
          injection ho with ho; subst ho
          have v5 : a.eval (.tmp 5) = .pointer (some ⟨q5, 0, none⟩) := (hk 5 (by kernel_rfl)).trans rfl
          exact Or.inl ⟨_, X, exec_load_mid 62 _ rfl q5 0 v5 [.string key, .slice ta m tc] _ zq5.at_ Tryz.underlying62 rfl (by kernel_rfl), Below.refl _ _, rfl⟩
        | 5, ho =>
          injection ho with ho; subst ho
          have v4 : a.eval (.tmp 4) = .pointer (some ⟨q4, 0, none⟩) := (hk 4 (by kernel_rfl)).trans rfl
          exact Or.inl ⟨_, X, exec_load_mid 107 _ rfl q4 0 v4 [.slice ra l.length rc] _ zq4.at_ Tryz.underlying107 rfl (by kernel_rfl), Below.refl _ _, rfl⟩
        | 6, ho =>
          injection ho with ho; subst ho
          have e70 : a.tmps[70]?.getD undef = .agg #[.slice ra l.length rc] := (RY.ev_tmp a 70).trans (hd 5 _ 70 rfl rfl ⟨⟨5, .data⟩, by simp, rfl, rfl⟩)
          exact Or.inl ⟨.func (.func 74) #[.agg #[.slice ra l.length rc]] #[], X, by simp [execOp, go_sem, e70], Below.refl _ _, rfl⟩
        | 7, ho =>
          injection ho with ho; subst ho
          have e68 : a.tmps[68]?.getD undef = .slice l1 ln lq := (RY.ev_tmp a 68).trans (hd 3 _ 68 rfl rfl ⟨⟨3, .data⟩, by simp, rfl, rfl⟩)
          have e69 : a.tmps[69]?.getD undef = .agg #[.string key, .slice ta m tc] := (RY.ev_tmp a 69).trans (hd 4 _ 69 rfl rfl ⟨⟨4, .data⟩, by simp, rfl, rfl⟩)
          have e71 : a.tmps[71]?.getD undef = .func (.func 74) #[.agg #[.slice ra l.length rc]] #[] := (RY.ev_tmp a 71).trans (hd 6 _ 71 rfl rfl ⟨⟨6, .data⟩, by simp, rfl, rfl⟩)
          refine Or.inr ⟨73, #[.slice l1 ln lq, .agg #[.string key, .slice ta m tc], .func (.func 74) #[.agg #[.slice ra l.length rc]] #[]], by simp [go_sem, e68, e69, e71], (HBS.out X hX).mono ?_⟩
          rintro e W' ⟨rfl, hb⟩
          exact ⟨_, rfl, hb, rfl⟩
        | 8, ho =>
          injection ho with ho; subst ho
          have e72 : a.tmps[72]?.getD undef = .tuple #[.int .i64 (pi : Int), .bool ag] := (RY.ev_tmp a 72).trans (hd 7 _ 72 rfl rfl ⟨⟨7, .data⟩, by simp, rfl, rfl⟩)
          exact Or.inl ⟨.tuple #[.int .i64 (pi : Int), .bool ag], X, by simp [execOp, go_sem, e72], Below.refl _ _, rfl⟩
        | 9, ho =>
          injection ho with ho; subst ho
          have e64 : a.tmps[64]?.getD undef = .tuple #[.int .i64 (pi : Int), .bool ag] := (RY.ev_tmp a 64).trans (hd 8 _ 64 rfl rfl ⟨⟨8, .data⟩, by simp, rfl, rfl⟩)
          exact Or.inl ⟨.int .i64 (pi : Int), X, by simp [execOp, go_sem, e64], Below.refl _ _, rfl⟩
        | 10, ho =>
          injection ho with ho; subst ho
          have e64 : a.tmps[64]?.getD undef = .tuple #[.int .i64 (pi : Int), .bool ag] := (RY.ev_tmp a 64).trans (hd 8 _ 64 rfl rfl ⟨⟨8, .data⟩, by simp, rfl, rfl⟩)
          exact Or.inl ⟨.bool ag, X, by simp [execOp, go_sem, e64], Below.refl _ _, rfl⟩
        | 11, ho =>
          injection ho with ho; subst ho
          have e73 : a.tmps[73]?.getD undef = .int .i64 (pi : Int) := (RY.ev_tmp a 73).trans (hd 9 _ 73 rfl rfl ⟨⟨9, .data⟩, by simp, rfl, rfl⟩)
          exact Or.inl ⟨.int .i64 (pi : Int), X, by simp [execOp, go_sem, e73], Below.refl _ _, rfl⟩
        | 12, ho =>
          injection ho with ho; subst ho
          have e74 : a.tmps[74]?.getD undef = .bool ag := (RY.ev_tmp a 74).trans (hd 10 _ 74 rfl rfl ⟨⟨10, .data⟩, by simp, rfl, rfl⟩)
          exact Or.inl ⟨.bool ag, X, by simp [execOp, go_sem, e74], Below.refl _ _, rfl⟩
        | n + 13, ho => simp at ho
      intro X vs hX hvs
      have q9 : vs 9 = _ := hvs 11 _ 9 rfl rfl
      have q10 : vs 10 = _ := hvs 12 _ 10 rfl rfl
      simp only [RY.putAll, Act.put, List.setIfInBounds_toArray, List.set_cons_zero, List.set_cons_succ]
      rw [q9, q10]
      generalize vs 65 = s65
      generalize vs 66 = s66
      generalize vs 67 = s67
      generalize vs 68 = s68
      generalize vs 69 = s69
      generalize vs 70 = s70
      generalize vs 71 = s71
      generalize vs 72 = s72
      generalize vs 64 = s64
      generalize vs 73 = s73
      generalize vs 74 = s74
      clear hvs q9 q10
      have HWQ : Hid (Below w.heap.size w X) := blw_trans HW7.out hX
      have HQ5_ := uh (HQ5.out.later hX)
      have HQ6 := uh (HQ6b.out.later hX)
      obtain ⟨wq, hwq⟩ : ∃ wq, wq = X := ⟨_, rfl⟩
      rw [← hwq] at HWQ HQ5_ HQ6 ⊢
      clear hwq hX
      replace HQ5 := HQ5_
      clear HQ5_
      replace HGX : Hid (wq.rangeAt g (pl * 3) [.string kind, .string name, .slice l1 ln lq]) := rA_later HGX0.out HPZ0.out HWQ.out
      replace HPZ : Hid (g < wq.heap.size) := Nat.lt_of_lt_of_le HPZ0.out HWQ.out.size
      have f0 := HQ6.out.get 0 _ rfl
      have f1 := HQ6.out.get 1 _ rfl
      have f2 := HQ6.out.get 2 _ rfl
      have f3 := HQ6.out.get 3 _ rfl
      have fl := HQ6.out.own.lt
      have k1_ := HQ5.out.get 1 _ rfl
      have kl := HQ5.out.own.lt
      cases kn
      · have HCD : Hid (adC l had x ag = 5) := HADC.out
        go_wp2_with (first | (go_at_call 75; refine (HTK.out _ HWQ.out).mono ?_; rintro e w9 ⟨rfl, hb9⟩; have HW9 : Hid (Below w.heap.size w w9) := blw_trans HWQ.out hb9; have m2 := (HQ6.out.later hb9).get 2 _ rfl; have ml := (HQ6.out.later hb9).own.lt) | (go_at_call 66; refine (HFT.out 5 _ HWQ.out).mono ?_; rintro e w8 ⟨rfl, rfl⟩))
        go_ret
        exact Or.inl ⟨by rw [HCD.out]; decide, by rw [HCD.out]; rfl, HWQ.out⟩
      have HTK0 := uh (fun (X : World) (hX : Below w.heap.size w X) => HYES.out rfl X hX x.ws (.slice ta m tc) (by have q := HTR.out.later hX; rw [HXL.out]; exact q) HXZ.out)
      obtain ⟨ft, hft⟩ : ∃ ft, ft = Pl.fitsL l key x.ws := ⟨_, rfl⟩
      rw [← hft] at HTK0 HADC
      clear hft
      have HTK := HTK0
      cases ft
      · have HCD : Hid (adC l had x ag = 7) := HADC.out
        go_wp2_with (first | (go_at_call 75; refine (HTK.out _ HWQ.out).mono ?_; rintro e w9 ⟨rfl, hb9⟩; have HW9 : Hid (Below w.heap.size w w9) := blw_trans HWQ.out hb9; have m2 := (HQ6.out.later hb9).get 2 _ rfl; have ml := (HQ6.out.later hb9).own.lt) | (go_at_call 66; refine (HFT.out 7 _ HW9.out).mono ?_; rintro e w8 ⟨rfl, rfl⟩))
        go_ret
        exact Or.inl ⟨by rw [HCD.out]; decide, by rw [HCD.out]; rfl, HW9.out⟩
      have HAD6 : Hid (adC l had x ag = if (ag || (decide (0 < had) && !mn)) = true then 6 else if had = 10 then 10 else 0) := HADC.out
      cases ag
      rotate_left
      · have HCD : Hid (adC l had x true = 6) := by show _ = _; rw [HAD6.out]; rfl
        go_wp2_with (first | (go_at_call 75; refine (HTK.out _ HWQ.out).mono ?_; rintro e w9 ⟨rfl, hb9⟩; have HW9 : Hid (Below w.heap.size w w9) := blw_trans HWQ.out hb9; have m2 := (HQ6.out.later hb9).get 2 _ rfl; have ml := (HQ6.out.later hb9).own.lt) | (go_at_call 66; refine (HFT.out 6 _ HW9.out).mono ?_; rintro e w8 ⟨rfl, rfl⟩))
        go_ret
        exact Or.inl ⟨by rw [HCD.out]; decide, by rw [HCD.out]; rfl, HW9.out⟩
      by_cases hh0 : 0 < had
      · have d1 : (0 : Int) < (had : Int) := by omega
        cases mn
        · have HCD : Hid (adC l had x false = 6) := by show _ = _; rw [HAD6.out]; simp [hh0]
          go_wp2_with (first | (go_at_call 75; refine (HTK.out _ HWQ.out).mono ?_; rintro e w9 ⟨rfl, hb9⟩; have HW9 : Hid (Below w.heap.size w w9) := blw_trans HWQ.out hb9; have m2 := (HQ6.out.later hb9).get 2 _ rfl; have ml := (HQ6.out.later hb9).own.lt) | (go_at_call 66; refine (HFT.out 6 _ HW9.out).mono ?_; rintro e w8 ⟨rfl, rfl⟩))
          go_ret
          exact Or.inl ⟨by rw [HCD.out]; decide, by rw [HCD.out]; rfl, HW9.out⟩
        · by_cases h10 : had = 10
          · have HCD : Hid (adC l had x false = 10) := by show _ = _; rw [HAD6.out]; simp [h10]
            have d2 : ((had : Int) == 10) = true := by simp; omega
            go_wp2_with (first | (go_at_call 75; refine (HTK.out _ HWQ.out).mono ?_; rintro e w9 ⟨rfl, hb9⟩; have HW9 : Hid (Below w.heap.size w w9) := blw_trans HWQ.out hb9; have m2 := (HQ6.out.later hb9).get 2 _ rfl; have ml := (HQ6.out.later hb9).own.lt) | (go_at_call 66; refine (HFT.out 10 _ HW9.out).mono ?_; rintro e w8 ⟨rfl, rfl⟩))
            go_ret
            exact Or.inl ⟨by rw [HCD.out]; decide, by rw [HCD.out]; rfl, HW9.out⟩
          · have HCD : Hid (adC l had x false = 0) := by show _ = _; rw [HAD6.out]; simp [h10]
            have d2 : ((had : Int) == 10) = false := by simp; omega
            go_upto_region 17 with (go_at_call 75; refine (HTK.out _ HWQ.out).mono ?_; rintro e w9 ⟨rfl, hb9⟩; have HW9 := uh hb9; have m2 := (HQ6.out.later hb9).get 2 _ rfl; have ml := (HQ6.out.later hb9).own.lt)
            clear m2 ml
            obtain ⟨wo, hwo⟩ : ∃ wo, wo = w9 := ⟨_, rfl⟩
            rw [← hwo] at HW9 ⊢
            clear hwo f0 f1 f2 f3 fl k1_ kl
            have HWQ9 : Hid (Below w.heap.size w wo) := blw_trans HWQ.out HW9.out
            have HQ5n := uh (HQ5.out.later HW9.out)
            obtain ⟨wp_, hwp⟩ : ∃ wp_, wp_ = wq := ⟨_, rfl⟩
            clear hwp wp_
            replace HGX : Hid (wo.rangeAt g (pl * 3) [.string kind, .string name, .slice l1 ln lq]) := rA_later HGX0.out HPZ0.out HWQ9.out
            replace HPZ : Hid (g < wo.heap.size) := Nat.lt_of_lt_of_le HPZ0.out HWQ9.out.size
            have HOWB : Hid (wo.ownsRow (rb + 1) 37 3 (.slice (some ⟨g, 0, none⟩) n q) n (ca ++ [.string kind, .string name, .slice l1 ln lq] ++ cb)) := owns_frm HOWB0.out (Frm.of_below (S := fun _ => False) HWQ9.out) (fun _ _ h => h)
            have HOWL : Hid (wo.ownsRow (rb + 1) 62 2 (.slice l1 ln lq) ln cl) := owns_frm HOWL0.out (Frm.of_below (S := fun _ => False) HWQ9.out) (fun _ _ h => h)
            have HGL : Hid (∀ gg, l1 = some ⟨gg, 0, none⟩ → gg < wo.heap.size) := fun gg hg => by
              obtain ⟨_, cur, hcur⟩ := owns_lo HOWL.out (g := gg) (by rw [hg]; rfl)
              exact lt_heap hcur
            have HLO : Hid (rb + 1 ≤ wo.heap.size) := Nat.le_trans (owns_lo HOWB.out (g := g) rfl).1 (Nat.le_of_lt HPZ.out)
            replace HQ5 := HQ5n
            replace HWQ := HWQ9
            refine RY.region_ci wo (Below.refl _ _) (VAd9 g pl ln lq pi m tc wo.heap.size l1 ta key) (VAd9_mono _ _ _ _ _ _ _ _ _ _ _) [0, 9, 10] (fun j u => VAd9 g pl ln lq pi m tc wo.heap.size l1 ta key j u wo) (by intro j hj u W; simp only [List.mem_cons, List.not_mem_nil, or_false] at hj; rcases hj with rfl | rfl | rfl <;> exact Iff.rfl) (fun u W' => ∃ g' q', u = .slice (some ⟨g', 0, none⟩) (ln + 1) q' ∧ W'.ownsRow (rb + 1) 62 2 (.slice (some ⟨g', 0, none⟩) (ln + 1) q') (ln + 1) (cl.take (pi * 2) ++ [.string key, .slice ta m tc] ++ cl.drop (pi * 2)) ∧ Frm (fun b => (Value.slice l1 ln lq).ownBlock = some b) wo W' ∧ (l1 = some ⟨g', 0, none⟩ ∨ wo.heap.size ≤ g')) (fun W' => ∃ g' q', W'.ownsRow (rb + 1) 37 3 (.slice (some ⟨g, 0, none⟩) n q) n (ca ++ [.string kind, .string name, .slice (some ⟨g', 0, none⟩) (ln + 1) q'] ++ cb) ∧ W'.ownsRow (rb + 1) 62 2 (.slice (some ⟨g', 0, none⟩) (ln + 1) q') (ln + 1) (cl.take (pi * 2) ++ [.string key, .slice ta m tc] ++ cl.drop (pi * 2)) ∧ Frm (fun b => b = g ∨ (Value.slice l1 ln lq).ownBlock = some b) wo W' ∧ (l1 = some ⟨g', 0, none⟩ ∨ wo.heap.size ≤ g')) 11 8 12 (by decide) (by kernel_rfl) (by kernel_rfl) (by kernel_rfl) (by kernel_rfl) rfl [8, 10] (by kernel_rfl) (by kernel_rfl) [4, 5, 7] (by kernel_rfl) (by kernel_rfl) (by kernel_rfl) _ _ rfl rfl rfl (by kernel_rfl) ?_ ?_ ?_ (by decide) ?_
            · intro ii o' ho hii hic a X hX0 hk hd
              match ii, ho with
              | 0, ho =>
                injection ho with ho; subst ho
                have e3 : a.tmps[3]?.getD undef = .pointer (some ⟨g, pl * 3, none⟩) := (RY.ev_tmp a 3).trans ((hk 3 (by kernel_rfl)).trans rfl)
                exact Or.inl ⟨.pointer (some ⟨g, pl * 3, none⟩), X, by simp [execOp, go_sem, e3], (fun _ => rfl), Below.refl _ _, rfl⟩
              | 1, ho =>
                injection ho with ho; subst ho
                have hX := hX0 (by decide)
                have e3 : a.tmps[3]?.getD undef = .pointer (some ⟨g, pl * 3, none⟩) := (RY.ev_tmp a 3).trans ((hk 3 (by kernel_rfl)).trans rfl)
                exact Or.inl ⟨.pointer (some ⟨g, pl * 3, none⟩), X, by simp [execOp, go_sem, e3], (fun _ => rfl), Below.refl _ _, rfl⟩
              | 2, ho =>
                injection ho with ho; subst ho
                have hX := hX0 (by decide)
                have e107 : a.tmps[107]?.getD undef = .pointer (some ⟨g, pl * 3, none⟩) := (RY.ev_tmp a 107).trans (hd 1 _ 107 rfl rfl ⟨⟨1, .data⟩, by simp, rfl, rfl⟩ (by decide) (by decide) (by decide))
                exact Or.inl ⟨.pointer (some ⟨g, pl * 3, none⟩), X, by simp [execOp, go_sem, e107], (fun _ => rfl), Below.refl _ _, rfl⟩
              | 3, ho =>
                injection ho with ho; subst ho
                have hX := hX0 (by decide)
                have e108 : a.tmps[108]?.getD undef = .pointer (some ⟨g, pl * 3, none⟩) := (RY.ev_tmp a 108).trans (hd 2 _ 108 rfl rfl ⟨⟨2, .data⟩, by simp, rfl, rfl⟩ (by decide) (by decide) (by decide))
                exact Or.inl ⟨.pointer (some ⟨g, pl * 3 + 2, none⟩), X, by simp [execOp, go_sem, e108], (fun _ => rfl), Below.refl _ _, rfl⟩
              | 4, ho =>
                injection ho with ho; subst ho
                have hX := hX0 (by decide)
                have zq5 := HQ5.out.later hX
                have zq5l := zq5.own.lt
                have e109 : a.tmps[109]?.getD undef = .pointer (some ⟨g, pl * 3 + 2, none⟩) := (RY.ev_tmp a 109).trans (hd 3 _ 109 rfl rfl ⟨⟨3, .data⟩, by simp, rfl, rfl⟩ (by decide) (by decide) (by decide))
                have ypl_ := Nat.lt_of_lt_of_le HPZ.out hX.size
                have ycl_ : X.cell? ⟨g, pl * 3 + 2, none⟩ = some (.slice l1 ln lq) := by have q := rA_get (rA_later HGX.out HPZ.out hX) 2 _ rfl; simpa using q
                exact Or.inl ⟨.slice l1 ln lq, X, by simp [execOp, go_sem, e109, ycl_], (fun _ => rfl), Below.refl _ _, rfl⟩
              | 5, ho =>
                injection ho with ho; subst ho
                have hX := hX0 (by decide)
                have e9 : a.tmps[9]?.getD undef = .int .i64 (pi : Int) := (RY.ev_tmp a 9).trans ((hk 9 (by kernel_rfl)).trans rfl)
                exact Or.inl ⟨.int .i64 (pi : Int), X, by simp [execOp, go_sem, e9], (fun _ => rfl), Below.refl _ _, rfl⟩
              | 6, ho =>
                injection ho with ho; subst ho
                have hX := hX0 (by decide)
                have zq5 := HQ5.out.later hX
                have zq5l := zq5.own.lt
                have v5 : a.eval (.tmp 5) = .pointer (some ⟨q5, 0, none⟩) := (hk 5 (by kernel_rfl)).trans rfl
                exact Or.inl ⟨_, X, exec_load_mid 62 _ rfl q5 0 v5 [.string key, .slice ta m tc] _ zq5.at_ Tryz.underlying62 rfl (by kernel_rfl), (fun _ => rfl), Below.refl _ _, rfl⟩
              | 7, ho =>
                injection ho with ho; subst ho
                have hX := hX0 (by decide)
                have zq5 := HQ5.out.later hX
                have zq5l := zq5.own.lt
                have e112 : a.tmps[112]?.getD undef = .agg #[.string key, .slice ta m tc] := (RY.ev_tmp a 112).trans (hd 6 _ 112 rfl rfl ⟨⟨6, .data⟩, by simp, rfl, rfl⟩ (by decide) (by decide) (by decide))
                exact Or.inl ⟨.slice (some ⟨X.heap.size, 0, none⟩) 1 1, X.alloc (.cells #[.string key, .slice ta m tc] 62), by simp [execOp, go_sem, e112], (fun h => absurd h (by decide)), blw_alloc (Below.refl _ _) _, X.heap.size, rfl, made_ln X wo.heap.size _ _ hX.size⟩
              | 8, ho =>
                exact absurd rfl hic
              | 9, ho =>
                injection ho with ho; subst ho
                have e106 : a.tmps[106]?.getD undef = .pointer (some ⟨g, pl * 3, none⟩) := (RY.ev_tmp a 106).trans (hd 0 _ 106 rfl rfl ⟨⟨0, .data⟩, by simp, rfl, rfl⟩ (by decide) (by decide) (by decide))
                exact Or.inl ⟨.pointer (some ⟨g, pl * 3, none⟩), X, by simp [execOp, go_sem, e106], (fun _ => rfl), Below.refl _ _, rfl⟩
              | 10, ho =>
                injection ho with ho; subst ho
                have e115 : a.tmps[115]?.getD undef = .pointer (some ⟨g, pl * 3, none⟩) := (RY.ev_tmp a 115).trans (hd 9 _ 115 rfl rfl ⟨⟨9, .data⟩, by simp, rfl, rfl⟩ (by decide) (by decide) (by decide))
                exact Or.inl ⟨.pointer (some ⟨g, pl * 3 + 2, none⟩), X, by simp [execOp, go_sem, e115], (fun _ => rfl), Below.refl _ _, rfl⟩
              | n + 11, ho => omega
            · intro a X hX hk hd
              have e110 : a.tmps[110]?.getD undef = .slice l1 ln lq := (RY.ev_tmp a 110).trans (hd 4 _ 110 rfl rfl ⟨⟨4, .data⟩, by simp, rfl, rfl⟩ (by decide) (by decide))
              have e111 : a.tmps[111]?.getD undef = .int .i64 (pi : Int) := (RY.ev_tmp a 111).trans (hd 5 _ 111 rfl rfl ⟨⟨5, .data⟩, by simp, rfl, rfl⟩ (by decide) (by decide))
              obtain ⟨g113, q113, ho113⟩ := hd 7 _ 113 rfl rfl ⟨⟨7, .data⟩, by simp, rfl, rfl⟩ (by decide) (by decide)
              have e113 : a.tmps[113]?.getD undef = .slice (some ⟨g113, 0, none⟩) 1 1 := (RY.ev_tmp a 113).trans q113
              refine ⟨76, #[.slice l1 ln lq, .int .i64 (pi : Int), .slice (some ⟨g113, 0, none⟩) 1 1], by simp [go_sem, e110, e111, e113], (insILn (rb + 1) X l1 ln lq cl [.string key, .slice ta m tc] 1 (owns_frm HOWL.out (Frm.of_below (S := fun _ => False) hX) (fun _ _ h => h)) wo.heap.size (.slice (some ⟨g113, 0, none⟩) 1 1) HX1.out (by simp [Value.oneCell']) ho113 (by decide) (fun gg hg => HGL.out gg hg) pi HPI.out (by have := HLN.out; omega) (Nat.le_trans HLO.out hX.size)).mono ?_⟩
              rintro e W' ⟨g', q', rfl, h1, h2, h3⟩
              exact ⟨_, rfl, g', q', rfl, h1, ((Frm.of_below hX).trans (h2.frm.mono (fun b ⟨gg, e1, e2⟩ => by rw [e1, e2]; rfl))), h3.imp id (fun h => Nat.le_trans hX.size h)⟩
            · intro a X vals hK1 hk hVp hd
              obtain ⟨g', q', e1, h1, h2, h3⟩ := hK1
              have e114 : a.eval (.tmp 114) = _ := (hd 8 _ 114 rfl rfl ⟨⟨8, .data⟩, by simp, rfl, rfl⟩ (by decide)).trans e1
              have e116 : a.eval (.tmp 116) = .pointer (some ⟨g, pl * 3 + 2, none⟩) := (hd 10 _ 116 rfl rfl ⟨⟨10, .data⟩, by simp, rfl, rfl⟩ (by decide)).trans (hVp 10 (by decide))
              have hb := owns_frm HOWB.out h2 (fun gg hgg e => owns_apart HOWB.out HOWL.out (by decide) hgg e)
              obtain ⟨hc, hl, hf⟩ := owns_cell hb (j := pl * 3 + 2) (by have := HPLN.out; omega)
              have e114' : a.tmps[114]?.getD undef = _ := (RY.ev_tmp a 114).trans e114
              have e116' : a.tmps[116]?.getD undef = _ := (RY.ev_tmp a 116).trans e116
              obtain ⟨old, hc⟩ := hc
              refine ⟨X.setCell ⟨g, pl * 3 + 2, none⟩ (.slice (some ⟨g', 0, none⟩) (ln + 1) q'), by simp [execOp, go_sem, e114', e116', hc, hf], g', q', ?_, ?_, ?_, h3⟩
              · have hs := owns_set hb (pl * 3 + 2) (.slice (some ⟨g', 0, none⟩) (ln + 1) q')
                rw [set_mid3 _ _ _ _ _ _ HCA.out] at hs
                exact hs
              · exact owns_frm h1 ((Marks.sc (S := fun b => b = g) X rfl (pl * 3 + 2) _).frm (fun _ h => h)) (fun gg hgg e => owns_apart h1 hb (by decide) hgg (by rw [e]; rfl))
              · exact (h2.mono (fun _ h => Or.inr h)).trans ((Marks.sc (S := fun b => b = g) X rfl (pl * 3 + 2) _).frm (fun _ h => Or.inl h))
            · intro vs X hK2
              simp only [RY.putAll, Act.put, List.setIfInBounds_toArray, List.set_cons_zero, List.set_cons_succ]
              generalize vs 106 = s106
              generalize vs 107 = s107
              generalize vs 108 = s108
              generalize vs 109 = s109
              generalize vs 110 = s110
              generalize vs 111 = s111
              generalize vs 112 = s112
              generalize vs 113 = s113
              generalize vs 114 = s114
              generalize vs 115 = s115
              generalize vs 116 = s116
              obtain ⟨g', q', hob, hol, hfr, hnew⟩ := hK2
              have HNW : Hid (l1 = some ⟨g', 0, none⟩ ∨ w.heap.size ≤ g') := hnew.imp id (fun h => Nat.le_trans HWQ.out.size h)
              have HN2 := uh (And.intro hob (And.intro hol hfr))
              clear hob hol hfr hnew
              go_wp2
              go_ret
              refine Or.inr ⟨HCD.out, rfl, g', q', HN2.out.1, HN2.out.2.1, (Frm.of_below HWQ.out).trans HN2.out.2.2, HNW.out⟩
      · have d1 : ¬ ((0 : Int) < (had : Int)) := by omega
        have HCD : Hid (adC l had x false = 0) := by show _ = _; rw [HAD6.out]; simp [hh0]; omega
        have d2 : ((had : Int) == 10) = false := by simp; omega
        go_upto_region 17 with (go_at_call 75; refine (HTK.out _ HWQ.out).mono ?_; rintro e w9 ⟨rfl, hb9⟩; have HW9 := uh hb9; have m2 := (HQ6.out.later hb9).get 2 _ rfl; have ml := (HQ6.out.later hb9).own.lt)
        clear m2 ml
        obtain ⟨wo, hwo⟩ : ∃ wo, wo = w9 := ⟨_, rfl⟩
        rw [← hwo] at HW9 ⊢
        clear hwo f0 f1 f2 f3 fl k1_ kl
        have HWQ9 : Hid (Below w.heap.size w wo) := blw_trans HWQ.out HW9.out
        have HQ5n := uh (HQ5.out.later HW9.out)
        obtain ⟨wp_, hwp⟩ : ∃ wp_, wp_ = wq := ⟨_, rfl⟩
        clear hwp wp_
        replace HGX : Hid (wo.rangeAt g (pl * 3) [.string kind, .string name, .slice l1 ln lq]) := rA_later HGX0.out HPZ0.out HWQ9.out
        replace HPZ : Hid (g < wo.heap.size) := Nat.lt_of_lt_of_le HPZ0.out HWQ9.out.size
        have HOWB : Hid (wo.ownsRow (rb + 1) 37 3 (.slice (some ⟨g, 0, none⟩) n q) n (ca ++ [.string kind, .string name, .slice l1 ln lq] ++ cb)) := owns_frm HOWB0.out (Frm.of_below (S := fun _ => False) HWQ9.out) (fun _ _ h => h)
        have HOWL : Hid (wo.ownsRow (rb + 1) 62 2 (.slice l1 ln lq) ln cl) := owns_frm HOWL0.out (Frm.of_below (S := fun _ => False) HWQ9.out) (fun _ _ h => h)
        have HGL : Hid (∀ gg, l1 = some ⟨gg, 0, none⟩ → gg < wo.heap.size) := fun gg hg => by
          obtain ⟨_, cur, hcur⟩ := owns_lo HOWL.out (g := gg) (by rw [hg]; rfl)
          exact lt_heap hcur
        have HLO : Hid (rb + 1 ≤ wo.heap.size) := Nat.le_trans (owns_lo HOWB.out (g := g) rfl).1 (Nat.le_of_lt HPZ.out)
        replace HQ5 := HQ5n
        replace HWQ := HWQ9
        refine RY.region_ci wo (Below.refl _ _) (VAd9 g pl ln lq pi m tc wo.heap.size l1 ta key) (VAd9_mono _ _ _ _ _ _ _ _ _ _ _) [0, 9, 10] (fun j u => VAd9 g pl ln lq pi m tc wo.heap.size l1 ta key j u wo) (by intro j hj u W; simp only [List.mem_cons, List.not_mem_nil, or_false] at hj; rcases hj with rfl | rfl | rfl <;> exact Iff.rfl) (fun u W' => ∃ g' q', u = .slice (some ⟨g', 0, none⟩) (ln + 1) q' ∧ W'.ownsRow (rb + 1) 62 2 (.slice (some ⟨g', 0, none⟩) (ln + 1) q') (ln + 1) (cl.take (pi * 2) ++ [.string key, .slice ta m tc] ++ cl.drop (pi * 2)) ∧ Frm (fun b => (Value.slice l1 ln lq).ownBlock = some b) wo W' ∧ (l1 = some ⟨g', 0, none⟩ ∨ wo.heap.size ≤ g')) (fun W' => ∃ g' q', W'.ownsRow (rb + 1) 37 3 (.slice (some ⟨g, 0, none⟩) n q) n (ca ++ [.string kind, .string name, .slice (some ⟨g', 0, none⟩) (ln + 1) q'] ++ cb) ∧ W'.ownsRow (rb + 1) 62 2 (.slice (some ⟨g', 0, none⟩) (ln + 1) q') (ln + 1) (cl.take (pi * 2) ++ [.string key, .slice ta m tc] ++ cl.drop (pi * 2)) ∧ Frm (fun b => b = g ∨ (Value.slice l1 ln lq).ownBlock = some b) wo W' ∧ (l1 = some ⟨g', 0, none⟩ ∨ wo.heap.size ≤ g')) 11 8 12 (by decide) (by kernel_rfl) (by kernel_rfl) (by kernel_rfl) (by kernel_rfl) rfl [8, 10] (by kernel_rfl) (by kernel_rfl) [4, 5, 7] (by kernel_rfl) (by kernel_rfl) (by kernel_rfl) _ _ rfl rfl rfl (by kernel_rfl) ?_ ?_ ?_ (by decide) ?_
        · intro ii o' ho hii hic a X hX0 hk hd
          match ii, ho with
          | 0, ho =>
            injection ho with ho; subst ho
            have e3 : a.tmps[3]?.getD undef = .pointer (some ⟨g, pl * 3, none⟩) := (RY.ev_tmp a 3).trans ((hk 3 (by kernel_rfl)).trans rfl)
            exact Or.inl ⟨.pointer (some ⟨g, pl * 3, none⟩), X, by simp [execOp, go_sem, e3], (fun _ => rfl), Below.refl _ _, rfl⟩
          | 1, ho =>
            injection ho with ho; subst ho
            have hX := hX0 (by decide)
            have e3 : a.tmps[3]?.getD undef = .pointer (some ⟨g, pl * 3, none⟩) := (RY.ev_tmp a 3).trans ((hk 3 (by kernel_rfl)).trans rfl)
            exact Or.inl ⟨.pointer (some ⟨g, pl * 3, none⟩), X, by simp [execOp, go_sem, e3], (fun _ => rfl), Below.refl _ _, rfl⟩
          | 2, ho =>
            injection ho with ho; subst ho
            have hX := hX0 (by decide)
            have e107 : a.tmps[107]?.getD undef = .pointer (some ⟨g, pl * 3, none⟩) := (RY.ev_tmp a 107).trans (hd 1 _ 107 rfl rfl ⟨⟨1, .data⟩, by simp, rfl, rfl⟩ (by decide) (by decide) (by decide))
            exact Or.inl ⟨.pointer (some ⟨g, pl * 3, none⟩), X, by simp [execOp, go_sem, e107], (fun _ => rfl), Below.refl _ _, rfl⟩
          | 3, ho =>
            injection ho with ho; subst ho
            have hX := hX0 (by decide)
            have e108 : a.tmps[108]?.getD undef = .pointer (some ⟨g, pl * 3, none⟩) := (RY.ev_tmp a 108).trans (hd 2 _ 108 rfl rfl ⟨⟨2, .data⟩, by simp, rfl, rfl⟩ (by decide) (by decide) (by decide))
            exact Or.inl ⟨.pointer (some ⟨g, pl * 3 + 2, none⟩), X, by simp [execOp, go_sem, e108], (fun _ => rfl), Below.refl _ _, rfl⟩
          | 4, ho =>
            injection ho with ho; subst ho
            have hX := hX0 (by decide)
            have zq5 := HQ5.out.later hX
            have zq5l := zq5.own.lt
            have e109 : a.tmps[109]?.getD undef = .pointer (some ⟨g, pl * 3 + 2, none⟩) := (RY.ev_tmp a 109).trans (hd 3 _ 109 rfl rfl ⟨⟨3, .data⟩, by simp, rfl, rfl⟩ (by decide) (by decide) (by decide))
            have ypl_ := Nat.lt_of_lt_of_le HPZ.out hX.size
            have ycl_ : X.cell? ⟨g, pl * 3 + 2, none⟩ = some (.slice l1 ln lq) := by have q := rA_get (rA_later HGX.out HPZ.out hX) 2 _ rfl; simpa using q
            exact Or.inl ⟨.slice l1 ln lq, X, by simp [execOp, go_sem, e109, ycl_], (fun _ => rfl), Below.refl _ _, rfl⟩
          | 5, ho =>
            injection ho with ho; subst ho
            have hX := hX0 (by decide)
            have e9 : a.tmps[9]?.getD undef = .int .i64 (pi : Int) := (RY.ev_tmp a 9).trans ((hk 9 (by kernel_rfl)).trans rfl)
            exact Or.inl ⟨.int .i64 (pi : Int), X, by simp [execOp, go_sem, e9], (fun _ => rfl), Below.refl _ _, rfl⟩
          | 6, ho =>
            injection ho with ho; subst ho
            have hX := hX0 (by decide)
            have zq5 := HQ5.out.later hX
            have zq5l := zq5.own.lt
            have v5 : a.eval (.tmp 5) = .pointer (some ⟨q5, 0, none⟩) := (hk 5 (by kernel_rfl)).trans rfl
            exact Or.inl ⟨_, X, exec_load_mid 62 _ rfl q5 0 v5 [.string key, .slice ta m tc] _ zq5.at_ Tryz.underlying62 rfl (by kernel_rfl), (fun _ => rfl), Below.refl _ _, rfl⟩
          | 7, ho =>
            injection ho with ho; subst ho
            have hX := hX0 (by decide)
            have zq5 := HQ5.out.later hX
            have zq5l := zq5.own.lt
            have e112 : a.tmps[112]?.getD undef = .agg #[.string key, .slice ta m tc] := (RY.ev_tmp a 112).trans (hd 6 _ 112 rfl rfl ⟨⟨6, .data⟩, by simp, rfl, rfl⟩ (by decide) (by decide) (by decide))
            exact Or.inl ⟨.slice (some ⟨X.heap.size, 0, none⟩) 1 1, X.alloc (.cells #[.string key, .slice ta m tc] 62), by simp [execOp, go_sem, e112], (fun h => absurd h (by decide)), blw_alloc (Below.refl _ _) _, X.heap.size, rfl, made_ln X wo.heap.size _ _ hX.size⟩
          | 8, ho =>
            exact absurd rfl hic
          | 9, ho =>
            injection ho with ho; subst ho
            have e106 : a.tmps[106]?.getD undef = .pointer (some ⟨g, pl * 3, none⟩) := (RY.ev_tmp a 106).trans (hd 0 _ 106 rfl rfl ⟨⟨0, .data⟩, by simp, rfl, rfl⟩ (by decide) (by decide) (by decide))
            exact Or.inl ⟨.pointer (some ⟨g, pl * 3, none⟩), X, by simp [execOp, go_sem, e106], (fun _ => rfl), Below.refl _ _, rfl⟩
          | 10, ho =>
            injection ho with ho; subst ho
            have e115 : a.tmps[115]?.getD undef = .pointer (some ⟨g, pl * 3, none⟩) := (RY.ev_tmp a 115).trans (hd 9 _ 115 rfl rfl ⟨⟨9, .data⟩, by simp, rfl, rfl⟩ (by decide) (by decide) (by decide))
            exact Or.inl ⟨.pointer (some ⟨g, pl * 3 + 2, none⟩), X, by simp [execOp, go_sem, e115], (fun _ => rfl), Below.refl _ _, rfl⟩
          | n + 11, ho => omega
        · intro a X hX hk hd
          have e110 : a.tmps[110]?.getD undef = .slice l1 ln lq := (RY.ev_tmp a 110).trans (hd 4 _ 110 rfl rfl ⟨⟨4, .data⟩, by simp, rfl, rfl⟩ (by decide) (by decide))
          have e111 : a.tmps[111]?.getD undef = .int .i64 (pi : Int) := (RY.ev_tmp a 111).trans (hd 5 _ 111 rfl rfl ⟨⟨5, .data⟩, by simp, rfl, rfl⟩ (by decide) (by decide))
          obtain ⟨g113, q113, ho113⟩ := hd 7 _ 113 rfl rfl ⟨⟨7, .data⟩, by simp, rfl, rfl⟩ (by decide) (by decide)
          have e113 : a.tmps[113]?.getD undef = .slice (some ⟨g113, 0, none⟩) 1 1 := (RY.ev_tmp a 113).trans q113
          refine ⟨76, #[.slice l1 ln lq, .int .i64 (pi : Int), .slice (some ⟨g113, 0, none⟩) 1 1], by simp [go_sem, e110, e111, e113], (insILn (rb + 1) X l1 ln lq cl [.string key, .slice ta m tc] 1 (owns_frm HOWL.out (Frm.of_below (S := fun _ => False) hX) (fun _ _ h => h)) wo.heap.size (.slice (some ⟨g113, 0, none⟩) 1 1) HX1.out (by simp [Value.oneCell']) ho113 (by decide) (fun gg hg => HGL.out gg hg) pi HPI.out (by have := HLN.out; omega) (Nat.le_trans HLO.out hX.size)).mono ?_⟩
          rintro e W' ⟨g', q', rfl, h1, h2, h3⟩
          exact ⟨_, rfl, g', q', rfl, h1, ((Frm.of_below hX).trans (h2.frm.mono (fun b ⟨gg, e1, e2⟩ => by rw [e1, e2]; rfl))), h3.imp id (fun h => Nat.le_trans hX.size h)⟩
        · intro a X vals hK1 hk hVp hd
          obtain ⟨g', q', e1, h1, h2, h3⟩ := hK1
          have e114 : a.eval (.tmp 114) = _ := (hd 8 _ 114 rfl rfl ⟨⟨8, .data⟩, by simp, rfl, rfl⟩ (by decide)).trans e1
          have e116 : a.eval (.tmp 116) = .pointer (some ⟨g, pl * 3 + 2, none⟩) := (hd 10 _ 116 rfl rfl ⟨⟨10, .data⟩, by simp, rfl, rfl⟩ (by decide)).trans (hVp 10 (by decide))
          have hb := owns_frm HOWB.out h2 (fun gg hgg e => owns_apart HOWB.out HOWL.out (by decide) hgg e)
          obtain ⟨hc, hl, hf⟩ := owns_cell hb (j := pl * 3 + 2) (by have := HPLN.out; omega)
          have e114' : a.tmps[114]?.getD undef = _ := (RY.ev_tmp a 114).trans e114
          have e116' : a.tmps[116]?.getD undef = _ := (RY.ev_tmp a 116).trans e116
          obtain ⟨old, hc⟩ := hc
          refine ⟨X.setCell ⟨g, pl * 3 + 2, none⟩ (.slice (some ⟨g', 0, none⟩) (ln + 1) q'), by simp [execOp, go_sem, e114', e116', hc, hf], g', q', ?_, ?_, ?_, h3⟩
          · have hs := owns_set hb (pl * 3 + 2) (.slice (some ⟨g', 0, none⟩) (ln + 1) q')
            rw [set_mid3 _ _ _ _ _ _ HCA.out] at hs
            exact hs
          · exact owns_frm h1 ((Marks.sc (S := fun b => b = g) X rfl (pl * 3 + 2) _).frm (fun _ h => h)) (fun gg hgg e => owns_apart h1 hb (by decide) hgg (by rw [e]; rfl))
          · exact (h2.mono (fun _ h => Or.inr h)).trans ((Marks.sc (S := fun b => b = g) X rfl (pl * 3 + 2) _).frm (fun _ h => Or.inl h))
        · intro vs X hK2
          simp only [RY.putAll, Act.put, List.setIfInBounds_toArray, List.set_cons_zero, List.set_cons_succ]
          generalize vs 106 = s106
          generalize vs 107 = s107
          generalize vs 108 = s108
          generalize vs 109 = s109
          generalize vs 110 = s110
          generalize vs 111 = s111
          generalize vs 112 = s112
          generalize vs 113 = s113
          generalize vs 114 = s114
          generalize vs 115 = s115
          generalize vs 116 = s116
          obtain ⟨g', q', hob, hol, hfr, hnew⟩ := hK2
          have HNW : Hid (l1 = some ⟨g', 0, none⟩ ∨ w.heap.size ≤ g') := hnew.imp id (fun h => Nat.le_trans HWQ.out.size h)
          have HN2 := uh (And.intro hob (And.intro hol hfr))
          clear hob hol hfr hnew
          go_wp2
          go_ret
          refine Or.inr ⟨HCD.out, rfl, g', q', HN2.out.1, HN2.out.2.1, (Frm.of_below HWQ.out).trans HN2.out.2.2, HNW.out⟩

end Go.Proofs.YtdllbcafbfkngaaGreatDoor
