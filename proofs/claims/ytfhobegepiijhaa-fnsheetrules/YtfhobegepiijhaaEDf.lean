/-
  Draws of sheets: a kind, a key, words.
-/
import Derived.Test.YtfhobegepiijhaaEDl
import Derived.Test.YtfhobegepiijhaaRgSr
namespace Go.Proofs.Ytfhobegepiijhaa
open Go.RowKit Go.Deep

def none2 : List ByteArray := [{ data := #[110, 111, 110, 101] }, { data := #[] }]
def none4 : List ByteArray := [{ data := #[110, 111, 110, 101] }, { data := #[] }, { data := #[122, 111, 110, 101] }, { data := #[105, 109, 97, 103, 101] }]
/-- A line in a variable of one's own, the reader beside it. -/
structure FB (W X : World) (R B : Nat) (key : ByteArray) (wv : Value) (ws : List ByteArray) (v : Value) (len : Nat) : Prop where
  bel : Below R W X
  box : WBox X B 48 [.string key, wv]
  row : TxR X (R + 1) wv ws
  lt : R < B
  rd : ∃ q, q ≤ 700000 ∧ Rd X R v len q
theorem txbox {X : World} {B lo : Nat} {cs : List Value} {v : Value} {ws : List ByteArray} (h : WBox X B 48 cs) (ht : TxR X lo v ws) : v.ownBlock ≠ some B := by
  intro e
  rcases ht.2 with ⟨e1, _⟩ | ⟨g, cap, cur, e1, _, h3, _⟩
  · rw [e1] at e; cases e
  · rw [e1] at e
    injection e with e
    have e : g = B := e
    subst e
    obtain ⟨cs', h4, _⟩ := h.own
    rw [h3] at h4
    injection h4 with h4
    injection h4 with _ h5
    exact absurd h5 (by decide)
theorem TxR.mks {W W' : World} {lo : Nat} {v : Value} {l : List ByteArray} (h : TxR W lo v l) {B : Nat} (hm : Marks (fun b => b = B) W W') (hn : v.ownBlock ≠ some B) : TxR W' lo v l := by
  refine ⟨h.1, h.2.imp id ?_⟩
  rintro ⟨g, cap, cur, h1, h2, h3, h4⟩
  refine ⟨g, cap, cur, h1, h2, (hm.block g (Array.getElem?_eq_some_iff.1 h3).1 (fun e => hn (by rw [h1]; show some g = _; rw [e]))).trans h3, h4⟩
theorem TxR.other {W W' : World} {lo g n c : Nat} {l : List ByteArray} (h : TxR W lo (.slice (some ⟨g, 0, none⟩) n c) l) {B : Nat} (hm : Marks (fun b => b = B) W W') (hn : g ≠ B) : TxR W' lo (.slice (some ⟨g, 0, none⟩) n c) l :=
  TxR.mks h hm (fun e => hn (by injection e))
theorem TxR.slot {W : World} {lo g n c : Nat} {l : List ByteArray} (h : TxR W lo (.slice (some ⟨g, 0, none⟩) n c) l) {j : Nat} (hj : j < l.length) : W.cell? ⟨g, j, none⟩ = some (.string (l.getD j ⟨#[]⟩)) ∧ W.frozen? ⟨g, j, none⟩ = false := by
  rcases h.2 with ⟨e, _⟩ | ⟨g', cap, cur, e, _, h3, h4, _, h5, h6⟩
  · cases e
  · injection e with e1 e2 e3
    injection e1 with e1
    injection e1 with e1
    subst e1
    have hO : OwnBlk W g 9 cur.size := ⟨cur, h3, rfl⟩
    refine ⟨?_, hO.frozen j⟩
    have hx : (txV l)[j]? = some (.string (l.getD j ⟨#[]⟩)) := by simp [txV, hj]
    have q : cur.toList[j]? = some (.string (l.getD j ⟨#[]⟩)) := by rw [← hx, ← h6, List.getElem?_take, if_pos (by omega)]
    simp only [World.cell?, h3]
    simpa using q
theorem TxR.put {W : World} {lo g n c : Nat} {l : List ByteArray} (h : TxR W lo (.slice (some ⟨g, 0, none⟩) n c) l) {j : Nat} (s : ByteArray) : TxR (W.setCell ⟨g, j, none⟩ (.string s)) lo (.slice (some ⟨g, 0, none⟩) n c) (l.set j s) := by
  rcases h.2 with ⟨e, _⟩ | ⟨g', cap, cur, e, h2, h3, h4, h5, h6, h7⟩
  · cases e
  · injection e with e1 e2 e3
    injection e1 with e1
    injection e1 with e1
    subst e1; subst e3; subst e2
    have e0 : (txV (l.set j s)) = (txV l).set j (.string s) := by simp [txV, List.map_set]
    have hl := h.1
    unfold TxR
    rw [List.length_set, e0]
    refine ⟨by rw [List.length_set]; exact hl, Or.inr ⟨g, c, cur.setIfInBounds j (.string s), rfl, h2, ?_, h4, h5, by simpa using h6, ?_⟩⟩
    · simp [World.setCell, Array.getElem?_modify, h3]
    · rw [← h7, Array.toList_setIfInBounds, List.take_set]
def VF5 (R : Nat) (wv : Value) (B n g : Nat) : Nat → Value → World → Prop
  | 0, u, _ => u = .pointer (some ⟨B, 1, none⟩)
  | 1, u, _ => u = wv
  | 2, u, _ => u = .pointer (some ⟨R, 0, none⟩)
  | 3, u, _ => u = .pointer (some ⟨B, 1, none⟩)
  | 4, u, _ => u = wv
  | 5, u, _ => u = .int .i64 (n : Int)
  | 6, u, _ => ∃ j : Nat, u = .int .i64 (j : Int) ∧ j < n
  | 7, u, _ => u = .pointer (some ⟨R, 0, none⟩)
  | 8, u, _ => ∃ s : ByteArray, u = .string s ∧ s.size ≤ 4000
  | 9, u, _ => ∃ j : Nat, u = .pointer (some ⟨g, j, none⟩) ∧ j < n
  | _, _, _ => True
theorem VF5_mono (R : Nat) (wv : Value) (B n g : Nat) : ∀ j u W W', Fr R W W' → R < W.heap.size → VF5 R wv B n g j u W → VF5 R wv B n g j u W' := by
  intro j u W W' hb hlt h
  match j with
  | 0 => exact h
  | 1 => exact h
  | 2 => exact h
  | 3 => exact h
  | 4 => exact h
  | 5 => exact h
  | 6 => exact h
  | 7 => exact h
  | 8 => exact h
  | 9 => exact h
  | n + 10 => exact trivial
def VF10 (R : Nat) (wv : Value) (B : Nat) (key : ByteArray) : Nat → Value → World → Prop
  | 0, u, W => ∃ b : Nat, u = .slice (some ⟨b, 0, none⟩) 2 2 ∧ R < b ∧ b < W.heap.size ∧ ∀ j, j < 2 → W.cell? ⟨b, j, none⟩ = some (.string (none2.getD j ⟨#[]⟩))
  | 1, u, _ => u = .pointer (some ⟨R, 0, none⟩)
  | 2, u, _ => ∃ j : Nat, u = .int .i64 (j : Int) ∧ j < 2
  | 3, u, W => ∃ b j : Nat, u = .pointer (some ⟨b, j, none⟩) ∧ R < b ∧ b < W.heap.size ∧ ∃ x : ByteArray, W.cell? ⟨b, j, none⟩ = some (.string x)
  | 4, u, _ => ∃ x : ByteArray, u = .string x
  | 5, u, _ => u = .pointer (some ⟨B, 0, none⟩)
  | 6, u, _ => u = .string key
  | 7, u, _ => u = .pointer (some ⟨B, 1, none⟩)
  | 8, u, _ => u = wv
  | 9, u, _ => ∃ x : ByteArray, u = .string x
  | 10, u, _ => u = .string key
  | 11, u, _ => u = wv
  | _, _, _ => True
theorem VF10_mono (R : Nat) (wv : Value) (B : Nat) (key : ByteArray) : ∀ j u W W', Fr R W W' → R < W.heap.size → VF10 R wv B key j u W → VF10 R wv B key j u W' := by
  intro j u W W' hb hlt h
  match j with
  | 0 =>
    obtain ⟨b, e, h1, h2, hc⟩ := h
    exact ⟨b, e, h1, Nat.lt_of_lt_of_le h2 hb.bel.size, fun j hj => (hb.cell h1 h2).trans (hc j hj)⟩
  | 1 => exact h
  | 2 => exact h
  | 3 =>
    obtain ⟨b, j, e, h1, h2, x, hc⟩ := h
    exact ⟨b, j, e, h1, Nat.lt_of_lt_of_le h2 hb.bel.size, x, (hb.cell h1 h2).trans hc⟩
  | 4 => exact h
  | 5 => exact h
  | 6 => exact h
  | 7 => exact h
  | 8 => exact h
  | 9 => exact h
  | 10 => exact h
  | 11 => exact h
  | n + 12 => exact trivial
def kinds3 : List ByteArray := [{ data := #[116, 101, 97, 109] }, { data := #[98, 101, 114, 116, 104] }, { data := #[115, 101, 114, 118, 105, 99, 101] }]
theorem kinds3_rules (i : Nat) (h : i < 3) : 1 ≤ (Pl.rulesOf (kinds3.getD i ⟨#[]⟩)).length := by
  have : i = 0 ∨ i = 1 ∨ i = 2 := by omega
  rcases this with rfl | rfl | rfl <;> decide +kernel

set_option maxRecDepth 8000 in
set_option maxHeartbeats 16000000 in
theorem drawFits (v0 : Value) (W : World) (h : CodeAt W v0) :
    Calls Try.prog 9 #[v0] W fun e W' => (∃ k key wv ws, e = .returned (.tuple #[.string k, .string key, wv]) ∧ TxR W' (W.heap.size + 1) wv ws ∧ ws.length ≤ 100 ∧ ∀ x ∈ ws, x.size ≤ 4000) ∧ Below W.heap.size W W' := by
  have HO := uh (open_any v0 W h)
  obtain ⟨a, n0, c, hv⟩ : ∃ a n c, v0 = .slice a n c := by rcases h with ⟨a, c, e⟩ | ⟨b, off, n, cap, e, _⟩; exact ⟨_, _, _, e⟩; exact ⟨_, _, _, e⟩
  subst hv
  clear h
  go_enter Try.func9, Try.ntmps9
  go_wp2_with fail
  refine HO.out.mono ?_
  rintro e W1 ⟨⟨v, len, rfl, hR⟩, hb⟩
  obtain ⟨R, hRe⟩ : ∃ R, R = W.heap.size := ⟨_, rfl⟩
  rw [← hRe] at hR hb ⊢
  have HRW := uh hRe
  have HR1 := uh hR
  have HB1 := uh hb
  clear hRe hR hb HO
  have HP := uh (fun o => pick_any R v len 0 3 (W1.alloc o) (HR1.out.later (blw_alloc (Below.refl _ _) o)) (by omega) (by omega))
  go_wp2_with fail
  refine (HP.out _).mono ?_
  rintro e W2 ⟨⟨rm, rfl, hrm⟩, hF2, hR2⟩
  obtain ⟨i, rfl, hi⟩ := hrm.nat
  have hi3 : i < 3 := by have := hi (by omega); omega
  have hbd := blw_alloc (Below.refl W1.heap.size W1) (.cells #[.string { data := #[116, 101, 97, 109] }, .string { data := #[98, 101, 114, 116, 104] }, .string { data := #[115, 101, 114, 118, 105, 99, 101] }] 9)
  have hc : W2.cell? ⟨W1.heap.size, i, none⟩ = some (.string (kinds3.getD i ⟨#[]⟩)) := (hF2.cell HR1.out.own.lt (by simp)).trans (lit_at kinds3 W1 i hi3)
  have hk1 : 1 ≤ (Pl.rulesOf (kinds3.getD i ⟨#[]⟩)).length := kinds3_rules i hi3
  have HB2 : Hid (Below R W W2) := (HB1.out.trans (hbd.mono (Nat.le_of_lt HR1.out.own.lt))).trans hF2.bel
  have HR2 := uh hR2
  have hl2 : W1.heap.size < W2.heap.size := by have := hF2.bel.size; simp at this; omega
  have hi0 : (0 : Int) ≤ (i : Int) := by omega
  have hi1 : (i : Int) < 3 := by omega
  generalize kinds3.getD i ⟨#[]⟩ = kind at hc hk1
  clear hrm hi hF2 hR2 HP hbd HR1 HB1
  have HL := uh (drawLine R v len (0 + 1) kind W2 HR2.out (by omega) hk1)
  go_wp2_with fail
  refine HL.out.mono ?_
  rintro e W3 ⟨⟨key, wv, ws, rfl, hT3, hw10, hs3⟩, hF3, q3, hq3, hR3⟩
  obtain ⟨wa, wc, hwv⟩ := TxR.shape hT3
  subst hwv
  obtain ⟨W4, hW4⟩ : ∃ W4, W4 = W3.alloc (.cells #[.string key, .slice wa ws.length wc] 48) := ⟨_, rfl⟩
  obtain ⟨B, hB⟩ : ∃ B, B = W3.heap.size := ⟨_, rfl⟩
  have hb34 : Below W3.heap.size W3 W4 := by rw [hW4]; exact blw_alloc (Below.refl _ _) _
  have HX4 : Hid (WBox W4 B 48 [.string key, .slice wa ws.length wc]) := by show WBox _ _ _ _; rw [hW4, hB]; exact WBox.new _ _ _ _ rfl
  have HT4 : Hid (TxR W4 (R + 1) (.slice wa ws.length wc) ws) := TxR.later hT3 hb34
  have HB4 : Hid (Below R W W4) := (HB2.out.trans hF3.bel).trans (hb34.mono (Nat.le_of_lt hR3.own.lt))
  have HR4 := uh (hR3.later hb34)
  have HRB : Hid (R < B) := by show _ < _; rw [hB]; exact hR3.own.lt
  have HS := uh hs3
  have HP := uh (pick_any R v len q3 2 W4 HR4.out (by omega) (by omega))
  go_upto_region 4 with fail
  rw [← hW4, ← hB]
  clear hW4 hB hb34 hT3 hF3 hR3 HL HB2 HR2 hc hk1 hl2 hi0 hi1 hi3 hs3
  go_wp2_with fail
  refine HP.out.mono ?_
  rintro e W5 ⟨⟨rm, rfl, hrm⟩, hF5, hR5⟩
  obtain ⟨m5, rfl, hm5⟩ := hrm.nat
  have HX := uh (HX4.out.fr hF5 HRB.out)
  have HT : Hid (TxR W5 (R + 1) (.slice wa ws.length wc) ws) := TxR.fr HT4.out hF5 (by omega)
  have HB : Hid (Below R W W5) := HB4.out.trans hF5.bel
  obtain ⟨pw, hpw⟩ : ∃ pw, pw = q3 + 1 := ⟨_, rfl⟩
  have hpw1 : pw ≤ 300000 := by omega
  have HR : Hid (Rd W5 R v len pw) := by rw [hpw]; exact hR5
  have yb := HX.out.get 1 _ rfl
  have ybl := HX.out.own.lt
  clear hrm hm5 hF5 hR5 hpw HP HX4 HT4 HB4 HR4 hq3
  by_cases m5z : m5 = 0
  rotate_left
  · have d0 : ((m5 : Int) == 0) = false := by simp; omega
    go_upto_region 6 with fail
    clear d0 m5z yb ybl
    have HP := uh (pick_any R v len pw 10 W5 HR.out (by omega) (by omega))
    go_wp2_with fail
    refine HP.out.mono ?_
    rintro e WD ⟨⟨rm, rfl, hrm⟩, hFD, hRD⟩
    obtain ⟨m, rfl, hm⟩ := hrm.nat
    have hmn : m < 10 := by have := hm (by omega); omega
    replace HX := uh (HX.out.fr hFD HRB.out)
    replace HT : Hid (TxR WD (R + 1) (.slice wa ws.length wc) ws) := TxR.fr HT.out hFD (by omega)
    replace HB : Hid (Below R W WD) := HB.out.trans hFD.bel
    replace HR := uh hRD
    clear hrm hm hFD hRD HP
    by_cases m0 : m = 0
    · subst m0
      have yb := HX.out.get 1 _ rfl
      have ybl := HX.out.own.lt
      have HX1 : Hid (∀ o, WBox (WD.alloc o) B 48 [.string key, .slice wa ws.length wc]) := fun o => HX.out.later (blw_alloc (Below.refl _ _) o)
      have yb2 := fun o => (HX1.out o).get 1 _ rfl
      have hnb : (.slice wa ws.length wc : Value).ownBlock ≠ some B := txbox HX.out HT.out
      go_upto_region 13 with (refine tx_push rfl _ _ rfl (R + 1) (.slice wa ws.length wc) ws rfl (TxR.later HT.out (blw_alloc (Below.refl _ _) _)) WD.heap.size 1 1 [{ data := #[49] }] rfl rfl (World.news_of_block (cs := #[.string { data := #[49] }]) (heap_alloc_new WD _)) (by decide) (by omega) (by have := HR.out.own.lt; simp; omega) ?_; intro g1 c1 WE q1 q2; have hXE := (HX1.out _).grow q2 hnb; have zb := hXE.get 1 _ rfl; have zf := hXE.own.frozen 1; have zl := hXE.own.lt)
      obtain ⟨WF, hWF⟩ : ∃ WF, WF = WE.setCell ⟨B, 1, none⟩ (.slice (some ⟨g1, 0, none⟩) (ws.length + 1) c1) := ⟨_, rfl⟩
      have HXF : Hid (WBox WF B 48 [.string key, .slice (some ⟨g1, 0, none⟩) (ws.length + 1) c1]) := by show WBox _ _ _ _; rw [hWF]; exact hXE.set 1 _ (by simp)
      have hmF : Marks (fun b => b = B) WE WF := by rw [hWF]; exact Marks.sc (S := fun b => b = B) WE rfl 1 _
      have hgB : g1 ≠ B := fun e => txbox hXE q1 (by rw [e]; rfl)
      have HTF : Hid (TxR WF (R + 1) (.slice (some ⟨g1, 0, none⟩) (ws.length + 1) c1) (ws ++ [{ data := #[49] }])) := q1.other hmF hgB
      have HBF : Hid (Below R W WF) := hmF.below (a := W) (fun b e => by have := HRW.out; have := HRB.out; omega) (by have := TxR.below (a := W) (TxR.later HT.out (blw_alloc (Below.refl _ _) (.cells #[.string { data := #[49] }] 9))) (blw_alloc (by rw [← HRW.out]; exact HB.out) _) q2 (by rw [← HRW.out]; omega); exact this) |> (fun h => by rw [HRW.out]; exact h)
      rw [← hWF]
      have yk := HXF.out.get 0 _ rfl
      have yw := HXF.out.get 1 _ rfl
      have ywl := HXF.out.own.lt
      have HS' : Hid (∀ x ∈ ws ++ [{ data := #[49] }], x.size ≤ 4000) := by
        intro x hx
        rcases List.mem_append.1 hx with q | q
        · exact HS.out x q
        · simp at q; rw [q]; decide
      clear hWF hmF hgB hXE q1 q2 zb zf zl yb yb2 hnb ybl HX1
      go_region
      all_goals go_wp2
      all_goals go_ret3
      all_goals exact ⟨⟨_, _, _, ws ++ [{ data := #[49] }], rfl, by rw [← HRW.out]; exact TxR.later HTF.out (Below.drew (Below.refl _ _)), by simp; omega, HS'.out⟩, by rw [← HRW.out]; exact Below.drew HBF.out⟩
    by_cases m1 : m = 1
    · subst m1
      go_upto_region 10 with fail
      refine RY.region_fr R v len (pw + 1) HR.out (VF10 R (.slice wa ws.length wc) B key) (VF10_mono R _ _ _) (by kernel_rfl) (by kernel_rfl) (by kernel_rfl) (by kernel_rfl) ?_ ?_
      · intro i' o' ho a X pp hX hR hpp hk hd
        have yk := (HX.out.fr hX HRB.out).get 0 _ rfl
        have yb := (HX.out.fr hX HRB.out).get 1 _ rfl
        have hpq : pp ≤ 800000 := by simp at hpp; omega
        match i', ho with
        | 0, ho =>
          injection ho with ho; subst ho
          refine Or.inl ⟨.slice (some ⟨X.heap.size, 0, none⟩) 2 2, X.alloc (.cells #[.string { data := #[110, 111, 110, 101] }, .string { data := #[] }] 9), by simp [execOp, go_sem], blw_alloc (Below.refl _ _) _, X.heap.size, rfl, hR.own.lt, by simp, fun j hj => lit_at none2 X j hj⟩
        | 1, ho =>
          injection ho with ho; subst ho
          have e5 : a.tmps[5]?.getD undef = .pointer (some ⟨R, 0, none⟩) := (RY.ev_tmp a 5).trans ((hk 5 (by kernel_rfl)).trans rfl)
          exact Or.inl ⟨.pointer (some ⟨R, 0, none⟩), X, by simp [execOp, go_sem, e5], Below.refl _ _, rfl⟩
        | 2, ho =>
          injection ho with ho; subst ho
          have e49 : a.tmps[49]?.getD undef = _ := (RY.ev_tmp a 49).trans (hd 1 _ 49 rfl rfl ⟨⟨1, .data⟩, by simp, rfl, rfl⟩)
          refine Or.inr ⟨12, #[.pointer (some ⟨R, 0, none⟩), .int .i64 2], by simp [go_sem, e49], (pick_any R v len pp 2 X hR (by omega) (by omega)).mono ?_⟩
          rintro e W' ⟨⟨r, rfl, hr⟩, hF, hR'⟩
          obtain ⟨j, rfl, hj⟩ := hr.nat
          exact ⟨_, rfl, hF, ⟨pp + 1, by omega, hR'⟩, j, rfl, by have := hj (by omega); omega⟩
        | 3, ho =>
          injection ho with ho; subst ho
          obtain ⟨b, e48, h1, h2, hc⟩ := hd 0 _ 48 rfl rfl ⟨⟨0, .data⟩, by simp, rfl, rfl⟩
          obtain ⟨j, e50, hj⟩ := hd 2 _ 50 rfl rfl ⟨⟨2, .data⟩, by simp, rfl, rfl⟩
          have f48 := (RY.ev_tmp a 48).trans e48
          have f50 := (RY.ev_tmp a 50).trans e50
          have hj1 : (j : Int) < 2 := by omega
          exact Or.inl ⟨.pointer (some ⟨b, j, none⟩), X, by simp [execOp, go_sem, f48, f50, hj1], Below.refl _ _, b, j, rfl, h1, h2, _, hc j hj⟩
        | 4, ho =>
          injection ho with ho; subst ho
          obtain ⟨b, j, e51, h1, h2, x, hc⟩ := hd 3 _ 51 rfl rfl ⟨⟨3, .data⟩, by simp, rfl, rfl⟩
          have f51 := (RY.ev_tmp a 51).trans e51
          exact Or.inl ⟨.string x, X, by simp [execOp, go_sem, f51, hc], Below.refl _ _, x, rfl⟩
        | 5, ho =>
          injection ho with ho; subst ho
          have e7 : a.tmps[7]?.getD undef = .pointer (some ⟨B, 0, none⟩) := (RY.ev_tmp a 7).trans ((hk 7 (by kernel_rfl)).trans rfl)
          exact Or.inl ⟨.pointer (some ⟨B, 0, none⟩), X, by simp [execOp, go_sem, e7], Below.refl _ _, rfl⟩
        | 6, ho =>
          injection ho with ho; subst ho
          have e53 : a.tmps[53]?.getD undef = _ := (RY.ev_tmp a 53).trans (hd 5 _ 53 rfl rfl ⟨⟨5, .data⟩, by simp, rfl, rfl⟩)
          exact Or.inl ⟨.string key, X, by simp [execOp, go_sem, e53, yk], Below.refl _ _, rfl⟩
        | 7, ho =>
          injection ho with ho; subst ho
          have e7 : a.tmps[7]?.getD undef = .pointer (some ⟨B, 0, none⟩) := (RY.ev_tmp a 7).trans ((hk 7 (by kernel_rfl)).trans rfl)
          exact Or.inl ⟨.pointer (some ⟨B, 1, none⟩), X, by simp [execOp, go_sem, e7], Below.refl _ _, rfl⟩
        | 8, ho =>
          injection ho with ho; subst ho
          have e55 : a.tmps[55]?.getD undef = _ := (RY.ev_tmp a 55).trans (hd 7 _ 55 rfl rfl ⟨⟨7, .data⟩, by simp, rfl, rfl⟩)
          exact Or.inl ⟨.slice wa ws.length wc, X, by simp [execOp, go_sem, e55, yb], Below.refl _ _, rfl⟩
        | 9, ho =>
          injection ho with ho; subst ho
          obtain ⟨x, e52⟩ := hd 4 _ 52 rfl rfl ⟨⟨4, .data⟩, by simp, rfl, rfl⟩
          have f52 := (RY.ev_tmp a 52).trans e52
          exact Or.inl ⟨.string x, X, by simp [execOp, go_sem, f52], Below.refl _ _, x, rfl⟩
        | 10, ho =>
          injection ho with ho; subst ho
          have e54 : a.tmps[54]?.getD undef = _ := (RY.ev_tmp a 54).trans (hd 6 _ 54 rfl rfl ⟨⟨6, .data⟩, by simp, rfl, rfl⟩)
          exact Or.inl ⟨.string key, X, by simp [execOp, go_sem, e54], Below.refl _ _, rfl⟩
        | 11, ho =>
          injection ho with ho; subst ho
          have e56 : a.tmps[56]?.getD undef = _ := (RY.ev_tmp a 56).trans (hd 8 _ 56 rfl rfl ⟨⟨8, .data⟩, by simp, rfl, rfl⟩)
          exact Or.inl ⟨.slice wa ws.length wc, X, by simp [execOp, go_sem, e56], Below.refl _ _, rfl⟩
        | n + 12, ho => simp at ho
      intro X vs pp hX hR hpp hvs
      have q2 := hvs 9 _ 2 rfl rfl
      have q3 := hvs 10 _ 3 rfl rfl
      have q4 := hvs 11 _ 4 rfl rfl
      simp only [RY.putAll, Act.put, List.setIfInBounds_toArray, List.set_cons_zero, List.set_cons_succ]
      obtain ⟨x, q2⟩ := q2
      have q3 : vs 3 = _ := q3
      have q4 : vs 4 = _ := q4
      rw [q2, q3, q4]
      generalize vs 48 = s48
      generalize vs 49 = s49
      generalize vs 50 = s50
      generalize vs 51 = s51
      generalize vs 52 = s52
      generalize vs 53 = s53
      generalize vs 54 = s54
      generalize vs 55 = s55
      generalize vs 56 = s56
      have HEND : Hid (TxR X (R + 1) (.slice wa ws.length wc) ws ∧ Below R W X) := ⟨HT.out.fr hX (by omega), HB.out.trans hX.bel⟩
      clear hvs q2 q3 q4 hX hR hpp
      go_wp2
      go_ret3
      exact ⟨⟨x, key, _, ws, rfl, by rw [← HRW.out]; exact HEND.out.1, by omega, HS.out⟩, by rw [← HRW.out]; exact HEND.out.2⟩
    by_cases m2 : m = 2
    · subst m2
      have HP := uh (fun o => pick_any R v len (pw + 1) 4 (WD.alloc o) (HR.out.later (blw_alloc (Below.refl _ _) o)) (by omega) (by omega))
      go_wp2_with fail
      refine (HP.out _).mono ?_
      rintro e WE ⟨⟨rm, rfl, hrm⟩, hFE, hRE⟩
      obtain ⟨i, rfl, hi⟩ := hrm.nat
      have hi4 : i < 4 := by have := hi (by omega); omega
      have hbd := blw_alloc (Below.refl WD.heap.size WD) (.cells #[.string { data := #[110, 111, 110, 101] }, .string { data := #[] }, .string { data := #[122, 111, 110, 101] }, .string { data := #[105, 109, 97, 103, 101] }] 9)
      have hc : WE.cell? ⟨WD.heap.size, i, none⟩ = some (.string (none4.getD i ⟨#[]⟩)) := (hFE.cell HR.out.own.lt (by simp)).trans (lit_at none4 WD i hi4)
      have HXE := uh ((HX.out.later hbd).fr hFE HRB.out)
      have HTE : Hid (TxR WE (R + 1) (.slice wa ws.length wc) ws) := TxR.fr (TxR.later HT.out hbd) hFE (by omega)
      have HBE : Hid (Below R W WE) := (HB.out.trans (hbd.mono (Nat.le_of_lt HR.out.own.lt))).trans hFE.bel
      have hlE : WD.heap.size < WE.heap.size := by have := hFE.bel.size; simp at this; omega
      have hi0 : (0 : Int) ≤ (i : Int) := by omega
      have hi1 : (i : Int) < 4 := by omega
      generalize none4.getD i ⟨#[]⟩ = kx at hc
      have yk := HXE.out.get 0 _ rfl
      have yf := HXE.out.own.frozen 0
      have ykl := HXE.out.own.lt
      clear hrm hi hFE hRE HP hbd HX HT HB
      go_upto_region 13 with fail
      obtain ⟨WF, hWF⟩ : ∃ WF, WF = WE.setCell ⟨B, 0, none⟩ (.string kx) := ⟨_, rfl⟩
      have hmF : Marks (fun b => b = B) WE WF := by rw [hWF]; exact Marks.sc (S := fun b => b = B) WE rfl 0 _
      have HX : Hid (WBox WF B 48 [.string kx, .slice wa ws.length wc]) := by show WBox _ _ _ _; rw [hWF]; exact HXE.out.set 0 _ (by simp)
      have HT : Hid (TxR WF (R + 1) (.slice wa ws.length wc) ws) := TxR.mks HTE.out hmF (txbox HXE.out HTE.out)
      have HB : Hid (Below R W WF) := by rw [HRW.out]; exact hmF.below (fun b e => by have := HRW.out; have := HRB.out; omega) (by rw [← HRW.out]; exact HBE.out)
      rw [← hWF]
      clear hWF hmF HXE HTE HBE yk yf ykl hc hlE hi0 hi1 hi4
      have yk := HX.out.get 0 _ rfl
      have yb := HX.out.get 1 _ rfl
      have ybl := HX.out.own.lt
      go_region
      all_goals go_wp2
      all_goals go_ret3
      all_goals exact ⟨⟨_, _, _, ws, rfl, by rw [← HRW.out]; exact TxR.later HT.out (Below.drew (Below.refl _ _)), by omega, HS.out⟩, by rw [← HRW.out]; exact Below.drew HB.out⟩
    have d0 : ((m : Int) == 0) = false := by simp; omega
    have d1 : ((m : Int) == 1) = false := by simp; omega
    have d2 : ((m : Int) == 2) = false := by simp; omega
    clear m0 m1 m2
    have yk := HX.out.get 0 _ rfl
    have yb := HX.out.get 1 _ rfl
    have ybl := HX.out.own.lt
    go_upto_region 13 with fail
    go_region
    all_goals go_wp2
    all_goals go_ret3
    all_goals exact ⟨⟨_, _, _, ws, rfl, by rw [← HRW.out]; exact TxR.later HT.out (Below.drew (Below.refl _ _)), by omega, HS.out⟩, by rw [← HRW.out]; exact Below.drew HB.out⟩
  subst m5z
  by_cases hw0 : ws.length = 0
  · have d0 : decide ((0 : Int) < (ws.length : Int)) = false := by rw [decide_eq_false_iff_not]; omega
    go_upto_region 6 with fail
    clear d0 hw0 yb ybl
    have HP := uh (pick_any R v len pw 10 W5 HR.out (by omega) (by omega))
    go_wp2_with fail
    refine HP.out.mono ?_
    rintro e WD ⟨⟨rm, rfl, hrm⟩, hFD, hRD⟩
    obtain ⟨m, rfl, hm⟩ := hrm.nat
    have hmn : m < 10 := by have := hm (by omega); omega
    replace HX := uh (HX.out.fr hFD HRB.out)
    replace HT : Hid (TxR WD (R + 1) (.slice wa ws.length wc) ws) := TxR.fr HT.out hFD (by omega)
    replace HB : Hid (Below R W WD) := HB.out.trans hFD.bel
    replace HR := uh hRD
    clear hrm hm hFD hRD HP
    by_cases m0 : m = 0
    · subst m0
      have yb := HX.out.get 1 _ rfl
      have ybl := HX.out.own.lt
      have HX1 : Hid (∀ o, WBox (WD.alloc o) B 48 [.string key, .slice wa ws.length wc]) := fun o => HX.out.later (blw_alloc (Below.refl _ _) o)
      have yb2 := fun o => (HX1.out o).get 1 _ rfl
      have hnb : (.slice wa ws.length wc : Value).ownBlock ≠ some B := txbox HX.out HT.out
      go_upto_region 13 with (refine tx_push rfl _ _ rfl (R + 1) (.slice wa ws.length wc) ws rfl (TxR.later HT.out (blw_alloc (Below.refl _ _) _)) WD.heap.size 1 1 [{ data := #[49] }] rfl rfl (World.news_of_block (cs := #[.string { data := #[49] }]) (heap_alloc_new WD _)) (by decide) (by omega) (by have := HR.out.own.lt; simp; omega) ?_; intro g1 c1 WE q1 q2; have hXE := (HX1.out _).grow q2 hnb; have zb := hXE.get 1 _ rfl; have zf := hXE.own.frozen 1; have zl := hXE.own.lt)
      obtain ⟨WF, hWF⟩ : ∃ WF, WF = WE.setCell ⟨B, 1, none⟩ (.slice (some ⟨g1, 0, none⟩) (ws.length + 1) c1) := ⟨_, rfl⟩
      have HXF : Hid (WBox WF B 48 [.string key, .slice (some ⟨g1, 0, none⟩) (ws.length + 1) c1]) := by show WBox _ _ _ _; rw [hWF]; exact hXE.set 1 _ (by simp)
      have hmF : Marks (fun b => b = B) WE WF := by rw [hWF]; exact Marks.sc (S := fun b => b = B) WE rfl 1 _
      have hgB : g1 ≠ B := fun e => txbox hXE q1 (by rw [e]; rfl)
      have HTF : Hid (TxR WF (R + 1) (.slice (some ⟨g1, 0, none⟩) (ws.length + 1) c1) (ws ++ [{ data := #[49] }])) := q1.other hmF hgB
      have HBF : Hid (Below R W WF) := hmF.below (a := W) (fun b e => by have := HRW.out; have := HRB.out; omega) (by have := TxR.below (a := W) (TxR.later HT.out (blw_alloc (Below.refl _ _) (.cells #[.string { data := #[49] }] 9))) (blw_alloc (by rw [← HRW.out]; exact HB.out) _) q2 (by rw [← HRW.out]; omega); exact this) |> (fun h => by rw [HRW.out]; exact h)
      rw [← hWF]
      have yk := HXF.out.get 0 _ rfl
      have yw := HXF.out.get 1 _ rfl
      have ywl := HXF.out.own.lt
      have HS' : Hid (∀ x ∈ ws ++ [{ data := #[49] }], x.size ≤ 4000) := by
        intro x hx
        rcases List.mem_append.1 hx with q | q
        · exact HS.out x q
        · simp at q; rw [q]; decide
      clear hWF hmF hgB hXE q1 q2 zb zf zl yb yb2 hnb ybl HX1
      go_region
      all_goals go_wp2
      all_goals go_ret3
      all_goals exact ⟨⟨_, _, _, ws ++ [{ data := #[49] }], rfl, by rw [← HRW.out]; exact TxR.later HTF.out (Below.drew (Below.refl _ _)), by simp; omega, HS'.out⟩, by rw [← HRW.out]; exact Below.drew HBF.out⟩
    by_cases m1 : m = 1
    · subst m1
      go_upto_region 10 with fail
      refine RY.region_fr R v len (pw + 1) HR.out (VF10 R (.slice wa ws.length wc) B key) (VF10_mono R _ _ _) (by kernel_rfl) (by kernel_rfl) (by kernel_rfl) (by kernel_rfl) ?_ ?_
      · intro i' o' ho a X pp hX hR hpp hk hd
        have yk := (HX.out.fr hX HRB.out).get 0 _ rfl
        have yb := (HX.out.fr hX HRB.out).get 1 _ rfl
        have hpq : pp ≤ 800000 := by simp at hpp; omega
        match i', ho with
        | 0, ho =>
          injection ho with ho; subst ho
          refine Or.inl ⟨.slice (some ⟨X.heap.size, 0, none⟩) 2 2, X.alloc (.cells #[.string { data := #[110, 111, 110, 101] }, .string { data := #[] }] 9), by simp [execOp, go_sem], blw_alloc (Below.refl _ _) _, X.heap.size, rfl, hR.own.lt, by simp, fun j hj => lit_at none2 X j hj⟩
        | 1, ho =>
          injection ho with ho; subst ho
          have e5 : a.tmps[5]?.getD undef = .pointer (some ⟨R, 0, none⟩) := (RY.ev_tmp a 5).trans ((hk 5 (by kernel_rfl)).trans rfl)
          exact Or.inl ⟨.pointer (some ⟨R, 0, none⟩), X, by simp [execOp, go_sem, e5], Below.refl _ _, rfl⟩
        | 2, ho =>
          injection ho with ho; subst ho
          have e49 : a.tmps[49]?.getD undef = _ := (RY.ev_tmp a 49).trans (hd 1 _ 49 rfl rfl ⟨⟨1, .data⟩, by simp, rfl, rfl⟩)
          refine Or.inr ⟨12, #[.pointer (some ⟨R, 0, none⟩), .int .i64 2], by simp [go_sem, e49], (pick_any R v len pp 2 X hR (by omega) (by omega)).mono ?_⟩
          rintro e W' ⟨⟨r, rfl, hr⟩, hF, hR'⟩
          obtain ⟨j, rfl, hj⟩ := hr.nat
          exact ⟨_, rfl, hF, ⟨pp + 1, by omega, hR'⟩, j, rfl, by have := hj (by omega); omega⟩
        | 3, ho =>
          injection ho with ho; subst ho
          obtain ⟨b, e48, h1, h2, hc⟩ := hd 0 _ 48 rfl rfl ⟨⟨0, .data⟩, by simp, rfl, rfl⟩
          obtain ⟨j, e50, hj⟩ := hd 2 _ 50 rfl rfl ⟨⟨2, .data⟩, by simp, rfl, rfl⟩
          have f48 := (RY.ev_tmp a 48).trans e48
          have f50 := (RY.ev_tmp a 50).trans e50
          have hj1 : (j : Int) < 2 := by omega
          exact Or.inl ⟨.pointer (some ⟨b, j, none⟩), X, by simp [execOp, go_sem, f48, f50, hj1], Below.refl _ _, b, j, rfl, h1, h2, _, hc j hj⟩
        | 4, ho =>
          injection ho with ho; subst ho
          obtain ⟨b, j, e51, h1, h2, x, hc⟩ := hd 3 _ 51 rfl rfl ⟨⟨3, .data⟩, by simp, rfl, rfl⟩
          have f51 := (RY.ev_tmp a 51).trans e51
          exact Or.inl ⟨.string x, X, by simp [execOp, go_sem, f51, hc], Below.refl _ _, x, rfl⟩
        | 5, ho =>
          injection ho with ho; subst ho
          have e7 : a.tmps[7]?.getD undef = .pointer (some ⟨B, 0, none⟩) := (RY.ev_tmp a 7).trans ((hk 7 (by kernel_rfl)).trans rfl)
          exact Or.inl ⟨.pointer (some ⟨B, 0, none⟩), X, by simp [execOp, go_sem, e7], Below.refl _ _, rfl⟩
        | 6, ho =>
          injection ho with ho; subst ho
          have e53 : a.tmps[53]?.getD undef = _ := (RY.ev_tmp a 53).trans (hd 5 _ 53 rfl rfl ⟨⟨5, .data⟩, by simp, rfl, rfl⟩)
          exact Or.inl ⟨.string key, X, by simp [execOp, go_sem, e53, yk], Below.refl _ _, rfl⟩
        | 7, ho =>
          injection ho with ho; subst ho
          have e7 : a.tmps[7]?.getD undef = .pointer (some ⟨B, 0, none⟩) := (RY.ev_tmp a 7).trans ((hk 7 (by kernel_rfl)).trans rfl)
          exact Or.inl ⟨.pointer (some ⟨B, 1, none⟩), X, by simp [execOp, go_sem, e7], Below.refl _ _, rfl⟩
        | 8, ho =>
          injection ho with ho; subst ho
          have e55 : a.tmps[55]?.getD undef = _ := (RY.ev_tmp a 55).trans (hd 7 _ 55 rfl rfl ⟨⟨7, .data⟩, by simp, rfl, rfl⟩)
          exact Or.inl ⟨.slice wa ws.length wc, X, by simp [execOp, go_sem, e55, yb], Below.refl _ _, rfl⟩
        | 9, ho =>
          injection ho with ho; subst ho
          obtain ⟨x, e52⟩ := hd 4 _ 52 rfl rfl ⟨⟨4, .data⟩, by simp, rfl, rfl⟩
          have f52 := (RY.ev_tmp a 52).trans e52
          exact Or.inl ⟨.string x, X, by simp [execOp, go_sem, f52], Below.refl _ _, x, rfl⟩
        | 10, ho =>
          injection ho with ho; subst ho
          have e54 : a.tmps[54]?.getD undef = _ := (RY.ev_tmp a 54).trans (hd 6 _ 54 rfl rfl ⟨⟨6, .data⟩, by simp, rfl, rfl⟩)
          exact Or.inl ⟨.string key, X, by simp [execOp, go_sem, e54], Below.refl _ _, rfl⟩
        | 11, ho =>
          injection ho with ho; subst ho
          have e56 : a.tmps[56]?.getD undef = _ := (RY.ev_tmp a 56).trans (hd 8 _ 56 rfl rfl ⟨⟨8, .data⟩, by simp, rfl, rfl⟩)
          exact Or.inl ⟨.slice wa ws.length wc, X, by simp [execOp, go_sem, e56], Below.refl _ _, rfl⟩
        | n + 12, ho => simp at ho
      intro X vs pp hX hR hpp hvs
      have q2 := hvs 9 _ 2 rfl rfl
      have q3 := hvs 10 _ 3 rfl rfl
      have q4 := hvs 11 _ 4 rfl rfl
      simp only [RY.putAll, Act.put, List.setIfInBounds_toArray, List.set_cons_zero, List.set_cons_succ]
      obtain ⟨x, q2⟩ := q2
      have q3 : vs 3 = _ := q3
      have q4 : vs 4 = _ := q4
      rw [q2, q3, q4]
      generalize vs 48 = s48
      generalize vs 49 = s49
      generalize vs 50 = s50
      generalize vs 51 = s51
      generalize vs 52 = s52
      generalize vs 53 = s53
      generalize vs 54 = s54
      generalize vs 55 = s55
      generalize vs 56 = s56
      have HEND : Hid (TxR X (R + 1) (.slice wa ws.length wc) ws ∧ Below R W X) := ⟨HT.out.fr hX (by omega), HB.out.trans hX.bel⟩
      clear hvs q2 q3 q4 hX hR hpp
      go_wp2
      go_ret3
      exact ⟨⟨x, key, _, ws, rfl, by rw [← HRW.out]; exact HEND.out.1, by omega, HS.out⟩, by rw [← HRW.out]; exact HEND.out.2⟩
    by_cases m2 : m = 2
    · subst m2
      have HP := uh (fun o => pick_any R v len (pw + 1) 4 (WD.alloc o) (HR.out.later (blw_alloc (Below.refl _ _) o)) (by omega) (by omega))
      go_wp2_with fail
      refine (HP.out _).mono ?_
      rintro e WE ⟨⟨rm, rfl, hrm⟩, hFE, hRE⟩
      obtain ⟨i, rfl, hi⟩ := hrm.nat
      have hi4 : i < 4 := by have := hi (by omega); omega
      have hbd := blw_alloc (Below.refl WD.heap.size WD) (.cells #[.string { data := #[110, 111, 110, 101] }, .string { data := #[] }, .string { data := #[122, 111, 110, 101] }, .string { data := #[105, 109, 97, 103, 101] }] 9)
      have hc : WE.cell? ⟨WD.heap.size, i, none⟩ = some (.string (none4.getD i ⟨#[]⟩)) := (hFE.cell HR.out.own.lt (by simp)).trans (lit_at none4 WD i hi4)
      have HXE := uh ((HX.out.later hbd).fr hFE HRB.out)
      have HTE : Hid (TxR WE (R + 1) (.slice wa ws.length wc) ws) := TxR.fr (TxR.later HT.out hbd) hFE (by omega)
      have HBE : Hid (Below R W WE) := (HB.out.trans (hbd.mono (Nat.le_of_lt HR.out.own.lt))).trans hFE.bel
      have hlE : WD.heap.size < WE.heap.size := by have := hFE.bel.size; simp at this; omega
      have hi0 : (0 : Int) ≤ (i : Int) := by omega
      have hi1 : (i : Int) < 4 := by omega
      generalize none4.getD i ⟨#[]⟩ = kx at hc
      have yk := HXE.out.get 0 _ rfl
      have yf := HXE.out.own.frozen 0
      have ykl := HXE.out.own.lt
      clear hrm hi hFE hRE HP hbd HX HT HB
      go_upto_region 13 with fail
      obtain ⟨WF, hWF⟩ : ∃ WF, WF = WE.setCell ⟨B, 0, none⟩ (.string kx) := ⟨_, rfl⟩
      have hmF : Marks (fun b => b = B) WE WF := by rw [hWF]; exact Marks.sc (S := fun b => b = B) WE rfl 0 _
      have HX : Hid (WBox WF B 48 [.string kx, .slice wa ws.length wc]) := by show WBox _ _ _ _; rw [hWF]; exact HXE.out.set 0 _ (by simp)
      have HT : Hid (TxR WF (R + 1) (.slice wa ws.length wc) ws) := TxR.mks HTE.out hmF (txbox HXE.out HTE.out)
      have HB : Hid (Below R W WF) := by rw [HRW.out]; exact hmF.below (fun b e => by have := HRW.out; have := HRB.out; omega) (by rw [← HRW.out]; exact HBE.out)
      rw [← hWF]
      clear hWF hmF HXE HTE HBE yk yf ykl hc hlE hi0 hi1 hi4
      have yk := HX.out.get 0 _ rfl
      have yb := HX.out.get 1 _ rfl
      have ybl := HX.out.own.lt
      go_region
      all_goals go_wp2
      all_goals go_ret3
      all_goals exact ⟨⟨_, _, _, ws, rfl, by rw [← HRW.out]; exact TxR.later HT.out (Below.drew (Below.refl _ _)), by omega, HS.out⟩, by rw [← HRW.out]; exact Below.drew HB.out⟩
    have d0 : ((m : Int) == 0) = false := by simp; omega
    have d1 : ((m : Int) == 1) = false := by simp; omega
    have d2 : ((m : Int) == 2) = false := by simp; omega
    clear m0 m1 m2
    have yk := HX.out.get 0 _ rfl
    have yb := HX.out.get 1 _ rfl
    have ybl := HX.out.own.lt
    go_upto_region 13 with fail
    go_region
    all_goals go_wp2
    all_goals go_ret3
    all_goals exact ⟨⟨_, _, _, ws, rfl, by rw [← HRW.out]; exact TxR.later HT.out (Below.drew (Below.refl _ _)), by omega, HS.out⟩, by rw [← HRW.out]; exact Below.drew HB.out⟩
  have d0 : decide ((0 : Int) < (ws.length : Int)) = true := by simp; omega
  go_upto_region 5 with fail
  clear d0 yb ybl
  obtain ⟨g, hwa⟩ : ∃ g, wa = some ⟨g, 0, none⟩ := by
    rcases HT.out.2 with ⟨_, e⟩ | ⟨g, cap, cur, e, _⟩
    · omega
    · injection e with e1 _ _; exact ⟨g, e1⟩
  subst hwa
  obtain ⟨n, hn⟩ : ∃ n, n = ws.length := ⟨_, rfl⟩
  have HN := uh hn
  rw [← hn] at HX HT hw10 hw0
  have HW10 := uh hw10
  rw [← hn]
  clear hn
  refine RY.region_stR R v len pw HR.out (VF5 R (.slice (some ⟨g, 0, none⟩) n wc) B n g) (VF5_mono R _ _ _ _) (fun vals W' => ∃ ws', Hid (FB W W' R B key (.slice (some ⟨g, 0, none⟩) n wc) ws' v len) ∧ ws'.length = n ∧ ∀ x ∈ ws', x.size ≤ 4000) 10 12 (by kernel_rfl) (by kernel_rfl) (by kernel_rfl) (by kernel_rfl) rfl [8, 9] (by kernel_rfl) (by kernel_rfl) _ rfl rfl (by kernel_rfl) ?_ ?_ ?_
  · intro i' o' ho hin a X pp hX hR hpp hk hd
    have yb := (HX.out.fr hX HRB.out).get 1 _ rfl
    match i', ho with
    | 0, ho =>
      injection ho with ho; subst ho
      have e7 : a.tmps[7]?.getD undef = .pointer (some ⟨B, 0, none⟩) := (RY.ev_tmp a 7).trans ((hk 7 (by kernel_rfl)).trans rfl)
      exact Or.inl ⟨.pointer (some ⟨B, 1, none⟩), X, by simp [execOp, go_sem, e7], Below.refl _ _, rfl⟩
    | 1, ho =>
      injection ho with ho; subst ho
      have e27 : a.tmps[27]?.getD undef = _ := (RY.ev_tmp a 27).trans (hd 0 _ 27 rfl rfl ⟨⟨0, .data⟩, by simp, rfl, rfl⟩ (by decide))
      exact Or.inl ⟨.slice (some ⟨g, 0, none⟩) n wc, X, by simp [execOp, go_sem, e27, yb], Below.refl _ _, rfl⟩
    | 2, ho =>
      injection ho with ho; subst ho
      have e5 : a.tmps[5]?.getD undef = .pointer (some ⟨R, 0, none⟩) := (RY.ev_tmp a 5).trans ((hk 5 (by kernel_rfl)).trans rfl)
      exact Or.inl ⟨.pointer (some ⟨R, 0, none⟩), X, by simp [execOp, go_sem, e5], Below.refl _ _, rfl⟩
    | 3, ho =>
      injection ho with ho; subst ho
      have e7 : a.tmps[7]?.getD undef = .pointer (some ⟨B, 0, none⟩) := (RY.ev_tmp a 7).trans ((hk 7 (by kernel_rfl)).trans rfl)
      exact Or.inl ⟨.pointer (some ⟨B, 1, none⟩), X, by simp [execOp, go_sem, e7], Below.refl _ _, rfl⟩
    | 4, ho =>
      injection ho with ho; subst ho
      have e30 : a.tmps[30]?.getD undef = _ := (RY.ev_tmp a 30).trans (hd 3 _ 30 rfl rfl ⟨⟨3, .data⟩, by simp, rfl, rfl⟩ (by decide))
      exact Or.inl ⟨.slice (some ⟨g, 0, none⟩) n wc, X, by simp [execOp, go_sem, e30, yb], Below.refl _ _, rfl⟩
    | 5, ho =>
      injection ho with ho; subst ho
      have e31 : a.tmps[31]?.getD undef = _ := (RY.ev_tmp a 31).trans (hd 4 _ 31 rfl rfl ⟨⟨4, .data⟩, by simp, rfl, rfl⟩ (by decide))
      exact Or.inl ⟨.int .i64 (n : Int), X, by simp [go_sem, e31], Below.refl _ _, rfl⟩
    | 6, ho =>
      injection ho with ho; subst ho
      have e29 : a.tmps[29]?.getD undef = _ := (RY.ev_tmp a 29).trans (hd 2 _ 29 rfl rfl ⟨⟨2, .data⟩, by simp, rfl, rfl⟩ (by decide))
      have e32 : a.tmps[32]?.getD undef = _ := (RY.ev_tmp a 32).trans (hd 5 _ 32 rfl rfl ⟨⟨5, .data⟩, by simp, rfl, rfl⟩ (by decide))
      refine Or.inr ⟨12, #[.pointer (some ⟨R, 0, none⟩), .int .i64 (n : Int)], by simp [go_sem, e29, e32], (pick_any R v len pp n X hR (by omega) (by omega)).mono ?_⟩
      rintro e W' ⟨⟨r, rfl, hr⟩, hF, hR'⟩
      obtain ⟨j, rfl, hj⟩ := hr.nat
      exact ⟨_, rfl, hF, ⟨pp + 1, by omega, hR'⟩, j, rfl, by have := hj (by omega); omega⟩
    | 7, ho =>
      injection ho with ho; subst ho
      have e5 : a.tmps[5]?.getD undef = .pointer (some ⟨R, 0, none⟩) := (RY.ev_tmp a 5).trans ((hk 5 (by kernel_rfl)).trans rfl)
      exact Or.inl ⟨.pointer (some ⟨R, 0, none⟩), X, by simp [execOp, go_sem, e5], Below.refl _ _, rfl⟩
    | 8, ho =>
      injection ho with ho; subst ho
      have e34 : a.tmps[34]?.getD undef = _ := (RY.ev_tmp a 34).trans (hd 7 _ 34 rfl rfl ⟨⟨7, .data⟩, by simp, rfl, rfl⟩ (by decide))
      refine Or.inr ⟨19, #[.pointer (some ⟨R, 0, none⟩)], by simp [go_sem, e34], (drawOdd R v len pp X hR (by omega)).mono ?_⟩
      rintro e W' ⟨⟨s, rfl, hs⟩, hF, q, hq, hRq⟩
      exact ⟨_, rfl, hF, ⟨q, hq, hRq⟩, s, rfl, hs⟩
    | 9, ho =>
      injection ho with ho; subst ho
      have e28 : a.tmps[28]?.getD undef = _ := (RY.ev_tmp a 28).trans (hd 1 _ 28 rfl rfl ⟨⟨1, .data⟩, by simp, rfl, rfl⟩ (by decide))
      obtain ⟨j, e33, hj⟩ := hd 6 _ 33 rfl rfl ⟨⟨6, .data⟩, by simp, rfl, rfl⟩ (by decide)
      have f33 := (RY.ev_tmp a 33).trans e33
      have hj1 : (j : Int) < (n : Int) := by omega
      exact Or.inl ⟨.pointer (some ⟨g, j, none⟩), X, by simp [execOp, go_sem, e28, f33, hj1], Below.refl _ _, j, rfl, hj⟩
    | n + 10, ho => omega
  · intro a X vals pp hX hR hpp hk hV hd
    obtain ⟨s, e35, hs⟩ := hV 8 (by decide)
    obtain ⟨j, e36, hj⟩ := hV 9 (by decide)
    have f35 := (RY.ev_tmp a 35).trans ((hd 8 _ 35 rfl rfl ⟨⟨8, .data⟩, by simp, rfl, rfl⟩ (by decide)).trans e35)
    have f36 := (RY.ev_tmp a 36).trans ((hd 9 _ 36 rfl rfl ⟨⟨9, .data⟩, by simp, rfl, rfl⟩ (by decide)).trans e36)
    have hT := HT.out.fr hX (by omega)
    have hXB := HX.out.fr hX HRB.out
    obtain ⟨zc, zf⟩ := hT.slot (j := j) (by have := HN.out; omega)
    have hgR : R + 1 ≤ g := (owns_blk_lt hT rfl).1
    refine ⟨X.setCell ⟨g, j, none⟩ (.string s), by simp [execOp, go_sem, f35, f36, zc, zf], ws.set j s, ?_, by rw [List.length_set]; exact HN.out.symm, ?_⟩
    · have hm : Marks (fun b => b = g) X (X.setCell ⟨g, j, none⟩ (.string s)) := Marks.sc (S := fun b => b = g) X rfl j _
      have hgB : g ≠ B := fun e => txbox hXB hT (by rw [e]; rfl)
      exact ⟨by rw [HRW.out]; exact hm.below (a := W) (fun b e => by have := HRW.out; omega) (by rw [← HRW.out]; exact HB.out.trans hX.bel), hXB.mks hm (fun e => hgB e.symm), hT.put s, HRB.out, pp, by omega, hR.mks hm (fun b e => by omega)⟩
    · intro x hx
      rcases List.mem_or_eq_of_mem_set hx with q | q
      · exact HS.out x q
      · rw [q]; exact hs
  · rintro vals vs X hK hvs
    simp only [RY.putAll, Act.put, List.setIfInBounds_toArray, List.set_cons_zero, List.set_cons_succ]
    generalize vs 27 = s27
    generalize vs 28 = s28
    generalize vs 29 = s29
    generalize vs 30 = s30
    generalize vs 31 = s31
    generalize vs 32 = s32
    generalize vs 33 = s33
    generalize vs 34 = s34
    generalize vs 35 = s35
    generalize vs 36 = s36
    obtain ⟨ws', hFB, hl', hs'⟩ := hK
    clear hvs HX HT HB HR HS
    obtain ⟨hB1, hX1, hT1, _, pw, hpw1, hR1⟩ := hFB.out
    subst hl'
    clear hFB hw10
    obtain ⟨ws, hws⟩ : ∃ x, x = ws' := ⟨_, rfl⟩
    subst hws
    obtain ⟨wa, hwa⟩ : ∃ wa : Option Addr, wa = some ⟨g, 0, none⟩ := ⟨_, rfl⟩
    rw [← hwa] at hX1 hT1
    rw [← hwa]
    have HX := uh hX1
    have HT : Hid (TxR X (R + 1) (.slice wa ws.length wc) ws) := hT1
    have HB := uh hB1
    have HR := uh hR1
    have HS := uh hs'
    have hw10 : ws.length ≤ 10 := HW10.out
    clear hwa hX1 hT1 hB1 hR1 hs'
    have HP := uh (pick_any R v len pw 10 X HR.out (by omega) (by omega))
    go_wp2_with fail
    refine HP.out.mono ?_
    rintro e WD ⟨⟨rm, rfl, hrm⟩, hFD, hRD⟩
    obtain ⟨m, rfl, hm⟩ := hrm.nat
    have hmn : m < 10 := by have := hm (by omega); omega
    replace HX := uh (HX.out.fr hFD HRB.out)
    replace HT : Hid (TxR WD (R + 1) (.slice wa ws.length wc) ws) := TxR.fr HT.out hFD (by omega)
    replace HB : Hid (Below R W WD) := HB.out.trans hFD.bel
    replace HR := uh hRD
    clear hrm hm hFD hRD HP
    by_cases m0 : m = 0
    · subst m0
      have yb := HX.out.get 1 _ rfl
      have ybl := HX.out.own.lt
      have HX1 : Hid (∀ o, WBox (WD.alloc o) B 48 [.string key, .slice wa ws.length wc]) := fun o => HX.out.later (blw_alloc (Below.refl _ _) o)
      have yb2 := fun o => (HX1.out o).get 1 _ rfl
      have hnb : (.slice wa ws.length wc : Value).ownBlock ≠ some B := txbox HX.out HT.out
      go_upto_region 13 with (refine tx_push rfl _ _ rfl (R + 1) (.slice wa ws.length wc) ws rfl (TxR.later HT.out (blw_alloc (Below.refl _ _) _)) WD.heap.size 1 1 [{ data := #[49] }] rfl rfl (World.news_of_block (cs := #[.string { data := #[49] }]) (heap_alloc_new WD _)) (by decide) (by omega) (by have := HR.out.own.lt; simp; omega) ?_; intro g1 c1 WE q1 q2; have hXE := (HX1.out _).grow q2 hnb; have zb := hXE.get 1 _ rfl; have zf := hXE.own.frozen 1; have zl := hXE.own.lt)
      obtain ⟨WF, hWF⟩ : ∃ WF, WF = WE.setCell ⟨B, 1, none⟩ (.slice (some ⟨g1, 0, none⟩) (ws.length + 1) c1) := ⟨_, rfl⟩
      have HXF : Hid (WBox WF B 48 [.string key, .slice (some ⟨g1, 0, none⟩) (ws.length + 1) c1]) := by show WBox _ _ _ _; rw [hWF]; exact hXE.set 1 _ (by simp)
      have hmF : Marks (fun b => b = B) WE WF := by rw [hWF]; exact Marks.sc (S := fun b => b = B) WE rfl 1 _
      have hgB : g1 ≠ B := fun e => txbox hXE q1 (by rw [e]; rfl)
      have HTF : Hid (TxR WF (R + 1) (.slice (some ⟨g1, 0, none⟩) (ws.length + 1) c1) (ws ++ [{ data := #[49] }])) := q1.other hmF hgB
      have HBF : Hid (Below R W WF) := hmF.below (a := W) (fun b e => by have := HRW.out; have := HRB.out; omega) (by have := TxR.below (a := W) (TxR.later HT.out (blw_alloc (Below.refl _ _) (.cells #[.string { data := #[49] }] 9))) (blw_alloc (by rw [← HRW.out]; exact HB.out) _) q2 (by rw [← HRW.out]; omega); exact this) |> (fun h => by rw [HRW.out]; exact h)
      rw [← hWF]
      have yk := HXF.out.get 0 _ rfl
      have yw := HXF.out.get 1 _ rfl
      have ywl := HXF.out.own.lt
      have HS' : Hid (∀ x ∈ ws ++ [{ data := #[49] }], x.size ≤ 4000) := by
        intro x hx
        rcases List.mem_append.1 hx with q | q
        · exact HS.out x q
        · simp at q; rw [q]; decide
      clear hWF hmF hgB hXE q1 q2 zb zf zl yb yb2 hnb ybl HX1
      go_region
      all_goals go_wp2
      all_goals go_ret3
      all_goals exact ⟨⟨_, _, _, ws ++ [{ data := #[49] }], rfl, by rw [← HRW.out]; exact TxR.later HTF.out (Below.drew (Below.refl _ _)), by simp; omega, HS'.out⟩, by rw [← HRW.out]; exact Below.drew HBF.out⟩
    by_cases m1 : m = 1
    · subst m1
      go_upto_region 10 with fail
      refine RY.region_fr R v len (pw + 1) HR.out (VF10 R (.slice wa ws.length wc) B key) (VF10_mono R _ _ _) (by kernel_rfl) (by kernel_rfl) (by kernel_rfl) (by kernel_rfl) ?_ ?_
      · intro i' o' ho a X pp hX hR hpp hk hd
        have yk := (HX.out.fr hX HRB.out).get 0 _ rfl
        have yb := (HX.out.fr hX HRB.out).get 1 _ rfl
        have hpq : pp ≤ 800000 := by simp at hpp; omega
        match i', ho with
        | 0, ho =>
          injection ho with ho; subst ho
          refine Or.inl ⟨.slice (some ⟨X.heap.size, 0, none⟩) 2 2, X.alloc (.cells #[.string { data := #[110, 111, 110, 101] }, .string { data := #[] }] 9), by simp [execOp, go_sem], blw_alloc (Below.refl _ _) _, X.heap.size, rfl, hR.own.lt, by simp, fun j hj => lit_at none2 X j hj⟩
        | 1, ho =>
          injection ho with ho; subst ho
          have e5 : a.tmps[5]?.getD undef = .pointer (some ⟨R, 0, none⟩) := (RY.ev_tmp a 5).trans ((hk 5 (by kernel_rfl)).trans rfl)
          exact Or.inl ⟨.pointer (some ⟨R, 0, none⟩), X, by simp [execOp, go_sem, e5], Below.refl _ _, rfl⟩
        | 2, ho =>
          injection ho with ho; subst ho
          have e49 : a.tmps[49]?.getD undef = _ := (RY.ev_tmp a 49).trans (hd 1 _ 49 rfl rfl ⟨⟨1, .data⟩, by simp, rfl, rfl⟩)
          refine Or.inr ⟨12, #[.pointer (some ⟨R, 0, none⟩), .int .i64 2], by simp [go_sem, e49], (pick_any R v len pp 2 X hR (by omega) (by omega)).mono ?_⟩
          rintro e W' ⟨⟨r, rfl, hr⟩, hF, hR'⟩
          obtain ⟨j, rfl, hj⟩ := hr.nat
          exact ⟨_, rfl, hF, ⟨pp + 1, by omega, hR'⟩, j, rfl, by have := hj (by omega); omega⟩
        | 3, ho =>
          injection ho with ho; subst ho
          obtain ⟨b, e48, h1, h2, hc⟩ := hd 0 _ 48 rfl rfl ⟨⟨0, .data⟩, by simp, rfl, rfl⟩
          obtain ⟨j, e50, hj⟩ := hd 2 _ 50 rfl rfl ⟨⟨2, .data⟩, by simp, rfl, rfl⟩
          have f48 := (RY.ev_tmp a 48).trans e48
          have f50 := (RY.ev_tmp a 50).trans e50
          have hj1 : (j : Int) < 2 := by omega
          exact Or.inl ⟨.pointer (some ⟨b, j, none⟩), X, by simp [execOp, go_sem, f48, f50, hj1], Below.refl _ _, b, j, rfl, h1, h2, _, hc j hj⟩
        | 4, ho =>
          injection ho with ho; subst ho
          obtain ⟨b, j, e51, h1, h2, x, hc⟩ := hd 3 _ 51 rfl rfl ⟨⟨3, .data⟩, by simp, rfl, rfl⟩
          have f51 := (RY.ev_tmp a 51).trans e51
          exact Or.inl ⟨.string x, X, by simp [execOp, go_sem, f51, hc], Below.refl _ _, x, rfl⟩
        | 5, ho =>
          injection ho with ho; subst ho
          have e7 : a.tmps[7]?.getD undef = .pointer (some ⟨B, 0, none⟩) := (RY.ev_tmp a 7).trans ((hk 7 (by kernel_rfl)).trans rfl)
          exact Or.inl ⟨.pointer (some ⟨B, 0, none⟩), X, by simp [execOp, go_sem, e7], Below.refl _ _, rfl⟩
        | 6, ho =>
          injection ho with ho; subst ho
          have e53 : a.tmps[53]?.getD undef = _ := (RY.ev_tmp a 53).trans (hd 5 _ 53 rfl rfl ⟨⟨5, .data⟩, by simp, rfl, rfl⟩)
          exact Or.inl ⟨.string key, X, by simp [execOp, go_sem, e53, yk], Below.refl _ _, rfl⟩
        | 7, ho =>
          injection ho with ho; subst ho
          have e7 : a.tmps[7]?.getD undef = .pointer (some ⟨B, 0, none⟩) := (RY.ev_tmp a 7).trans ((hk 7 (by kernel_rfl)).trans rfl)
          exact Or.inl ⟨.pointer (some ⟨B, 1, none⟩), X, by simp [execOp, go_sem, e7], Below.refl _ _, rfl⟩
        | 8, ho =>
          injection ho with ho; subst ho
          have e55 : a.tmps[55]?.getD undef = _ := (RY.ev_tmp a 55).trans (hd 7 _ 55 rfl rfl ⟨⟨7, .data⟩, by simp, rfl, rfl⟩)
          exact Or.inl ⟨.slice wa ws.length wc, X, by simp [execOp, go_sem, e55, yb], Below.refl _ _, rfl⟩
        | 9, ho =>
          injection ho with ho; subst ho
          obtain ⟨x, e52⟩ := hd 4 _ 52 rfl rfl ⟨⟨4, .data⟩, by simp, rfl, rfl⟩
          have f52 := (RY.ev_tmp a 52).trans e52
          exact Or.inl ⟨.string x, X, by simp [execOp, go_sem, f52], Below.refl _ _, x, rfl⟩
        | 10, ho =>
          injection ho with ho; subst ho
          have e54 : a.tmps[54]?.getD undef = _ := (RY.ev_tmp a 54).trans (hd 6 _ 54 rfl rfl ⟨⟨6, .data⟩, by simp, rfl, rfl⟩)
          exact Or.inl ⟨.string key, X, by simp [execOp, go_sem, e54], Below.refl _ _, rfl⟩
        | 11, ho =>
          injection ho with ho; subst ho
          have e56 : a.tmps[56]?.getD undef = _ := (RY.ev_tmp a 56).trans (hd 8 _ 56 rfl rfl ⟨⟨8, .data⟩, by simp, rfl, rfl⟩)
          exact Or.inl ⟨.slice wa ws.length wc, X, by simp [execOp, go_sem, e56], Below.refl _ _, rfl⟩
        | n + 12, ho => simp at ho
      intro X vs pp hX hR hpp hvs
      have q2 := hvs 9 _ 2 rfl rfl
      have q3 := hvs 10 _ 3 rfl rfl
      have q4 := hvs 11 _ 4 rfl rfl
      simp only [RY.putAll, Act.put, List.setIfInBounds_toArray, List.set_cons_zero, List.set_cons_succ]
      obtain ⟨x, q2⟩ := q2
      have q3 : vs 3 = _ := q3
      have q4 : vs 4 = _ := q4
      rw [q2, q3, q4]
      generalize vs 48 = s48
      generalize vs 49 = s49
      generalize vs 50 = s50
      generalize vs 51 = s51
      generalize vs 52 = s52
      generalize vs 53 = s53
      generalize vs 54 = s54
      generalize vs 55 = s55
      generalize vs 56 = s56
      have HEND : Hid (TxR X (R + 1) (.slice wa ws.length wc) ws ∧ Below R W X) := ⟨HT.out.fr hX (by omega), HB.out.trans hX.bel⟩
      clear hvs q2 q3 q4 hX hR hpp
      go_wp2
      go_ret3
      exact ⟨⟨x, key, _, ws, rfl, by rw [← HRW.out]; exact HEND.out.1, by omega, HS.out⟩, by rw [← HRW.out]; exact HEND.out.2⟩
    by_cases m2 : m = 2
    · subst m2
      have HP := uh (fun o => pick_any R v len (pw + 1) 4 (WD.alloc o) (HR.out.later (blw_alloc (Below.refl _ _) o)) (by omega) (by omega))
      go_wp2_with fail
      refine (HP.out _).mono ?_
      rintro e WE ⟨⟨rm, rfl, hrm⟩, hFE, hRE⟩
      obtain ⟨i, rfl, hi⟩ := hrm.nat
      have hi4 : i < 4 := by have := hi (by omega); omega
      have hbd := blw_alloc (Below.refl WD.heap.size WD) (.cells #[.string { data := #[110, 111, 110, 101] }, .string { data := #[] }, .string { data := #[122, 111, 110, 101] }, .string { data := #[105, 109, 97, 103, 101] }] 9)
      have hc : WE.cell? ⟨WD.heap.size, i, none⟩ = some (.string (none4.getD i ⟨#[]⟩)) := (hFE.cell HR.out.own.lt (by simp)).trans (lit_at none4 WD i hi4)
      have HXE := uh ((HX.out.later hbd).fr hFE HRB.out)
      have HTE : Hid (TxR WE (R + 1) (.slice wa ws.length wc) ws) := TxR.fr (TxR.later HT.out hbd) hFE (by omega)
      have HBE : Hid (Below R W WE) := (HB.out.trans (hbd.mono (Nat.le_of_lt HR.out.own.lt))).trans hFE.bel
      have hlE : WD.heap.size < WE.heap.size := by have := hFE.bel.size; simp at this; omega
      have hi0 : (0 : Int) ≤ (i : Int) := by omega
      have hi1 : (i : Int) < 4 := by omega
      generalize none4.getD i ⟨#[]⟩ = kx at hc
      have yk := HXE.out.get 0 _ rfl
      have yf := HXE.out.own.frozen 0
      have ykl := HXE.out.own.lt
      clear hrm hi hFE hRE HP hbd HX HT HB
      go_upto_region 13 with fail
      obtain ⟨WF, hWF⟩ : ∃ WF, WF = WE.setCell ⟨B, 0, none⟩ (.string kx) := ⟨_, rfl⟩
      have hmF : Marks (fun b => b = B) WE WF := by rw [hWF]; exact Marks.sc (S := fun b => b = B) WE rfl 0 _
      have HX : Hid (WBox WF B 48 [.string kx, .slice wa ws.length wc]) := by show WBox _ _ _ _; rw [hWF]; exact HXE.out.set 0 _ (by simp)
      have HT : Hid (TxR WF (R + 1) (.slice wa ws.length wc) ws) := TxR.mks HTE.out hmF (txbox HXE.out HTE.out)
      have HB : Hid (Below R W WF) := by rw [HRW.out]; exact hmF.below (fun b e => by have := HRW.out; have := HRB.out; omega) (by rw [← HRW.out]; exact HBE.out)
      rw [← hWF]
      clear hWF hmF HXE HTE HBE yk yf ykl hc hlE hi0 hi1 hi4
      have yk := HX.out.get 0 _ rfl
      have yb := HX.out.get 1 _ rfl
      have ybl := HX.out.own.lt
      go_region
      all_goals go_wp2
      all_goals go_ret3
      all_goals exact ⟨⟨_, _, _, ws, rfl, by rw [← HRW.out]; exact TxR.later HT.out (Below.drew (Below.refl _ _)), by omega, HS.out⟩, by rw [← HRW.out]; exact Below.drew HB.out⟩
    have d0 : ((m : Int) == 0) = false := by simp; omega
    have d1 : ((m : Int) == 1) = false := by simp; omega
    have d2 : ((m : Int) == 2) = false := by simp; omega
    clear m0 m1 m2
    have yk := HX.out.get 0 _ rfl
    have yb := HX.out.get 1 _ rfl
    have ybl := HX.out.own.lt
    go_upto_region 13 with fail
    go_region
    all_goals go_wp2
    all_goals go_ret3
    all_goals exact ⟨⟨_, _, _, ws, rfl, by rw [← HRW.out]; exact TxR.later HT.out (Below.drew (Below.refl _ _)), by omega, HS.out⟩, by rw [← HRW.out]; exact Below.drew HB.out⟩

end Go.Proofs.Ytfhobegepiijhaa
