/-
  A book of one's own, by the program.
-/
import Derived.WalkLawsBesides
import Derived.Test.YtclagbakddkjcaaGreatSeP
namespace Go.Proofs.YtclagbakddkjcaaGreat
open Go.RowKit Go.Deep

theorem set_block {W : World} {b : Nat} {cs : Array Value} {t : TypeId} (h : W.heap[b]? = some (.cells cs t (0, 0))) (j : Nat) (v : Value) : (W.setCell ⟨b, j, none⟩ v).heap[b]? = some (.cells (cs.setIfInBounds j v) t (0, 0)) := by
  simp [World.setCell, Array.getElem?_modify, h]
theorem set_other {W : World} {b b' : Nat} (hne : b' ≠ b) (j : Nat) (v : Value) : (W.setCell ⟨b, j, none⟩ v).heap[b']? = W.heap[b']? := Below.heap_setCell W ⟨b, j, none⟩ v b' hne
theorem lt_block {W : World} {b : Nat} {o : Obj} (h : W.heap[b]? = some o) : b < W.heap.size := (Array.getElem?_eq_some_iff.1 h).1
theorem cellsOf_block {W : World} {b : Nat} {cs : Array Value} {t : TypeId} (h : W.heap[b]? = some (.cells cs t (0, 0))) (j : Nat) : W.cell? ⟨b, j, none⟩ = cs[j]? := by simp [World.cell?, h]
theorem frozen_block {W : World} {b : Nat} {cs : Array Value} {t : TypeId} (h : W.heap[b]? = some (.cells cs t (0, 0))) (j : Nat) : W.frozen? ⟨b, j, none⟩ = false := by simp [World.frozen?, h]
theorem blw_sc {n : Nat} {a b : World} (h : Below n a b) {p : Nat} (hp : n ≤ p) (j : Nat) (x : Value) : Below n a (b.setCell ⟨p, j, none⟩ x) :=
  ⟨h.os, h.tape, h.output, by rw [sc_size]; exact h.size, fun i hi => (Below.heap_setCell b ⟨p, j, none⟩ x i (by show i ≠ p; omega)).trans (h.block i hi)⟩
theorem SBkV.sz0 {w : World} {a0 a1 a2 : Option Addr} {K : SBk} (h : SBkV w a0 a1 a2 K) : ∀ i, i < K.svcs.length → (K.svcs.getD i Sv.none).sized := fun i hi => by
  obtain ⟨_, _, _, _, hf⟩ := h.s.at_ i hi
  exact hf.sized
theorem SBkV.sz1 {w : World} {a0 a1 a2 : Option Addr} {K : SBk} (h : SBkV w a0 a1 a2 K) : ∀ i, i < K.cps.length → (K.cps.getD i Cp.none).sized := fun i hi => by
  obtain ⟨_, _, _, _, hf⟩ := h.c.at_ i hi
  exact hf.sized
theorem SBkV.sz2 {w : World} {a0 a1 a2 : Option Addr} {K : SBk} (h : SBkV w a0 a1 a2 K) : ∀ i, i < K.bts.length → (K.bts.getD i Bt.none).sized := fun i hi => by
  obtain ⟨_, _, _, _, hf⟩ := h.b.at_ i hi
  exact hf.sized
theorem below_grown {w w' : World} (hg : w.grownBy w' none) : Below w.heap.size w w' := Below.grown (Below.refl _ _) hg (Nat.le_refl _) (fun k e => by cases e)

set_option maxRecDepth 8000 in
set_option maxHeartbeats 8000000 in
theorem copyBookI (K : SBk) (b0 b1 b2 : Nat) (c0 c1 c2 : Nat) (w : World) (h : SBkV w (some ⟨b0, 0, none⟩) (some ⟨b1, 0, none⟩) (some ⟨b2, 0, none⟩) K) (hs : K.small) :
    Calls Tryz.prog 27 #[.agg #[.int .i64 K.now, .slice (some ⟨b0, 0, none⟩) K.svcs.length c0, .slice (some ⟨b1, 0, none⟩) K.cps.length c1, .slice (some ⟨b2, 0, none⟩) K.bts.length c2]] w fun e w' => (∃ s0 s1 s2, e = .returned (.agg #[.int .i64 K.now, s0, s1, s2]) ∧ BkOwn w' (w.heap.size + 2) K s0 s1 s2) ∧ Below w.heap.size w w' := by
  have HH := hid h
  have HS := hid hs
  clear h hs
  obtain ⟨i0, hi0, ei0⟩ := Option.map_eq_some_iff.1 Tryz.infSv
  simp only [Prod.mk.injEq] at ei0
  obtain ⟨hz0, hs0, hy0⟩ := ei0
  obtain ⟨i1, hi1, ei1⟩ := Option.map_eq_some_iff.1 Tryz.infCp
  simp only [Prod.mk.injEq] at ei1
  obtain ⟨hz1, hs1, hy1⟩ := ei1
  obtain ⟨i2, hi2, ei2⟩ := Option.map_eq_some_iff.1 Tryz.infBt
  simp only [Prod.mk.injEq] at ei2
  obtain ⟨hz2, hs2, hy2⟩ := ei2
  obtain ⟨wa, hwa⟩ : ∃ wa, wa = (w.alloc (.cells #[.int .i64 K.now, .slice (some ⟨b0, 0, none⟩) K.svcs.length c0, .slice (some ⟨b1, 0, none⟩) K.cps.length c1, .slice (some ⟨b2, 0, none⟩) K.bts.length c2] 37)).alloc (.cells #[.int .i64 0, .slice none 0 0, .slice none 0 0, .slice none 0 0] 37) := ⟨_, rfl⟩
  have HB : Hid (Below w.heap.size w wa) := by show Below _ _ _; rw [hwa]; exact blw_alloc (blw_alloc (Below.refl _ _) _) _
  have HX : Hid (wa.heap[w.heap.size]? = some (.cells #[.int .i64 K.now, .slice (some ⟨b0, 0, none⟩) K.svcs.length c0, .slice (some ⟨b1, 0, none⟩) K.cps.length c1, .slice (some ⟨b2, 0, none⟩) K.bts.length c2] 37 (0, 0))) := by show _ = _; rw [hwa]; exact ((blw_alloc (Below.refl _ _) _).block w.heap.size (by simp)).trans (heap_alloc_new w _)
  have HO : Hid (wa.heap[w.heap.size + 1]? = some (.cells #[.int .i64 0, .slice none 0 0, .slice none 0 0, .slice none 0 0] 37 (0, 0))) := by
    show _ = _
    rw [hwa]
    have e : (w.alloc (.cells #[.int .i64 K.now, .slice (some ⟨b0, 0, none⟩) K.svcs.length c0, .slice (some ⟨b1, 0, none⟩) K.cps.length c1, .slice (some ⟨b2, 0, none⟩) K.bts.length c2] 37)).heap.size = w.heap.size + 1 := by simp
    rw [← e]
    exact heap_alloc_new _ _
  have HZ : Hid (w.heap.size + 2 ≤ wa.heap.size) := by show _ ≤ _; rw [hwa]; simp
  go_enter Tryz.func27, Tryz.ntmps27
  go_upto_region 1 with fail
  rw [← hwa]
  clear hwa
  have yz := lt_block HX.out
  have y0 := cellsOf_block HX.out 0
  have y1 := cellsOf_block HX.out 1
  have y2 := cellsOf_block HX.out 2
  have y3 := cellsOf_block HX.out 3
  have yf := frozen_block HX.out 1
  simp only [List.getElem?_toArray, List.getElem?_cons_zero, List.getElem?_cons_succ] at y0 y1 y2 y3
  have hsz := HZ.out
  go_wp2_with (at_builtin; refine wpList_append_own _ rfl _ _ 33 rfl (w.heap.size + 2) 41 i0 _ 13 112 Tryz.undSv hi0 hz0 hs0 hy0 rfl (by decide) _ 0 [] rfl (World.ownsRow_nil _ _ _ _) ⟨b0, 0, none⟩ K.svcs.length c0 (K.svcs.flatMap SvC) rfl ?a10 ?a20 ?a30 ?a40 ?a50 ?a60 ?_)
  case a10 => exact flat_len SvC 13 SvC_len K.svcs
  case a20 => exact (SvsV.news (HH.out.later HB.out).s) _ rfl
  case a30 => exact SvC_one K.svcs
  case a40 => unfold maxLen; have := HS.out.1; omega
  case a50 => have := HS.out.1; omega
  case a60 => exact HZ.out
  intro v0 w0 ho0 hg0 hn0
  clear yz y0 y1 y2 y3 yf hsz hn0
  have hbl : Below wa.heap.size wa w0 := below_grown hg0
  clear hg0
  have HX' := hid ((hbl.block _ (lt_block HX.out)).trans HX.out)
  have HO' := hid ((hbl.block _ (lt_block HO.out)).trans HO.out)
  have HB' := hid (blw_trans HB.out hbl)
  have HZ' := hid (Nat.le_trans HZ.out hbl.size)
  obtain ⟨d0, e0, rfl⟩ := owns_is ho0
  obtain ⟨x0, hx0⟩ : ∃ x0, x0 = w0.setCell ⟨w.heap.size, 1, none⟩ (.slice d0 K.svcs.length e0) := ⟨_, rfl⟩
  clear HX HO HB HZ hbl
  have HX : Hid (x0.heap[w.heap.size]? = some (.cells #[.int .i64 K.now, .slice d0 K.svcs.length e0, .slice (some ⟨b1, 0, none⟩) K.cps.length c1, .slice (some ⟨b2, 0, none⟩) K.bts.length c2] 37 (0, 0))) := by show _ = _; rw [hx0]; exact (set_block HX'.out 1 _).trans rfl
  have HO : Hid (x0.heap[w.heap.size + 1]? = some (.cells #[.int .i64 0, .slice none 0 0, .slice none 0 0, .slice none 0 0] 37 (0, 0))) := by show _ = _; rw [hx0]; exact (set_other (by omega) _ _).trans HO'.out
  have HB : Hid (Below w.heap.size w x0) := by show Below _ _ _; rw [hx0]; exact blw_sc HB'.out (Nat.le_refl _) _ _
  have HZ : Hid (w.heap.size + 2 ≤ x0.heap.size) := by show _ ≤ _; rw [hx0, sc_size]; exact HZ'.out
  have R0 : Hid (x0.ownsRow (w.heap.size + 2) 41 13 (.slice d0 K.svcs.length e0) K.svcs.length (K.svcs.flatMap SvC)) := by show World.ownsRow _ _ _ _ _ _ _; rw [hx0]; exact owns_sc ho0 (by omega) _ _
  have yz := lt_block HX'.out
  have yf := frozen_block HX'.out 1
  have y1 := cellsOf_block HX'.out 1
  simp only [List.getElem?_toArray, List.getElem?_cons_zero, List.getElem?_cons_succ] at y1
  go_upto_region 2 with fail
  rw [← hx0]
  clear hx0 yz yf y1 HX' HO' HB' HZ' ho0
  have yz := lt_block HX.out
  have y0 := cellsOf_block HX.out 0
  have y1 := cellsOf_block HX.out 1
  have y2 := cellsOf_block HX.out 2
  have y3 := cellsOf_block HX.out 3
  have yf := frozen_block HX.out 2
  simp only [List.getElem?_toArray, List.getElem?_cons_zero, List.getElem?_cons_succ] at y0 y1 y2 y3
  have hsz := HZ.out
  go_wp2_with (at_builtin; refine wpList_append_own _ rfl _ _ 34 rfl (w.heap.size + 2) 81 i1 _ 7 72 Tryz.undCp hi1 hz1 hs1 hy1 rfl (by decide) _ 0 [] rfl (World.ownsRow_nil _ _ _ _) ⟨b1, 0, none⟩ K.cps.length c1 (K.cps.flatMap CpC) rfl ?a11 ?a21 ?a31 ?a41 ?a51 ?a61 ?_)
  case a11 => exact flat_len CpC 7 CpC_len K.cps
  case a21 => exact (CpsV.news (HH.out.later HB.out).c) _ rfl
  case a31 => exact CpC_one K.cps
  case a41 => unfold maxLen; have := HS.out.2.1; omega
  case a51 => have := HS.out.2.1; omega
  case a61 => exact HZ.out
  intro v1 w1 ho1 hg1 hn1
  clear yz y0 y1 y2 y3 yf hsz hn1
  have hbl : Below x0.heap.size x0 w1 := below_grown hg1
  clear hg1
  have HX' := hid ((hbl.block _ (lt_block HX.out)).trans HX.out)
  have HO' := hid ((hbl.block _ (lt_block HO.out)).trans HO.out)
  have HB' := hid (blw_trans HB.out hbl)
  have HZ' := hid (Nat.le_trans HZ.out hbl.size)
  replace R0 := hid (owns_on R0.out hbl)
  obtain ⟨d1, e1, rfl⟩ := owns_is ho1
  obtain ⟨x1, hx1⟩ : ∃ x1, x1 = w1.setCell ⟨w.heap.size, 2, none⟩ (.slice d1 K.cps.length e1) := ⟨_, rfl⟩
  clear HX HO HB HZ hbl
  have HX : Hid (x1.heap[w.heap.size]? = some (.cells #[.int .i64 K.now, .slice d0 K.svcs.length e0, .slice d1 K.cps.length e1, .slice (some ⟨b2, 0, none⟩) K.bts.length c2] 37 (0, 0))) := by show _ = _; rw [hx1]; exact (set_block HX'.out 2 _).trans rfl
  have HO : Hid (x1.heap[w.heap.size + 1]? = some (.cells #[.int .i64 0, .slice none 0 0, .slice none 0 0, .slice none 0 0] 37 (0, 0))) := by show _ = _; rw [hx1]; exact (set_other (by omega) _ _).trans HO'.out
  have HB : Hid (Below w.heap.size w x1) := by show Below _ _ _; rw [hx1]; exact blw_sc HB'.out (Nat.le_refl _) _ _
  have HZ : Hid (w.heap.size + 2 ≤ x1.heap.size) := by show _ ≤ _; rw [hx1, sc_size]; exact HZ'.out
  have R1 : Hid (x1.ownsRow (w.heap.size + 2) 81 7 (.slice d1 K.cps.length e1) K.cps.length (K.cps.flatMap CpC)) := by show World.ownsRow _ _ _ _ _ _ _; rw [hx1]; exact owns_sc ho1 (by omega) _ _
  replace R0 : Hid (x1.ownsRow (w.heap.size + 2) 41 13 (.slice d0 K.svcs.length e0) K.svcs.length (K.svcs.flatMap SvC)) := by show World.ownsRow _ _ _ _ _ _ _; rw [hx1]; exact owns_sc R0.out (by omega) _ _
  have yz := lt_block HX'.out
  have yf := frozen_block HX'.out 2
  have y2 := cellsOf_block HX'.out 2
  simp only [List.getElem?_toArray, List.getElem?_cons_zero, List.getElem?_cons_succ] at y2
  go_upto_region 3 with fail
  rw [← hx1]
  clear hx1 yz yf y2 HX' HO' HB' HZ' ho1
  have yz := lt_block HX.out
  have y0 := cellsOf_block HX.out 0
  have y1 := cellsOf_block HX.out 1
  have y2 := cellsOf_block HX.out 2
  have y3 := cellsOf_block HX.out 3
  have yf := frozen_block HX.out 3
  simp only [List.getElem?_toArray, List.getElem?_cons_zero, List.getElem?_cons_succ] at y0 y1 y2 y3
  have hsz := HZ.out
  go_wp2_with (at_builtin; refine wpList_append_own _ rfl _ _ 35 rfl (w.heap.size + 2) 79 i2 _ 2 24 Tryz.undBt hi2 hz2 hs2 hy2 rfl (by decide) _ 0 [] rfl (World.ownsRow_nil _ _ _ _) ⟨b2, 0, none⟩ K.bts.length c2 (K.bts.flatMap BtC) rfl ?a12 ?a22 ?a32 ?a42 ?a52 ?a62 ?_)
  case a12 => exact flat_len BtC 2 BtC_len K.bts
  case a22 => exact (BtsV.news (HH.out.later HB.out).b) _ rfl
  case a32 => exact BtC_one K.bts
  case a42 => unfold maxLen; have := HS.out.2.2; omega
  case a52 => have := HS.out.2.2; omega
  case a62 => exact HZ.out
  intro v2 w2 ho2 hg2 hn2
  clear yz y0 y1 y2 y3 yf hsz hn2
  have hbl : Below x1.heap.size x1 w2 := below_grown hg2
  clear hg2
  have HX' := hid ((hbl.block _ (lt_block HX.out)).trans HX.out)
  have HO' := hid ((hbl.block _ (lt_block HO.out)).trans HO.out)
  have HB' := hid (blw_trans HB.out hbl)
  have HZ' := hid (Nat.le_trans HZ.out hbl.size)
  replace R0 := hid (owns_on R0.out hbl)
  replace R1 := hid (owns_on R1.out hbl)
  obtain ⟨d2, e2, rfl⟩ := owns_is ho2
  obtain ⟨x2, hx2⟩ : ∃ x2, x2 = w2.setCell ⟨w.heap.size, 3, none⟩ (.slice d2 K.bts.length e2) := ⟨_, rfl⟩
  clear HX HO HB HZ hbl
  have HX : Hid (x2.heap[w.heap.size]? = some (.cells #[.int .i64 K.now, .slice d0 K.svcs.length e0, .slice d1 K.cps.length e1, .slice d2 K.bts.length e2] 37 (0, 0))) := by show _ = _; rw [hx2]; exact (set_block HX'.out 3 _).trans rfl
  have HO : Hid (x2.heap[w.heap.size + 1]? = some (.cells #[.int .i64 0, .slice none 0 0, .slice none 0 0, .slice none 0 0] 37 (0, 0))) := by show _ = _; rw [hx2]; exact (set_other (by omega) _ _).trans HO'.out
  have HB : Hid (Below w.heap.size w x2) := by show Below _ _ _; rw [hx2]; exact blw_sc HB'.out (Nat.le_refl _) _ _
  have HZ : Hid (w.heap.size + 2 ≤ x2.heap.size) := by show _ ≤ _; rw [hx2, sc_size]; exact HZ'.out
  have R2 : Hid (x2.ownsRow (w.heap.size + 2) 79 2 (.slice d2 K.bts.length e2) K.bts.length (K.bts.flatMap BtC)) := by show World.ownsRow _ _ _ _ _ _ _; rw [hx2]; exact owns_sc ho2 (by omega) _ _
  replace R0 : Hid (x2.ownsRow (w.heap.size + 2) 41 13 (.slice d0 K.svcs.length e0) K.svcs.length (K.svcs.flatMap SvC)) := by show World.ownsRow _ _ _ _ _ _ _; rw [hx2]; exact owns_sc R0.out (by omega) _ _
  replace R1 : Hid (x2.ownsRow (w.heap.size + 2) 81 7 (.slice d1 K.cps.length e1) K.cps.length (K.cps.flatMap CpC)) := by show World.ownsRow _ _ _ _ _ _ _; rw [hx2]; exact owns_sc R1.out (by omega) _ _
  have yz := lt_block HX'.out
  have yf := frozen_block HX'.out 3
  have y3 := cellsOf_block HX'.out 3
  simp only [List.getElem?_toArray, List.getElem?_cons_zero, List.getElem?_cons_succ] at y3
  go_upto_region 4 with fail
  rw [← hx2]
  clear hx2 yz yf y3 HX' HO' HB' HZ' ho2
  have yz := lt_block HX.out
  have y0 := cellsOf_block HX.out 0
  have y1 := cellsOf_block HX.out 1
  have y2 := cellsOf_block HX.out 2
  have y3 := cellsOf_block HX.out 3
  simp only [List.getElem?_toArray, List.getElem?_cons_zero, List.getElem?_cons_succ] at y0 y1 y2 y3
  have oz := lt_block HO.out
  have o0 := cellsOf_block HO.out 0
  have o1 := cellsOf_block HO.out 1
  have o2 := cellsOf_block HO.out 2
  have o3 := cellsOf_block HO.out 3
  simp only [List.getElem?_toArray, List.getElem?_cons_zero, List.getElem?_cons_succ] at o0 o1 o2 o3
  have of0 := frozen_block HO.out 0
  have of1 := frozen_block HO.out 1
  have of2 := frozen_block HO.out 2
  have of3 := frozen_block HO.out 3
  go_wp2
  have HOw : Hid (OwnBlk x2 (w.heap.size + 1) 37 4) := ⟨_, HO.out, rfl⟩
  have p := fun i hi => puts_at 0 [.int .i64 K.now, .slice d0 K.svcs.length e0, .slice d1 K.cps.length e1, .slice d2 K.bts.length e2] x2 0 HOw.out (by simp) i hi
  have t0 := p 0 (by simp)
  have t1 := p 1 (by simp)
  have t2 := p 2 (by simp)
  have t3 := p 3 (by simp)
  simp only [puts, Nat.add_zero, Nat.zero_add, Nat.reduceAdd, List.getElem?_cons_zero, List.getElem?_cons_succ] at t0 t1 t2 t3
  refine bodyPost_ret (v := .agg #[.int .i64 K.now, .slice d0 K.svcs.length e0, .slice d1 K.cps.length e1, .slice d2 K.bts.length e2]) (by simp [results, Tryz.results27, go_sem, t0, t1, t2, t3]) rfl ⟨⟨_, _, _, rfl, ?_⟩, ?_⟩
  · have r0 := owns_sc (owns_sc (owns_sc (owns_sc R0.out (show w.heap.size + 1 < w.heap.size + 2 by omega) 0 (.int .i64 K.now)) (show w.heap.size + 1 < w.heap.size + 2 by omega) 1 (.slice d0 K.svcs.length e0)) (show w.heap.size + 1 < w.heap.size + 2 by omega) 2 (.slice d1 K.cps.length e1)) (show w.heap.size + 1 < w.heap.size + 2 by omega) 3 (.slice d2 K.bts.length e2)
    have r1 := owns_sc (owns_sc (owns_sc (owns_sc R1.out (show w.heap.size + 1 < w.heap.size + 2 by omega) 0 (.int .i64 K.now)) (show w.heap.size + 1 < w.heap.size + 2 by omega) 1 (.slice d0 K.svcs.length e0)) (show w.heap.size + 1 < w.heap.size + 2 by omega) 2 (.slice d1 K.cps.length e1)) (show w.heap.size + 1 < w.heap.size + 2 by omega) 3 (.slice d2 K.bts.length e2)
    have r2 := owns_sc (owns_sc (owns_sc (owns_sc R2.out (show w.heap.size + 1 < w.heap.size + 2 by omega) 0 (.int .i64 K.now)) (show w.heap.size + 1 < w.heap.size + 2 by omega) 1 (.slice d0 K.svcs.length e0)) (show w.heap.size + 1 < w.heap.size + 2 by omega) 2 (.slice d1 K.cps.length e1)) (show w.heap.size + 1 < w.heap.size + 2 by omega) 3 (.slice d2 K.bts.length e2)
    exact ⟨r0, r1, r2, HH.out.sz0, HH.out.sz1, HH.out.sz2, HS.out⟩
  · exact puts_below (a := w) 0 (B := w.heap.size + 1) (by omega) [.int .i64 K.now, .slice d0 K.svcs.length e0, .slice d1 K.cps.length e1, .slice d2 K.bts.length e2] x2 0 HB.out

end Go.Proofs.YtclagbakddkjcaaGreat
