/-
  The law of GateSlipOk.
-/
import Derived.Deep.MidRow
import Derived.Test.YtkjkklcflpchlaaGreatAkM
import Derived.Test.YtkjkklcflpchlaaGreatMemSl
import Derived.Test.YtkjkklcflpchlaaGreatMemAE
import Derived.Test.YtkjkklcflpchlaaGreatLawSlO
import Derived.Test.YtkjkklcflpchlaaGreatAkE
namespace Go.Proofs.YtkjkklcflpchlaaGreat
open Go.RowKit Go.Deep

theorem setCells_puts' (B o : Nat) : ∀ (vs : List Value) (j : Nat) (w : World), w.setCells B (o + j) vs = puts w B o j vs
  | [], _, _ => rfl
  | v :: r, j, w => by
    rw [World.setCells, puts, ← setCells_puts' B o r (j + 1)]
    rfl
theorem setCells_puts (B o : Nat) (vs : List Value) (w : World) : w.setCells B o vs = puts w B o 0 vs := setCells_puts' B o vs 0 w

/-- While a slip is copied: the first n cells of what is made. -/
structure SlW (w W : World) (A : Array Value) (n : Nat) (cs : List Value) : Prop where
  bel : Below w.heap.size w W
  out : OwnBlk W (w.heap.size + 1 + 1) 56 18
  res : OwnBlk W (w.heap.size + 1) 56 18
  arg : BoxV W w.heap.size A
  cel : ∀ i, i < n → W.cell? ⟨w.heap.size + 1 + 1, i, none⟩ = cs[i]?

theorem SlW.later {w W W' : World} {A : Array Value} {n : Nat} {cs : List Value} (h : SlW w W A n cs) (hb : Below W.heap.size W W') : SlW w W' A n cs :=
  ⟨blw_trans h.bel hb, h.out.later hb, h.res.later hb, h.arg.later hb, fun i hi => (hb.cell (p := ⟨w.heap.size + 1 + 1, i, none⟩) h.out.lt).trans (h.cel i hi)⟩

theorem SlW.put {w W : World} {A : Array Value} {n : Nat} {cs : List Value} (h : SlW w W A n cs) (hn : n < 18) {v : Value} (hv : cs[n]? = some v) : SlW w (W.setCell ⟨w.heap.size + 1 + 1, n, none⟩ v) A (n + 1) cs :=
  ⟨h.bel.setCell (p := ⟨w.heap.size + 1 + 1, n, none⟩) (by show w.heap.size ≤ w.heap.size + 1 + 1; omega) _, h.out.setCell n _, h.res.sc_other (by omega) _ _,
    ⟨by rw [sc_size]; exact h.arg.lt, fun j => (sc_ne _ _ _ _ _ _ (Or.inl (by omega))).trans (h.arg.at_ j)⟩, fun i hi => by
    by_cases e : i = n
    · subst e; rw [sc_eq h.out _ hn, hv]
    · rw [sc_ne _ _ _ _ _ _ (Or.inr e)]; exact h.cel i (by omega)⟩

theorem SlW.push {w W : World} {A : Array Value} {n : Nat} {cs : List Value} (h : SlW w W A n cs) (hn : n < 18) (hc : cs.length = n) (v : Value) : SlW w (W.setCell ⟨w.heap.size + 1 + 1, n, none⟩ v) A (n + 1) (cs ++ [v]) := by
  have h2 : SlW w W A n (cs ++ [v]) := ⟨h.bel, h.out, h.res, h.arg, fun i hi => by rw [List.getElem?_append_left (by omega)]; exact h.cel i hi⟩
  exact h2.put hn (by rw [List.getElem?_append_right (by omega), hc]; simp)

set_option maxRecDepth 8000 in
set_option maxHeartbeats 16000000 in
theorem toSlO (door : ByteArray) (x0 x1 x2 x3 x4 x5 x6 x7 x8 x9 x10 x11 x12 x13 x14 : Value) (given : Int) (wv : Value) (w : World) (RA : Nat → World → Array Value → Prop) (RW : Nat → World → Value → Prop)
    (HA : Hid (∀ W, Below w.heap.size w W → Calls Tryz.prog 9 #[.agg #[x0, x1, x2, x3, x4, x5, x6, x7, x8, x9, x10, x11, x12, x13, x14]] W fun e w' => (∃ d0 d1 d2 d3 d4 d5 d5n d5c d6 d6n d6c d7 d8 d9 d10 d10n d10c d11 d12 d13 d14, e = .returned (.agg #[.string d0, .int .i64 d1, .string d2, .string d3, .string d4, .slice d5 d5n d5c, .slice d6 d6n d6c, .int .i64 d7, .string d8, .string d9, .slice d10 d10n d10c, .string d11, .string d12, .string d13, .int .i64 d14]) ∧ RA W.heap.size w' #[.string d0, .int .i64 d1, .string d2, .string d3, .string d4, .slice d5 d5n d5c, .slice d6 d6n d6c, .int .i64 d7, .string d8, .string d9, .slice d10 d10n d10c, .string d11, .string d12, .string d13, .int .i64 d14]) ∧ Below W.heap.size W w')) (HW : Hid (∀ W, Below w.heap.size w W → Calls Tryz.prog 39 #[wv] W fun e w' => (∃ b4 n4, e = .returned (.slice (some ⟨b4, 0, none⟩) n4 n4) ∧ RW W.heap.size w' (.slice (some ⟨b4, 0, none⟩) n4 n4)) ∧ Below W.heap.size W w'))
    (HLA : Hid (∀ n W W' d, RA n W d → Below W.heap.size W W' → RA n W' d))
    (HPA : Hid (∀ n W d B o vs, B < n → RA n W d → RA n (puts W B o 0 vs) d)) (HPW : Hid (∀ n W d B o vs, B < n → RW n W d → RW n (puts W B o 0 vs) d)) :
    Calls Tryz.prog 15 #[.agg #[.string door, x0, x1, x2, x3, x4, x5, x6, x7, x8, x9, x10, x11, x12, x13, x14, .int .i64 given, wv]] w fun e w' => (∃ d0 d1 d2 d3 d4 d5 d5n d5c d6 d6n d6c d7 d8 d9 d10 d10n d10c d11 d12 d13 d14 b4 n4 k1 k2, e = .returned (.agg #[.string door, .string d0, .int .i64 d1, .string d2, .string d3, .string d4, .slice d5 d5n d5c, .slice d6 d6n d6c, .int .i64 d7, .string d8, .string d9, .slice d10 d10n d10c, .string d11, .string d12, .string d13, .int .i64 d14, .int .i64 given, .slice (some ⟨b4, 0, none⟩) n4 n4]) ∧ RA k1 w' #[.string d0, .int .i64 d1, .string d2, .string d3, .string d4, .slice d5 d5n d5c, .slice d6 d6n d6c, .int .i64 d7, .string d8, .string d9, .slice d10 d10n d10c, .string d11, .string d12, .string d13, .int .i64 d14] ∧ RW k2 w' (.slice (some ⟨b4, 0, none⟩) n4 n4)) ∧ Below w.heap.size w w' := by
  obtain ⟨wb, hwb⟩ : ∃ wb, wb = ((w.alloc (.cells #[.string door, x0, x1, x2, x3, x4, x5, x6, x7, x8, x9, x10, x11, x12, x13, x14, .int .i64 given, wv] 51)).alloc (.cells #[.string ⟨#[]⟩, .string ⟨#[]⟩, .int .i64 0, .string ⟨#[]⟩, .string ⟨#[]⟩, .string ⟨#[]⟩, .slice none 0 0, .slice none 0 0, .int .i64 0, .string ⟨#[]⟩, .string ⟨#[]⟩, .slice none 0 0, .string ⟨#[]⟩, .string ⟨#[]⟩, .string ⟨#[]⟩, .int .i64 0, .int .i64 0, .slice none 0 0] 56)).alloc (.cells #[.string door, .string ⟨#[]⟩, .int .i64 0, .string ⟨#[]⟩, .string ⟨#[]⟩, .string ⟨#[]⟩, .slice none 0 0, .slice none 0 0, .int .i64 0, .string ⟨#[]⟩, .string ⟨#[]⟩, .slice none 0 0, .string ⟨#[]⟩, .string ⟨#[]⟩, .string ⟨#[]⟩, .int .i64 0, .int .i64 0, .slice none 0 0] 56) := ⟨_, rfl⟩
  have HI1 : Hid (SlW w wb #[.string door, x0, x1, x2, x3, x4, x5, x6, x7, x8, x9, x10, x11, x12, x13, x14, .int .i64 given, wv] 1 [.string door]) := by
    show SlW _ _ _ _ _
    rw [hwb]
    refine ⟨blw_alloc (blw_alloc (blw_alloc (Below.refl _ _) _) _) _, OwnBlk.alloc_at2 _ _ _ _ _ rfl (by simp), (OwnBlk.alloc_at2 _ _ _ _ _ rfl (by simp)).past _, ((BoxV.new' _ _ _ _ rfl).past _).past _, fun i hi => ?_⟩
    rw [World.cell?_alloc_at _ _ _ _ (by simp)]
    match i, hi with
    | 0, _ => rfl
    | k + 1, h => omega
  go_enter Tryz.func15, Tryz.ntmps15
  go_upto_region 3 with fail
  rw [← hwb]
  clear hwb
  have yz : w.heap.size < wb.heap.size := HI1.out.arg.lt
  have y1 : wb.cell? ⟨w.heap.size, 1, none⟩ = some (x0) := HI1.out.arg.at_ 1
  have y2 : wb.cell? ⟨w.heap.size, 2, none⟩ = some (x1) := HI1.out.arg.at_ 2
  have y3 : wb.cell? ⟨w.heap.size, 3, none⟩ = some (x2) := HI1.out.arg.at_ 3
  have y4 : wb.cell? ⟨w.heap.size, 4, none⟩ = some (x3) := HI1.out.arg.at_ 4
  have y5 : wb.cell? ⟨w.heap.size, 5, none⟩ = some (x4) := HI1.out.arg.at_ 5
  have y6 : wb.cell? ⟨w.heap.size, 6, none⟩ = some (x5) := HI1.out.arg.at_ 6
  have y7 : wb.cell? ⟨w.heap.size, 7, none⟩ = some (x6) := HI1.out.arg.at_ 7
  have y8 : wb.cell? ⟨w.heap.size, 8, none⟩ = some (x7) := HI1.out.arg.at_ 8
  have y9 : wb.cell? ⟨w.heap.size, 9, none⟩ = some (x8) := HI1.out.arg.at_ 9
  have y10 : wb.cell? ⟨w.heap.size, 10, none⟩ = some (x9) := HI1.out.arg.at_ 10
  have y11 : wb.cell? ⟨w.heap.size, 11, none⟩ = some (x10) := HI1.out.arg.at_ 11
  have y12 : wb.cell? ⟨w.heap.size, 12, none⟩ = some (x11) := HI1.out.arg.at_ 12
  have y13 : wb.cell? ⟨w.heap.size, 13, none⟩ = some (x12) := HI1.out.arg.at_ 13
  have y14 : wb.cell? ⟨w.heap.size, 14, none⟩ = some (x13) := HI1.out.arg.at_ 14
  have y15 : wb.cell? ⟨w.heap.size, 15, none⟩ = some (x14) := HI1.out.arg.at_ 15
  go_wp2_with fail
  refine (HA.out wb HI1.out.bel).mono ?_
  rintro e w1 ⟨⟨d0, d1, d2, d3, d4, d5, d5n, d5c, d6, d6n, d6c, d7, d8, d9, d10, d10n, d10c, d11, d12, d13, d14, rfl, hra⟩, hb⟩
  have HRA : Hid (RA wb.heap.size w1 #[.string d0, .int .i64 d1, .string d2, .string d3, .string d4, .slice d5 d5n d5c, .slice d6 d6n d6c, .int .i64 d7, .string d8, .string d9, .slice d10 d10n d10c, .string d11, .string d12, .string d13, .int .i64 d14]) := hra
  have HN : Hid (w.heap.size + 1 + 1 < wb.heap.size) := HI1.out.out.lt
  have HJ1 : Hid (SlW w w1 #[.string door, x0, x1, x2, x3, x4, x5, x6, x7, x8, x9, x10, x11, x12, x13, x14, .int .i64 given, wv] 1 [.string door]) := HI1.out.later hb
  obtain ⟨nb, hnb⟩ : ∃ nb, nb = wb.heap.size := ⟨_, rfl⟩
  rw [← hnb] at HRA HN
  clear hra hb hnb yz y1 y2 y3 y4 y5 y6 y7 y8 y9 y10 y11 y12 y13 y14 y15 HI1
  have hfz := HJ1.out.out.frozen
  have hz := HJ1.out.out.lt
  obtain ⟨z1, x1c⟩ := HJ1.out.out.cell 1 (by omega)
  obtain ⟨z2, x2c⟩ := HJ1.out.out.cell 2 (by omega)
  obtain ⟨z3, x3c⟩ := HJ1.out.out.cell 3 (by omega)
  obtain ⟨z4, x4c⟩ := HJ1.out.out.cell 4 (by omega)
  obtain ⟨z5, x5c⟩ := HJ1.out.out.cell 5 (by omega)
  obtain ⟨z6, x6c⟩ := HJ1.out.out.cell 6 (by omega)
  obtain ⟨z7, x7c⟩ := HJ1.out.out.cell 7 (by omega)
  obtain ⟨z8, x8c⟩ := HJ1.out.out.cell 8 (by omega)
  obtain ⟨z9, x9c⟩ := HJ1.out.out.cell 9 (by omega)
  obtain ⟨z10, x10c⟩ := HJ1.out.out.cell 10 (by omega)
  obtain ⟨z11, x11c⟩ := HJ1.out.out.cell 11 (by omega)
  obtain ⟨z12, x12c⟩ := HJ1.out.out.cell 12 (by omega)
  obtain ⟨z13, x13c⟩ := HJ1.out.out.cell 13 (by omega)
  obtain ⟨z14, x14c⟩ := HJ1.out.out.cell 14 (by omega)
  obtain ⟨z15, x15c⟩ := HJ1.out.out.cell 15 (by omega)
  obtain ⟨z16, x16c⟩ := HJ1.out.out.cell 16 (by omega)
  have jz : w.heap.size < w1.heap.size := HJ1.out.arg.lt
  have y16 : w1.cell? ⟨w.heap.size, 16, none⟩ = some (.int .i64 given) := HJ1.out.arg.at_ 16
  obtain ⟨wc, hwc⟩ : ∃ wc, wc = (((((((((((((((w1.setCell ⟨w.heap.size + 1 + 1, 1, none⟩ (.string d0)).setCell ⟨w.heap.size + 1 + 1, 2, none⟩ (.int .i64 d1)).setCell ⟨w.heap.size + 1 + 1, 3, none⟩ (.string d2)).setCell ⟨w.heap.size + 1 + 1, 4, none⟩ (.string d3)).setCell ⟨w.heap.size + 1 + 1, 5, none⟩ (.string d4)).setCell ⟨w.heap.size + 1 + 1, 6, none⟩ (.slice d5 d5n d5c)).setCell ⟨w.heap.size + 1 + 1, 7, none⟩ (.slice d6 d6n d6c)).setCell ⟨w.heap.size + 1 + 1, 8, none⟩ (.int .i64 d7)).setCell ⟨w.heap.size + 1 + 1, 9, none⟩ (.string d8)).setCell ⟨w.heap.size + 1 + 1, 10, none⟩ (.string d9)).setCell ⟨w.heap.size + 1 + 1, 11, none⟩ (.slice d10 d10n d10c)).setCell ⟨w.heap.size + 1 + 1, 12, none⟩ (.string d11)).setCell ⟨w.heap.size + 1 + 1, 13, none⟩ (.string d12)).setCell ⟨w.heap.size + 1 + 1, 14, none⟩ (.string d13)).setCell ⟨w.heap.size + 1 + 1, 15, none⟩ (.int .i64 d14)).setCell ⟨w.heap.size + 1 + 1, 16, none⟩ (.int .i64 given) := ⟨_, rfl⟩
  have HI17 : Hid (SlW w wc #[.string door, x0, x1, x2, x3, x4, x5, x6, x7, x8, x9, x10, x11, x12, x13, x14, .int .i64 given, wv] 17 [.string door, .string d0, .int .i64 d1, .string d2, .string d3, .string d4, .slice d5 d5n d5c, .slice d6 d6n d6c, .int .i64 d7, .string d8, .string d9, .slice d10 d10n d10c, .string d11, .string d12, .string d13, .int .i64 d14, .int .i64 given]) := by show SlW _ _ _ _ _; rw [hwc]; exact ((((((((((((((((HJ1.out.push (by omega) rfl _).push (by omega) rfl _).push (by omega) rfl _).push (by omega) rfl _).push (by omega) rfl _).push (by omega) rfl _).push (by omega) rfl _).push (by omega) rfl _).push (by omega) rfl _).push (by omega) rfl _).push (by omega) rfl _).push (by omega) rfl _).push (by omega) rfl _).push (by omega) rfl _).push (by omega) rfl _).push (by omega) rfl _)
  have HRC : Hid (RA nb wc #[.string d0, .int .i64 d1, .string d2, .string d3, .string d4, .slice d5 d5n d5c, .slice d6 d6n d6c, .int .i64 d7, .string d8, .string d9, .slice d10 d10n d10c, .string d11, .string d12, .string d13, .int .i64 d14]) := by show RA _ _ _; rw [hwc]; exact (HPA.out _ _ _ _ 16 [_] HN.out (HPA.out _ _ _ _ 15 [_] HN.out (HPA.out _ _ _ _ 14 [_] HN.out (HPA.out _ _ _ _ 13 [_] HN.out (HPA.out _ _ _ _ 12 [_] HN.out (HPA.out _ _ _ _ 11 [_] HN.out (HPA.out _ _ _ _ 10 [_] HN.out (HPA.out _ _ _ _ 9 [_] HN.out (HPA.out _ _ _ _ 8 [_] HN.out (HPA.out _ _ _ _ 7 [_] HN.out (HPA.out _ _ _ _ 6 [_] HN.out (HPA.out _ _ _ _ 5 [_] HN.out (HPA.out _ _ _ _ 4 [_] HN.out (HPA.out _ _ _ _ 3 [_] HN.out (HPA.out _ _ _ _ 2 [_] HN.out (HPA.out _ _ _ _ 1 [_] HN.out HRA.out))))))))))))))))
  go_upto_region 5 with fail
  rw [← hwc]
  clear hwc hfz hz x1c x2c x3c x4c x5c x6c x7c x8c x9c x10c x11c x12c x13c x14c x15c x16c HJ1 HRA jz y16
  have yz : w.heap.size < wc.heap.size := HI17.out.arg.lt
  have y17 : wc.cell? ⟨w.heap.size, 17, none⟩ = some wv := HI17.out.arg.at_ 17
  go_wp2_with fail
  refine (HW.out wc HI17.out.bel).mono ?_
  rintro e w2 ⟨⟨b4, n4, rfl, hrw⟩, hb⟩
  have HRW : Hid (RW wc.heap.size w2 (.slice (some ⟨b4, 0, none⟩) n4 n4)) := hrw
  have HNW : Hid (w.heap.size + 1 + 1 < wc.heap.size) := HI17.out.out.lt
  have HJ17 : Hid (SlW w w2 #[.string door, x0, x1, x2, x3, x4, x5, x6, x7, x8, x9, x10, x11, x12, x13, x14, .int .i64 given, wv] 17 [.string door, .string d0, .int .i64 d1, .string d2, .string d3, .string d4, .slice d5 d5n d5c, .slice d6 d6n d6c, .int .i64 d7, .string d8, .string d9, .slice d10 d10n d10c, .string d11, .string d12, .string d13, .int .i64 d14, .int .i64 given]) := HI17.out.later hb
  have HRA : Hid (RA nb w2 #[.string d0, .int .i64 d1, .string d2, .string d3, .string d4, .slice d5 d5n d5c, .slice d6 d6n d6c, .int .i64 d7, .string d8, .string d9, .slice d10 d10n d10c, .string d11, .string d12, .string d13, .int .i64 d14]) := HLA.out _ _ _ _ HRC.out hb
  obtain ⟨nc, hnc⟩ : ∃ nc, nc = wc.heap.size := ⟨_, rfl⟩
  rw [← hnc] at HRW HNW
  clear hrw hb hnc yz y17 HI17 HRC
  have hfz := HJ17.out.out.frozen
  have hz := HJ17.out.out.lt
  obtain ⟨z17, x17c⟩ := HJ17.out.out.cell 17 (by omega)
  have jz : w.heap.size < w2.heap.size := HJ17.out.arg.lt
  obtain ⟨we, hwe⟩ : ∃ we, we = w2.setCell ⟨w.heap.size + 1 + 1, 17, none⟩ (.slice (some ⟨b4, 0, none⟩) n4 n4) := ⟨_, rfl⟩
  have HI18 : Hid (SlW w we #[.string door, x0, x1, x2, x3, x4, x5, x6, x7, x8, x9, x10, x11, x12, x13, x14, .int .i64 given, wv] 18 [.string door, .string d0, .int .i64 d1, .string d2, .string d3, .string d4, .slice d5 d5n d5c, .slice d6 d6n d6c, .int .i64 d7, .string d8, .string d9, .slice d10 d10n d10c, .string d11, .string d12, .string d13, .int .i64 d14, .int .i64 given, .slice (some ⟨b4, 0, none⟩) n4 n4]) := by show SlW _ _ _ _ _; rw [hwe]; exact HJ17.out.push (by omega) rfl _
  have HRE : Hid (RA nb we #[.string d0, .int .i64 d1, .string d2, .string d3, .string d4, .slice d5 d5n d5c, .slice d6 d6n d6c, .int .i64 d7, .string d8, .string d9, .slice d10 d10n d10c, .string d11, .string d12, .string d13, .int .i64 d14] ∧ RW nc we (.slice (some ⟨b4, 0, none⟩) n4 n4)) := by show _ ∧ _; rw [hwe]; exact ⟨HPA.out _ _ _ _ 17 [_] HN.out HRA.out, HPW.out _ _ _ _ 17 [_] HNW.out HRW.out⟩
  go_upto_region 6 with fail
  rw [← hwe]
  clear hwe hfz hz x17c HJ17 HRA HRW jz
  have HRG : Hid (World.rangeAt we (w.heap.size + 1 + 1) 0 [.string door, .string d0, .int .i64 d1, .string d2, .string d3, .string d4, .slice d5 d5n d5c, .slice d6 d6n d6c, .int .i64 d7, .string d8, .string d9, .slice d10 d10n d10c, .string d11, .string d12, .string d13, .int .i64 d14, .int .i64 given, .slice (some ⟨b4, 0, none⟩) n4 n4] ∧ World.there we (w.heap.size + 1) 0 18) := by
    refine ⟨fun j v hv => ?_, fun j hj => ?_⟩
    · have hj : j < 18 := (List.getElem?_eq_some_iff.1 hv).1
      rw [Nat.zero_add, HI18.out.cel j hj]
      exact hv
    · rw [Nat.zero_add]
      obtain ⟨z, hz⟩ := HI18.out.res.cell j hj
      exact ⟨by rw [hz]; rfl, HI18.out.res.frozen j⟩
  have HPP : Hid ((RA nb (we.setCells (w.heap.size + 1) 0 [.string door, .string d0, .int .i64 d1, .string d2, .string d3, .string d4, .slice d5 d5n d5c, .slice d6 d6n d6c, .int .i64 d7, .string d8, .string d9, .slice d10 d10n d10c, .string d11, .string d12, .string d13, .int .i64 d14, .int .i64 given, .slice (some ⟨b4, 0, none⟩) n4 n4]) #[.string d0, .int .i64 d1, .string d2, .string d3, .string d4, .slice d5 d5n d5c, .slice d6 d6n d6c, .int .i64 d7, .string d8, .string d9, .slice d10 d10n d10c, .string d11, .string d12, .string d13, .int .i64 d14] ∧ RW nc (we.setCells (w.heap.size + 1) 0 [.string door, .string d0, .int .i64 d1, .string d2, .string d3, .string d4, .slice d5 d5n d5c, .slice d6 d6n d6c, .int .i64 d7, .string d8, .string d9, .slice d10 d10n d10c, .string d11, .string d12, .string d13, .int .i64 d14, .int .i64 given, .slice (some ⟨b4, 0, none⟩) n4 n4]) (.slice (some ⟨b4, 0, none⟩) n4 n4)) ∧ Below w.heap.size w (we.setCells (w.heap.size + 1) 0 [.string door, .string d0, .int .i64 d1, .string d2, .string d3, .string d4, .slice d5 d5n d5c, .slice d6 d6n d6c, .int .i64 d7, .string d8, .string d9, .slice d10 d10n d10c, .string d11, .string d12, .string d13, .int .i64 d14, .int .i64 given, .slice (some ⟨b4, 0, none⟩) n4 n4])) := by
    show _ ∧ _
    have n1 := HN.out
    have n2 := HNW.out
    rw [setCells_puts]
    exact ⟨⟨HPA.out _ _ _ _ _ _ (by omega) HRE.out.1, HPW.out _ _ _ _ _ _ (by omega) HRE.out.2⟩, puts_below (a := w) _ (by omega) _ _ _ HI18.out.bel⟩
  have hrt : World.rangeAt (we.setCells (w.heap.size + 1) 0 [.string door, .string d0, .int .i64 d1, .string d2, .string d3, .string d4, .slice d5 d5n d5c, .slice d6 d6n d6c, .int .i64 d7, .string d8, .string d9, .slice d10 d10n d10c, .string d11, .string d12, .string d13, .int .i64 d14, .int .i64 given, .slice (some ⟨b4, 0, none⟩) n4 n4]) (w.heap.size + 1) 0 [.string door, .string d0, .int .i64 d1, .string d2, .string d3, .string d4, .slice d5 d5n d5c, .slice d6 d6n d6c, .int .i64 d7, .string d8, .string d9, .slice d10 d10n d10c, .string d11, .string d12, .string d13, .int .i64 d14, .int .i64 given, .slice (some ⟨b4, 0, none⟩) n4 n4] := World.rangeAt_setCells_same _ _ _ _ HRG.out.2
  refine wp_region_lit ?_
  refine wpList_load_mid rfl 56 _ rfl (w.heap.size + 1 + 1) 0 rfl [.string door, .string d0, .int .i64 d1, .string d2, .string d3, .string d4, .slice d5 d5n d5c, .slice d6 d6n d6c, .int .i64 d7, .string d8, .string d9, .slice d10 d10n d10c, .string d11, .string d12, .string d13, .int .i64 d14, .int .i64 given, .slice (some ⟨b4, 0, none⟩) n4 n4] _ HRG.out.1 Tryz.underlying56 rfl (by kernel_rfl) ?_
  refine wpList_store_mid rfl 56 _ _ rfl (w.heap.size + 1) 0 #[.string door, .string d0, .int .i64 d1, .string d2, .string d3, .string d4, .slice d5 d5n d5c, .slice d6 d6n d6c, .int .i64 d7, .string d8, .string d9, .slice d10 d10n d10c, .string d11, .string d12, .string d13, .int .i64 d14, .int .i64 given, .slice (some ⟨b4, 0, none⟩) n4 n4] rfl rfl HRG.out.2 (by kernel_rfl) (by simp [Value.oneCell']) ?_
  simp only [Act.put, List.setIfInBounds_toArray, List.set_cons_zero, List.set_cons_succ]
  go_wp2
  refine bodyPost_ret (v := .agg #[.string door, .string d0, .int .i64 d1, .string d2, .string d3, .string d4, .slice d5 d5n d5c, .slice d6 d6n d6c, .int .i64 d7, .string d8, .string d9, .slice d10 d10n d10c, .string d11, .string d12, .string d13, .int .i64 d14, .int .i64 given, .slice (some ⟨b4, 0, none⟩) n4 n4]) (by simp [results, Tryz.results15, asAddr, run_loadVar_mid (P := Tryz.prog) _ _ _ 56 [.string door, .string d0, .int .i64 d1, .string d2, .string d3, .string d4, .slice d5 d5n d5c, .slice d6 d6n d6c, .int .i64 d7, .string d8, .string d9, .slice d10 d10n d10c, .string d11, .string d12, .string d13, .int .i64 d14, .int .i64 given, .slice (some ⟨b4, 0, none⟩) n4 n4] _ hrt Tryz.underlying56 rfl (by kernel_rfl)]) rfl ⟨⟨d0, d1, d2, d3, d4, d5, d5n, d5c, d6, d6n, d6c, d7, d8, d9, d10, d10n, d10c, d11, d12, d13, d14, b4, n4, nb, nc, rfl, ?_⟩, ?_⟩
  · exact HPP.out.1
  · exact HPP.out.2

theorem TxB.putsA {w : World} {b B : Nat} {l : List ByteArray} (h : TxB w b l) (hne : B < b) (o : Nat) (vs : List Value) : TxB (puts w B o 0 vs) b l :=
  ⟨by rw [puts_size]; exact h.lt, h.len, h.sz, fun i hi => (puts_other _ _ _ _ _ _ _ (Or.inl (by omega))).trans (h.at_ i hi)⟩
theorem WnsIn.putsA {w : World} {B p : Nat} {ms : List Wn} (h : WnsIn w B ms) (hp : p < B) (o : Nat) : ∀ (vs : List Value) (j : Nat), WnsIn (puts w p o j vs) B ms
  | [], _ => h
  | _ :: vs, j => WnsIn.putsA (h.sc hp _ _) hp o vs (j + 1)

theorem toSl (s : Sl) (v1 v2 : Value) (ra : Option Addr) (rc : Nat) (wv : Value) (w : World) (hs : s.small) (h : SlAt w v1 v2 ra rc wv s) :
    Calls Tryz.prog 15 #[.agg #[.string s.door, .string s.ask.who, .int .i64 s.ask.verb, .string s.ask.kind, .string s.ask.name, .string s.ask.team, v1, v2, .int .i64 s.ask.seen, .string s.ask.hold, .string s.ask.to_, .slice ra s.ask.rule.verbs.length rc, .string s.ask.rule.kind, .string s.ask.rule.team, .string s.ask.rule.pre, .int .i64 s.ask.number, .int .i64 s.given, wv]] w fun e w' => (∃ b1 b2 b3 b4, e = .returned (.agg #[.string s.door, .string s.ask.who, .int .i64 s.ask.verb, .string s.ask.kind, .string s.ask.name, .string s.ask.team, .slice (some ⟨b1, 0, none⟩) s.ask.values.length s.ask.values.length, .slice (some ⟨b2, 0, none⟩) s.ask.holds.length s.ask.holds.length, .int .i64 s.ask.seen, .string s.ask.hold, .string s.ask.to_, .slice (some ⟨b3, 0, none⟩) s.ask.rule.verbs.length s.ask.rule.verbs.length, .string s.ask.rule.kind, .string s.ask.rule.team, .string s.ask.rule.pre, .int .i64 s.ask.number, .int .i64 s.given, .slice (some ⟨b4, 0, none⟩) s.wants.length s.wants.length]) ∧ SlIn w' b1 b2 b3 b4 s) ∧ Below w.heap.size w w' := by
  refine (toSlO s.door (.string s.ask.who) (.int .i64 s.ask.verb) (.string s.ask.kind) (.string s.ask.name) (.string s.ask.team) (v1) (v2) (.int .i64 s.ask.seen) (.string s.ask.hold) (.string s.ask.to_) (.slice ra s.ask.rule.verbs.length rc) (.string s.ask.rule.kind) (.string s.ask.rule.team) (.string s.ask.rule.pre) (.int .i64 s.ask.number) s.given wv w (fun n W d => ∃ b1 b2 b3, n ≤ b1 ∧ n ≤ b2 ∧ n ≤ b3 ∧ d = #[.string s.ask.who, .int .i64 s.ask.verb, .string s.ask.kind, .string s.ask.name, .string s.ask.team, .slice (some ⟨b1, 0, none⟩) s.ask.values.length s.ask.values.length, .slice (some ⟨b2, 0, none⟩) s.ask.holds.length s.ask.holds.length, .int .i64 s.ask.seen, .string s.ask.hold, .string s.ask.to_, .slice (some ⟨b3, 0, none⟩) s.ask.rule.verbs.length s.ask.rule.verbs.length, .string s.ask.rule.kind, .string s.ask.rule.team, .string s.ask.rule.pre, .int .i64 s.ask.number] ∧ AkIn W b1 b2 b3 s.ask) (fun n W v => ∃ b4, n ≤ b4 ∧ v = .slice (some ⟨b4, 0, none⟩) s.wants.length s.wants.length ∧ WnsIn W b4 s.wants) ?_ ?_ ?_ ?_ ?_).mono ?_
  · intro W hW
    refine (toAkB s.ask v1 v2 ra rc W hs.1 (h.ak.later hW)).mono ?_
    rintro e w' ⟨⟨b1, b2, b3, rfl, hi, n1, n2, n3⟩, hb⟩
    exact ⟨⟨_, _, _, _, _, _, _, _, _, _, _, _, _, _, _, _, _, _, _, _, _, rfl, b1, b2, b3, n1, n2, n3, rfl, hi⟩, hb⟩
  · intro W hW
    refine (toWns wv s.wants W hs.2 (h.wn.later hW)).mono ?_
    rintro e w' ⟨rfl, hb, hi⟩
    exact ⟨⟨_, _, rfl, _, Nat.le_refl _, rfl, hi⟩, hb⟩
  · rintro n W W' d ⟨b1, b2, b3, n1, n2, n3, rfl, hi⟩ hb
    exact ⟨b1, b2, b3, n1, n2, n3, rfl, hi.later hb⟩
  · rintro n W d B o vs hB ⟨b1, b2, b3, n1, n2, n3, rfl, hi⟩
    exact ⟨b1, b2, b3, n1, n2, n3, rfl, hi.t1.putsA (by omega) o vs, hi.t2.putsA (by omega) o vs, hi.n.putsA (by omega) o vs, hi.sized⟩
  · rintro n W d B o vs hB ⟨b4, n4, rfl, hi⟩
    exact ⟨b4, n4, rfl, hi.putsA (by omega) o vs 0⟩
  · rintro e w' ⟨⟨d0, d1, d2, d3, d4, d5, d5n, d5c, d6, d6n, d6c, d7, d8, d9, d10, d10n, d10c, d11, d12, d13, d14, b4, n4, k1, k2, rfl, ⟨b1, b2, b3, _, _, _, hd, hi⟩, b4', _, hv, hw⟩, hb⟩
    obtain ⟨rfl, rfl⟩ : b4 = b4' ∧ n4 = s.wants.length := by simpa using hv
    have hd' : ([.string d0, .int .i64 d1, .string d2, .string d3, .string d4, .slice d5 d5n d5c, .slice d6 d6n d6c, .int .i64 d7, .string d8, .string d9, .slice d10 d10n d10c, .string d11, .string d12, .string d13, .int .i64 d14] : List Value) = [.string s.ask.who, .int .i64 s.ask.verb, .string s.ask.kind, .string s.ask.name, .string s.ask.team, .slice (some ⟨b1, 0, none⟩) s.ask.values.length s.ask.values.length, .slice (some ⟨b2, 0, none⟩) s.ask.holds.length s.ask.holds.length, .int .i64 s.ask.seen, .string s.ask.hold, .string s.ask.to_, .slice (some ⟨b3, 0, none⟩) s.ask.rule.verbs.length s.ask.rule.verbs.length, .string s.ask.rule.kind, .string s.ask.rule.team, .string s.ask.rule.pre, .int .i64 s.ask.number] := congrArg Array.toList hd
    refine ⟨⟨b1, b2, b3, b4, ?_, hi, hw, h.sz⟩, hb⟩
    exact congrArg (fun l => Ending.returned (Value.agg ((Value.string s.door :: l ++ [Value.int .i64 s.given, Value.slice (some ⟨b4, 0, none⟩) s.wants.length s.wants.length]).toArray))) hd'

end Go.Proofs.YtkjkklcflpchlaaGreat

namespace Go.Proofs.YtkjkklcflpchlaaGreat
open Go.RowKit Go.Deep

def wantB (m : Wn) : Bool := Pl.nameOk m.kind && Pl.nameOk m.name && decide (0 ≤ m.version)
def slipR (door : ByteArray) (q : Bool) (given : Int) (ws : List Wn) : Bool := Pl.nameOk door && q && decide (0 ≤ given) && decide (ws.length ≤ 8) && ws.all wantB

theorem wany_snoc {α : Type} (p : α → Bool) (l : List α) (d : α) (k : Nat) (h : k < l.length) (hq : (l.take k).any p = false) (hn : p (l.getD k d) = false) : (l.take (k + 1)).any p = false := by
  rw [List.take_add_one, List.any_append, hq]
  simp [List.getD_eq_getElem?_getD, h] at hn ⊢
  exact hn
theorem wany_hit {α : Type} (p : α → Bool) (l : List α) (d : α) (k : Nat) (h : k < l.length) (hn : p (l.getD k d) = true) : l.any p = true := by
  rw [List.any_eq_true]
  exact ⟨l.getD k d, by simp [h], hn⟩
theorem wany_all {α : Type} (p : α → Bool) (l : List α) (k : Nat) (h : l.length ≤ k) (hq : (l.take k).any p = false) : l.any p = false := by
  rwa [List.take_of_length_le h] at hq
theorem wall_any (ws : List Wn) : ws.all wantB = !(ws.any fun m => !wantB m) := by
  induction ws with
  | nil => rfl
  | cons m ms ih => simp [ih]

set_option maxHeartbeats 2000000 in
theorem want1 (m : Wn) (w : World) (hs : m.sized) :
    Calls Tryz.prog 73 #[.agg #[.string m.kind, .string m.name, .int .i64 m.version]] w fun e w' => e = .returned (.bool (!wantB m)) ∧ Below w.heap.size w w' := by
  obtain ⟨s1, s2⟩ := hs
  obtain ⟨R, hR⟩ : ∃ R, R = !wantB m := ⟨_, rfl⟩
  have HR : Hid (R = !(Pl.nameOk m.kind && Pl.nameOk m.name && decide (0 ≤ m.version))) := hR
  rw [← hR]
  clear hR
  have HB0 : Hid (∀ o, Below w.heap.size w (w.alloc o)) := fun o => blw_alloc (Below.refl _ _) o
  go_enter Tryz.func73, Tryz.ntmps73
  go_wp2_with fail
  refine (isName_any m.kind _ s1).mono ?_
  rintro e w' ⟨rfl, rfl⟩
  cases hk : Pl.nameOk m.kind
  · have HE : Hid (R = true) := by show R = true; rw [HR.out, hk]; rfl
    go_wp2
    go_ret
    exact ⟨Pl.ret_bool HE.out.symm, HB0.out _⟩
  go_wp2_with fail
  refine (isName_any m.name _ s2).mono ?_
  rintro e w' ⟨rfl, rfl⟩
  cases hn : Pl.nameOk m.name
  · have HE : Hid (R = true) := by show R = true; rw [HR.out, hk, hn]; rfl
    go_wp2
    go_ret
    exact ⟨Pl.ret_bool HE.out.symm, HB0.out _⟩
  have HE : Hid (R = !decide (0 ≤ m.version)) := by show R = _; rw [HR.out, hk, hn]; rfl
  clear HR hk hn
  by_cases c : m.version < 0
  · have HZ : Hid (R = true) := by show R = true; rw [HE.out, decide_eq_false (by omega)]; rfl
    go_wp2
    go_ret
    exact ⟨Pl.ret_bool (by rw [HZ.out]; try simp [c]), HB0.out _⟩
  · have HZ : Hid (R = false) := by show R = false; rw [HE.out, decide_eq_true (by omega)]; rfl
    go_wp2
    go_ret
    exact ⟨Pl.ret_bool (by rw [HZ.out]; try simp [c]), HB0.out _⟩

set_option maxHeartbeats 4000000 in
theorem indexW (B : Nat) (ws : List Wn) (w : World) (hg : WnsIn w B ws) :
    Calls Tryz.prog 93 #[.slice (some ⟨B, 0, none⟩) ws.length ws.length, .func (.func 73) #[] #[]] w fun e w' => (∃ r : Int, e = .returned (.int .i64 r) ∧ decide (0 ≤ r) = ws.any (fun m => !wantB m)) ∧ Below w.heap.size w w' := by
  have HC : Hid (WnsIn w B ws) := hg
  have hln := hg.len
  obtain ⟨R, hR⟩ : ∃ R, R = ws.any (fun m => !wantB m) := ⟨_, rfl⟩
  have HR : Hid (R = ws.any (fun m => !wantB m)) := hR
  rw [← hR]
  clear hR hg
  go_enter Tryz.func93, Tryz.ntmps93
  go_wp2
  go_loopw [8] (fun i wr => ∃ k : Nat, k ≤ ws.length ∧ i = .int .i64 k ∧ (ws.take k).any (fun m => !wantB m) = false ∧ Below w.heap.size w wr) (fun i _ => ws.length - (intOf i).toNat)
  case atStart => exact ⟨0, Nat.zero_le _, rfl, rfl, Below.refl _ _⟩
  case round =>
    obtain ⟨k, hk, rfl, hq, hW⟩ := hrel
    have HQ : Hid ((ws.take k).any (fun m => !wantB m) = false) := hq
    clear hq
    by_cases hlt : k < ws.length
    · obtain ⟨g, hg⟩ : ∃ g, g = ws.getD k Wn.none := ⟨_, rfl⟩
      have hc := (HC.out.later hW).at_ k hlt
      have hgw : B < wr.heap.size := Nat.lt_of_lt_of_le HC.out.lt hW.size
      rw [← hg] at hc
      obtain ⟨c0, c1, c2, hsz⟩ := hc
      have HX : Hid (Calls Tryz.prog 73 #[.agg #[.string g.kind, .string g.name, .int .i64 g.version]] wr fun e w' => e = .returned (.bool (!wantB g)) ∧ Below wr.heap.size wr w') := want1 g wr hsz
      have HG : Hid (g = ws.getD k Wn.none) := hg
      clear hg hsz
      go_wp2_with fail
      refine HX.out.mono ?_
      rintro e w2 ⟨rfl, hb2⟩
      have hB2 := blw_trans hW hb2
      clear hb2 c0 c1 c2 hgw HX
      cases hn : wantB g
      · have HE : Hid (R = true) := by show R = true; rw [HR.out]; exact wany_hit _ ws Wn.none k hlt (by rw [← HG.out, hn]; rfl)
        go_wp2
        go_ret
        exact ⟨⟨_, rfl, by rw [HE.out]; simp⟩, hB2⟩
      · have HE : Hid ((ws.take (k + 1)).any (fun m => !wantB m) = false) := wany_snoc _ ws Wn.none k hlt HQ.out (by rw [← HG.out, hn]; rfl)
        go_wp2
        go_roundw
        case rel => exact ⟨k + 1, by omega, by go_num, HE.out, hB2⟩
        case measure => simp [intOf]; omega
    · have HE : Hid (R = false) := by show R = false; rw [HR.out]; exact wany_all _ ws k (by omega) HQ.out
      go_wp2
      go_ret
      exact ⟨⟨_, rfl, by rw [HE.out]; simp⟩, hW⟩

set_option maxHeartbeats 400000 in
theorem containsW (B : Nat) (ws : List Wn) (w : World) (hg : WnsIn w B ws) :
    Calls Tryz.prog 72 #[.slice (some ⟨B, 0, none⟩) ws.length ws.length, .func (.func 73) #[] #[]] w fun e w' => e = .returned (.bool (ws.any fun m => !wantB m)) ∧ Below w.heap.size w w' := by
  have HX : Hid (Calls Tryz.prog 93 #[.slice (some ⟨B, 0, none⟩) ws.length ws.length, .func (.func 73) #[] #[]] w fun e w' => (∃ r : Int, e = .returned (.int .i64 r) ∧ decide (0 ≤ r) = ws.any (fun m => !wantB m)) ∧ Below w.heap.size w w') := indexW B ws w hg
  clear hg
  go_enter Tryz.func72, Tryz.ntmps72
  go_wp2_with fail
  refine HX.out.mono ?_
  rintro e w' ⟨⟨r, rfl, hr⟩, hb⟩
  have HR : Hid (decide (0 ≤ r) = ws.any fun m => !wantB m) := hr
  clear hr
  go_wp2
  go_ret
  exact ⟨Pl.ret_bool HR.out, hb⟩

set_option maxRecDepth 8000 in
set_option maxHeartbeats 8000000 in
theorem gateSlipO (l0 l1 l2 : Value) (door : ByteArray) (x0 x1 x2 x3 x4 x5 x6 x7 x8 x9 x10 x11 x12 x13 x14 : Value) (given : Int) (B : Nat) (ws : List Wn) (q : Bool) (w : World) (hd : door.size ≤ maxLen) (hw : WnsIn w B ws)
    (HA : Hid (∀ W, Below w.heap.size w W → Calls Tryz.prog 31 #[.agg #[l0, l1, l2], .agg #[x0, x1, x2, x3, x4, x5, x6, x7, x8, x9, x10, x11, x12, x13, x14]] W fun e w' => e = .returned (.bool q) ∧ Below W.heap.size W w')) :
    Calls Tryz.prog 40 #[.agg #[l0, l1, l2], .agg #[.string door, x0, x1, x2, x3, x4, x5, x6, x7, x8, x9, x10, x11, x12, x13, x14, .int .i64 given, .slice (some ⟨B, 0, none⟩) ws.length ws.length]] w fun e w' => e = .returned (.bool (slipR door q given ws)) ∧ Below w.heap.size w w' := by
  have HC : Hid (WnsIn w B ws) := hw
  have hln := hw.len
  obtain ⟨R, hR⟩ : ∃ R, R = slipR door q given ws := ⟨_, rfl⟩
  have HR : Hid (R = (Pl.nameOk door && q && decide (0 ≤ given) && decide (ws.length ≤ 8) && ws.all wantB)) := hR
  rw [← hR]
  clear hR hw
  obtain ⟨wa, hwa⟩ : ∃ wa, wa = (w.alloc (.cells #[l0, l1, l2] 40)).alloc (.cells #[.string door, x0, x1, x2, x3, x4, x5, x6, x7, x8, x9, x10, x11, x12, x13, x14, .int .i64 given, .slice (some ⟨B, 0, none⟩) ws.length ws.length] 56) := ⟨_, rfl⟩
  have HBa : Hid (Below w.heap.size w wa) := by show Below _ _ _; rw [hwa]; exact blw_alloc (blw_alloc (Below.refl _ _) _) _
  have HXa : Hid (BoxV wa w.heap.size #[l0, l1, l2] ∧ BoxV wa (w.heap.size + 1) #[.string door, x0, x1, x2, x3, x4, x5, x6, x7, x8, x9, x10, x11, x12, x13, x14, .int .i64 given, .slice (some ⟨B, 0, none⟩) ws.length ws.length]) := by show _ ∧ _; rw [hwa]; exact ⟨(BoxV.new' _ _ _ _ rfl).past _, BoxV.new' _ _ _ _ (by simp)⟩
  go_enter Tryz.func40, Tryz.ntmps40
  go_upto_region 1 with fail
  rw [← hwa]
  clear hwa
  have lz := HXa.out.1.lt
  have az := HXa.out.2.lt
  have c0 : wa.cell? ⟨w.heap.size, 0, none⟩ = some l0 := HXa.out.1.at_ 0
  have c1 : wa.cell? ⟨w.heap.size, 1, none⟩ = some l1 := HXa.out.1.at_ 1
  have c2 : wa.cell? ⟨w.heap.size, 2, none⟩ = some l2 := HXa.out.1.at_ 2
  have y0 : wa.cell? ⟨w.heap.size + 1, 0, none⟩ = some (.string door) := HXa.out.2.at_ 0
  have y1 : wa.cell? ⟨w.heap.size + 1, 1, none⟩ = some (x0) := HXa.out.2.at_ 1
  have y2 : wa.cell? ⟨w.heap.size + 1, 2, none⟩ = some (x1) := HXa.out.2.at_ 2
  have y3 : wa.cell? ⟨w.heap.size + 1, 3, none⟩ = some (x2) := HXa.out.2.at_ 3
  have y4 : wa.cell? ⟨w.heap.size + 1, 4, none⟩ = some (x3) := HXa.out.2.at_ 4
  have y5 : wa.cell? ⟨w.heap.size + 1, 5, none⟩ = some (x4) := HXa.out.2.at_ 5
  have y6 : wa.cell? ⟨w.heap.size + 1, 6, none⟩ = some (x5) := HXa.out.2.at_ 6
  have y7 : wa.cell? ⟨w.heap.size + 1, 7, none⟩ = some (x6) := HXa.out.2.at_ 7
  have y8 : wa.cell? ⟨w.heap.size + 1, 8, none⟩ = some (x7) := HXa.out.2.at_ 8
  have y9 : wa.cell? ⟨w.heap.size + 1, 9, none⟩ = some (x8) := HXa.out.2.at_ 9
  have y10 : wa.cell? ⟨w.heap.size + 1, 10, none⟩ = some (x9) := HXa.out.2.at_ 10
  have y11 : wa.cell? ⟨w.heap.size + 1, 11, none⟩ = some (x10) := HXa.out.2.at_ 11
  have y12 : wa.cell? ⟨w.heap.size + 1, 12, none⟩ = some (x11) := HXa.out.2.at_ 12
  have y13 : wa.cell? ⟨w.heap.size + 1, 13, none⟩ = some (x12) := HXa.out.2.at_ 13
  have y14 : wa.cell? ⟨w.heap.size + 1, 14, none⟩ = some (x13) := HXa.out.2.at_ 14
  have y15 : wa.cell? ⟨w.heap.size + 1, 15, none⟩ = some (x14) := HXa.out.2.at_ 15
  go_wp2_with fail
  refine (isName_any door wa hd).mono ?_
  rintro e w' ⟨rfl, rfl⟩
  cases hk : Pl.nameOk door
  · have HE : Hid (R = false) := by show R = false; rw [HR.out, hk]; rfl
    go_wp2
    go_ret
    exact ⟨Pl.ret_bool HE.out.symm, HBa.out⟩
  go_wp2_with fail
  refine (HA.out wa HBa.out).mono ?_
  rintro e wb ⟨rfl, hb⟩
  have HBb : Hid (Below w.heap.size w wb) := blw_trans HBa.out hb
  have HXb : Hid (BoxV wb w.heap.size #[l0, l1, l2] ∧ BoxV wb (w.heap.size + 1) #[.string door, x0, x1, x2, x3, x4, x5, x6, x7, x8, x9, x10, x11, x12, x13, x14, .int .i64 given, .slice (some ⟨B, 0, none⟩) ws.length ws.length]) := ⟨HXa.out.1.later hb, HXa.out.2.later hb⟩
  clear hb lz az c0 c1 c2 y0 y1 y2 y3 y4 y5 y6 y7 y8 y9 y10 y11 y12 y13 y14 y15 HXa HBa HA
  cases q
  · have HE : Hid (R = false) := by show R = false; rw [HR.out, hk]; rfl
    go_wp2
    go_ret
    exact ⟨Pl.ret_bool HE.out.symm, HBb.out⟩
  have az := HXb.out.2.lt
  have y16 : wb.cell? ⟨w.heap.size + 1, 16, none⟩ = some (.int .i64 given) := HXb.out.2.at_ 16
  have y17 : wb.cell? ⟨w.heap.size + 1, 17, none⟩ = some (.slice (some ⟨B, 0, none⟩) ws.length ws.length) := HXb.out.2.at_ 17
  by_cases g0 : given < 0
  · have HE : Hid (R = false) := by show R = false; rw [HR.out, hk, show decide (0 ≤ given) = false from decide_eq_false (by omega)]; rfl
    go_wp2
    go_ret
    exact ⟨Pl.ret_bool HE.out.symm, HBb.out⟩
  by_cases g1 : (8 : Int) < (ws.length : Int)
  · have HE : Hid (R = false) := by show R = false; rw [HR.out, hk, show decide (ws.length ≤ 8) = false from decide_eq_false (by omega)]; simp
    go_wp2
    go_ret
    exact ⟨Pl.ret_bool HE.out.symm, HBb.out⟩
  have HE : Hid (R = ws.all wantB) := by show R = _; rw [HR.out, hk, show decide (0 ≤ given) = true from decide_eq_true (by omega), show decide (ws.length ≤ 8) = true from decide_eq_true (by omega)]; rfl
  clear HR hk
  go_wp2_with fail
  refine (containsW B ws wb (HC.out.later HBb.out)).mono ?_
  rintro e wc ⟨rfl, hb⟩
  have HBc : Hid (Below w.heap.size w wc) := blw_trans HBb.out hb
  have HF : Hid (R = !(ws.any fun m => !wantB m)) := HE.out.trans (wall_any ws)
  clear hb HE
  go_wp2
  go_ret
  exact ⟨Pl.ret_bool HF.out.symm, HBc.out⟩

end Go.Proofs.YtkjkklcflpchlaaGreat

namespace Go.Proofs.YtkjkklcflpchlaaGreat
open Go.RowKit Go.Deep

theorem wall_snoc (ws : List Wn) (k : Nat) (h : k < ws.length) (hq : (ws.take k).all wantB = true) (hn : wantB (ws.getD k Wn.none) = true) : (ws.take (k + 1)).all wantB = true := by
  rw [List.take_add_one, List.all_append, hq]
  simp [List.getD_eq_getElem?_getD, h] at hn ⊢
  exact hn
theorem wall_miss (ws : List Wn) (k : Nat) (h : k < ws.length) (hn : wantB (ws.getD k Wn.none) = false) : ws.all wantB = false := by
  rw [wall_any, wany_hit (fun m => !wantB m) ws Wn.none k h (by show (!wantB _) = true; rw [hn]; rfl)]
  rfl

set_option maxRecDepth 8000 in
set_option maxHeartbeats 8000000 in
theorem l9SlipO (l0 l1 l2 : Value) (door : ByteArray) (x0 x1 x2 x3 x4 x5 x6 x7 x8 x9 x10 x11 x12 x13 x14 : Value) (given : Int) (B : Nat) (ws : List Wn) (q : Bool) (w : World) (hd : door.size ≤ maxLen) (hw : WnsIn w B ws)
    (HA : Hid (∀ W, Below w.heap.size w W → Calls Tryz.prog 24 #[.agg #[l0, l1, l2], .agg #[x0, x1, x2, x3, x4, x5, x6, x7, x8, x9, x10, x11, x12, x13, x14]] W fun e w' => e = .returned (.bool q) ∧ Below W.heap.size W w')) :
    Calls Tryz.prog 38 #[.agg #[l0, l1, l2], .agg #[.string door, x0, x1, x2, x3, x4, x5, x6, x7, x8, x9, x10, x11, x12, x13, x14, .int .i64 given, .slice (some ⟨B, 0, none⟩) ws.length ws.length]] w fun e w' => e = .returned (.bool (slipR door q given ws)) ∧ Below w.heap.size w w' := by
  have HC : Hid (WnsIn w B ws) := hw
  have hln := hw.len
  obtain ⟨R, hR⟩ : ∃ R, R = slipR door q given ws := ⟨_, rfl⟩
  have HR : Hid (R = (Pl.nameOk door && q && decide (0 ≤ given) && decide (ws.length ≤ 8) && ws.all wantB)) := hR
  rw [← hR]
  clear hR hw
  obtain ⟨wa, hwa⟩ : ∃ wa, wa = (w.alloc (.cells #[l0, l1, l2] 40)).alloc (.cells #[.string door, x0, x1, x2, x3, x4, x5, x6, x7, x8, x9, x10, x11, x12, x13, x14, .int .i64 given, .slice (some ⟨B, 0, none⟩) ws.length ws.length] 56) := ⟨_, rfl⟩
  have HBa : Hid (Below w.heap.size w wa) := by show Below _ _ _; rw [hwa]; exact blw_alloc (blw_alloc (Below.refl _ _) _) _
  have HXa : Hid (BoxV wa w.heap.size #[l0, l1, l2] ∧ BoxV wa (w.heap.size + 1) #[.string door, x0, x1, x2, x3, x4, x5, x6, x7, x8, x9, x10, x11, x12, x13, x14, .int .i64 given, .slice (some ⟨B, 0, none⟩) ws.length ws.length]) := by show _ ∧ _; rw [hwa]; exact ⟨(BoxV.new' _ _ _ _ rfl).past _, BoxV.new' _ _ _ _ (by simp)⟩
  go_enter Tryz.func38, Tryz.ntmps38
  go_upto_region 1 with fail
  rw [← hwa]
  clear hwa
  have lz := HXa.out.1.lt
  have az := HXa.out.2.lt
  have c0 : wa.cell? ⟨w.heap.size, 0, none⟩ = some l0 := HXa.out.1.at_ 0
  have c1 : wa.cell? ⟨w.heap.size, 1, none⟩ = some l1 := HXa.out.1.at_ 1
  have c2 : wa.cell? ⟨w.heap.size, 2, none⟩ = some l2 := HXa.out.1.at_ 2
  have y0 : wa.cell? ⟨w.heap.size + 1, 0, none⟩ = some (.string door) := HXa.out.2.at_ 0
  have y1 : wa.cell? ⟨w.heap.size + 1, 1, none⟩ = some (x0) := HXa.out.2.at_ 1
  have y2 : wa.cell? ⟨w.heap.size + 1, 2, none⟩ = some (x1) := HXa.out.2.at_ 2
  have y3 : wa.cell? ⟨w.heap.size + 1, 3, none⟩ = some (x2) := HXa.out.2.at_ 3
  have y4 : wa.cell? ⟨w.heap.size + 1, 4, none⟩ = some (x3) := HXa.out.2.at_ 4
  have y5 : wa.cell? ⟨w.heap.size + 1, 5, none⟩ = some (x4) := HXa.out.2.at_ 5
  have y6 : wa.cell? ⟨w.heap.size + 1, 6, none⟩ = some (x5) := HXa.out.2.at_ 6
  have y7 : wa.cell? ⟨w.heap.size + 1, 7, none⟩ = some (x6) := HXa.out.2.at_ 7
  have y8 : wa.cell? ⟨w.heap.size + 1, 8, none⟩ = some (x7) := HXa.out.2.at_ 8
  have y9 : wa.cell? ⟨w.heap.size + 1, 9, none⟩ = some (x8) := HXa.out.2.at_ 9
  have y10 : wa.cell? ⟨w.heap.size + 1, 10, none⟩ = some (x9) := HXa.out.2.at_ 10
  have y11 : wa.cell? ⟨w.heap.size + 1, 11, none⟩ = some (x10) := HXa.out.2.at_ 11
  have y12 : wa.cell? ⟨w.heap.size + 1, 12, none⟩ = some (x11) := HXa.out.2.at_ 12
  have y13 : wa.cell? ⟨w.heap.size + 1, 13, none⟩ = some (x12) := HXa.out.2.at_ 13
  have y14 : wa.cell? ⟨w.heap.size + 1, 14, none⟩ = some (x13) := HXa.out.2.at_ 14
  have y15 : wa.cell? ⟨w.heap.size + 1, 15, none⟩ = some (x14) := HXa.out.2.at_ 15
  go_wp2_with fail
  refine (l1NameOk_any door wa hd).mono ?_
  rintro e w' ⟨rfl, rfl⟩
  cases hk : Pl.nameOk door
  · have HE : Hid (R = false) := by show R = false; rw [HR.out, hk]; rfl
    go_wp2
    go_ret
    exact ⟨Pl.ret_bool HE.out.symm, HBa.out⟩
  go_wp2_with fail
  refine (HA.out wa HBa.out).mono ?_
  rintro e wb ⟨rfl, hb⟩
  have HBb : Hid (Below w.heap.size w wb) := blw_trans HBa.out hb
  have HXb : Hid (BoxV wb w.heap.size #[l0, l1, l2] ∧ BoxV wb (w.heap.size + 1) #[.string door, x0, x1, x2, x3, x4, x5, x6, x7, x8, x9, x10, x11, x12, x13, x14, .int .i64 given, .slice (some ⟨B, 0, none⟩) ws.length ws.length]) := ⟨HXa.out.1.later hb, HXa.out.2.later hb⟩
  clear hb lz az c0 c1 c2 y0 y1 y2 y3 y4 y5 y6 y7 y8 y9 y10 y11 y12 y13 y14 y15 HXa HBa HA
  cases q
  · have HE : Hid (R = false) := by show R = false; rw [HR.out, hk]; rfl
    go_wp2
    go_ret
    exact ⟨Pl.ret_bool HE.out.symm, HBb.out⟩
  have az := HXb.out.2.lt
  have y16 : wb.cell? ⟨w.heap.size + 1, 16, none⟩ = some (.int .i64 given) := HXb.out.2.at_ 16
  have y17 : wb.cell? ⟨w.heap.size + 1, 17, none⟩ = some (.slice (some ⟨B, 0, none⟩) ws.length ws.length) := HXb.out.2.at_ 17
  by_cases g0 : given < 0
  · have HE : Hid (R = false) := by show R = false; rw [HR.out, hk, show decide (0 ≤ given) = false from decide_eq_false (by omega)]; rfl
    go_wp2
    go_ret
    exact ⟨Pl.ret_bool HE.out.symm, HBb.out⟩
  by_cases g1 : (8 : Int) < (ws.length : Int)
  · have HE : Hid (R = false) := by show R = false; rw [HR.out, hk, show decide (ws.length ≤ 8) = false from decide_eq_false (by omega)]; simp
    go_wp2
    go_ret
    exact ⟨Pl.ret_bool HE.out.symm, HBb.out⟩
  have HE : Hid (R = ws.all wantB) := by show R = _; rw [HR.out, hk, show decide (0 ≤ given) = true from decide_eq_true (by omega), show decide (ws.length ≤ 8) = true from decide_eq_true (by omega)]; rfl
  clear HR hk
  go_wp2
  clear y16 HXb
  go_loopw [5] (fun i wr => ∃ k : Nat, k ≤ ws.length ∧ i = .int .i64 k ∧ (ws.take k).all wantB = true ∧ wr = wb) (fun i _ => ws.length - (intOf i).toNat)
  case atStart => exact ⟨0, Nat.zero_le _, rfl, rfl, rfl⟩
  case round =>
    obtain ⟨k, hk, rfl, hq, rfl⟩ := hrel
    have HQ : Hid ((ws.take k).all wantB = true) := hq
    clear hq
    by_cases hlt : k < ws.length
    · obtain ⟨g, hg⟩ : ∃ g, g = ws.getD k Wn.none := ⟨_, rfl⟩
      have hc := (HC.out.later HBb.out).at_ k hlt
      have hgw : B < wr.heap.size := Nat.lt_of_lt_of_le HC.out.lt HBb.out.size
      rw [← hg] at hc
      obtain ⟨c0, c1, c2, s1, s2⟩ := hc
      have HG : Hid (g = ws.getD k Wn.none) := hg
      clear hg
      go_wp2_with fail
      refine (l1NameOk_any g.kind _ s1).mono ?_
      rintro e w' ⟨rfl, rfl⟩
      cases hn : Pl.nameOk g.kind
      · have HZ : Hid (R = false) := by show R = false; rw [HE.out]; exact wall_miss ws k hlt (by rw [← HG.out]; unfold wantB; rw [hn]; rfl)
        go_wp2
        go_ret
        exact ⟨Pl.ret_bool HZ.out.symm, HBb.out⟩
      go_wp2_with fail
      refine (l1NameOk_any g.name _ s2).mono ?_
      rintro e w' ⟨rfl, rfl⟩
      cases hm : Pl.nameOk g.name
      · have HZ : Hid (R = false) := by show R = false; rw [HE.out]; exact wall_miss ws k hlt (by rw [← HG.out]; unfold wantB; rw [hn, hm]; rfl)
        go_wp2
        go_ret
        exact ⟨Pl.ret_bool HZ.out.symm, HBb.out⟩
      by_cases c : g.version < 0
      · have HZ : Hid (R = false) := by show R = false; rw [HE.out]; exact wall_miss ws k hlt (by rw [← HG.out]; unfold wantB; rw [hn, hm, show decide (0 ≤ g.version) = false from decide_eq_false (by omega)]; rfl)
        go_wp2
        go_ret
        exact ⟨Pl.ret_bool HZ.out.symm, HBb.out⟩
      · have HZ : Hid ((ws.take (k + 1)).all wantB = true) := wall_snoc ws k hlt HQ.out (by rw [← HG.out]; unfold wantB; rw [hn, hm, show decide (0 ≤ g.version) = true from decide_eq_true (by omega)]; rfl)
        clear hn hm
        go_wp2
        go_roundw
        case rel => exact ⟨k + 1, by omega, by go_num, HZ.out, trivial⟩
        case measure => simp [intOf]; omega
    · have HZ : Hid (R = true) := by
        show R = true
        rw [HE.out]
        have h := HQ.out
        rwa [List.take_of_length_le (by omega)] at h
      go_wp2
      go_ret
      exact ⟨Pl.ret_bool HZ.out.symm, HBb.out⟩

end Go.Proofs.YtkjkklcflpchlaaGreat

namespace Go.Proofs.YtkjkklcflpchlaaGreat
open Go.RowKit Go.Deep

def slipOkB (L : Lw) (s : Sl) : Bool := lawOk L && slipR s.door (askB L s.ask (kindFields L s.ask)) s.given s.wants

set_option maxRecDepth 8000 in
set_option maxHeartbeats 8000000 in
theorem slipBothI (l0 l1 l2 s0 s1 s2 s3 s4 s5 s6 s7 s8 s9 s10 s11 s12 s13 s14 s15 s16 s17 : Value) (g r : Bool) (w : World)
    (HL : Hid (∀ W, Below w.heap.size w W → Calls Tryz.prog 30 #[.agg #[l0, l1, l2]] W fun e w' => e = .returned (.bool g) ∧ Below W.heap.size W w'))
    (HS : Hid (∀ W, Below w.heap.size w W → Calls Tryz.prog 40 #[.agg #[l0, l1, l2], .agg #[s0, s1, s2, s3, s4, s5, s6, s7, s8, s9, s10, s11, s12, s13, s14, s15, s16, s17]] W fun e w' => e = .returned (.bool r) ∧ Below W.heap.size W w')) :
    Calls Tryz.prog 16 #[.agg #[l0, l1, l2], .agg #[s0, s1, s2, s3, s4, s5, s6, s7, s8, s9, s10, s11, s12, s13, s14, s15, s16, s17]] w fun e w' => e = .returned (.bool (g && r)) ∧ Below w.heap.size w w' := by
  obtain ⟨wa, hwa⟩ : ∃ wa, wa = (w.alloc (.cells #[l0, l1, l2] 40)).alloc (.cells #[s0, s1, s2, s3, s4, s5, s6, s7, s8, s9, s10, s11, s12, s13, s14, s15, s16, s17] 56) := ⟨_, rfl⟩
  have HBa : Hid (Below w.heap.size w wa) := by show Below _ _ _; rw [hwa]; exact blw_alloc (blw_alloc (Below.refl _ _) _) _
  have HXa : Hid (BoxV wa w.heap.size #[l0, l1, l2] ∧ BoxV wa (w.heap.size + 1) #[s0, s1, s2, s3, s4, s5, s6, s7, s8, s9, s10, s11, s12, s13, s14, s15, s16, s17]) := by show _ ∧ _; rw [hwa]; exact ⟨(BoxV.new' _ _ _ _ rfl).past _, BoxV.new' _ _ _ _ (by simp)⟩
  go_enter Tryz.func16, Tryz.ntmps16
  go_upto_region 1 with fail
  rw [← hwa]
  clear hwa
  have lz := HXa.out.1.lt
  have c0 : wa.cell? ⟨w.heap.size, 0, none⟩ = some l0 := HXa.out.1.at_ 0
  have c1 : wa.cell? ⟨w.heap.size, 1, none⟩ = some l1 := HXa.out.1.at_ 1
  have c2 : wa.cell? ⟨w.heap.size, 2, none⟩ = some l2 := HXa.out.1.at_ 2
  go_wp2_with fail
  refine (HL.out wa HBa.out).mono ?_
  rintro e wb ⟨rfl, hb⟩
  have HBb : Hid (Below w.heap.size w wb) := blw_trans HBa.out hb
  have HXb : Hid (BoxV wb w.heap.size #[l0, l1, l2] ∧ BoxV wb (w.heap.size + 1) #[s0, s1, s2, s3, s4, s5, s6, s7, s8, s9, s10, s11, s12, s13, s14, s15, s16, s17]) := ⟨HXa.out.1.later hb, HXa.out.2.later hb⟩
  clear hb lz c0 c1 c2 HXa HBa
  cases g
  · go_wp2
    go_ret
    exact ⟨rfl, HBb.out⟩
  have lz := HXb.out.1.lt
  have az := HXb.out.2.lt
  have c0 : wb.cell? ⟨w.heap.size, 0, none⟩ = some l0 := HXb.out.1.at_ 0
  have c1 : wb.cell? ⟨w.heap.size, 1, none⟩ = some l1 := HXb.out.1.at_ 1
  have c2 : wb.cell? ⟨w.heap.size, 2, none⟩ = some l2 := HXb.out.1.at_ 2
  have y0 : wb.cell? ⟨w.heap.size + 1, 0, none⟩ = some s0 := HXb.out.2.at_ 0
  have y1 : wb.cell? ⟨w.heap.size + 1, 1, none⟩ = some s1 := HXb.out.2.at_ 1
  have y2 : wb.cell? ⟨w.heap.size + 1, 2, none⟩ = some s2 := HXb.out.2.at_ 2
  have y3 : wb.cell? ⟨w.heap.size + 1, 3, none⟩ = some s3 := HXb.out.2.at_ 3
  have y4 : wb.cell? ⟨w.heap.size + 1, 4, none⟩ = some s4 := HXb.out.2.at_ 4
  have y5 : wb.cell? ⟨w.heap.size + 1, 5, none⟩ = some s5 := HXb.out.2.at_ 5
  have y6 : wb.cell? ⟨w.heap.size + 1, 6, none⟩ = some s6 := HXb.out.2.at_ 6
  have y7 : wb.cell? ⟨w.heap.size + 1, 7, none⟩ = some s7 := HXb.out.2.at_ 7
  have y8 : wb.cell? ⟨w.heap.size + 1, 8, none⟩ = some s8 := HXb.out.2.at_ 8
  have y9 : wb.cell? ⟨w.heap.size + 1, 9, none⟩ = some s9 := HXb.out.2.at_ 9
  have y10 : wb.cell? ⟨w.heap.size + 1, 10, none⟩ = some s10 := HXb.out.2.at_ 10
  have y11 : wb.cell? ⟨w.heap.size + 1, 11, none⟩ = some s11 := HXb.out.2.at_ 11
  have y12 : wb.cell? ⟨w.heap.size + 1, 12, none⟩ = some s12 := HXb.out.2.at_ 12
  have y13 : wb.cell? ⟨w.heap.size + 1, 13, none⟩ = some s13 := HXb.out.2.at_ 13
  have y14 : wb.cell? ⟨w.heap.size + 1, 14, none⟩ = some s14 := HXb.out.2.at_ 14
  have y15 : wb.cell? ⟨w.heap.size + 1, 15, none⟩ = some s15 := HXb.out.2.at_ 15
  have y16 : wb.cell? ⟨w.heap.size + 1, 16, none⟩ = some s16 := HXb.out.2.at_ 16
  have y17 : wb.cell? ⟨w.heap.size + 1, 17, none⟩ = some s17 := HXb.out.2.at_ 17
  go_wp2_with fail
  refine (HS.out wb HBb.out).mono ?_
  rintro e wc ⟨rfl, hb⟩
  have HBc : Hid (Below w.heap.size w wc) := blw_trans HBb.out hb
  clear hb lz az c0 c1 c2 y0 y1 y2 y3 y4 y5 y6 y7 y8 y9 y10 y11 y12 y13 y14 y15 y16 y17 HXb HBb
  go_wp2
  go_ret
  exact ⟨rfl, HBc.out⟩

set_option maxRecDepth 8000 in
set_option maxHeartbeats 8000000 in
theorem slipBothS (l0 l1 l2 s0 s1 s2 s3 s4 s5 s6 s7 s8 s9 s10 s11 s12 s13 s14 s15 s16 s17 : Value) (g r : Bool) (w : World)
    (HL : Hid (∀ W, Below w.heap.size w W → Calls Tryz.prog 23 #[.agg #[l0, l1, l2]] W fun e w' => e = .returned (.bool g) ∧ Below W.heap.size W w'))
    (HS : Hid (∀ W, Below w.heap.size w W → Calls Tryz.prog 38 #[.agg #[l0, l1, l2], .agg #[s0, s1, s2, s3, s4, s5, s6, s7, s8, s9, s10, s11, s12, s13, s14, s15, s16, s17]] W fun e w' => e = .returned (.bool r) ∧ Below W.heap.size W w')) :
    Calls Tryz.prog 14 #[.agg #[l0, l1, l2], .agg #[s0, s1, s2, s3, s4, s5, s6, s7, s8, s9, s10, s11, s12, s13, s14, s15, s16, s17]] w fun e w' => e = .returned (.bool (g && r)) ∧ Below w.heap.size w w' := by
  obtain ⟨wa, hwa⟩ : ∃ wa, wa = (w.alloc (.cells #[l0, l1, l2] 40)).alloc (.cells #[s0, s1, s2, s3, s4, s5, s6, s7, s8, s9, s10, s11, s12, s13, s14, s15, s16, s17] 56) := ⟨_, rfl⟩
  have HBa : Hid (Below w.heap.size w wa) := by show Below _ _ _; rw [hwa]; exact blw_alloc (blw_alloc (Below.refl _ _) _) _
  have HXa : Hid (BoxV wa w.heap.size #[l0, l1, l2] ∧ BoxV wa (w.heap.size + 1) #[s0, s1, s2, s3, s4, s5, s6, s7, s8, s9, s10, s11, s12, s13, s14, s15, s16, s17]) := by show _ ∧ _; rw [hwa]; exact ⟨(BoxV.new' _ _ _ _ rfl).past _, BoxV.new' _ _ _ _ (by simp)⟩
  go_enter Tryz.func14, Tryz.ntmps14
  go_upto_region 1 with fail
  rw [← hwa]
  clear hwa
  have lz := HXa.out.1.lt
  have c0 : wa.cell? ⟨w.heap.size, 0, none⟩ = some l0 := HXa.out.1.at_ 0
  have c1 : wa.cell? ⟨w.heap.size, 1, none⟩ = some l1 := HXa.out.1.at_ 1
  have c2 : wa.cell? ⟨w.heap.size, 2, none⟩ = some l2 := HXa.out.1.at_ 2
  go_wp2_with fail
  refine (HL.out wa HBa.out).mono ?_
  rintro e wb ⟨rfl, hb⟩
  have HBb : Hid (Below w.heap.size w wb) := blw_trans HBa.out hb
  have HXb : Hid (BoxV wb w.heap.size #[l0, l1, l2] ∧ BoxV wb (w.heap.size + 1) #[s0, s1, s2, s3, s4, s5, s6, s7, s8, s9, s10, s11, s12, s13, s14, s15, s16, s17]) := ⟨HXa.out.1.later hb, HXa.out.2.later hb⟩
  clear hb lz c0 c1 c2 HXa HBa
  cases g
  · go_wp2
    go_ret
    exact ⟨rfl, HBb.out⟩
  have lz := HXb.out.1.lt
  have az := HXb.out.2.lt
  have c0 : wb.cell? ⟨w.heap.size, 0, none⟩ = some l0 := HXb.out.1.at_ 0
  have c1 : wb.cell? ⟨w.heap.size, 1, none⟩ = some l1 := HXb.out.1.at_ 1
  have c2 : wb.cell? ⟨w.heap.size, 2, none⟩ = some l2 := HXb.out.1.at_ 2
  have y0 : wb.cell? ⟨w.heap.size + 1, 0, none⟩ = some s0 := HXb.out.2.at_ 0
  have y1 : wb.cell? ⟨w.heap.size + 1, 1, none⟩ = some s1 := HXb.out.2.at_ 1
  have y2 : wb.cell? ⟨w.heap.size + 1, 2, none⟩ = some s2 := HXb.out.2.at_ 2
  have y3 : wb.cell? ⟨w.heap.size + 1, 3, none⟩ = some s3 := HXb.out.2.at_ 3
  have y4 : wb.cell? ⟨w.heap.size + 1, 4, none⟩ = some s4 := HXb.out.2.at_ 4
  have y5 : wb.cell? ⟨w.heap.size + 1, 5, none⟩ = some s5 := HXb.out.2.at_ 5
  have y6 : wb.cell? ⟨w.heap.size + 1, 6, none⟩ = some s6 := HXb.out.2.at_ 6
  have y7 : wb.cell? ⟨w.heap.size + 1, 7, none⟩ = some s7 := HXb.out.2.at_ 7
  have y8 : wb.cell? ⟨w.heap.size + 1, 8, none⟩ = some s8 := HXb.out.2.at_ 8
  have y9 : wb.cell? ⟨w.heap.size + 1, 9, none⟩ = some s9 := HXb.out.2.at_ 9
  have y10 : wb.cell? ⟨w.heap.size + 1, 10, none⟩ = some s10 := HXb.out.2.at_ 10
  have y11 : wb.cell? ⟨w.heap.size + 1, 11, none⟩ = some s11 := HXb.out.2.at_ 11
  have y12 : wb.cell? ⟨w.heap.size + 1, 12, none⟩ = some s12 := HXb.out.2.at_ 12
  have y13 : wb.cell? ⟨w.heap.size + 1, 13, none⟩ = some s13 := HXb.out.2.at_ 13
  have y14 : wb.cell? ⟨w.heap.size + 1, 14, none⟩ = some s14 := HXb.out.2.at_ 14
  have y15 : wb.cell? ⟨w.heap.size + 1, 15, none⟩ = some s15 := HXb.out.2.at_ 15
  have y16 : wb.cell? ⟨w.heap.size + 1, 16, none⟩ = some s16 := HXb.out.2.at_ 16
  have y17 : wb.cell? ⟨w.heap.size + 1, 17, none⟩ = some s17 := HXb.out.2.at_ 17
  go_wp2_with fail
  refine (HS.out wb HBb.out).mono ?_
  rintro e wc ⟨rfl, hb⟩
  have HBc : Hid (Below w.heap.size w wc) := blw_trans HBb.out hb
  clear hb lz az c0 c1 c2 y0 y1 y2 y3 y4 y5 y6 y7 y8 y9 y10 y11 y12 y13 y14 y15 y16 y17 HXb HBb
  go_wp2
  go_ret
  exact ⟨rfl, HBc.out⟩

theorem slipOkI (L : Lw) (s : Sl) (a0 a1 a2 b1 b2 b3 b4 : Nat) (w : World) (hL : LwIn w a0 a1 a2 L) (h : SlIn w b1 b2 b3 b4 s) :
    Calls Tryz.prog 16 #[.agg #[.slice (some ⟨a0, 0, none⟩) L.shapes.length L.shapes.length, .slice (some ⟨a1, 0, none⟩) L.mends.length L.mends.length, .slice (some ⟨a2, 0, none⟩) L.teams.length L.teams.length], .agg #[.string s.door, .string s.ask.who, .int .i64 s.ask.verb, .string s.ask.kind, .string s.ask.name, .string s.ask.team, .slice (some ⟨b1, 0, none⟩) s.ask.values.length s.ask.values.length, .slice (some ⟨b2, 0, none⟩) s.ask.holds.length s.ask.holds.length, .int .i64 s.ask.seen, .string s.ask.hold, .string s.ask.to_, .slice (some ⟨b3, 0, none⟩) s.ask.rule.verbs.length s.ask.rule.verbs.length, .string s.ask.rule.kind, .string s.ask.rule.team, .string s.ask.rule.pre, .int .i64 s.ask.number, .int .i64 s.given, .slice (some ⟨b4, 0, none⟩) s.wants.length s.wants.length]] w fun e w' => e = .returned (.bool (slipOkB L s)) ∧ Below w.heap.size w w' := by
  refine slipBothI (.slice (some ⟨a0, 0, none⟩) L.shapes.length L.shapes.length) (.slice (some ⟨a1, 0, none⟩) L.mends.length L.mends.length) (.slice (some ⟨a2, 0, none⟩) L.teams.length L.teams.length) (.string s.door) (.string s.ask.who) (.int .i64 s.ask.verb) (.string s.ask.kind) (.string s.ask.name) (.string s.ask.team) (.slice (some ⟨b1, 0, none⟩) s.ask.values.length s.ask.values.length) (.slice (some ⟨b2, 0, none⟩) s.ask.holds.length s.ask.holds.length) (.int .i64 s.ask.seen) (.string s.ask.hold) (.string s.ask.to_) (.slice (some ⟨b3, 0, none⟩) s.ask.rule.verbs.length s.ask.rule.verbs.length) (.string s.ask.rule.kind) (.string s.ask.rule.team) (.string s.ask.rule.pre) (.int .i64 s.ask.number) (.int .i64 s.given) (.slice (some ⟨b4, 0, none⟩) s.wants.length s.wants.length) (lawOk L) (slipR s.door (askB L s.ask (kindFields L s.ask)) s.given s.wants) w ?_ ?_
  · exact fun W hW => lawOkI L a0 a1 a2 W (hL.later hW)
  · intro W hW
    refine gateSlipO (.slice (some ⟨a0, 0, none⟩) L.shapes.length L.shapes.length) (.slice (some ⟨a1, 0, none⟩) L.mends.length L.mends.length) (.slice (some ⟨a2, 0, none⟩) L.teams.length L.teams.length) s.door (.string s.ask.who) (.int .i64 s.ask.verb) (.string s.ask.kind) (.string s.ask.name) (.string s.ask.team) (.slice (some ⟨b1, 0, none⟩) s.ask.values.length s.ask.values.length) (.slice (some ⟨b2, 0, none⟩) s.ask.holds.length s.ask.holds.length) (.int .i64 s.ask.seen) (.string s.ask.hold) (.string s.ask.to_) (.slice (some ⟨b3, 0, none⟩) s.ask.rule.verbs.length s.ask.rule.verbs.length) (.string s.ask.rule.kind) (.string s.ask.rule.team) (.string s.ask.rule.pre) (.int .i64 s.ask.number) s.given b4 s.wants (askB L s.ask (kindFields L s.ask)) W h.sz (h.wn.later hW) ?_
    intro W' hW'
    have hq := blw_trans hW hW'
    refine (gateAskI L s.ask a0 a1 a2 b1 b2 b3 W' (hL.later hq) (h.ak.later hq)).mono ?_
    rintro e w' ⟨⟨n, rfl, hn⟩, hb⟩
    rw [askB_same L s.ask n (kindFields L s.ask) hn]
    exact ⟨rfl, hb⟩

theorem slipOkS (L : Lw) (s : Sl) (a0 a1 a2 b1 b2 b3 b4 : Nat) (w : World) (hL : LwIn w a0 a1 a2 L) (h : SlIn w b1 b2 b3 b4 s) :
    Calls Tryz.prog 14 #[.agg #[.slice (some ⟨a0, 0, none⟩) L.shapes.length L.shapes.length, .slice (some ⟨a1, 0, none⟩) L.mends.length L.mends.length, .slice (some ⟨a2, 0, none⟩) L.teams.length L.teams.length], .agg #[.string s.door, .string s.ask.who, .int .i64 s.ask.verb, .string s.ask.kind, .string s.ask.name, .string s.ask.team, .slice (some ⟨b1, 0, none⟩) s.ask.values.length s.ask.values.length, .slice (some ⟨b2, 0, none⟩) s.ask.holds.length s.ask.holds.length, .int .i64 s.ask.seen, .string s.ask.hold, .string s.ask.to_, .slice (some ⟨b3, 0, none⟩) s.ask.rule.verbs.length s.ask.rule.verbs.length, .string s.ask.rule.kind, .string s.ask.rule.team, .string s.ask.rule.pre, .int .i64 s.ask.number, .int .i64 s.given, .slice (some ⟨b4, 0, none⟩) s.wants.length s.wants.length]] w fun e w' => e = .returned (.bool (slipOkB L s)) ∧ Below w.heap.size w w' := by
  refine slipBothS (.slice (some ⟨a0, 0, none⟩) L.shapes.length L.shapes.length) (.slice (some ⟨a1, 0, none⟩) L.mends.length L.mends.length) (.slice (some ⟨a2, 0, none⟩) L.teams.length L.teams.length) (.string s.door) (.string s.ask.who) (.int .i64 s.ask.verb) (.string s.ask.kind) (.string s.ask.name) (.string s.ask.team) (.slice (some ⟨b1, 0, none⟩) s.ask.values.length s.ask.values.length) (.slice (some ⟨b2, 0, none⟩) s.ask.holds.length s.ask.holds.length) (.int .i64 s.ask.seen) (.string s.ask.hold) (.string s.ask.to_) (.slice (some ⟨b3, 0, none⟩) s.ask.rule.verbs.length s.ask.rule.verbs.length) (.string s.ask.rule.kind) (.string s.ask.rule.team) (.string s.ask.rule.pre) (.int .i64 s.ask.number) (.int .i64 s.given) (.slice (some ⟨b4, 0, none⟩) s.wants.length s.wants.length) (lawOk L) (slipR s.door (askB L s.ask (kindFields L s.ask)) s.given s.wants) w ?_ ?_
  · exact fun W hW => lawOkS L a0 a1 a2 W (hL.later hW)
  · intro W hW
    refine l9SlipO (.slice (some ⟨a0, 0, none⟩) L.shapes.length L.shapes.length) (.slice (some ⟨a1, 0, none⟩) L.mends.length L.mends.length) (.slice (some ⟨a2, 0, none⟩) L.teams.length L.teams.length) s.door (.string s.ask.who) (.int .i64 s.ask.verb) (.string s.ask.kind) (.string s.ask.name) (.string s.ask.team) (.slice (some ⟨b1, 0, none⟩) s.ask.values.length s.ask.values.length) (.slice (some ⟨b2, 0, none⟩) s.ask.holds.length s.ask.holds.length) (.int .i64 s.ask.seen) (.string s.ask.hold) (.string s.ask.to_) (.slice (some ⟨b3, 0, none⟩) s.ask.rule.verbs.length s.ask.rule.verbs.length) (.string s.ask.rule.kind) (.string s.ask.rule.team) (.string s.ask.rule.pre) (.int .i64 s.ask.number) s.given b4 s.wants (askB L s.ask (kindFields L s.ask)) W h.sz (h.wn.later hW) ?_
    intro W' hW'
    have hq := blw_trans hW hW'
    exact l8AskS L s.ask a0 a1 a2 b1 b2 b3 W' (hL.later hq) (h.ak.later hq)

end Go.Proofs.YtkjkklcflpchlaaGreat

namespace Go.Proofs.YtkjkklcflpchlaaGreat
open Go.RowKit Go.Deep

set_option maxRecDepth 8000 in
set_option maxHeartbeats 8000000 in
theorem eqSlO (door : ByteArray) (d0 d1 d2 d3 d4 d5 d6 d7 d8 d9 d10 d11 d12 d13 d14 e0 e1 e2 e3 e4 e5 e6 e7 e8 e9 e10 e11 e12 e13 e14 : Value) (given : Int) (u1 u2 : Value) (w : World) (HA : Hid (∀ W, Below w.heap.size w W → Calls Tryz.prog 12 #[.agg #[d0, d1, d2, d3, d4, d5, d6, d7, d8, d9, d10, d11, d12, d13, d14], .agg #[e0, e1, e2, e3, e4, e5, e6, e7, e8, e9, e10, e11, e12, e13, e14]] W fun e w' => e = .returned (.bool true) ∧ Below W.heap.size W w')) (HW : Hid (∀ W, Below w.heap.size w W → Calls Tryz.prog 41 #[u1, u2] W fun e w' => e = .returned (.bool true) ∧ Below W.heap.size W w')) :
    Calls Tryz.prog 17 #[.agg #[.string door, d0, d1, d2, d3, d4, d5, d6, d7, d8, d9, d10, d11, d12, d13, d14, .int .i64 given, u1], .agg #[.string door, e0, e1, e2, e3, e4, e5, e6, e7, e8, e9, e10, e11, e12, e13, e14, .int .i64 given, u2]] w fun e w' => e = .returned (.bool true) ∧ Below w.heap.size w w' := by
  obtain ⟨wa, hwa⟩ : ∃ wa, wa = (w.alloc (.cells #[.string door, d0, d1, d2, d3, d4, d5, d6, d7, d8, d9, d10, d11, d12, d13, d14, .int .i64 given, u1] 56)).alloc (.cells #[.string door, e0, e1, e2, e3, e4, e5, e6, e7, e8, e9, e10, e11, e12, e13, e14, .int .i64 given, u2] 56) := ⟨_, rfl⟩
  have HBa : Hid (Below w.heap.size w wa) := by show Below _ _ _; rw [hwa]; exact blw_alloc (blw_alloc (Below.refl _ _) _) _
  have HXa : Hid (BoxV wa w.heap.size #[.string door, d0, d1, d2, d3, d4, d5, d6, d7, d8, d9, d10, d11, d12, d13, d14, .int .i64 given, u1] ∧ BoxV wa (w.heap.size + 1) #[.string door, e0, e1, e2, e3, e4, e5, e6, e7, e8, e9, e10, e11, e12, e13, e14, .int .i64 given, u2]) := by show _ ∧ _; rw [hwa]; exact ⟨(BoxV.new' _ _ _ _ rfl).past _, BoxV.new' _ _ _ _ (by simp)⟩
  go_enter Tryz.func17, Tryz.ntmps17
  go_upto_region 1 with fail
  rw [← hwa]
  clear hwa
  have xz := HXa.out.1.lt
  have yz := HXa.out.2.lt
  have x0 : wa.cell? ⟨w.heap.size, 0, none⟩ = some (.string door) := HXa.out.1.at_ 0
  have y0 : wa.cell? ⟨w.heap.size + 1, 0, none⟩ = some (.string door) := HXa.out.2.at_ 0
  have x1 : wa.cell? ⟨w.heap.size, 1, none⟩ = some (d0) := HXa.out.1.at_ 1
  have y1 : wa.cell? ⟨w.heap.size + 1, 1, none⟩ = some (e0) := HXa.out.2.at_ 1
  have x2 : wa.cell? ⟨w.heap.size, 2, none⟩ = some (d1) := HXa.out.1.at_ 2
  have y2 : wa.cell? ⟨w.heap.size + 1, 2, none⟩ = some (e1) := HXa.out.2.at_ 2
  have x3 : wa.cell? ⟨w.heap.size, 3, none⟩ = some (d2) := HXa.out.1.at_ 3
  have y3 : wa.cell? ⟨w.heap.size + 1, 3, none⟩ = some (e2) := HXa.out.2.at_ 3
  have x4 : wa.cell? ⟨w.heap.size, 4, none⟩ = some (d3) := HXa.out.1.at_ 4
  have y4 : wa.cell? ⟨w.heap.size + 1, 4, none⟩ = some (e3) := HXa.out.2.at_ 4
  have x5 : wa.cell? ⟨w.heap.size, 5, none⟩ = some (d4) := HXa.out.1.at_ 5
  have y5 : wa.cell? ⟨w.heap.size + 1, 5, none⟩ = some (e4) := HXa.out.2.at_ 5
  have x6 : wa.cell? ⟨w.heap.size, 6, none⟩ = some (d5) := HXa.out.1.at_ 6
  have y6 : wa.cell? ⟨w.heap.size + 1, 6, none⟩ = some (e5) := HXa.out.2.at_ 6
  have x7 : wa.cell? ⟨w.heap.size, 7, none⟩ = some (d6) := HXa.out.1.at_ 7
  have y7 : wa.cell? ⟨w.heap.size + 1, 7, none⟩ = some (e6) := HXa.out.2.at_ 7
  have x8 : wa.cell? ⟨w.heap.size, 8, none⟩ = some (d7) := HXa.out.1.at_ 8
  have y8 : wa.cell? ⟨w.heap.size + 1, 8, none⟩ = some (e7) := HXa.out.2.at_ 8
  have x9 : wa.cell? ⟨w.heap.size, 9, none⟩ = some (d8) := HXa.out.1.at_ 9
  have y9 : wa.cell? ⟨w.heap.size + 1, 9, none⟩ = some (e8) := HXa.out.2.at_ 9
  have x10 : wa.cell? ⟨w.heap.size, 10, none⟩ = some (d9) := HXa.out.1.at_ 10
  have y10 : wa.cell? ⟨w.heap.size + 1, 10, none⟩ = some (e9) := HXa.out.2.at_ 10
  have x11 : wa.cell? ⟨w.heap.size, 11, none⟩ = some (d10) := HXa.out.1.at_ 11
  have y11 : wa.cell? ⟨w.heap.size + 1, 11, none⟩ = some (e10) := HXa.out.2.at_ 11
  have x12 : wa.cell? ⟨w.heap.size, 12, none⟩ = some (d11) := HXa.out.1.at_ 12
  have y12 : wa.cell? ⟨w.heap.size + 1, 12, none⟩ = some (e11) := HXa.out.2.at_ 12
  have x13 : wa.cell? ⟨w.heap.size, 13, none⟩ = some (d12) := HXa.out.1.at_ 13
  have y13 : wa.cell? ⟨w.heap.size + 1, 13, none⟩ = some (e12) := HXa.out.2.at_ 13
  have x14 : wa.cell? ⟨w.heap.size, 14, none⟩ = some (d13) := HXa.out.1.at_ 14
  have y14 : wa.cell? ⟨w.heap.size + 1, 14, none⟩ = some (e13) := HXa.out.2.at_ 14
  have x15 : wa.cell? ⟨w.heap.size, 15, none⟩ = some (d14) := HXa.out.1.at_ 15
  have y15 : wa.cell? ⟨w.heap.size + 1, 15, none⟩ = some (e14) := HXa.out.2.at_ 15
  go_wp2_with fail
  refine (HA.out wa HBa.out).mono ?_
  rintro e wb ⟨rfl, hb⟩
  have HBb : Hid (Below w.heap.size w wb) := blw_trans HBa.out hb
  have HXb : Hid (BoxV wb w.heap.size #[.string door, d0, d1, d2, d3, d4, d5, d6, d7, d8, d9, d10, d11, d12, d13, d14, .int .i64 given, u1] ∧ BoxV wb (w.heap.size + 1) #[.string door, e0, e1, e2, e3, e4, e5, e6, e7, e8, e9, e10, e11, e12, e13, e14, .int .i64 given, u2]) := ⟨HXa.out.1.later hb, HXa.out.2.later hb⟩
  clear hb xz yz x0 y0 x1 y1 x2 y2 x3 y3 x4 y4 x5 y5 x6 y6 x7 y7 x8 y8 x9 y9 x10 y10 x11 y11 x12 y12 x13 y13 x14 y14 x15 y15 HXa HBa
  have xz := HXb.out.1.lt
  have yz := HXb.out.2.lt
  have x16 : wb.cell? ⟨w.heap.size, 16, none⟩ = some (.int .i64 given) := HXb.out.1.at_ 16
  have y16 : wb.cell? ⟨w.heap.size + 1, 16, none⟩ = some (.int .i64 given) := HXb.out.2.at_ 16
  have x17 : wb.cell? ⟨w.heap.size, 17, none⟩ = some (u1) := HXb.out.1.at_ 17
  have y17 : wb.cell? ⟨w.heap.size + 1, 17, none⟩ = some (u2) := HXb.out.2.at_ 17
  go_wp2_with fail
  refine (HW.out wb HBb.out).mono ?_
  rintro e wc ⟨rfl, hb⟩
  have HBc : Hid (Below w.heap.size w wc) := blw_trans HBb.out hb
  clear hb xz yz x16 y16 x17 y17 HXb HBb
  go_wp2
  go_ret
  exact ⟨rfl, HBc.out⟩

theorem eqSl (s : Sl) (b1 b2 b3 b4 q1 q2 q3 q4 : Nat) (w : World) (h : SlIn w b1 b2 b3 b4 s) (h' : SlIn w q1 q2 q3 q4 s) :
    Calls Tryz.prog 17 #[.agg #[.string s.door, .string s.ask.who, .int .i64 s.ask.verb, .string s.ask.kind, .string s.ask.name, .string s.ask.team, .slice (some ⟨b1, 0, none⟩) s.ask.values.length s.ask.values.length, .slice (some ⟨b2, 0, none⟩) s.ask.holds.length s.ask.holds.length, .int .i64 s.ask.seen, .string s.ask.hold, .string s.ask.to_, .slice (some ⟨b3, 0, none⟩) s.ask.rule.verbs.length s.ask.rule.verbs.length, .string s.ask.rule.kind, .string s.ask.rule.team, .string s.ask.rule.pre, .int .i64 s.ask.number, .int .i64 s.given, .slice (some ⟨b4, 0, none⟩) s.wants.length s.wants.length], .agg #[.string s.door, .string s.ask.who, .int .i64 s.ask.verb, .string s.ask.kind, .string s.ask.name, .string s.ask.team, .slice (some ⟨q1, 0, none⟩) s.ask.values.length s.ask.values.length, .slice (some ⟨q2, 0, none⟩) s.ask.holds.length s.ask.holds.length, .int .i64 s.ask.seen, .string s.ask.hold, .string s.ask.to_, .slice (some ⟨q3, 0, none⟩) s.ask.rule.verbs.length s.ask.rule.verbs.length, .string s.ask.rule.kind, .string s.ask.rule.team, .string s.ask.rule.pre, .int .i64 s.ask.number, .int .i64 s.given, .slice (some ⟨q4, 0, none⟩) s.wants.length s.wants.length]] w fun e w' => e = .returned (.bool true) ∧ Below w.heap.size w w' := by
  refine eqSlO s.door (.string s.ask.who) (.int .i64 s.ask.verb) (.string s.ask.kind) (.string s.ask.name) (.string s.ask.team) (.slice (some ⟨b1, 0, none⟩) s.ask.values.length s.ask.values.length) (.slice (some ⟨b2, 0, none⟩) s.ask.holds.length s.ask.holds.length) (.int .i64 s.ask.seen) (.string s.ask.hold) (.string s.ask.to_) (.slice (some ⟨b3, 0, none⟩) s.ask.rule.verbs.length s.ask.rule.verbs.length) (.string s.ask.rule.kind) (.string s.ask.rule.team) (.string s.ask.rule.pre) (.int .i64 s.ask.number) (.string s.ask.who) (.int .i64 s.ask.verb) (.string s.ask.kind) (.string s.ask.name) (.string s.ask.team) (.slice (some ⟨q1, 0, none⟩) s.ask.values.length s.ask.values.length) (.slice (some ⟨q2, 0, none⟩) s.ask.holds.length s.ask.holds.length) (.int .i64 s.ask.seen) (.string s.ask.hold) (.string s.ask.to_) (.slice (some ⟨q3, 0, none⟩) s.ask.rule.verbs.length s.ask.rule.verbs.length) (.string s.ask.rule.kind) (.string s.ask.rule.team) (.string s.ask.rule.pre) (.int .i64 s.ask.number) s.given _ _ w ?_ ?_
  · exact fun W hW => eqAk s.ask b1 b2 b3 q1 q2 q3 W (h.ak.later hW) (h'.ak.later hW)
  · exact fun W hW => eqWns b4 q4 s.wants W (h.wn.later hW) (h'.wn.later hW)

end Go.Proofs.YtkjkklcflpchlaaGreat

namespace Go.Proofs.YtkjkklcflpchlaaGreat
open Go.RowKit Go.Deep

theorem lawSlipOk (L : Lw) (lv0 lv1 lv2 : Value) (s : Sl) (v1 v2 : Value) (ra : Option Addr) (rc : Nat) (wv : Value) (w : World) (h0 : LwAt w lv0 lv1 lv2 L) (h1 : SlAt w v1 v2 ra rc wv s) :
    Calls Tryz.prog 4 #[.agg #[lv0, lv1, lv2], .agg #[.string s.door, .string s.ask.who, .int .i64 s.ask.verb, .string s.ask.kind, .string s.ask.name, .string s.ask.team, v1, v2, .int .i64 s.ask.seen, .string s.ask.hold, .string s.ask.to_, .slice ra s.ask.rule.verbs.length rc, .string s.ask.rule.kind, .string s.ask.rule.team, .string s.ask.rule.pre, .int .i64 s.ask.number, .int .i64 s.given, wv]] w fun e w' => e = .returned (.bool true) ∧ Below w.heap.size w w' := by
  refine lawSlO lv0 lv1 lv2 (.string s.door) (.string s.ask.who) (.int .i64 s.ask.verb) (.string s.ask.kind) (.string s.ask.name) (.string s.ask.team) (v1) (v2) (.int .i64 s.ask.seen) (.string s.ask.hold) (.string s.ask.to_) (.slice ra s.ask.rule.verbs.length rc) (.string s.ask.rule.kind) (.string s.ask.rule.team) (.string s.ask.rule.pre) (.int .i64 s.ask.number) (.int .i64 s.given) (wv) w (slipOkB L s) L.small (fun W d => ∃ a0 a1 a2, d = #[.slice (some ⟨a0, 0, none⟩) L.shapes.length L.shapes.length, .slice (some ⟨a1, 0, none⟩) L.mends.length L.mends.length, .slice (some ⟨a2, 0, none⟩) L.teams.length L.teams.length] ∧ LwIn W a0 a1 a2 L) s.small (fun W d => ∃ b1 b2 b3 b4, d = #[.string s.door, .string s.ask.who, .int .i64 s.ask.verb, .string s.ask.kind, .string s.ask.name, .string s.ask.team, .slice (some ⟨b1, 0, none⟩) s.ask.values.length s.ask.values.length, .slice (some ⟨b2, 0, none⟩) s.ask.holds.length s.ask.holds.length, .int .i64 s.ask.seen, .string s.ask.hold, .string s.ask.to_, .slice (some ⟨b3, 0, none⟩) s.ask.rule.verbs.length s.ask.rule.verbs.length, .string s.ask.rule.kind, .string s.ask.rule.team, .string s.ask.rule.pre, .int .i64 s.ask.number, .int .i64 s.given, .slice (some ⟨b4, 0, none⟩) s.wants.length s.wants.length] ∧ SlIn W b1 b2 b3 b4 s) ?_ ?_ ?_ ?_ ?_ ?_ ?_ ?_ ?_ ?_
  · exact fun W left hW k0 k1 => szLaw L lv0 lv1 lv2 left W k0 k1 (h0.later hW)
  · intro hs W hW
    refine (toLaw L lv0 lv1 lv2 W hs (h0.later hW)).mono ?_
    rintro e w' ⟨⟨a0, a1, a2, rfl, hi, _⟩, hb⟩
    exact ⟨⟨_, _, _, _, _, _, _, _, _, rfl, a0, a1, a2, rfl, hi⟩, hb⟩
  · rintro W W' d ⟨a0, a1, a2, rfl, h⟩ hb
    exact ⟨a0, a1, a2, rfl, h.later hb⟩
  · rintro W d d' ⟨a0, a1, a2, rfl, h⟩ ⟨b0, b1, b2, rfl, h'⟩
    exact eqLaw L a0 a1 a2 b0 b1 b2 W h h'
  · exact fun W left hW k0 k1 => szSl s v1 v2 ra rc wv left W k0 k1 (h1.later hW)
  · intro hs W hW
    refine (toSl s v1 v2 ra rc wv W hs (h1.later hW)).mono ?_
    rintro e w' ⟨⟨b1, b2, b3, b4, rfl, hi⟩, hb⟩
    exact ⟨⟨_, _, _, _, _, _, _, _, _, _, _, _, _, _, _, _, _, _, _, _, _, _, _, _, _, _, rfl, b1, b2, b3, b4, rfl, hi⟩, hb⟩
  · rintro W W' d ⟨b1, b2, b3, b4, rfl, h⟩ hb
    exact ⟨b1, b2, b3, b4, rfl, h.later hb⟩
  · rintro W d d' ⟨b1, b2, b3, b4, rfl, h⟩ ⟨q1, q2, q3, q4, rfl, h'⟩
    exact eqSl s b1 b2 b3 b4 q1 q2 q3 q4 W h h'
  · rintro W e0 e1 ⟨a0, a1, a2, rfl, k0⟩ ⟨b1, b2, b3, b4, rfl, k1⟩
    exact slipOkS L s _ _ _ _ _ _ _ W k0 k1
  · rintro W e0 e1 ⟨a0, a1, a2, rfl, k0⟩ ⟨b1, b2, b3, b4, rfl, k1⟩
    exact slipOkI L s _ _ _ _ _ _ _ W k0 k1

end Go.Proofs.YtkjkklcflpchlaaGreat
