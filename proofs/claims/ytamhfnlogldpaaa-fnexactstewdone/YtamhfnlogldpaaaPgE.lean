/-
  Stewards: the place of a service's first copy: slices.BinarySearchFunc.
-/
import Derived.Test.YtamhfnlogldpaaaPgB
namespace Go.Proofs.Ytamhfnlogldpaaa
open Go.RowKit Go.Deep

set_option maxRecDepth 4000 in
set_option maxHeartbeats 8000000 in
theorem binCp (ad : Option Addr) (cc : Nat) (l : List Cp) (t0 : ByteArray) (t1 : Int) (p2 p3 p4 p5 p6 : Value) (p : Nat) (w : World) (h : CpsV w ad l) (hlen : l.length ≤ 1048576) (hp : p ≤ l.length) (h1 : ∀ i, i < p → cpCmp (l.getD i Cp.none).svc (l.getD i Cp.none).num t0 t1 < 0) (h2 : ∀ i, p ≤ i → i < l.length → 0 ≤ cpCmp (l.getD i Cp.none).svc (l.getD i Cp.none).num t0 t1) :
    Calls Try.prog 90 #[.slice ad l.length cc, .agg #[.string t0, .int .i64 t1, p2, p3, p4, p5, p6], .func (.func 69) #[] #[]] w fun e w' => e = .returned (.tuple #[.int .i64 (p : Nat), .bool (decide (p < l.length) && decide (cpCmp (l.getD p Cp.none).svc (l.getD p Cp.none).num t0 t1 = 0))]) ∧ Below w.heap.size w w' := by
  have hl := hlen
  clear hlen
  have HH : Hid (CpsV w ad l ∧ (∀ i, i < p → cpCmp (l.getD i Cp.none).svc (l.getD i Cp.none).num t0 t1 < 0) ∧ (∀ i, p ≤ i → i < l.length → 0 ≤ cpCmp (l.getD i Cp.none).svc (l.getD i Cp.none).num t0 t1)) := ⟨h, h1, h2⟩
  obtain ⟨R, hR⟩ : ∃ R, R = (decide (p < l.length) && decide (cpCmp (l.getD p Cp.none).svc (l.getD p Cp.none).num t0 t1 = 0)) := ⟨_, rfl⟩
  have HR : Hid (R = (decide (p < l.length) && decide (cpCmp (l.getD p Cp.none).svc (l.getD p Cp.none).num t0 t1 = 0))) := hR
  rw [← hR]
  clear h h1 h2 hR
  have HY : Hid (∀ W, Below (w.alloc (.cells #[.string t0, .int .i64 t1, p2, p3, p4, p5, p6] 63)).heap.size (w.alloc (.cells #[.string t0, .int .i64 t1, p2, p3, p4, p5, p6] 63)) W → w.heap.size < W.heap.size ∧ ∀ j, W.cell? ⟨w.heap.size, j, none⟩ = (#[.string t0, .int .i64 t1, p2, p3, p4, p5, p6] : Array Value)[j]?) := by
    intro W hW
    have q : w.heap.size < (w.alloc (.cells #[.string t0, .int .i64 t1, p2, p3, p4, p5, p6] 63)).heap.size := by simp
    exact ⟨Nat.lt_of_lt_of_le q hW.size, fun j => (hW.cell (p := ⟨w.heap.size, j, none⟩) q).trans (World.cell?_alloc_at _ _ _ _ rfl)⟩
  have HC : Hid (∀ (W : World) (x : Cp) (b1 b2 : Nat), Calls Try.prog 69 #[.agg #[.string x.svc, .int .i64 x.num, .int .i64 x.ver, .int .i64 x.image, .int .i64 x.state, .bool x.ending, .string x.berth], .agg #[.string t0, .int .i64 t1, p2, p3, p4, p5, p6]] W fun e w' => e = .returned (.int .i64 (cpCmp (x).svc (x).num t0 t1)) ∧ Below W.heap.size W w') := fun W x b1 b2 => cmpCpI _ _ _ _ _ _ _ _ _ _ _ _ _ _ W
  go_enter Try.func90, Try.ntmps90
  go_wp2
  go_loopw [9, 10] (fun i j wr => ∃ a b : Nat, i = .int .i64 (a : Nat) ∧ j = .int .i64 (b : Nat) ∧ a ≤ p ∧ p ≤ b ∧ b ≤ l.length ∧ Below (w.alloc (.cells #[.string t0, .int .i64 t1, p2, p3, p4, p5, p6] 63)).heap.size (w.alloc (.cells #[.string t0, .int .i64 t1, p2, p3, p4, p5, p6] 63)) wr) (fun i j _ => (intOf j).toNat - (intOf i).toNat)
  case atStart => exact ⟨0, l.length, rfl, rfl, Nat.zero_le _, hp, Nat.le_refl _, Below.refl _ _⟩
  case round =>
    obtain ⟨a, b, rfl, rfl, ha, hb, hbl, hW⟩ := hrel
    have HW0 : Hid (Below w.heap.size w wr) := blw_trans (blw_alloc (Below.refl _ _) _) hW
    have HWn : Hid (Below (w.alloc (.cells #[.string t0, .int .i64 t1, p2, p3, p4, p5, p6] 63)).heap.size (w.alloc (.cells #[.string t0, .int .i64 t1, p2, p3, p4, p5, p6] 63)) wr) := hW
    clear hW
    by_cases hlt : a < b
    · obtain ⟨m, hm⟩ : ∃ m, m = (a + b) / 2 := ⟨_, rfl⟩
      have hm1 : a ≤ m := by omega
      have hm2 : m < b := by omega
      obtain ⟨x, hx⟩ : ∃ x, x = l.getD m Cp.none := ⟨_, rfl⟩
      obtain ⟨yz, ys⟩ := HY.out _ HWn.out.drew
      have y0 : wr.drew.cell? ⟨w.heap.size, 0, none⟩ = some (.string t0) := ys 0
      have y1 : wr.drew.cell? ⟨w.heap.size, 1, none⟩ = some (.int .i64 t1) := ys 1
      have y2 : wr.drew.cell? ⟨w.heap.size, 2, none⟩ = some (p2) := ys 2
      have y3 : wr.drew.cell? ⟨w.heap.size, 3, none⟩ = some (p3) := ys 3
      have y4 : wr.drew.cell? ⟨w.heap.size, 4, none⟩ = some (p4) := ys 4
      have y5 : wr.drew.cell? ⟨w.heap.size, 5, none⟩ = some (p5) := ys 5
      have y6 : wr.drew.cell? ⟨w.heap.size, 6, none⟩ = some (p6) := ys 6
      clear ys
      have hin := HH.out.1.later HW0.out.drew
      obtain ⟨B, off, hA, hB, hat⟩ := hin.at_ m (by omega)
      clear hin
      subst hA
      rw [← hx] at hat
      obtain ⟨c0, c1, c2, c3, c4, c5, c6, _⟩ := hat
      obtain ⟨r, hr⟩ : ∃ r, r = cpCmp (x).svc (x).num t0 t1 := ⟨_, rfl⟩
      have HX : Hid (∀ W, Calls Try.prog 69 #[.agg #[.string x.svc, .int .i64 x.num, .int .i64 x.ver, .int .i64 x.image, .int .i64 x.state, .bool x.ending, .string x.berth], .agg #[.string t0, .int .i64 t1, p2, p3, p4, p5, p6]] W fun e w' => e = .returned (.int .i64 r) ∧ Below W.heap.size W w') := fun W => by rw [hr]; exact HC.out W x 0 0
      have HP : Hid ((r < 0 → m < p) ∧ (¬ r < 0 → p ≤ m)) := by
        refine ⟨fun hz => ?_, fun hz => ?_⟩
        · refine Nat.lt_of_not_le fun hh => ?_
          have := HH.out.2.2 m hh (by omega)
          rw [← hx, ← hr] at this; omega
        · refine Nat.le_of_not_lt fun hh => ?_
          have := HH.out.2.1 m hh
          rw [← hx, ← hr] at this; exact hz this
      have HMZ : Hid (((a : Int) + (b : Int)) / 2 = (m : Int)) := by show _ = _; omega
      clear hr hx hm
      have HWD : Hid (Below (w.alloc (.cells #[.string t0, .int .i64 t1, p2, p3, p4, p5, p6] 63)).heap.size (w.alloc (.cells #[.string t0, .int .i64 t1, p2, p3, p4, p5, p6] 63)) wr.drew) := HWn.out.drew
      have hm0 : (0 : Int) ≤ (m : Int) := by omega
      have hm3 : (m : Int) < (l.length : Int) := by omega
      by_cases hz : r < 0
      · have HE : Hid (m < p) := HP.out.1 hz
        go_wp2_with fail
        rw [HMZ.out]
        refine region_tail 6 (by kernel_rfl) (by kernel_rfl) ?_
        intro W hWd
        rw [← hWd] at hB HWD yz y0 y1 y2 y3 y4 y5 y6 c0 c1 c2 c3 c4 c5 c6
        simp only [List.take_succ_cons, List.take_zero, List.drop_succ_cons, List.drop_zero]
        clear hWd
        repeat still_step
        refine wpStill_nil ?_
        go_wp2_with (go_at_call 69; refine (HX.out _).mono ?_; rintro e w2 ⟨rfl, hb2⟩)
        go_roundw
        case rel => exact ⟨m + 1, b, by go_num, rfl, HE.out, hb, hbl, blw_trans HWD.out hb2⟩
        case measure => simp [intOf]; omega
      · have HE : Hid (p ≤ m) := HP.out.2 hz
        have hz' : 0 ≤ r := by omega
        go_wp2_with fail
        rw [HMZ.out]
        refine region_tail 6 (by kernel_rfl) (by kernel_rfl) ?_
        intro W hWd
        rw [← hWd] at hB HWD yz y0 y1 y2 y3 y4 y5 y6 c0 c1 c2 c3 c4 c5 c6
        simp only [List.take_succ_cons, List.take_zero, List.drop_succ_cons, List.drop_zero]
        clear hWd
        repeat still_step
        refine wpStill_nil ?_
        go_wp2_with (go_at_call 69; refine (HX.out _).mono ?_; rintro e w2 ⟨rfl, hb2⟩)
        go_roundw
        case rel => exact ⟨a, m, rfl, rfl, ha, HE.out, by omega, blw_trans HWD.out hb2⟩
        case measure => simp [intOf]; omega
    · obtain rfl : a = p := by omega
      obtain rfl : b = a := by omega
      by_cases hpl : b < l.length
      · obtain ⟨x, hx⟩ : ∃ x, x = l.getD b Cp.none := ⟨_, rfl⟩
        obtain ⟨yz, ys⟩ := HY.out _ HWn.out
        have y0 : wr.cell? ⟨w.heap.size, 0, none⟩ = some (.string t0) := ys 0
        have y1 : wr.cell? ⟨w.heap.size, 1, none⟩ = some (.int .i64 t1) := ys 1
        have y2 : wr.cell? ⟨w.heap.size, 2, none⟩ = some (p2) := ys 2
        have y3 : wr.cell? ⟨w.heap.size, 3, none⟩ = some (p3) := ys 3
        have y4 : wr.cell? ⟨w.heap.size, 4, none⟩ = some (p4) := ys 4
        have y5 : wr.cell? ⟨w.heap.size, 5, none⟩ = some (p5) := ys 5
        have y6 : wr.cell? ⟨w.heap.size, 6, none⟩ = some (p6) := ys 6
        clear ys
        have hin := HH.out.1.later HW0.out
        obtain ⟨B, off, hA, hB, hat⟩ := hin.at_ b hpl
        clear hin
        subst hA
        rw [← hx] at hat
        obtain ⟨c0, c1, c2, c3, c4, c5, c6, _⟩ := hat
        obtain ⟨r, hr⟩ : ∃ r, r = cpCmp (x).svc (x).num t0 t1 := ⟨_, rfl⟩
        have HX : Hid (∀ W, Calls Try.prog 69 #[.agg #[.string x.svc, .int .i64 x.num, .int .i64 x.ver, .int .i64 x.image, .int .i64 x.state, .bool x.ending, .string x.berth], .agg #[.string t0, .int .i64 t1, p2, p3, p4, p5, p6]] W fun e w' => e = .returned (.int .i64 r) ∧ Below W.heap.size W w') := fun W => by rw [hr]; exact HC.out W x 0 0
        have HRR : Hid (R = decide (r = 0)) := by show R = _; rw [HR.out, hr, hx]; simp [hpl]
        clear hr hx
        have hNE := pst_some wr
        have hBx : ∀ px : Pst wr, B < px.W.heap.size := fun px => px.size hB
        have hyz : ∀ px : Pst wr, w.heap.size < px.W.heap.size := fun px => px.size yz
        have Y0 : ∀ px : Pst wr, px.W.cell? ⟨w.heap.size, 0, none⟩ = some (.string t0) := fun px => px.cell y0 yz
        have Y1 : ∀ px : Pst wr, px.W.cell? ⟨w.heap.size, 1, none⟩ = some (.int .i64 t1) := fun px => px.cell y1 yz
        have Y2 : ∀ px : Pst wr, px.W.cell? ⟨w.heap.size, 2, none⟩ = some (p2) := fun px => px.cell y2 yz
        have Y3 : ∀ px : Pst wr, px.W.cell? ⟨w.heap.size, 3, none⟩ = some (p3) := fun px => px.cell y3 yz
        have Y4 : ∀ px : Pst wr, px.W.cell? ⟨w.heap.size, 4, none⟩ = some (p4) := fun px => px.cell y4 yz
        have Y5 : ∀ px : Pst wr, px.W.cell? ⟨w.heap.size, 5, none⟩ = some (p5) := fun px => px.cell y5 yz
        have Y6 : ∀ px : Pst wr, px.W.cell? ⟨w.heap.size, 6, none⟩ = some (p6) := fun px => px.cell y6 yz
        have C0 : ∀ px : Pst wr, px.W.cell? ⟨B, off + b * 7, none⟩ = some (.string x.svc) := fun px => px.cell c0 hB
        have C1 : ∀ px : Pst wr, px.W.cell? ⟨B, off + b * 7 + 1, none⟩ = some (.int .i64 x.num) := fun px => px.cell c1 hB
        have C2 : ∀ px : Pst wr, px.W.cell? ⟨B, off + b * 7 + 2, none⟩ = some (.int .i64 x.ver) := fun px => px.cell c2 hB
        have C3 : ∀ px : Pst wr, px.W.cell? ⟨B, off + b * 7 + 3, none⟩ = some (.int .i64 x.image) := fun px => px.cell c3 hB
        have C4 : ∀ px : Pst wr, px.W.cell? ⟨B, off + b * 7 + 4, none⟩ = some (.int .i64 x.state) := fun px => px.cell c4 hB
        have C5 : ∀ px : Pst wr, px.W.cell? ⟨B, off + b * 7 + 5, none⟩ = some (.bool x.ending) := fun px => px.cell c5 hB
        have C6 : ∀ px : Pst wr, px.W.cell? ⟨B, off + b * 7 + 6, none⟩ = some (.string x.berth) := fun px => px.cell c6 hB
        have hm0 : (0 : Int) ≤ (b : Int) := by omega
        have hm3 : (b : Int) < (l.length : Int) := by omega
        clear y0 y1 y2 y3 y4 y5 y6 c0 c1 c2 c3 c4 c5 c6 hB yz
        by_cases hz : r = 0
        all_goals
          have HE : Hid (R = decide (r = 0)) := HRR.out
          go_wp2_with fail
          refine region_class wr (Below.refl _ _) (by kernel_rfl) (by kernel_rfl) ?_
          repeat (first
            | go_big_quiet_skip
            | (go_big_quiet_want; go_big_quiet_op; first | go_big_quiet_on | (apply Exists.intro; refine ⟨fun px => ?_, ?_⟩; (focus (go_at_call 69; refine (HX.out _).mono ?_; rintro e w' ⟨he, hb⟩; exact ⟨he, ⟨w', blw_trans px.ok hb⟩, rfl⟩)); go_big_quiet_on)))
          refine wpQuiet_nil ?_
          intro _ hw'
          obtain ⟨x6, hw''⟩ := hw'
          subst hw''
          go_wp2
          go_ret2
          exact ⟨by rw [HE.out]; simp [hz], blw_trans HW0.out x6.ok⟩
      · have HE : Hid (R = false) := by show R = false; rw [HR.out]; simp [hpl]
        have hNE := pst_some wr
        go_wp2_with fail
        refine region_class wr (Below.refl _ _) (by kernel_rfl) (by kernel_rfl) ?_
        repeat (first
          | go_big_quiet_skip
          | (go_big_quiet_want; go_big_quiet_op; go_big_quiet_on))
        refine wpQuiet_nil ?_
        intro _ hw'
        obtain ⟨x6, hw''⟩ := hw'
        subst hw''
        go_wp2
        go_ret2
        refine ⟨?_, blw_trans HW0.out x6.ok⟩
        rw [HE.out]
        have : b = l.length := by omega
        simp [this]

end Go.Proofs.Ytamhfnlogldpaaa
