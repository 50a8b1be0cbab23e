/-
  The sea, by the program: places by binary search; one element put in; a row of a change that is turned by a call.
-/
import Derived.Test.YtclagbakddkjcaaGreatChD
import Derived.Test.YtclagbakddkjcaaGreatSlS
import Derived.Test.YtclagbakddkjcaaGreatSlB
import Derived.Test.YtclagbakddkjcaaGreatPgD
namespace Go.Proofs.YtclagbakddkjcaaGreat
open Go.RowKit Go.Deep

set_option maxRecDepth 4000 in
set_option maxHeartbeats 8000000 in
theorem binSv (ad : Option Addr) (cc : Nat) (l : List Sv) (t0 : ByteArray) (p1 p2 p3 p4 p5 p6 p7 p8 p9 p10 p11 p12 : Value) (p : Nat) (w : World) (h : SvsV w ad l) (hlen : l.length ≤ 1048576) (hp : p ≤ l.length) (h1 : ∀ i, i < p → keyCmp (l.getD i Sv.none).nm t0 < 0) (h2 : ∀ i, p ≤ i → i < l.length → 0 ≤ keyCmp (l.getD i Sv.none).nm t0) :
    Calls Tryz.prog 83 #[.slice ad l.length cc, .agg #[.string t0, p1, p2, p3, p4, p5, p6, p7, p8, p9, p10, p11, p12], .func (.func 69) #[] #[]] w fun e w' => e = .returned (.tuple #[.int .i64 (p : Nat), .bool (decide (p < l.length) && decide (keyCmp (l.getD p Sv.none).nm t0 = 0))]) ∧ Below w.heap.size w w' := by
  have hl := hlen
  clear hlen
  have HH : Hid (SvsV w ad l ∧ (∀ i, i < p → keyCmp (l.getD i Sv.none).nm t0 < 0) ∧ (∀ i, p ≤ i → i < l.length → 0 ≤ keyCmp (l.getD i Sv.none).nm t0)) := ⟨h, h1, h2⟩
  obtain ⟨R, hR⟩ : ∃ R, R = (decide (p < l.length) && decide (keyCmp (l.getD p Sv.none).nm t0 = 0)) := ⟨_, rfl⟩
  have HR : Hid (R = (decide (p < l.length) && decide (keyCmp (l.getD p Sv.none).nm t0 = 0))) := hR
  rw [← hR]
  clear h h1 h2 hR
  have HY : Hid (∀ W, Below (w.alloc (.cells #[.string t0, p1, p2, p3, p4, p5, p6, p7, p8, p9, p10, p11, p12] 41)).heap.size (w.alloc (.cells #[.string t0, p1, p2, p3, p4, p5, p6, p7, p8, p9, p10, p11, p12] 41)) W → w.heap.size < W.heap.size ∧ ∀ j, W.cell? ⟨w.heap.size, j, none⟩ = (#[.string t0, p1, p2, p3, p4, p5, p6, p7, p8, p9, p10, p11, p12] : Array Value)[j]?) := by
    intro W hW
    have q : w.heap.size < (w.alloc (.cells #[.string t0, p1, p2, p3, p4, p5, p6, p7, p8, p9, p10, p11, p12] 41)).heap.size := by simp
    exact ⟨Nat.lt_of_lt_of_le q hW.size, fun j => (hW.cell (p := ⟨w.heap.size, j, none⟩) q).trans (World.cell?_alloc_at _ _ _ _ rfl)⟩
  have HC : Hid (∀ (W : World) (x : Sv) (b1 b2 : Nat), Calls Tryz.prog 69 #[.agg #[.string x.nm, .int .i64 x.ver, .bool x.gone, .int .i64 x.image, .int .i64 x.want, .int .i64 x.down, .int .i64 x.over, .int .i64 x.next, .int .i64 x.per, .int .i64 x.least, .int .i64 x.most, .int .i64 x.load, .int .i64 x.cool], .agg #[.string t0, p1, p2, p3, p4, p5, p6, p7, p8, p9, p10, p11, p12]] W fun e w' => e = .returned (.int .i64 (keyCmp (x).nm t0)) ∧ Below W.heap.size W w') := fun W x b1 b2 => cmpSvI _ _ _ _ _ _ _ _ _ _ _ _ _ _ _ _ _ _ _ _ _ _ _ _ _ _ W
  go_enter Tryz.func83, Tryz.ntmps83
  go_wp2
  go_loopw [9, 10] (fun i j wr => ∃ a b : Nat, i = .int .i64 (a : Nat) ∧ j = .int .i64 (b : Nat) ∧ a ≤ p ∧ p ≤ b ∧ b ≤ l.length ∧ Below (w.alloc (.cells #[.string t0, p1, p2, p3, p4, p5, p6, p7, p8, p9, p10, p11, p12] 41)).heap.size (w.alloc (.cells #[.string t0, p1, p2, p3, p4, p5, p6, p7, p8, p9, p10, p11, p12] 41)) wr) (fun i j _ => (intOf j).toNat - (intOf i).toNat)
  case atStart => exact ⟨0, l.length, rfl, rfl, Nat.zero_le _, hp, Nat.le_refl _, Below.refl _ _⟩
  case round =>
    obtain ⟨a, b, rfl, rfl, ha, hb, hbl, hW⟩ := hrel
    have HW0 : Hid (Below w.heap.size w wr) := blw_trans (blw_alloc (Below.refl _ _) _) hW
    have HWn : Hid (Below (w.alloc (.cells #[.string t0, p1, p2, p3, p4, p5, p6, p7, p8, p9, p10, p11, p12] 41)).heap.size (w.alloc (.cells #[.string t0, p1, p2, p3, p4, p5, p6, p7, p8, p9, p10, p11, p12] 41)) wr) := hW
    clear hW
    by_cases hlt : a < b
    · obtain ⟨m, hm⟩ : ∃ m, m = (a + b) / 2 := ⟨_, rfl⟩
      have hm1 : a ≤ m := by omega
      have hm2 : m < b := by omega
      obtain ⟨x, hx⟩ : ∃ x, x = l.getD m Sv.none := ⟨_, rfl⟩
      obtain ⟨yz, ys⟩ := HY.out _ HWn.out.drew
      have y0 : wr.drew.cell? ⟨w.heap.size, 0, none⟩ = some (.string t0) := ys 0
      have y1 : wr.drew.cell? ⟨w.heap.size, 1, none⟩ = some (p1) := ys 1
      have y2 : wr.drew.cell? ⟨w.heap.size, 2, none⟩ = some (p2) := ys 2
      have y3 : wr.drew.cell? ⟨w.heap.size, 3, none⟩ = some (p3) := ys 3
      have y4 : wr.drew.cell? ⟨w.heap.size, 4, none⟩ = some (p4) := ys 4
      have y5 : wr.drew.cell? ⟨w.heap.size, 5, none⟩ = some (p5) := ys 5
      have y6 : wr.drew.cell? ⟨w.heap.size, 6, none⟩ = some (p6) := ys 6
      have y7 : wr.drew.cell? ⟨w.heap.size, 7, none⟩ = some (p7) := ys 7
      have y8 : wr.drew.cell? ⟨w.heap.size, 8, none⟩ = some (p8) := ys 8
      have y9 : wr.drew.cell? ⟨w.heap.size, 9, none⟩ = some (p9) := ys 9
      have y10 : wr.drew.cell? ⟨w.heap.size, 10, none⟩ = some (p10) := ys 10
      have y11 : wr.drew.cell? ⟨w.heap.size, 11, none⟩ = some (p11) := ys 11
      have y12 : wr.drew.cell? ⟨w.heap.size, 12, none⟩ = some (p12) := ys 12
      clear ys
      have hin := HH.out.1.later HW0.out.drew
      obtain ⟨B, off, hA, hB, hat⟩ := hin.at_ m (by omega)
      clear hin
      subst hA
      rw [← hx] at hat
      obtain ⟨c0, c1, c2, c3, c4, c5, c6, c7, c8, c9, c10, c11, c12, _⟩ := hat
      obtain ⟨r, hr⟩ : ∃ r, r = keyCmp (x).nm t0 := ⟨_, rfl⟩
      have HX : Hid (∀ W, Calls Tryz.prog 69 #[.agg #[.string x.nm, .int .i64 x.ver, .bool x.gone, .int .i64 x.image, .int .i64 x.want, .int .i64 x.down, .int .i64 x.over, .int .i64 x.next, .int .i64 x.per, .int .i64 x.least, .int .i64 x.most, .int .i64 x.load, .int .i64 x.cool], .agg #[.string t0, p1, p2, p3, p4, p5, p6, p7, p8, p9, p10, p11, p12]] W fun e w' => e = .returned (.int .i64 r) ∧ Below W.heap.size W w') := fun W => by rw [hr]; exact HC.out W x 0 0
      have HP : Hid ((r < 0 → m < p) ∧ (¬ r < 0 → p ≤ m)) := by
        refine ⟨fun hz => ?_, fun hz => ?_⟩
        · refine Nat.lt_of_not_le fun hh => ?_
          have := HH.out.2.2 m hh (by omega)
          rw [← hx, ← hr] at this; omega
        · refine Nat.le_of_not_lt fun hh => ?_
          have := HH.out.2.1 m hh
          rw [← hx, ← hr] at this; exact hz this
      have HMZ : Hid (((a : Int) + (b : Int)) / 2 = (m : Int)) := by show _ = _; omega
      clear hr hx hm
      have HWD : Hid (Below (w.alloc (.cells #[.string t0, p1, p2, p3, p4, p5, p6, p7, p8, p9, p10, p11, p12] 41)).heap.size (w.alloc (.cells #[.string t0, p1, p2, p3, p4, p5, p6, p7, p8, p9, p10, p11, p12] 41)) wr.drew) := HWn.out.drew
      have hm0 : (0 : Int) ≤ (m : Int) := by omega
      have hm3 : (m : Int) < (l.length : Int) := by omega
      by_cases hz : r < 0
      · have HE : Hid (m < p) := HP.out.1 hz
        go_wp2_with fail
        rw [HMZ.out]
        refine region_tail 6 (by kernel_rfl) (by kernel_rfl) ?_
        intro W hWd
        rw [← hWd] at hB HWD yz y0 y1 y2 y3 y4 y5 y6 y7 y8 y9 y10 y11 y12 c0 c1 c2 c3 c4 c5 c6 c7 c8 c9 c10 c11 c12
        simp only [List.take_succ_cons, List.take_zero, List.drop_succ_cons, List.drop_zero]
        clear hWd
        repeat still_step
        refine wpStill_nil ?_
        go_wp2_with (go_at_call 69; refine (HX.out _).mono ?_; rintro e w2 ⟨rfl, hb2⟩)
        go_roundw
        case rel => exact ⟨m + 1, b, by go_num, rfl, HE.out, hb, hbl, blw_trans HWD.out hb2⟩
        case measure => simp [intOf]; omega
      · have HE : Hid (p ≤ m) := HP.out.2 hz
        have hz' : 0 ≤ r := by omega
        go_wp2_with fail
        rw [HMZ.out]
        refine region_tail 6 (by kernel_rfl) (by kernel_rfl) ?_
        intro W hWd
        rw [← hWd] at hB HWD yz y0 y1 y2 y3 y4 y5 y6 y7 y8 y9 y10 y11 y12 c0 c1 c2 c3 c4 c5 c6 c7 c8 c9 c10 c11 c12
        simp only [List.take_succ_cons, List.take_zero, List.drop_succ_cons, List.drop_zero]
        clear hWd
        repeat still_step
        refine wpStill_nil ?_
        go_wp2_with (go_at_call 69; refine (HX.out _).mono ?_; rintro e w2 ⟨rfl, hb2⟩)
        go_roundw
        case rel => exact ⟨a, m, rfl, rfl, ha, HE.out, by omega, blw_trans HWD.out hb2⟩
        case measure => simp [intOf]; omega
    · obtain rfl : a = p := by omega
      obtain rfl : b = a := by omega
      by_cases hpl : b < l.length
      · obtain ⟨x, hx⟩ : ∃ x, x = l.getD b Sv.none := ⟨_, rfl⟩
        obtain ⟨yz, ys⟩ := HY.out _ HWn.out
        have y0 : wr.cell? ⟨w.heap.size, 0, none⟩ = some (.string t0) := ys 0
        have y1 : wr.cell? ⟨w.heap.size, 1, none⟩ = some (p1) := ys 1
        have y2 : wr.cell? ⟨w.heap.size, 2, none⟩ = some (p2) := ys 2
        have y3 : wr.cell? ⟨w.heap.size, 3, none⟩ = some (p3) := ys 3
        have y4 : wr.cell? ⟨w.heap.size, 4, none⟩ = some (p4) := ys 4
        have y5 : wr.cell? ⟨w.heap.size, 5, none⟩ = some (p5) := ys 5
        have y6 : wr.cell? ⟨w.heap.size, 6, none⟩ = some (p6) := ys 6
        have y7 : wr.cell? ⟨w.heap.size, 7, none⟩ = some (p7) := ys 7
        have y8 : wr.cell? ⟨w.heap.size, 8, none⟩ = some (p8) := ys 8
        have y9 : wr.cell? ⟨w.heap.size, 9, none⟩ = some (p9) := ys 9
        have y10 : wr.cell? ⟨w.heap.size, 10, none⟩ = some (p10) := ys 10
        have y11 : wr.cell? ⟨w.heap.size, 11, none⟩ = some (p11) := ys 11
        have y12 : wr.cell? ⟨w.heap.size, 12, none⟩ = some (p12) := ys 12
        clear ys
        have hin := HH.out.1.later HW0.out
        obtain ⟨B, off, hA, hB, hat⟩ := hin.at_ b hpl
        clear hin
        subst hA
        rw [← hx] at hat
        obtain ⟨c0, c1, c2, c3, c4, c5, c6, c7, c8, c9, c10, c11, c12, _⟩ := hat
        obtain ⟨r, hr⟩ : ∃ r, r = keyCmp (x).nm t0 := ⟨_, rfl⟩
        have HX : Hid (∀ W, Calls Tryz.prog 69 #[.agg #[.string x.nm, .int .i64 x.ver, .bool x.gone, .int .i64 x.image, .int .i64 x.want, .int .i64 x.down, .int .i64 x.over, .int .i64 x.next, .int .i64 x.per, .int .i64 x.least, .int .i64 x.most, .int .i64 x.load, .int .i64 x.cool], .agg #[.string t0, p1, p2, p3, p4, p5, p6, p7, p8, p9, p10, p11, p12]] W fun e w' => e = .returned (.int .i64 r) ∧ Below W.heap.size W w') := fun W => by rw [hr]; exact HC.out W x 0 0
        have HRR : Hid (R = decide (r = 0)) := by show R = _; rw [HR.out, hr, hx]; simp [hpl]
        clear hr hx
        have hNE := pst_some wr
        have hBx : ∀ px : Pst wr, B < px.W.heap.size := fun px => px.size hB
        have hyz : ∀ px : Pst wr, w.heap.size < px.W.heap.size := fun px => px.size yz
        have Y0 : ∀ px : Pst wr, px.W.cell? ⟨w.heap.size, 0, none⟩ = some (.string t0) := fun px => px.cell y0 yz
        have Y1 : ∀ px : Pst wr, px.W.cell? ⟨w.heap.size, 1, none⟩ = some (p1) := fun px => px.cell y1 yz
        have Y2 : ∀ px : Pst wr, px.W.cell? ⟨w.heap.size, 2, none⟩ = some (p2) := fun px => px.cell y2 yz
        have Y3 : ∀ px : Pst wr, px.W.cell? ⟨w.heap.size, 3, none⟩ = some (p3) := fun px => px.cell y3 yz
        have Y4 : ∀ px : Pst wr, px.W.cell? ⟨w.heap.size, 4, none⟩ = some (p4) := fun px => px.cell y4 yz
        have Y5 : ∀ px : Pst wr, px.W.cell? ⟨w.heap.size, 5, none⟩ = some (p5) := fun px => px.cell y5 yz
        have Y6 : ∀ px : Pst wr, px.W.cell? ⟨w.heap.size, 6, none⟩ = some (p6) := fun px => px.cell y6 yz
        have Y7 : ∀ px : Pst wr, px.W.cell? ⟨w.heap.size, 7, none⟩ = some (p7) := fun px => px.cell y7 yz
        have Y8 : ∀ px : Pst wr, px.W.cell? ⟨w.heap.size, 8, none⟩ = some (p8) := fun px => px.cell y8 yz
        have Y9 : ∀ px : Pst wr, px.W.cell? ⟨w.heap.size, 9, none⟩ = some (p9) := fun px => px.cell y9 yz
        have Y10 : ∀ px : Pst wr, px.W.cell? ⟨w.heap.size, 10, none⟩ = some (p10) := fun px => px.cell y10 yz
        have Y11 : ∀ px : Pst wr, px.W.cell? ⟨w.heap.size, 11, none⟩ = some (p11) := fun px => px.cell y11 yz
        have Y12 : ∀ px : Pst wr, px.W.cell? ⟨w.heap.size, 12, none⟩ = some (p12) := fun px => px.cell y12 yz
        have C0 : ∀ px : Pst wr, px.W.cell? ⟨B, off + b * 13, none⟩ = some (.string x.nm) := fun px => px.cell c0 hB
        have C1 : ∀ px : Pst wr, px.W.cell? ⟨B, off + b * 13 + 1, none⟩ = some (.int .i64 x.ver) := fun px => px.cell c1 hB
        have C2 : ∀ px : Pst wr, px.W.cell? ⟨B, off + b * 13 + 2, none⟩ = some (.bool x.gone) := fun px => px.cell c2 hB
        have C3 : ∀ px : Pst wr, px.W.cell? ⟨B, off + b * 13 + 3, none⟩ = some (.int .i64 x.image) := fun px => px.cell c3 hB
        have C4 : ∀ px : Pst wr, px.W.cell? ⟨B, off + b * 13 + 4, none⟩ = some (.int .i64 x.want) := fun px => px.cell c4 hB
        have C5 : ∀ px : Pst wr, px.W.cell? ⟨B, off + b * 13 + 5, none⟩ = some (.int .i64 x.down) := fun px => px.cell c5 hB
        have C6 : ∀ px : Pst wr, px.W.cell? ⟨B, off + b * 13 + 6, none⟩ = some (.int .i64 x.over) := fun px => px.cell c6 hB
        have C7 : ∀ px : Pst wr, px.W.cell? ⟨B, off + b * 13 + 7, none⟩ = some (.int .i64 x.next) := fun px => px.cell c7 hB
        have C8 : ∀ px : Pst wr, px.W.cell? ⟨B, off + b * 13 + 8, none⟩ = some (.int .i64 x.per) := fun px => px.cell c8 hB
        have C9 : ∀ px : Pst wr, px.W.cell? ⟨B, off + b * 13 + 9, none⟩ = some (.int .i64 x.least) := fun px => px.cell c9 hB
        have C10 : ∀ px : Pst wr, px.W.cell? ⟨B, off + b * 13 + 10, none⟩ = some (.int .i64 x.most) := fun px => px.cell c10 hB
        have C11 : ∀ px : Pst wr, px.W.cell? ⟨B, off + b * 13 + 11, none⟩ = some (.int .i64 x.load) := fun px => px.cell c11 hB
        have C12 : ∀ px : Pst wr, px.W.cell? ⟨B, off + b * 13 + 12, none⟩ = some (.int .i64 x.cool) := fun px => px.cell c12 hB
        have hm0 : (0 : Int) ≤ (b : Int) := by omega
        have hm3 : (b : Int) < (l.length : Int) := by omega
        clear y0 y1 y2 y3 y4 y5 y6 y7 y8 y9 y10 y11 y12 c0 c1 c2 c3 c4 c5 c6 c7 c8 c9 c10 c11 c12 hB yz
        by_cases hz : r = 0
        all_goals
          have HE : Hid (R = decide (r = 0)) := HRR.out
          go_wp2_with fail
          refine region_class wr (Below.refl _ _) (by kernel_rfl) (by kernel_rfl) ?_
          repeat (first
            | go_big_quiet_skip
            | (go_big_quiet_want; go_big_quiet_op; first | go_big_quiet_on | (apply Exists.intro; refine ⟨fun px => ?_, ?_⟩; (focus (go_at_call 69; refine (HX.out _).mono ?_; rintro e w' ⟨he, hb⟩; exact ⟨he, ⟨w', blw_trans px.ok hb⟩, rfl⟩)); go_big_quiet_on)))
          refine wpQuiet_nil ?_
          intro _ hw'
          obtain ⟨x6, hw''⟩ := hw'
          subst hw''
          go_wp2
          go_ret2
          exact ⟨by rw [HE.out]; simp [hz], blw_trans HW0.out x6.ok⟩
      · have HE : Hid (R = false) := by show R = false; rw [HR.out]; simp [hpl]
        have hNE := pst_some wr
        go_wp2_with fail
        refine region_class wr (Below.refl _ _) (by kernel_rfl) (by kernel_rfl) ?_
        repeat (first
          | go_big_quiet_skip
          | (go_big_quiet_want; go_big_quiet_op; go_big_quiet_on))
        refine wpQuiet_nil ?_
        intro _ hw'
        obtain ⟨x6, hw''⟩ := hw'
        subst hw''
        go_wp2
        go_ret2
        refine ⟨?_, blw_trans HW0.out x6.ok⟩
        rw [HE.out]
        have : b = l.length := by omega
        simp [this]

end Go.Proofs.YtclagbakddkjcaaGreat

namespace Go.Proofs.YtclagbakddkjcaaGreat
open Go.RowKit Go.Deep

set_option maxRecDepth 4000 in
set_option maxHeartbeats 8000000 in
theorem binBt (ad : Option Addr) (cc : Nat) (l : List Bt) (t0 : ByteArray) (p1 : Value) (p : Nat) (w : World) (h : BtsV w ad l) (hlen : l.length ≤ 1048576) (hp : p ≤ l.length) (h1 : ∀ i, i < p → keyCmp (l.getD i Bt.none).nm t0 < 0) (h2 : ∀ i, p ≤ i → i < l.length → 0 ≤ keyCmp (l.getD i Bt.none).nm t0) :
    Calls Tryz.prog 90 #[.slice ad l.length cc, .agg #[.string t0, p1], .func (.func 74) #[] #[]] w fun e w' => e = .returned (.tuple #[.int .i64 (p : Nat), .bool (decide (p < l.length) && decide (keyCmp (l.getD p Bt.none).nm t0 = 0))]) ∧ Below w.heap.size w w' := by
  have hl := hlen
  clear hlen
  have HH : Hid (BtsV w ad l ∧ (∀ i, i < p → keyCmp (l.getD i Bt.none).nm t0 < 0) ∧ (∀ i, p ≤ i → i < l.length → 0 ≤ keyCmp (l.getD i Bt.none).nm t0)) := ⟨h, h1, h2⟩
  obtain ⟨R, hR⟩ : ∃ R, R = (decide (p < l.length) && decide (keyCmp (l.getD p Bt.none).nm t0 = 0)) := ⟨_, rfl⟩
  have HR : Hid (R = (decide (p < l.length) && decide (keyCmp (l.getD p Bt.none).nm t0 = 0))) := hR
  rw [← hR]
  clear h h1 h2 hR
  have HY : Hid (∀ W, Below (w.alloc (.cells #[.string t0, p1] 79)).heap.size (w.alloc (.cells #[.string t0, p1] 79)) W → w.heap.size < W.heap.size ∧ ∀ j, W.cell? ⟨w.heap.size, j, none⟩ = (#[.string t0, p1] : Array Value)[j]?) := by
    intro W hW
    have q : w.heap.size < (w.alloc (.cells #[.string t0, p1] 79)).heap.size := by simp
    exact ⟨Nat.lt_of_lt_of_le q hW.size, fun j => (hW.cell (p := ⟨w.heap.size, j, none⟩) q).trans (World.cell?_alloc_at _ _ _ _ rfl)⟩
  have HC : Hid (∀ (W : World) (x : Bt) (b1 b2 : Nat), Calls Tryz.prog 74 #[.agg #[.string x.nm, .bool x.drain], .agg #[.string t0, p1]] W fun e w' => e = .returned (.int .i64 (keyCmp (x).nm t0)) ∧ Below W.heap.size W w') := fun W x b1 b2 => cmpBtI _ _ _ _ W
  go_enter Tryz.func90, Tryz.ntmps90
  go_wp2
  go_loopw [9, 10] (fun i j wr => ∃ a b : Nat, i = .int .i64 (a : Nat) ∧ j = .int .i64 (b : Nat) ∧ a ≤ p ∧ p ≤ b ∧ b ≤ l.length ∧ Below (w.alloc (.cells #[.string t0, p1] 79)).heap.size (w.alloc (.cells #[.string t0, p1] 79)) wr) (fun i j _ => (intOf j).toNat - (intOf i).toNat)
  case atStart => exact ⟨0, l.length, rfl, rfl, Nat.zero_le _, hp, Nat.le_refl _, Below.refl _ _⟩
  case round =>
    obtain ⟨a, b, rfl, rfl, ha, hb, hbl, hW⟩ := hrel
    have HW0 : Hid (Below w.heap.size w wr) := blw_trans (blw_alloc (Below.refl _ _) _) hW
    have HWn : Hid (Below (w.alloc (.cells #[.string t0, p1] 79)).heap.size (w.alloc (.cells #[.string t0, p1] 79)) wr) := hW
    clear hW
    by_cases hlt : a < b
    · obtain ⟨m, hm⟩ : ∃ m, m = (a + b) / 2 := ⟨_, rfl⟩
      have hm1 : a ≤ m := by omega
      have hm2 : m < b := by omega
      obtain ⟨x, hx⟩ : ∃ x, x = l.getD m Bt.none := ⟨_, rfl⟩
      obtain ⟨yz, ys⟩ := HY.out _ HWn.out.drew
      have y0 : wr.drew.cell? ⟨w.heap.size, 0, none⟩ = some (.string t0) := ys 0
      have y1 : wr.drew.cell? ⟨w.heap.size, 1, none⟩ = some (p1) := ys 1
      clear ys
      have hin := HH.out.1.later HW0.out.drew
      obtain ⟨B, off, hA, hB, hat⟩ := hin.at_ m (by omega)
      clear hin
      subst hA
      rw [← hx] at hat
      obtain ⟨c0, c1, _⟩ := hat
      obtain ⟨r, hr⟩ : ∃ r, r = keyCmp (x).nm t0 := ⟨_, rfl⟩
      have HX : Hid (∀ W, Calls Tryz.prog 74 #[.agg #[.string x.nm, .bool x.drain], .agg #[.string t0, p1]] W fun e w' => e = .returned (.int .i64 r) ∧ Below W.heap.size W w') := fun W => by rw [hr]; exact HC.out W x 0 0
      have HP : Hid ((r < 0 → m < p) ∧ (¬ r < 0 → p ≤ m)) := by
        refine ⟨fun hz => ?_, fun hz => ?_⟩
        · refine Nat.lt_of_not_le fun hh => ?_
          have := HH.out.2.2 m hh (by omega)
          rw [← hx, ← hr] at this; omega
        · refine Nat.le_of_not_lt fun hh => ?_
          have := HH.out.2.1 m hh
          rw [← hx, ← hr] at this; exact hz this
      have HMZ : Hid (((a : Int) + (b : Int)) / 2 = (m : Int)) := by show _ = _; omega
      clear hr hx hm
      have HWD : Hid (Below (w.alloc (.cells #[.string t0, p1] 79)).heap.size (w.alloc (.cells #[.string t0, p1] 79)) wr.drew) := HWn.out.drew
      have hm0 : (0 : Int) ≤ (m : Int) := by omega
      have hm3 : (m : Int) < (l.length : Int) := by omega
      by_cases hz : r < 0
      · have HE : Hid (m < p) := HP.out.1 hz
        go_wp2_with fail
        rw [HMZ.out]
        refine region_tail 6 (by kernel_rfl) (by kernel_rfl) ?_
        intro W hWd
        rw [← hWd] at hB HWD yz y0 y1 c0 c1
        simp only [List.take_succ_cons, List.take_zero, List.drop_succ_cons, List.drop_zero]
        clear hWd
        repeat still_step
        refine wpStill_nil ?_
        go_wp2_with (go_at_call 74; refine (HX.out _).mono ?_; rintro e w2 ⟨rfl, hb2⟩)
        go_roundw
        case rel => exact ⟨m + 1, b, by go_num, rfl, HE.out, hb, hbl, blw_trans HWD.out hb2⟩
        case measure => simp [intOf]; omega
      · have HE : Hid (p ≤ m) := HP.out.2 hz
        have hz' : 0 ≤ r := by omega
        go_wp2_with fail
        rw [HMZ.out]
        refine region_tail 6 (by kernel_rfl) (by kernel_rfl) ?_
        intro W hWd
        rw [← hWd] at hB HWD yz y0 y1 c0 c1
        simp only [List.take_succ_cons, List.take_zero, List.drop_succ_cons, List.drop_zero]
        clear hWd
        repeat still_step
        refine wpStill_nil ?_
        go_wp2_with (go_at_call 74; refine (HX.out _).mono ?_; rintro e w2 ⟨rfl, hb2⟩)
        go_roundw
        case rel => exact ⟨a, m, rfl, rfl, ha, HE.out, by omega, blw_trans HWD.out hb2⟩
        case measure => simp [intOf]; omega
    · obtain rfl : a = p := by omega
      obtain rfl : b = a := by omega
      by_cases hpl : b < l.length
      · obtain ⟨x, hx⟩ : ∃ x, x = l.getD b Bt.none := ⟨_, rfl⟩
        obtain ⟨yz, ys⟩ := HY.out _ HWn.out
        have y0 : wr.cell? ⟨w.heap.size, 0, none⟩ = some (.string t0) := ys 0
        have y1 : wr.cell? ⟨w.heap.size, 1, none⟩ = some (p1) := ys 1
        clear ys
        have hin := HH.out.1.later HW0.out
        obtain ⟨B, off, hA, hB, hat⟩ := hin.at_ b hpl
        clear hin
        subst hA
        rw [← hx] at hat
        obtain ⟨c0, c1, _⟩ := hat
        obtain ⟨r, hr⟩ : ∃ r, r = keyCmp (x).nm t0 := ⟨_, rfl⟩
        have HX : Hid (∀ W, Calls Tryz.prog 74 #[.agg #[.string x.nm, .bool x.drain], .agg #[.string t0, p1]] W fun e w' => e = .returned (.int .i64 r) ∧ Below W.heap.size W w') := fun W => by rw [hr]; exact HC.out W x 0 0
        have HRR : Hid (R = decide (r = 0)) := by show R = _; rw [HR.out, hr, hx]; simp [hpl]
        clear hr hx
        have hNE := pst_some wr
        have hBx : ∀ px : Pst wr, B < px.W.heap.size := fun px => px.size hB
        have hyz : ∀ px : Pst wr, w.heap.size < px.W.heap.size := fun px => px.size yz
        have Y0 : ∀ px : Pst wr, px.W.cell? ⟨w.heap.size, 0, none⟩ = some (.string t0) := fun px => px.cell y0 yz
        have Y1 : ∀ px : Pst wr, px.W.cell? ⟨w.heap.size, 1, none⟩ = some (p1) := fun px => px.cell y1 yz
        have C0 : ∀ px : Pst wr, px.W.cell? ⟨B, off + b * 2, none⟩ = some (.string x.nm) := fun px => px.cell c0 hB
        have C1 : ∀ px : Pst wr, px.W.cell? ⟨B, off + b * 2 + 1, none⟩ = some (.bool x.drain) := fun px => px.cell c1 hB
        have hm0 : (0 : Int) ≤ (b : Int) := by omega
        have hm3 : (b : Int) < (l.length : Int) := by omega
        clear y0 y1 c0 c1 hB yz
        by_cases hz : r = 0
        all_goals
          have HE : Hid (R = decide (r = 0)) := HRR.out
          go_wp2_with fail
          refine region_class wr (Below.refl _ _) (by kernel_rfl) (by kernel_rfl) ?_
          repeat (first
            | go_big_quiet_skip
            | (go_big_quiet_want; go_big_quiet_op; first | go_big_quiet_on | (apply Exists.intro; refine ⟨fun px => ?_, ?_⟩; (focus (go_at_call 74; refine (HX.out _).mono ?_; rintro e w' ⟨he, hb⟩; exact ⟨he, ⟨w', blw_trans px.ok hb⟩, rfl⟩)); go_big_quiet_on)))
          refine wpQuiet_nil ?_
          intro _ hw'
          obtain ⟨x6, hw''⟩ := hw'
          subst hw''
          go_wp2
          go_ret2
          exact ⟨by rw [HE.out]; simp [hz], blw_trans HW0.out x6.ok⟩
      · have HE : Hid (R = false) := by show R = false; rw [HR.out]; simp [hpl]
        have hNE := pst_some wr
        go_wp2_with fail
        refine region_class wr (Below.refl _ _) (by kernel_rfl) (by kernel_rfl) ?_
        repeat (first
          | go_big_quiet_skip
          | (go_big_quiet_want; go_big_quiet_op; go_big_quiet_on))
        refine wpQuiet_nil ?_
        intro _ hw'
        obtain ⟨x6, hw''⟩ := hw'
        subst hw''
        go_wp2
        go_ret2
        refine ⟨?_, blw_trans HW0.out x6.ok⟩
        rw [HE.out]
        have : b = l.length := by omega
        simp [this]

end Go.Proofs.YtclagbakddkjcaaGreat

namespace Go.Proofs.YtclagbakddkjcaaGreat
open Go.RowKit Go.Deep

theorem posB_le (l : List Bt) (nm : ByteArray) : posB l nm ≤ l.length := by
  unfold posB
  rcases firstTo_cases (fun i => !Pl.less (l.getD i Bt.none).nm nm) l.length with ⟨e, _⟩ | ⟨k, hk, e, _⟩
  · rw [e, if_pos (by decide)]; exact Nat.le_refl _
  · rw [e, if_neg (by omega), Int.toNat_natCast]; omega
theorem posB_lt (l : List Bt) (nm : ByteArray) : ∀ i, i < posB l nm → keyCmp (l.getD i Bt.none).nm nm < 0 := by
  intro i hi
  have : Pl.less (l.getD i Bt.none).nm nm = true := by
    unfold posB at hi
    rcases firstTo_cases (fun i => !Pl.less (l.getD i Bt.none).nm nm) l.length with ⟨e, ha⟩ | ⟨k, hk, e, _, ha⟩
    · rw [e, if_pos (by decide)] at hi
      simpa using ha i hi
    · rw [e, if_neg (by omega), Int.toNat_natCast] at hi
      simpa using ha i hi
  rw [← keyCmp_neg] at this
  exact of_decide_eq_true this
theorem posB_ge {l : List Bt} (h : ascBt l = true) (nm : ByteArray) : ∀ i, posB l nm ≤ i → i < l.length → 0 ≤ keyCmp (l.getD i Bt.none).nm nm := by
  intro i hi hl
  rcases firstTo_cases (fun i => !Pl.less (l.getD i Bt.none).nm nm) l.length with ⟨e, ha⟩ | ⟨k, hk, e, hp, ha⟩
  · have : posB l nm = l.length := by unfold posB; rw [e, if_pos (by decide)]
    omega
  · have hk' : posB l nm = k := by unfold posB; rw [e, if_neg (by omega), Int.toNat_natCast]
    have h0 : 0 ≤ keyCmp (l.getD k Bt.none).nm nm := by
      have : Pl.less (l.getD k Bt.none).nm nm = false := by simpa using hp
      rw [← keyCmp_neg] at this
      have := of_decide_eq_false this
      omega
    exact row_ge kc_lin (g := fun i => (l.getD i Bt.none).nm.toList) ((ascBt_iff l).1 h) (t := nm.toList) (p := k) h0 i (by omega) hl
theorem posB_hit (l : List Bt) (nm : ByteArray) : (decide (posB l nm < l.length) && decide (keyCmp (l.getD (posB l nm) Bt.none).nm nm = 0)) = (decide (posB l nm < l.length) && same (l.getD (posB l nm) Bt.none).nm nm) := by
  congr 1
  rw [key_kc, kc, same]
  by_cases h : (l.getD (posB l nm) Bt.none).nm.toList = nm.toList
  · rw [h, less_irrefl]; simp
  · by_cases hb : Op.bytesLess (l.getD (posB l nm) Bt.none).nm.toList nm.toList = true
    · rw [hb, show ((l.getD (posB l nm) Bt.none).nm.toList == nm.toList) = false from by simpa using h]; rfl
    · rw [show Op.bytesLess (l.getD (posB l nm) Bt.none).nm.toList nm.toList = false from by simpa using hb, show ((l.getD (posB l nm) Bt.none).nm.toList == nm.toList) = false from by simpa using h]; rfl
theorem posS_le (l : List Sv) (nm : ByteArray) : posS l nm ≤ l.length := by
  unfold posS
  rcases firstTo_cases (fun i => !Pl.less (l.getD i Sv.none).nm nm) l.length with ⟨e, _⟩ | ⟨k, hk, e, _⟩
  · rw [e, if_pos (by decide)]; exact Nat.le_refl _
  · rw [e, if_neg (by omega), Int.toNat_natCast]; omega
theorem posS_lt (l : List Sv) (nm : ByteArray) : ∀ i, i < posS l nm → keyCmp (l.getD i Sv.none).nm nm < 0 := by
  intro i hi
  have : Pl.less (l.getD i Sv.none).nm nm = true := by
    unfold posS at hi
    rcases firstTo_cases (fun i => !Pl.less (l.getD i Sv.none).nm nm) l.length with ⟨e, ha⟩ | ⟨k, hk, e, _, ha⟩
    · rw [e, if_pos (by decide)] at hi
      simpa using ha i hi
    · rw [e, if_neg (by omega), Int.toNat_natCast] at hi
      simpa using ha i hi
  rw [← keyCmp_neg] at this
  exact of_decide_eq_true this
theorem posS_ge {l : List Sv} (h : ascSv l = true) (nm : ByteArray) : ∀ i, posS l nm ≤ i → i < l.length → 0 ≤ keyCmp (l.getD i Sv.none).nm nm := by
  intro i hi hl
  rcases firstTo_cases (fun i => !Pl.less (l.getD i Sv.none).nm nm) l.length with ⟨e, ha⟩ | ⟨k, hk, e, hp, ha⟩
  · have : posS l nm = l.length := by unfold posS; rw [e, if_pos (by decide)]
    omega
  · have hk' : posS l nm = k := by unfold posS; rw [e, if_neg (by omega), Int.toNat_natCast]
    have h0 : 0 ≤ keyCmp (l.getD k Sv.none).nm nm := by
      have : Pl.less (l.getD k Sv.none).nm nm = false := by simpa using hp
      rw [← keyCmp_neg] at this
      have := of_decide_eq_false this
      omega
    exact row_ge kc_lin (g := fun i => (l.getD i Sv.none).nm.toList) ((ascSv_iff l).1 h) (t := nm.toList) (p := k) h0 i (by omega) hl
theorem posS_hit (l : List Sv) (nm : ByteArray) : (decide (posS l nm < l.length) && decide (keyCmp (l.getD (posS l nm) Sv.none).nm nm = 0)) = (decide (posS l nm < l.length) && same (l.getD (posS l nm) Sv.none).nm nm) := by
  congr 1
  rw [key_kc, kc, same]
  by_cases h : (l.getD (posS l nm) Sv.none).nm.toList = nm.toList
  · rw [h, less_irrefl]; simp
  · by_cases hb : Op.bytesLess (l.getD (posS l nm) Sv.none).nm.toList nm.toList = true
    · rw [hb, show ((l.getD (posS l nm) Sv.none).nm.toList == nm.toList) = false from by simpa using h]; rfl
    · rw [show Op.bytesLess (l.getD (posS l nm) Sv.none).nm.toList nm.toList = false from by simpa using hb, show ((l.getD (posS l nm) Sv.none).nm.toList == nm.toList) = false from by simpa using h]; rfl
theorem insOneB (lo : Nat) (W : World) (p : Option Addr) (q : Nat) (l : List Bt) (h : W.ownsRow lo 79 2 (.slice p l.length q) l.length (l.flatMap BtC)) (x : Bt) (gc : Nat) (hgc : W.heap[gc]? = some (.cells (BtC x).toArray 79 (0, 0))) (hne : ∀ g, p = some ⟨g, 0, none⟩ → g ≠ gc) (i : Nat) (hi : i ≤ l.length) (hn : l.length + 1 ≤ 1048576) (hlo : lo ≤ W.heap.size) :
    Calls Tryz.prog 91 #[.slice p l.length q, .int .i64 (i : Nat), .slice (some ⟨gc, 0, none⟩) 1 1] W fun e W' => ∃ g' q', e = .returned (.slice (some ⟨g', 0, none⟩) (l.length + 1) q') ∧ W'.ownsRow lo 79 2 (.slice (some ⟨g', 0, none⟩) (l.length + 1) q') (l.length + 1) ((l.take i ++ [x] ++ l.drop i).flatMap BtC) ∧ BelO p W W' := by
  have hv : ∀ j u, (BtC x)[j]? = some u → W.cell? ⟨gc, j, none⟩ = some u := fun j u hu => by
    simp only [World.cell?, hgc]
    simpa using hu
  have e1 : (l.take i ++ [x] ++ l.drop i).flatMap BtC = (l.flatMap BtC).take (i * 2) ++ BtC x ++ (l.flatMap BtC).drop (i * 2) := by
    rw [List.flatMap_append, List.flatMap_append, flat_take BtC 2 BtC_len, flat_drop BtC 2 BtC_len]
    simp
  have h1 : ∀ u ∈ BtC x, u.oneCell' = true := fun u hu => BtC_one [x] u (by simpa using hu)
  by_cases hin : i = l.length
  · refine (insEndB lo W p l.length q _ _ h gc 1 1 hv (by rw [BtC_len]) h1 (by omega) hn hlo).mono ?_ |> fun z => by rw [hin]; exact z
    rintro e W' ⟨g', q', rfl, w1, w2⟩
    refine ⟨g', q', rfl, ?_, w2⟩
    have hx := h.1
    have e2 : (l.take i ++ [x] ++ l.drop i).flatMap BtC = l.flatMap BtC ++ BtC x := by rw [e1, List.take_of_length_le (by rw [hx, hin]; exact Nat.le_refl _), List.drop_of_length_le (by rw [hx, hin]; exact Nat.le_refl _), List.append_nil]
    first | (rw [e2]; exact w1) | (rw [hin] at e2; rw [e2]; exact w1)
  · rcases h.2 with ⟨_, e⟩ | ⟨g, cap, cur, e, _⟩
    · omega
    cases e
    rw [e1]
    by_cases hroom : l.length + 1 ≤ q
    · exact insRoomB lo W g l.length q _ _ h (BtC_one l) gc 1 1 _ hgc hv (by rw [BtC_len]) h1 (by omega) (fun e => hne g rfl e.symm) i (by omega) hroom hn
    · exact insGrowB lo W g l.length q _ _ h (BtC_one l) gc 1 1 _ hgc hv (by rw [BtC_len]) h1 (by omega) i (by omega) (by omega) hlo hn
theorem insOneS (lo : Nat) (W : World) (p : Option Addr) (q : Nat) (l : List Sv) (h : W.ownsRow lo 41 13 (.slice p l.length q) l.length (l.flatMap SvC)) (x : Sv) (gc : Nat) (hgc : W.heap[gc]? = some (.cells (SvC x).toArray 41 (0, 0))) (hne : ∀ g, p = some ⟨g, 0, none⟩ → g ≠ gc) (i : Nat) (hi : i ≤ l.length) (hn : l.length + 1 ≤ 1048576) (hlo : lo ≤ W.heap.size) :
    Calls Tryz.prog 84 #[.slice p l.length q, .int .i64 (i : Nat), .slice (some ⟨gc, 0, none⟩) 1 1] W fun e W' => ∃ g' q', e = .returned (.slice (some ⟨g', 0, none⟩) (l.length + 1) q') ∧ W'.ownsRow lo 41 13 (.slice (some ⟨g', 0, none⟩) (l.length + 1) q') (l.length + 1) ((l.take i ++ [x] ++ l.drop i).flatMap SvC) ∧ BelO p W W' := by
  have hv : ∀ j u, (SvC x)[j]? = some u → W.cell? ⟨gc, j, none⟩ = some u := fun j u hu => by
    simp only [World.cell?, hgc]
    simpa using hu
  have e1 : (l.take i ++ [x] ++ l.drop i).flatMap SvC = (l.flatMap SvC).take (i * 13) ++ SvC x ++ (l.flatMap SvC).drop (i * 13) := by
    rw [List.flatMap_append, List.flatMap_append, flat_take SvC 13 SvC_len, flat_drop SvC 13 SvC_len]
    simp
  have h1 : ∀ u ∈ SvC x, u.oneCell' = true := fun u hu => SvC_one [x] u (by simpa using hu)
  by_cases hin : i = l.length
  · refine (insEndS lo W p l.length q _ _ h gc 1 1 hv (by rw [SvC_len]) h1 (by omega) hn hlo).mono ?_ |> fun z => by rw [hin]; exact z
    rintro e W' ⟨g', q', rfl, w1, w2⟩
    refine ⟨g', q', rfl, ?_, w2⟩
    have hx := h.1
    have e2 : (l.take i ++ [x] ++ l.drop i).flatMap SvC = l.flatMap SvC ++ SvC x := by rw [e1, List.take_of_length_le (by rw [hx, hin]; exact Nat.le_refl _), List.drop_of_length_le (by rw [hx, hin]; exact Nat.le_refl _), List.append_nil]
    first | (rw [e2]; exact w1) | (rw [hin] at e2; rw [e2]; exact w1)
  · rcases h.2 with ⟨_, e⟩ | ⟨g, cap, cur, e, _⟩
    · omega
    cases e
    rw [e1]
    by_cases hroom : l.length + 1 ≤ q
    · exact insRoomS lo W g l.length q _ _ h (SvC_one l) gc 1 1 _ hgc hv (by rw [SvC_len]) h1 (by omega) (fun e => hne g rfl e.symm) i (by omega) hroom hn
    · exact insGrowS lo W g l.length q _ _ h (SvC_one l) gc 1 1 _ hgc hv (by rw [SvC_len]) h1 (by omega) i (by omega) (by omega) hlo hn

/-- All but a variable and a row as it was. -/
structure BelY (px : Nat) (p : Option Addr) (v W : World) : Prop where
  os : W.os = v.os
  tape : W.tape = v.tape
  output : W.output = v.output
  size : v.heap.size ≤ W.heap.size
  block : ∀ b, b < v.heap.size → b ≠ px → (∀ g, p = some ⟨g, 0, none⟩ → b ≠ g) → W.heap[b]? = v.heap[b]?
theorem BelY.of {px : Nat} {p : Option Addr} {v W : World} (h : Below v.heap.size v W) : BelY px p v W := ⟨h.os, h.tape, h.output, h.size, fun b hb _ _ => h.block b hb⟩
theorem BelY.call {px : Nat} {p : Option Addr} {v W W' : World} (h : Below v.heap.size v W) (hb : BelO p W W') : BelY px p v W' :=
  ⟨hb.os.trans h.os, hb.tape.trans h.tape, hb.output.trans h.output, Nat.le_trans h.size hb.size, fun b q _ hn => (hb.block b (Nat.lt_of_lt_of_le q h.size) hn).trans (h.block b q)⟩
theorem BelY.sc {px : Nat} {p : Option Addr} {v W : World} (h : BelY px p v W) (o : Nat) (x : Value) : BelY px p v (W.setCell ⟨px, o, none⟩ x) :=
  ⟨h.os, h.tape, h.output, by rw [sc_size]; exact h.size, fun q hq hn hg => (Below.heap_setCell W ⟨px, o, none⟩ x q hn).trans (h.block q hq hn hg)⟩
theorem BelY.lo {px lo : Nat} {p : Option Addr} {v W : World} (h : BelY px p v W) (hx : lo ≤ px) (hg : ∀ g, p = some ⟨g, 0, none⟩ → lo ≤ g) (hl : lo ≤ v.heap.size) : Below lo v W :=
  ⟨h.os, h.tape, h.output, h.size, fun q hq => h.block q (by omega) (by omega) (fun g e => by have := hg g e; omega)⟩
theorem owns_bely {R W : World} {lo px : Nat} {p : Option Addr} {e e1 e2 : TypeId} {size : Nat} {v : Value} {n : Nat} {xs : List Value} {cs : Array Value} (h : R.ownsRow lo e size v n xs) (hx : BelY px p R W) (hpx : R.heap[px]? = some (.cells cs e1 (0, 0))) (h1 : e ≠ e1) (hp : ∀ g, p = some ⟨g, 0, none⟩ → ∃ cur, R.heap[g]? = some (.cells cur e2 (0, 0))) (h2 : e ≠ e2) : W.ownsRow lo e size v n xs := by
  refine ⟨h.1, h.2.imp id ?_⟩
  rintro ⟨g, cap, cur, w1, w2, w3, w4⟩
  refine ⟨g, cap, cur, w1, w2, (hx.block g (lt_heap w3) (fun e' => ?_) (fun g' e' => ?_)).trans w3, w4⟩
  · subst e'
    rw [hpx] at w3
    injection w3 with w3
    injection w3 with _ w3 _
    exact h1 w3.symm
  · intro e3
    subst e3
    obtain ⟨cur', hc⟩ := hp g e'
    rw [hc] at w3
    injection w3 with w3
    injection w3 with _ w3 _
    exact h2 w3.symm
theorem owns_typ {R : World} {lo : Nat} {e : TypeId} {size n q : Nat} {p : Option Addr} {xs : List Value} (h : R.ownsRow lo e size (.slice p n q) n xs) : ∀ g, p = some ⟨g, 0, none⟩ → lo ≤ g ∧ ∃ cur, R.heap[g]? = some (.cells cur e (0, 0)) := fun g hg => by
  rcases h.2 with ⟨hv, _⟩ | ⟨g', cap, cur, hv, hl, hb, _⟩
  · cases hv; cases hg
  · cases hv; cases hg; exact ⟨hl, cur, hb⟩
/-- What stands while a row of a change is turned by a call, in any order. -/
def TY (R : World) (px : Nat) (p : Option Addr) (t : TypeId) (cw : Value → Array Value) (lo : Nat) (E : TypeId) (size m : Nat) (xs bx : List Value) (b c s : Nat) (up : Nat → Bool) (vals : Nat → Value) (W : World) : Prop :=
  BelY px p R W ∧ (up c = false → Below R.heap.size R W) ∧ (up c = true → ∃ g q, vals c = .slice g m q ∧ W.ownsRow lo E size (.slice g m q) m xs) ∧ (up s = false → W.heap[px]? = R.heap[px]?) ∧ (up s = true → W.heap[px]? = some (.cells (cw (vals c)) t (0, 0))) ∧ (up b = true → up c = false → ∃ gc, vals b = .slice (some ⟨gc, 0, none⟩) 1 1 ∧ R.heap.size ≤ gc ∧ W.heap[gc]? = some (.cells bx.toArray E (0, 0)))

end Go.Proofs.YtclagbakddkjcaaGreat
