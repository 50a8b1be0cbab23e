/-
  Recorders: what is held, and roles: the program's.
-/
import Derived.Test.YtcefgacmagobnaaRvP
import Derived.Test.YtcefgacmagobnaaRmI
import Derived.Test.YtcefgacmagobnaaLBx
namespace Go.Proofs.Ytcefgacmagobnaa
open Go.RowKit Go.Deep

theorem numCmp_neg (a b : Int) : numCmp a b < 0 ↔ a < b := by
  unfold numCmp
  split
  · simp [*]
  · split
    · simp; omega
    · simp; omega

set_option maxHeartbeats 1000000 in
theorem cmpNuI (a b : Int) (w : World) : Calls Try.prog 85 #[.int .i64 a, .int .i64 b] w fun e w' => e = .returned (.int .i64 (numCmp a b)) ∧ w = w' := by
  go_enter Try.func85, Try.ntmps85
  go_wp2_with (go_at_call 99; refine (cmpI _ _ _).mono ?_; rintro e w' ⟨rfl, rfl⟩)
  go_ret
  exact ⟨rfl, rfl⟩

set_option maxHeartbeats 2000000 in
theorem cmpRaI (x y : Int) (p q : Value) (w : World) :
    Calls Try.prog 87 #[.agg #[.int .i64 x, p], .agg #[.int .i64 y, q]] w fun e w' => e = .returned (.int .i64 (numCmp x y)) ∧ Below w.heap.size w w' := by
  obtain ⟨wa, hwa⟩ : ∃ wa, wa = (w.alloc (.cells #[.int .i64 x, p] 122)).alloc (.cells #[.int .i64 y, q] 122) := ⟨_, rfl⟩
  have HB : Hid (Below w.heap.size w wa) := by show Below _ _ _; rw [hwa]; exact blw_alloc (blw_alloc (Below.refl _ _) _) _
  have a0 : wa.cell? ⟨w.heap.size, 0, none⟩ = some (.int .i64 x) := by
    rw [hwa]; exact (World.cell?_alloc_past _ _ _ (by simp)).trans (World.cell?_alloc_at _ _ _ _ rfl)
  have b0 : wa.cell? ⟨w.heap.size + 1, 0, none⟩ = some (.int .i64 y) := by
    rw [hwa]; exact (World.cell?_alloc_at _ _ _ _ (by simp))
  have z : w.heap.size + 1 < wa.heap.size := by rw [hwa]; simp
  have z' : w.heap.size < wa.heap.size := by omega
  go_enter Try.func87, Try.ntmps87
  go_upto_region 1 with fail
  rw [← hwa]
  clear hwa
  go_wp2_with (go_at_call 85; refine (cmpNuI _ _ _).mono ?_; rintro e w' ⟨rfl, rfl⟩)
  go_ret
  exact ⟨rfl, HB.out⟩

def ascNu (l : List Nu) : Bool := allTo (fun i => decide (numCmp (l.getD i 0) (l.getD (i + 1) 0) < 0)) (l.length - 1)

set_option maxRecDepth 8000 in
set_option maxHeartbeats 8000000 in
theorem ascNuI (a : Option Addr) (c : Nat) (l : List Nu) (w : World) (h : NusV w a l) :
    Calls Try.prog 84 #[.slice a l.length c, .func (.func 85) #[] #[]] w fun e w' => e = .returned (.bool (ascNu l)) ∧ Below w.heap.size w w' := by
  have hl := h.len
  have HH : Hid (NusV w a l) := h
  obtain ⟨R, hR⟩ : ∃ R, R = ascNu l := ⟨_, rfl⟩
  have HR : Hid (R = ascNu l) := hR
  rw [← hR]
  clear h hR
  go_enter Try.func84, Try.ntmps84
  go_wp2
  go_loopw [5] (fun i wr => ∃ j : Nat, j ≤ l.length - 1 ∧ i = .int .i64 ((j + 1 : Nat) : Int) ∧ allTo (fun i => decide (numCmp (l.getD i 0) (l.getD (i + 1) 0) < 0)) j = true ∧ Below w.heap.size w wr) (fun i _ => l.length - (intOf i).toNat)
  case atStart => exact ⟨0, Nat.zero_le _, rfl, rfl, Below.refl _ _⟩
  case round =>
    obtain ⟨j, hj, rfl, hq, hW⟩ := hrel
    have HQ := hid hq
    clear hq
    by_cases hlt : j + 1 < l.length
    · obtain ⟨x, hx⟩ : ∃ x, x = l.getD j 0 := ⟨_, rfl⟩
      obtain ⟨y, hy⟩ : ∃ y, y = l.getD (j + 1) 0 := ⟨_, rfl⟩
      have HWD := hid hW.drew
      obtain ⟨b, off, ha, hB, c0⟩ := (HH.out.later hW.drew).at_ j (by omega)
      obtain ⟨b', off', ha', _, d0⟩ := (HH.out.later hW.drew).at_ (j + 1) hlt
      rw [ha] at ha'
      injection ha' with ha'
      injection ha' with hb1 hb2 _
      subst hb1 hb2
      clear hW
      subst ha
      rw [← hx] at c0
      rw [← hy] at d0
      obtain ⟨r, hr⟩ : ∃ r, r = numCmp x y := ⟨_, rfl⟩
      have HX : Hid (∀ W, Calls Try.prog 85 #[.int .i64 x, .int .i64 y] W fun e w' => e = .returned (.int .i64 r) ∧ Below W.heap.size W w') := fun W => by rw [hr]; exact (cmpNuI _ _ W).mono (fun _ _ h => ⟨h.1, by rw [h.2]; exact Below.refl _ _⟩)
      have HP : Hid ((fun i => decide (numCmp (l.getD i 0) (l.getD (i + 1) 0) < 0)) j = decide (r < 0)) := by show decide _ = _; rw [hr, hx, hy]
      clear hr hx hy
      by_cases hz : r < 0
      · have HE := hid (allTo_step HQ.out (HP.out.trans (decide_eq_true hz)))
        go_wp2_with fail
        refine region_tail 10 (by kernel_rfl) (by kernel_rfl) ?_
        intro W hWd
        rw [← hWd] at hB HWD c0 d0
        simp only [List.take_succ_cons, List.take_zero, List.drop_succ_cons, List.drop_zero]
        clear hWd
        have hj0 : (0 : Int) ≤ (j : Int) := by omega
        have hj1 : (j : Int) < (l.length : Int) := by omega
        have hj2 : (0 : Int) ≤ (j : Int) + 1 := by omega
        have hjw : IntKind.i64.wrap (j : Int) = (j : Int) := wrapI _ (by omega) (by omega)
        repeat still_step
        refine wpStill_nil ?_
        go_wp2_with (go_at_call 85; refine (HX.out _).mono ?_; rintro e w2 ⟨rfl, hb2⟩)
        go_roundw
        case rel => exact ⟨j + 1, by omega, by go_num, HE.out, blw_trans HWD.out hb2⟩
        case measure => simp [intOf]; omega
      · have HE : Hid (R = false) := by show R = false; rw [HR.out]; exact allTo_false (k := j) (HP.out.trans (decide_eq_false hz)) _ (by omega)
        go_wp2_with fail
        refine region_tail 10 (by kernel_rfl) (by kernel_rfl) ?_
        intro W hWd
        rw [← hWd] at hB HWD c0 d0
        simp only [List.take_succ_cons, List.take_zero, List.drop_succ_cons, List.drop_zero]
        clear hWd
        have hj0 : (0 : Int) ≤ (j : Int) := by omega
        have hj1 : (j : Int) < (l.length : Int) := by omega
        have hj2 : (0 : Int) ≤ (j : Int) + 1 := by omega
        have hjw : IntKind.i64.wrap (j : Int) = (j : Int) := wrapI _ (by omega) (by omega)
        repeat still_step
        refine wpStill_nil ?_
        go_wp2_with (go_at_call 85; refine (HX.out _).mono ?_; rintro e w2 ⟨rfl, hb2⟩)
        go_ret
        exact ⟨Pl.ret_bool HE.out.symm, blw_trans HWD.out hb2⟩
    · have HE : Hid (R = true) := by
        show R = true
        rw [HR.out]
        have : j = l.length - 1 := by omega
        rw [this] at HQ; exact HQ.out
      go_wp2
      go_ret
      exact ⟨Pl.ret_bool HE.out.symm, hW⟩

def ascRa (l : List Ra) : Bool := allTo (fun i => decide (numCmp (l.getD i Ra.none).ix (l.getD (i + 1) Ra.none).ix < 0)) (l.length - 1)

set_option maxRecDepth 8000 in
set_option maxHeartbeats 8000000 in
theorem ascRaI (a : Option Addr) (c : Nat) (l : List Ra) (w : World) (h : RasV w a l) :
    Calls Try.prog 86 #[.slice a l.length c, .func (.func 87) #[] #[]] w fun e w' => e = .returned (.bool (ascRa l)) ∧ Below w.heap.size w w' := by
  have hl := h.len
  have HH : Hid (RasV w a l) := h
  obtain ⟨R, hR⟩ : ∃ R, R = ascRa l := ⟨_, rfl⟩
  have HR : Hid (R = ascRa l) := hR
  rw [← hR]
  clear h hR
  go_enter Try.func86, Try.ntmps86
  go_wp2
  go_loopw [5] (fun i wr => ∃ j : Nat, j ≤ l.length - 1 ∧ i = .int .i64 ((j + 1 : Nat) : Int) ∧ allTo (fun i => decide (numCmp (l.getD i Ra.none).ix (l.getD (i + 1) Ra.none).ix < 0)) j = true ∧ Below w.heap.size w wr) (fun i _ => l.length - (intOf i).toNat)
  case atStart => exact ⟨0, Nat.zero_le _, rfl, rfl, Below.refl _ _⟩
  case round =>
    obtain ⟨j, hj, rfl, hq, hW⟩ := hrel
    have HQ := hid hq
    clear hq
    by_cases hlt : j + 1 < l.length
    · obtain ⟨x, hx⟩ : ∃ x, x = l.getD j Ra.none := ⟨_, rfl⟩
      obtain ⟨y, hy⟩ : ∃ y, y = l.getD (j + 1) Ra.none := ⟨_, rfl⟩
      have HWD := hid hW.drew
      obtain ⟨b, off, aa, ca, ha, hB, c0, c1, _⟩ := (HH.out.later hW.drew).at_ j (by omega)
      obtain ⟨b', off', aa', ca', ha', _, d0, d1, _⟩ := (HH.out.later hW.drew).at_ (j + 1) hlt
      rw [ha] at ha'
      injection ha' with ha'
      injection ha' with hb1 hb2 _
      subst hb1 hb2
      clear hW
      subst ha
      rw [← hx] at c0 c1
      rw [← hy] at d0 d1
      obtain ⟨r, hr⟩ : ∃ r, r = numCmp x.ix y.ix := ⟨_, rfl⟩
      have HX : Hid (∀ W, Calls Try.prog 87 #[.agg #[.int .i64 x.ix, .slice aa x.frs.length ca], .agg #[.int .i64 y.ix, .slice aa' y.frs.length ca']] W fun e w' => e = .returned (.int .i64 r) ∧ Below W.heap.size W w') := fun W => by rw [hr]; exact cmpRaI _ _ _ _ W
      have HP : Hid ((fun i => decide (numCmp (l.getD i Ra.none).ix (l.getD (i + 1) Ra.none).ix < 0)) j = decide (r < 0)) := by show decide _ = _; rw [hr, hx, hy]
      clear hr hx hy
      by_cases hz : r < 0
      · have HE := hid (allTo_step HQ.out (HP.out.trans (decide_eq_true hz)))
        go_wp2_with fail
        refine region_tail 10 (by kernel_rfl) (by kernel_rfl) ?_
        intro W hWd
        rw [← hWd] at hB HWD c0 c1 d0 d1
        simp only [List.take_succ_cons, List.take_zero, List.drop_succ_cons, List.drop_zero]
        clear hWd
        have hj0 : (0 : Int) ≤ (j : Int) := by omega
        have hj1 : (j : Int) < (l.length : Int) := by omega
        have hj2 : (0 : Int) ≤ (j : Int) + 1 := by omega
        have hjw : IntKind.i64.wrap (j : Int) = (j : Int) := wrapI _ (by omega) (by omega)
        repeat still_step
        refine wpStill_nil ?_
        go_wp2_with (go_at_call 87; refine (HX.out _).mono ?_; rintro e w2 ⟨rfl, hb2⟩)
        go_roundw
        case rel => exact ⟨j + 1, by omega, by go_num, HE.out, blw_trans HWD.out hb2⟩
        case measure => simp [intOf]; omega
      · have HE : Hid (R = false) := by show R = false; rw [HR.out]; exact allTo_false (k := j) (HP.out.trans (decide_eq_false hz)) _ (by omega)
        go_wp2_with fail
        refine region_tail 10 (by kernel_rfl) (by kernel_rfl) ?_
        intro W hWd
        rw [← hWd] at hB HWD c0 c1 d0 d1
        simp only [List.take_succ_cons, List.take_zero, List.drop_succ_cons, List.drop_zero]
        clear hWd
        have hj0 : (0 : Int) ≤ (j : Int) := by omega
        have hj1 : (j : Int) < (l.length : Int) := by omega
        have hj2 : (0 : Int) ≤ (j : Int) + 1 := by omega
        have hjw : IntKind.i64.wrap (j : Int) = (j : Int) := wrapI _ (by omega) (by omega)
        repeat still_step
        refine wpStill_nil ?_
        go_wp2_with (go_at_call 87; refine (HX.out _).mono ?_; rintro e w2 ⟨rfl, hb2⟩)
        go_ret
        exact ⟨Pl.ret_bool HE.out.symm, blw_trans HWD.out hb2⟩
    · have HE : Hid (R = true) := by
        show R = true
        rw [HR.out]
        have : j = l.length - 1 := by omega
        rw [this] at HQ; exact HQ.out
      go_wp2
      go_ret
      exact ⟨Pl.ret_bool HE.out.symm, hW⟩

theorem numsOk_eq (l : List Nu) (of : Int) : (allTo (fun i => inB (l.getD i 0) 1 of) l.length && ascNu l) = numsOk l of := by
  rw [Bool.eq_iff_iff, Bool.and_eq_true, numsOk, ascNu, allTo_iff, allTo_iff, allTo_iff]
  unfold numAt
  simp only [Bool.and_eq_true, Bool.or_eq_true, decide_eq_true_eq, numCmp_neg]
  constructor
  · rintro ⟨h, k⟩ i hi
    refine ⟨h i hi, ?_⟩
    by_cases e : i = 0
    · exact Or.inl e
    · right
      have := k (i - 1) (by omega)
      rwa [show i - 1 + 1 = i by omega] at this
  · intro h
    refine ⟨fun i hi => (h i hi).1, fun i hi => ?_⟩
    rcases (h (i + 1) (by omega)).2 with e | e
    · omega
    · exact e

theorem acksOk_eq (l : List Ra) (of : Int) : (allTo (fun i => inB (l.getD i Ra.none).ix 1 120 && numsOk (l.getD i Ra.none).frs of) l.length && ascRa l) = acksOk l of := by
  rw [Bool.eq_iff_iff, Bool.and_eq_true, acksOk, ascRa, allTo_iff, allTo_iff, allTo_iff]
  unfold ackAt
  simp only [Bool.and_eq_true, Bool.or_eq_true, decide_eq_true_eq, numCmp_neg]
  constructor
  · rintro ⟨h, k⟩ i hi
    refine ⟨h i hi, ?_⟩
    by_cases e : i = 0
    · exact Or.inl e
    · right
      have := k (i - 1) (by omega)
      rwa [show i - 1 + 1 = i by omega] at this
  · intro h
    refine ⟨fun i hi => (h i hi).1, fun i hi => ?_⟩
    rcases (h (i + 1) (by omega)).2 with e | e
    · omega
    · exact e

set_option maxRecDepth 8000 in
set_option maxHeartbeats 8000000 in
theorem numbersOkI (l : List Nu) (of : Int) (a : Option Addr) (c : Nat) (w : World) (h : NusV w a l) :
    Calls Try.prog 56 #[.slice a l.length c, .int .i64 of] w fun e w' => e = .returned (.bool (numsOk l of)) ∧ Below w.heap.size w w' := by
  have HH := hid h
  have hl := h.len
  clear h
  obtain ⟨R, hR⟩ : ∃ R, R = numsOk l of := ⟨_, rfl⟩
  have HR : Hid (R = (allTo (fun i => inB (l.getD i 0) 1 of) l.length && ascNu l)) := by show R = _; rw [numsOk_eq]; exact hR
  rw [← hR]
  clear hR
  go_enter Try.func56, Try.ntmps56
  go_wp2
  go_loopw [9] (fun i wr => ∃ q : Nat, q ≤ l.length ∧ i = .int .i64 q ∧ allTo (fun i => inB (l.getD i 0) 1 of) q = true ∧ wr = w) (fun i _ => l.length - (intOf i).toNat)
  case atStart => exact ⟨0, Nat.zero_le _, rfl, rfl, rfl⟩
  case round =>
    obtain ⟨q, hq, rfl, ha, hW⟩ := hrel
    subst hW
    have HQ := hid ha
    clear ha
    by_cases hlt : q < l.length
    · obtain ⟨b, off, ha, hbl, f0⟩ := HH.out.at_ q hlt
      subst ha
      obtain ⟨x, hx⟩ : ∃ x, x = l.getD q 0 := ⟨_, rfl⟩
      rw [← hx] at f0
      have HP : Hid ((fun i => inB (l.getD i 0) 1 of) q = inB x 1 of) := by show _ = _; rw [hx]
      clear hx
      have hm0 : (0 : Int) ≤ (q : Int) := by omega
      have hm3 : (q : Int) < (l.length : Int) := by omega
      cases hin : inB x 1 of
      · have HF : Hid (R = false) := by show R = false; rw [HR.out, allTo_false (k := q) (HP.out.trans hin) _ hlt]; rfl
        go_wp2_with (go_at_call 24; refine (withinI _ _ _ _).mono ?_; rintro e w' ⟨rfl, rfl⟩)
        go_ret
        exact ⟨Pl.ret_bool HF.out.symm, Below.refl _ _⟩
      · have HT := hid (allTo_step HQ.out (HP.out.trans hin))
        go_wp2_with (go_at_call 24; refine (withinI _ _ _ _).mono ?_; rintro e w' ⟨rfl, rfl⟩)
        go_roundw
        case rel => exact ⟨q + 1, by omega, by go_num, HT.out, by first | rfl | trivial⟩
        case measure => simp [intOf]; omega
    · obtain rfl : q = l.length := by omega
      have HE : Hid (R = ascNu l) := by show R = _; rw [HR.out, HQ.out]; rfl
      go_wp2_with fail
      refine (ascNuI a c l wr HH.out).mono ?_
      rintro e w2 ⟨rfl, hb⟩
      go_wp2
      go_ret
      exact ⟨Pl.ret_bool HE.out.symm, hb⟩

set_option maxRecDepth 8000 in
set_option maxHeartbeats 8000000 in
theorem acksOkI (l : List Ra) (of : Int) (a : Option Addr) (c : Nat) (w : World) (h : RasV w a l) :
    Calls Try.prog 58 #[.slice a l.length c, .int .i64 of] w fun e w' => e = .returned (.bool (acksOk l of)) ∧ Below w.heap.size w w' := by
  have HH := hid h
  have hl := h.len
  clear h
  obtain ⟨R, hR⟩ : ∃ R, R = acksOk l of := ⟨_, rfl⟩
  have HR : Hid (R = (allTo (fun i => inB (l.getD i Ra.none).ix 1 120 && numsOk (l.getD i Ra.none).frs of) l.length && ascRa l)) := by show R = _; rw [acksOk_eq]; exact hR
  rw [← hR]
  clear hR
  go_enter Try.func58, Try.ntmps58
  go_wp2
  go_loopw [9] (fun i wr => ∃ q : Nat, q ≤ l.length ∧ i = .int .i64 q ∧ allTo (fun i => inB (l.getD i Ra.none).ix 1 120 && numsOk (l.getD i Ra.none).frs of) q = true ∧ Below w.heap.size w wr) (fun i _ => l.length - (intOf i).toNat)
  case atStart => exact ⟨0, Nat.zero_le _, rfl, rfl, Below.refl _ _⟩
  case round =>
    obtain ⟨q, hq, rfl, ha, hW⟩ := hrel
    have HQ := hid ha
    have HW := hid hW
    clear ha hW
    by_cases hlt : q < l.length
    · obtain ⟨b, off, a0, c0, ha, hbl, f0, f1, hn⟩ := (HH.out.later HW.out).at_ q hlt
      subst ha
      obtain ⟨x, hx⟩ : ∃ x, x = l.getD q Ra.none := ⟨_, rfl⟩
      rw [← hx] at f0 f1 hn
      have HP : Hid ((fun i => inB (l.getD i Ra.none).ix 1 120 && numsOk (l.getD i Ra.none).frs of) q = (inB x.ix 1 120 && numsOk x.frs of)) := by show _ = _; rw [hx]
      have HN := hid hn
      clear hx hn
      have hm0 : (0 : Int) ≤ (q : Int) := by omega
      have hm3 : (q : Int) < (l.length : Int) := by omega
      obtain ⟨w2, hw2⟩ : ∃ w2, w2 = wr.alloc (.cells #[.int .i64 x.ix, .slice a0 x.frs.length c0] 122) := ⟨_, rfl⟩
      have HW2 : Hid (Below wr.heap.size wr w2) := by show Below _ _ _; rw [hw2]; exact blw_alloc (Below.refl _ _) _
      have z0 : w2.cell? ⟨wr.heap.size, 0, none⟩ = some (.int .i64 x.ix) := by rw [hw2]; exact World.cell?_alloc_at _ _ _ _ rfl
      have z1 : w2.cell? ⟨wr.heap.size, 1, none⟩ = some (.slice a0 x.frs.length c0) := by rw [hw2]; exact World.cell?_alloc_at _ _ _ _ rfl
      have zz : wr.heap.size < w2.heap.size := by rw [hw2]; simp
      go_upto_region 4 with fail
      rw [← hw2]
      clear hw2 f0 f1 hbl
      have HB2 := hid (blw_trans HW.out HW2.out)
      cases hin : inB x.ix 1 120
      · have HF : Hid (R = false) := by show R = false; rw [HR.out, allTo_false (k := q) (HP.out.trans (by rw [hin]; rfl)) _ hlt]; rfl
        go_wp2_with (go_at_call 24; refine (withinI _ _ _ _).mono ?_; rintro e w' ⟨rfl, rfl⟩)
        go_ret
        exact ⟨Pl.ret_bool HF.out.symm, HB2.out⟩
      go_wp2_with (go_at_call 24; refine (withinI _ _ _ _).mono ?_; rintro e w' ⟨rfl, rfl⟩)
      refine (numbersOkI x.frs of a0 c0 _ (HN.out.later HW2.out)).mono ?_
      rintro e w3 ⟨rfl, hb3⟩
      have HB3 := hid (blw_trans HB2.out hb3)
      clear z0 z1 zz hb3
      cases hk : numsOk x.frs of
      · have HF : Hid (R = false) := by show R = false; rw [HR.out, allTo_false (k := q) (HP.out.trans (by rw [hin, hk]; rfl)) _ hlt]; rfl
        go_wp2
        go_ret
        exact ⟨Pl.ret_bool HF.out.symm, HB3.out⟩
      · have HT := hid (allTo_step HQ.out (HP.out.trans (by rw [hin, hk]; rfl)))
        go_wp2
        go_roundw
        case rel => exact ⟨q + 1, by omega, by go_num, HT.out, HB3.out⟩
        case measure => simp [intOf]; omega
    · obtain rfl : q = l.length := by omega
      have HE : Hid (R = ascRa l) := by show R = _; rw [HR.out, HQ.out]; rfl
      go_wp2_with fail
      refine (ascRaI a c l wr (HH.out.later HW.out)).mono ?_
      rintro e w2 ⟨rfl, hb⟩
      have HB := hid (blw_trans HW.out hb)
      go_wp2
      go_ret
      exact ⟨Pl.ret_bool HE.out.symm, HB.out⟩

set_option maxRecDepth 8000 in
set_option maxHeartbeats 4000000 in
theorem idxTx (l : List Tx) (x : ByteArray) (a : Option Addr) (c : Nat) (w : World) (h : TxsV w a l) :
    Calls Try.prog 98 #[.slice a l.length c, .string x] w fun e w' => e = .returned (.int .i64 (firstTo (fun i => same (l.getD i ByteArray.empty) x) l.length)) ∧ w = w' := by
  have HL := hid h
  have hl := h.len
  clear h
  go_enter Try.func98, Try.ntmps98
  go_wp2
  go_loopw [8] (fun i wr => ∃ k : Nat, k ≤ l.length ∧ i = .int .i64 k ∧ (∀ j, j < k → same (l.getD j ByteArray.empty) x = false) ∧ wr = w) (fun i _ => l.length - (intOf i).toNat)
  case atStart => exact ⟨0, Nat.zero_le _, rfl, fun j hj => absurd hj (Nat.not_lt_zero j), rfl⟩
  case round =>
    obtain ⟨k, hk, rfl, hall, hW⟩ := hrel
    subst hW
    have HA := hid hall
    clear hall
    by_cases hlt : k < l.length
    · obtain ⟨b1, off1, ha1, hbl1, e0, _⟩ := HL.out.at_ k hlt
      subst ha1
      obtain ⟨y, hy⟩ : ∃ y : ByteArray, y = l.getD k ByteArray.empty := ⟨_, rfl⟩
      rw [← hy] at e0
      have HYE := hid hy
      clear hy
      have hm0 : (0 : Int) ≤ (k : Int) := by omega
      have hm3 : (k : Int) < (l.length : Int) := by omega
      cases hd : (x.toList == y.toList)
      · have HN : Hid (∀ j, j < k + 1 → same (l.getD j ByteArray.empty) x = false) := fun j hj => by
          by_cases e : j = k
          · subst e; rw [← HYE.out]; unfold same; rw [Bool.beq_comm]; exact hd
          · exact HA.out j (by omega)
        go_wp2
        go_roundw
        case rel => exact ⟨k + 1, by omega, by go_num, HN.out, by first | rfl | trivial⟩
        case measure => simp [intOf]; omega
      · have HN : Hid (firstTo (fun i => same (l.getD i ByteArray.empty) x) l.length = k) := firstTo_hit hlt (by rw [← HYE.out]; unfold same; rw [Bool.beq_comm]; exact hd) HA.out
        go_wp2
        go_ret
        exact ⟨by rw [HN.out]; rfl, rfl⟩
    · obtain rfl : k = l.length := by omega
      have HN : Hid (firstTo (fun i => same (l.getD i ByteArray.empty) x) l.length = -1) := firstTo_none HA.out
      go_wp2
      go_ret
      exact ⟨by rw [HN.out]; rfl, rfl⟩

set_option maxHeartbeats 4000000 in
theorem containsTx (l : List Tx) (x : ByteArray) (a : Option Addr) (c : Nat) (w : World) (h : TxsV w a l) :
    Calls Try.prog 83 #[.slice a l.length c, .string x] w fun e w' => e = .returned (.bool (!allTo (fun i => !same (l.getD i ByteArray.empty) x) l.length)) ∧ w = w' := by
  have HH := hid (idxTx l x a c w h)
  have hq : (!allTo (fun i => !same (l.getD i ByteArray.empty) x) l.length) = decide (0 ≤ firstTo (fun i => same (l.getD i ByteArray.empty) x) l.length) := by
    rcases firstTo_cases (fun i => same (l.getD i ByteArray.empty) x) l.length with ⟨h, hn⟩ | ⟨k, hk, h, hp, _⟩
    · rw [h, (allTo_iff _ _).2 (fun i hi => by rw [hn i hi]; rfl)]; rfl
    · rw [h, allTo_false (k := k) (by rw [hp]; rfl) _ hk]; simp
  rw [hq]
  clear h hq
  obtain ⟨y, hy⟩ : ∃ y, y = firstTo (fun i => same (l.getD i ByteArray.empty) x) l.length := ⟨_, rfl⟩
  rw [← hy] at HH ⊢
  clear hy
  go_enter Try.func83, Try.ntmps83
  go_wp2_with fail
  refine HH.out.mono ?_
  rintro e w2 ⟨rfl, rfl⟩
  go_wp2
  go_ret
  exact ⟨rfl, rfl⟩

theorem TxsV.take {w : World} {a : Option Addr} {l : List Tx} (h : TxsV w a l) (k : Nat) (hk : k ≤ l.length) : TxsV w a (l.take k) :=
  ⟨by have := h.len; rw [List.length_take]; omega, fun i hi => by
    rw [List.length_take] at hi
    obtain ⟨b, off, e, hl, hf, hs⟩ := h.at_ i (by omega)
    have : (l.take k).getD i ByteArray.empty = l.getD i ByteArray.empty := by
      rw [List.getD_eq_getElem?_getD, List.getElem?_take_of_lt (by omega), ← List.getD_eq_getElem?_getD]
    rw [this]
    exact ⟨b, off, e, hl, hf, hs⟩⟩

set_option maxRecDepth 8000 in
set_option maxHeartbeats 8000000 in
theorem wishesOkI (l : List Tx) (a : Option Addr) (c : Nat) (w : World) (h : TxsV w a l) (hc : l.length ≤ c) :
    Calls Try.prog 55 #[.slice a l.length c] w fun e w' => e = .returned (.bool (wishesOk l)) ∧ w = w' := by
  have HH := hid h
  have hl := h.len
  clear h
  obtain ⟨R, hR⟩ : ∃ R, R = wishesOk l := ⟨_, rfl⟩
  have HR : Hid (R = (decide (l.length ≤ 20) && allTo (wishAt l) l.length)) := hR
  rw [← hR]
  clear hR
  by_cases h2 : l.length ≤ 20
  · have HS : Hid (R = allTo (wishAt l) l.length) := by show R = _; rw [HR.out, decide_eq_true h2]; rfl
    have h2i : ¬ ((20 : Int) < (l.length : Int)) := by omega
    clear HR
    go_enter Try.func55, Try.ntmps55
    go_wp2
    go_loopw [10] (fun i wr => ∃ q : Nat, q ≤ l.length ∧ i = .int .i64 q ∧ allTo (wishAt l) q = true ∧ wr = w) (fun i _ => l.length - (intOf i).toNat)
    case atStart => exact ⟨0, Nat.zero_le _, rfl, rfl, rfl⟩
    case round =>
      obtain ⟨q, hq, rfl, ha, hW⟩ := hrel
      subst hW
      have HQ := hid ha
      clear ha
      by_cases hlt : q < l.length
      · obtain ⟨b, off, ha, hbl, e0, hsz⟩ := HH.out.at_ q hlt
        obtain ⟨x, hx⟩ : ∃ x : ByteArray, x = l.getD q ByteArray.empty := ⟨_, rfl⟩
        rw [← hx] at e0 hsz
        unfold maxLen at hsz
        have hm0 : (0 : Int) ≤ (q : Int) := by omega
        have hm3 : (q : Int) < (l.length : Int) := by omega
        have hm4 : (q : Int) ≤ (c : Int) := by omega
        have hm5 : q ≤ c := by omega
        have HPQ : Hid (wishAt l q = (inB (x.size : Int) 1 160 && allTo (fun k => !same (l.getD k ByteArray.empty) x) q)) := by
          show _ = _
          rw [wishAt, ← hx]
          congr 1
          unfold inB
          rw [Bool.eq_iff_iff]
          simp only [Bool.and_eq_true, decide_eq_true_eq]
          omega
        have HT := containsTx (l.take q) x a c wr (HH.out.take q (by omega))
        rw [List.length_take, Nat.min_eq_left (by omega), allTo_congr (q := fun k => !same (l.getD k ByteArray.empty) x) (fun i hi => by rw [List.getD_eq_getElem?_getD, List.getElem?_take_of_lt hi, ← List.getD_eq_getElem?_getD])] at HT
        clear hx
        subst ha
        cases hin : inB (x.size : Int) 1 160
        · have HF : Hid (R = false) := by show R = false; rw [HS.out]; exact allTo_false (k := q) (by rw [HPQ.out, hin]; rfl) _ hlt
          go_wp2_with (go_at_call 24; refine (withinI _ _ _ _).mono ?_; rintro e w' ⟨rfl, rfl⟩)
          go_ret
          exact ⟨Pl.ret_bool HF.out.symm, rfl⟩
        go_wp2_with (go_at_call 24; refine (withinI _ _ _ _).mono ?_; rintro e w' ⟨rfl, rfl⟩)
        refine HT.mono ?_
        rintro e w2 ⟨rfl, rfl⟩
        cases hk : allTo (fun k => !same (l.getD k ByteArray.empty) x) q
        · have HF : Hid (R = false) := by show R = false; rw [HS.out]; exact allTo_false (k := q) (by rw [HPQ.out, hin, hk]; rfl) _ hlt
          go_wp2
          go_ret
          exact ⟨Pl.ret_bool HF.out.symm, rfl⟩
        · have HN := hid (allTo_step HQ.out (HPQ.out.trans (by rw [hin, hk]; rfl)))
          go_wp2
          go_roundw
          case rel => exact ⟨q + 1, by omega, by go_num, HN.out, by first | rfl | trivial⟩
          case measure => simp [intOf]; omega
      · obtain rfl : q = l.length := by omega
        go_wp2
        go_ret
        exact ⟨Pl.ret_bool (by rw [HS.out, HQ.out]), rfl⟩
  · have h2i : (20 : Int) < (l.length : Int) := by omega
    have HE : Hid (R = false) := by show R = _; rw [HR.out, decide_eq_false h2]; rfl
    go_enter Try.func55, Try.ntmps55
    go_wp2
    go_ret
    exact ⟨Pl.ret_bool HE.out.symm, rfl⟩

end Go.Proofs.Ytcefgacmagobnaa

namespace Go.Proofs.Ytcefgacmagobnaa
open Go.RowKit Go.Deep

theorem load_mid_g {P : Program} {ops : Array Oper} {rest : List Oper} {op : Oper} {a : Act} {w : World} {Q : Exit → Act → World → Prop} (hw : Region.wanted op (yielded ops a.tmps) = true) (ty : TypeId) (x : Operand) (ho : op.op = .load ty x)
    (b o : Nat) (hx : a.eval x = .pointer (some ⟨b, o, none⟩)) (cs : List Value) (d : TypeDesc) (hc : w.rangeAt b o cs)
    (hu : P.underlying ty = some d) (hd : d.isRow = true) (hi : (P.info? ty).map (·.size) = some cs.length)
    (h : wpList P ops Q rest (a.put op.dst (.agg cs.toArray)) w) : wpList P ops Q (op :: rest) a w :=
  BigFrame.wpList_want hw fun _ hK => wp_load_mid ty x ho b o hx cs d hc hu hd hi (hK _ _ h)

def RrC (K : Rr) (a0 a1 a2 a3 a4 a5 a6 : Option Addr) (c0 c1 c2 c3 c4 c5 c6 : Nat) : List Value := [.int .i64 K.num, .int .i64 K.of_, .bool K.up, .int .i64 K.safe.prom, .int .i64 K.safe.known, .slice a0 K.safe.slots.length c0, .int .i64 K.disk.prom, .int .i64 K.disk.known, .slice a1 K.disk.slots.length c1, .slice a2 K.held.length c2, .slice a3 K.wish.length c3, .bool K.lead, .bool K.try_, .int .i64 K.bal, .slice a4 K.yes.length c4, .slice a5 K.best.length c5, .slice a6 K.acks.length c6, .int .i64 K.heard]
theorem RrC_len (K : Rr) (a0 a1 a2 a3 a4 a5 a6 : Option Addr) (c0 c1 c2 c3 c4 c5 c6 : Nat) : (RrC K a0 a1 a2 a3 a4 a5 a6 c0 c1 c2 c3 c4 c5 c6).length = 18 := rfl

/-- A message that may not be held. -/
def badHeld (num of : Int) (x : Rm) : Bool := !(x.frm == num) || !msgOk x of

set_option maxRecDepth 8000 in
set_option maxHeartbeats 4000000 in
theorem heldClI (x : Rm) (a0 : Option Addr) (c0 : Nat) (num of : Int) (p : Nat) (W : World) (hs : RssV W a0 x.slots) (hp : p < W.heap.size) (h0 : W.cell? ⟨p, 0, none⟩ = some (.int .i64 num)) (h1 : W.cell? ⟨p, 1, none⟩ = some (.int .i64 of)) :
    Calls Try.prog 82 #[.agg #[.int .i64 x.kind, .int .i64 x.frm, .int .i64 x.to_, .int .i64 x.bal, .int .i64 x.ix, .int .i64 x.known, .string x.txt, .slice a0 x.slots.length c0], .pointer (some ⟨p, 0, none⟩)] W fun e w' => e = .returned (.bool (badHeld num of x)) ∧ Below W.heap.size W w' := by
  have HH := hid hs
  obtain ⟨R, hR⟩ : ∃ R, R = badHeld num of x := ⟨_, rfl⟩
  have HR : Hid (R = (!(x.frm == num) || !msgOk x of)) := hR
  rw [← hR]
  clear hR hs
  obtain ⟨wa, hwa⟩ : ∃ wa, wa = W.alloc (.cells #[.int .i64 x.kind, .int .i64 x.frm, .int .i64 x.to_, .int .i64 x.bal, .int .i64 x.ix, .int .i64 x.known, .string x.txt, .slice a0 x.slots.length c0] 55) := ⟨_, rfl⟩
  have HB : Hid (Below W.heap.size W wa) := by show Below _ _ _; rw [hwa]; exact blw_alloc (Below.refl _ _) _
  have HX : Hid (LBox wa W.heap.size [.int .i64 x.kind, .int .i64 x.frm, .int .i64 x.to_, .int .i64 x.bal, .int .i64 x.ix, .int .i64 x.known, .string x.txt, .slice a0 x.slots.length c0]) := by show LBox _ _ _; rw [hwa]; exact LBox.new W #[.int .i64 x.kind, .int .i64 x.frm, .int .i64 x.to_, .int .i64 x.bal, .int .i64 x.ix, .int .i64 x.known, .string x.txt, .slice a0 x.slots.length c0] _ _ rfl
  have g0 : wa.cell? ⟨p, 0, none⟩ = some (.int .i64 num) := (HB.out.cell (p := ⟨p, 0, none⟩) hp).trans h0
  have g1 : wa.cell? ⟨p, 1, none⟩ = some (.int .i64 of) := (HB.out.cell (p := ⟨p, 1, none⟩) hp).trans h1
  have gp : p < wa.heap.size := Nat.lt_of_lt_of_le hp HB.out.size
  go_enter Try.func82, Try.ntmps82
  go_upto_region 1 with fail
  rw [← hwa]
  clear hwa h0 h1 hp
  have yz := HX.out.lt
  have y1 := HX.out.get 1 (.int .i64 x.frm) rfl
  cases hq : (x.frm == num)
  · have hq2 : (x.frm != num) = true := by rw [bne, hq]; rfl
    have HE : Hid (R = true) := by show R = _; rw [HR.out, hq]; rfl
    clear HR
    go_wp2
    go_ret
    exact ⟨Pl.ret_bool HE.out.symm, HB.out⟩
  · have hq2 : (x.frm != num) = false := by rw [bne, hq]; rfl
    have HE : Hid (R = !msgOk x of) := by show R = _; rw [HR.out, hq]; rfl
    clear HR
    have hrg := HX.out.at_
    go_wp2_with (refine load_mid_g (by kernel_rfl) 55 _ rfl W.heap.size 0 rfl [.int .i64 x.kind, .int .i64 x.frm, .int .i64 x.to_, .int .i64 x.bal, .int .i64 x.ix, .int .i64 x.known, .string x.txt, .slice a0 x.slots.length c0] _ hrg Try.underlying55 rfl (by kernel_rfl) ?_)
    refine (recMessageOkV x a0 c0 of wa (HH.out.later HB.out)).mono ?_
    rintro e w2 ⟨rfl, hb⟩
    have HB2 := hid (blw_trans HB.out hb)
    clear hb hrg yz y1 g0 g1 gp
    go_wp2
    go_ret
    exact ⟨Pl.ret_bool HE.out.symm, HB2.out⟩

set_option maxRecDepth 8000 in
set_option maxHeartbeats 8000000 in
theorem idxFnRm (num of : Int) (p : Nat) (l : List Rm) (a : Option Addr) (c : Nat) (w : World) (hC : RmsV w a l) (hp : p < w.heap.size) (h0 : w.cell? ⟨p, 0, none⟩ = some (.int .i64 num)) (h1 : w.cell? ⟨p, 1, none⟩ = some (.int .i64 of)) :
    Calls Try.prog 61 #[.slice a l.length c, .func (.func 82) #[] #[.pointer (some ⟨p, 0, none⟩)]] w fun e w' => e = .returned (.int .i64 (firstTo (fun i => badHeld num of (l.getD i Rm.none)) l.length)) ∧ Below w.heap.size w w' := by
  have HL := hid hC
  have hl := hC.len
  have HP := hid (And.intro hp (And.intro h0 h1))
  clear hC hp h0 h1
  go_enter Try.func61, Try.ntmps61
  go_wp2
  go_loopw [8] (fun i wr => ∃ k : Nat, k ≤ l.length ∧ i = .int .i64 k ∧ (∀ j, j < k → badHeld num of (l.getD j Rm.none) = false) ∧ Below w.heap.size w wr) (fun i _ => l.length - (intOf i).toNat)
  case atStart => exact ⟨0, Nat.zero_le _, rfl, fun j hj => absurd hj (Nat.not_lt_zero j), Below.refl _ _⟩
  case round =>
    obtain ⟨k, hk, rfl, hall, hW⟩ := hrel
    have HA := hid hall
    have HW := hid hW
    clear hall hW
    by_cases hlt : k < l.length
    · obtain ⟨b1, off1, a0, c0, ha1, hbl1, hf1, hn⟩ := (HL.out.later HW.out).at_ k hlt
      subst ha1
      obtain ⟨x, hx⟩ : ∃ x, x = l.getD k Rm.none := ⟨_, rfl⟩
      rw [← hx] at hf1 hn
      have HXE := hid hx
      have HN := hid hn
      clear hx hn
      obtain ⟨e0, e1, e2, e3, e4, e5, e6, e7⟩ := hf1
      have hm0 : (0 : Int) ≤ (k : Int) := by omega
      have hm3 : (k : Int) < (l.length : Int) := by omega
      have HCL := heldClI x a0 c0 num of p wr HN.out (Nat.lt_of_lt_of_le HP.out.1 HW.out.size) ((HW.out.cell (p := ⟨p, 0, none⟩) HP.out.1).trans HP.out.2.1) ((HW.out.cell (p := ⟨p, 1, none⟩) HP.out.1).trans HP.out.2.2)
      go_wp2_with fail
      refine HCL.mono ?_
      rintro e w1 ⟨rfl, hb⟩
      have HW1 := hid (blw_trans HW.out hb)
      clear e0 e1 e2 e3 e4 e5 e6 e7 hb HW hbl1 HCL
      cases hd : badHeld num of x
      · have HN : Hid (∀ j, j < k + 1 → badHeld num of (l.getD j Rm.none) = false) := fun j hj => by
          by_cases e : j = k
          · subst e; rw [← HXE.out]; exact hd
          · exact HA.out j (by omega)
        go_wp2
        go_roundw
        case rel => exact ⟨k + 1, by omega, by go_num, HN.out, HW1.out⟩
        case measure => simp [intOf]; omega
      · have HN : Hid (firstTo (fun i => badHeld num of (l.getD i Rm.none)) l.length = k) := firstTo_hit hlt (by rw [← HXE.out]; exact hd) HA.out
        go_wp2
        go_ret
        exact ⟨by rw [HN.out]; rfl, HW1.out⟩
    · obtain rfl : k = l.length := by omega
      have HN : Hid (firstTo (fun i => badHeld num of (l.getD i Rm.none)) l.length = -1) := firstTo_none HA.out
      go_wp2
      go_ret
      exact ⟨by rw [HN.out]; rfl, HW.out⟩

set_option maxHeartbeats 4000000 in
theorem containsRm (num of : Int) (p : Nat) (l : List Rm) (a : Option Addr) (c : Nat) (w : World) (hC : RmsV w a l) (hp : p < w.heap.size) (h0 : w.cell? ⟨p, 0, none⟩ = some (.int .i64 num)) (h1 : w.cell? ⟨p, 1, none⟩ = some (.int .i64 of)) :
    Calls Try.prog 26 #[.slice a l.length c, .func (.func 82) #[] #[.pointer (some ⟨p, 0, none⟩)]] w fun e w' => e = .returned (.bool (!allTo (fun i => !badHeld num of (l.getD i Rm.none)) l.length)) ∧ Below w.heap.size w w' := by
  have HH := hid (idxFnRm num of p l a c w hC hp h0 h1)
  have hq : (!allTo (fun i => !badHeld num of (l.getD i Rm.none)) l.length) = decide (0 ≤ firstTo (fun i => badHeld num of (l.getD i Rm.none)) l.length) := by
    rcases firstTo_cases (fun i => badHeld num of (l.getD i Rm.none)) l.length with ⟨h, hn⟩ | ⟨k, hk, h, hp, _⟩
    · rw [h, (allTo_iff _ _).2 (fun i hi => by rw [hn i hi]; rfl)]; rfl
    · rw [h, allTo_false (k := k) (by rw [hp]; rfl) _ hk]; simp
  rw [hq]
  clear hC hp h0 h1 hq
  obtain ⟨y, hy⟩ : ∃ y, y = firstTo (fun i => badHeld num of (l.getD i Rm.none)) l.length := ⟨_, rfl⟩
  rw [← hy] at HH ⊢
  clear hy
  go_enter Try.func26, Try.ntmps26
  go_wp2_with fail
  refine HH.out.mono ?_
  rintro e w2 ⟨rfl, hb⟩
  go_wp2
  go_ret
  exact ⟨rfl, hb⟩

theorem heldOk_eq (K : Rr) : allTo (fun i => !badHeld K.num K.of_ (K.held.getD i Rm.none)) K.held.length = allTo (heldAt K) K.held.length :=
  allTo_congr fun i _ => by
    unfold badHeld heldAt
    cases h : msgOk (K.held.getD i Rm.none) K.of_ <;> cases q : (((K.held.getD i Rm.none).frm) == K.num) <;> simp_all

set_option maxRecDepth 8000 in
set_option maxHeartbeats 4000000 in
theorem heldOkI (K : Rr) (a0 a1 a2 a3 a4 a5 a6 : Option Addr) (c0 c1 c2 c3 c4 c5 c6 : Nat) (cs : List Value) (hcs : cs = RrC K a0 a1 a2 a3 a4 a5 a6 c0 c1 c2 c3 c4 c5 c6) (w : World) (h : RmsV w a2 K.held) :
    Calls Try.prog 54 #[.agg cs.toArray] w fun e w' => e = .returned (.bool (decide (K.held.length ≤ 400) && allTo (heldAt K) K.held.length)) ∧ Below w.heap.size w w' := by
  have HH := hid h
  have hl := h.len
  have HC := hid hcs
  rw [← heldOk_eq]
  obtain ⟨R, hR⟩ : ∃ R, R = (decide (K.held.length ≤ 400) && allTo (fun i => !badHeld K.num K.of_ (K.held.getD i Rm.none)) K.held.length) := ⟨_, rfl⟩
  have HR := hid hR
  rw [← hR]
  clear hR h hcs
  obtain ⟨wa, hwa⟩ : ∃ wa, wa = w.alloc (.cells cs.toArray 52) := ⟨_, rfl⟩
  have HB : Hid (Below w.heap.size w wa) := by show Below _ _ _; rw [hwa]; exact blw_alloc (Below.refl _ _) _
  have HX : Hid (LBox wa w.heap.size cs) := by show LBox _ _ _; rw [hwa]; exact LBox.new w cs.toArray _ _ rfl
  go_enter Try.func54, Try.ntmps54
  go_upto_region 1 with fail
  rw [← hwa]
  clear hwa
  have yz := HX.out.lt
  have y0 := HX.out.get 0 (.int .i64 K.num) (by rw [HC.out]; rfl)
  have y1 := HX.out.get 1 (.int .i64 K.of_) (by rw [HC.out]; rfl)
  have y9 := HX.out.get 9 (.slice a2 K.held.length c2) (by rw [HC.out]; rfl)
  by_cases h2 : K.held.length ≤ 400
  · have h2i : ¬ ((400 : Int) < (K.held.length : Int)) := by omega
    have HE : Hid (R = allTo (fun i => !badHeld K.num K.of_ (K.held.getD i Rm.none)) K.held.length) := by show R = _; rw [HR.out, decide_eq_true h2]; rfl
    go_wp2_with fail
    refine (containsRm K.num K.of_ w.heap.size K.held a2 c2 wa (HH.out.later HB.out) yz y0 y1).mono ?_
    rintro e w2 ⟨rfl, hb⟩
    have HB2 := hid (blw_trans HB.out hb)
    go_wp2
    go_ret
    exact ⟨Pl.ret_bool (by rw [HE.out]; simp), HB2.out⟩
  · have h2i : (400 : Int) < (K.held.length : Int) := by omega
    have HE : Hid (R = false) := by show R = _; rw [HR.out, decide_eq_false h2]; rfl
    go_wp2
    go_ret
    exact ⟨Pl.ret_bool HE.out.symm, HB.out⟩

end Go.Proofs.Ytcefgacmagobnaa
