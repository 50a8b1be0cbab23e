/-
  Stewards: lists that ascend: the program's.
-/
import Derived.Test.YtfmcdpgeplkcgaaPgA
namespace Go.Proofs.Ytfmcdpgeplkcgaa
open Go.RowKit Go.Deep

theorem allTo_step {p : Nat → Bool} {k : Nat} (h : allTo p k = true) (hp : p k = true) : allTo p (k + 1) = true := by
  simp [allTo, h, hp]

def ascSv (l : List Sv) : Bool := allTo (fun i => decide (keyCmp (l.getD i Sv.none).nm (l.getD (i + 1) Sv.none).nm < 0)) (l.length - 1)

set_option maxRecDepth 8000 in
set_option maxHeartbeats 8000000 in
theorem ascSvI (a : Option Addr) (c : Nat) (l : List Sv) (w : World) (h : SvsV w a l) :
    Calls Try.prog 46 #[.slice a l.length c, .func (.func 47) #[] #[]] w fun e w' => e = .returned (.bool (ascSv l)) ∧ Below w.heap.size w w' := by
  have hl := h.len
  unfold maxLen at hl
  have HH : Hid (SvsV w a l) := h
  obtain ⟨R, hR⟩ : ∃ R, R = ascSv l := ⟨_, rfl⟩
  have HR : Hid (R = ascSv l) := hR
  rw [← hR]
  clear h hR
  go_enter Try.func46, Try.ntmps46
  go_wp2
  go_loopw [5] (fun i wr => ∃ j : Nat, j ≤ l.length - 1 ∧ i = .int .i64 ((j + 1 : Nat) : Int) ∧ allTo (fun i => decide (keyCmp (l.getD i Sv.none).nm (l.getD (i + 1) Sv.none).nm < 0)) j = true ∧ Below w.heap.size w wr) (fun i _ => l.length - (intOf i).toNat)
  case atStart => exact ⟨0, Nat.zero_le _, rfl, rfl, Below.refl _ _⟩
  case round =>
    obtain ⟨j, hj, rfl, hq, hW⟩ := hrel
    have HQ := hid hq
    clear hq
    by_cases hlt : j + 1 < l.length
    · obtain ⟨x, hx⟩ : ∃ x, x = l.getD j Sv.none := ⟨_, rfl⟩
      obtain ⟨y, hy⟩ : ∃ y, y = l.getD (j + 1) Sv.none := ⟨_, rfl⟩
      have HWD := hid hW.drew
      obtain ⟨b, off, ha, hB, hat⟩ := (HH.out.later hW.drew).at_ j (by omega)
      obtain ⟨b', off', ha', _, hat'⟩ := (HH.out.later hW.drew).at_ (j + 1) hlt
      rw [ha] at ha'
      injection ha' with ha'
      injection ha' with hb1 hb2 _
      subst hb1 hb2
      clear hW
      subst ha
      rw [← hx] at hat
      rw [← hy] at hat'
      obtain ⟨c0, c1, c2, c3, c4, c5, c6, c7, c8, c9, c10, c11, c12, _⟩ := hat
      obtain ⟨d0, d1, d2, d3, d4, d5, d6, d7, d8, d9, d10, d11, d12, _⟩ := hat'
      obtain ⟨r, hr⟩ : ∃ r, r = keyCmp x.nm y.nm := ⟨_, rfl⟩
      have HX : Hid (∀ W, Calls Try.prog 47 #[.agg #[.string x.nm, .int .i64 x.ver, .bool x.gone, .int .i64 x.image, .int .i64 x.want, .int .i64 x.down, .int .i64 x.over, .int .i64 x.next, .int .i64 x.per, .int .i64 x.least, .int .i64 x.most, .int .i64 x.load, .int .i64 x.cool], .agg #[.string y.nm, .int .i64 y.ver, .bool y.gone, .int .i64 y.image, .int .i64 y.want, .int .i64 y.down, .int .i64 y.over, .int .i64 y.next, .int .i64 y.per, .int .i64 y.least, .int .i64 y.most, .int .i64 y.load, .int .i64 y.cool]] W fun e w' => e = .returned (.int .i64 r) ∧ Below W.heap.size W w') := fun W => by rw [hr]; exact cmpSvI _ _ _ _ _ _ _ _ _ _ _ _ _ _ _ _ _ _ _ _ _ _ _ _ _ _ W
      have HP : Hid ((fun i => decide (keyCmp (l.getD i Sv.none).nm (l.getD (i + 1) Sv.none).nm < 0)) j = decide (r < 0)) := by show decide _ = _; rw [hr, hx, hy]
      clear hr hx hy
      by_cases hz : r < 0
      · have HE := hid (allTo_step HQ.out (HP.out.trans (decide_eq_true hz)))
        go_wp2_with fail
        refine region_tail 10 (by kernel_rfl) (by kernel_rfl) ?_
        intro W hWd
        rw [← hWd] at hB HWD c0 c1 c2 c3 c4 c5 c6 c7 c8 c9 c10 c11 c12 d0 d1 d2 d3 d4 d5 d6 d7 d8 d9 d10 d11 d12
        simp only [List.take_succ_cons, List.take_zero, List.drop_succ_cons, List.drop_zero]
        clear hWd
        have hj0 : (0 : Int) ≤ (j : Int) := by omega
        have hj1 : (j : Int) < (l.length : Int) := by omega
        have hj2 : (0 : Int) ≤ (j : Int) + 1 := by omega
        have hjw : IntKind.i64.wrap (j : Int) = (j : Int) := wrapI _ (by omega) (by omega)
        repeat still_step
        refine wpStill_nil ?_
        go_wp2_with (go_at_call 47; refine (HX.out _).mono ?_; rintro e w2 ⟨rfl, hb2⟩)
        go_roundw
        case rel => exact ⟨j + 1, by omega, by go_num, HE.out, blw_trans HWD.out hb2⟩
        case measure => simp [intOf]; omega
      · have HE : Hid (R = false) := by show R = false; rw [HR.out]; exact allTo_false (k := j) (HP.out.trans (decide_eq_false hz)) _ (by omega)
        go_wp2_with fail
        refine region_tail 10 (by kernel_rfl) (by kernel_rfl) ?_
        intro W hWd
        rw [← hWd] at hB HWD c0 c1 c2 c3 c4 c5 c6 c7 c8 c9 c10 c11 c12 d0 d1 d2 d3 d4 d5 d6 d7 d8 d9 d10 d11 d12
        simp only [List.take_succ_cons, List.take_zero, List.drop_succ_cons, List.drop_zero]
        clear hWd
        have hj0 : (0 : Int) ≤ (j : Int) := by omega
        have hj1 : (j : Int) < (l.length : Int) := by omega
        have hj2 : (0 : Int) ≤ (j : Int) + 1 := by omega
        have hjw : IntKind.i64.wrap (j : Int) = (j : Int) := wrapI _ (by omega) (by omega)
        repeat still_step
        refine wpStill_nil ?_
        go_wp2_with (go_at_call 47; refine (HX.out _).mono ?_; rintro e w2 ⟨rfl, hb2⟩)
        go_ret
        exact ⟨Pl.ret_bool HE.out.symm, blw_trans HWD.out hb2⟩
    · have HE : Hid (R = true) := by
        show R = true
        rw [HR.out]
        have : j = l.length - 1 := by omega
        rw [this] at HQ; exact HQ.out
      go_wp2
      go_ret
      exact ⟨Pl.ret_bool HE.out.symm, hW⟩

def ascBt (l : List Bt) : Bool := allTo (fun i => decide (keyCmp (l.getD i Bt.none).nm (l.getD (i + 1) Bt.none).nm < 0)) (l.length - 1)

set_option maxRecDepth 8000 in
set_option maxHeartbeats 8000000 in
theorem ascBtI (a : Option Addr) (c : Nat) (l : List Bt) (w : World) (h : BtsV w a l) :
    Calls Try.prog 51 #[.slice a l.length c, .func (.func 52) #[] #[]] w fun e w' => e = .returned (.bool (ascBt l)) ∧ Below w.heap.size w w' := by
  have hl := h.len
  unfold maxLen at hl
  have HH : Hid (BtsV w a l) := h
  obtain ⟨R, hR⟩ : ∃ R, R = ascBt l := ⟨_, rfl⟩
  have HR : Hid (R = ascBt l) := hR
  rw [← hR]
  clear h hR
  go_enter Try.func51, Try.ntmps51
  go_wp2
  go_loopw [5] (fun i wr => ∃ j : Nat, j ≤ l.length - 1 ∧ i = .int .i64 ((j + 1 : Nat) : Int) ∧ allTo (fun i => decide (keyCmp (l.getD i Bt.none).nm (l.getD (i + 1) Bt.none).nm < 0)) j = true ∧ Below w.heap.size w wr) (fun i _ => l.length - (intOf i).toNat)
  case atStart => exact ⟨0, Nat.zero_le _, rfl, rfl, Below.refl _ _⟩
  case round =>
    obtain ⟨j, hj, rfl, hq, hW⟩ := hrel
    have HQ := hid hq
    clear hq
    by_cases hlt : j + 1 < l.length
    · obtain ⟨x, hx⟩ : ∃ x, x = l.getD j Bt.none := ⟨_, rfl⟩
      obtain ⟨y, hy⟩ : ∃ y, y = l.getD (j + 1) Bt.none := ⟨_, rfl⟩
      have HWD := hid hW.drew
      obtain ⟨b, off, ha, hB, hat⟩ := (HH.out.later hW.drew).at_ j (by omega)
      obtain ⟨b', off', ha', _, hat'⟩ := (HH.out.later hW.drew).at_ (j + 1) hlt
      rw [ha] at ha'
      injection ha' with ha'
      injection ha' with hb1 hb2 _
      subst hb1 hb2
      clear hW
      subst ha
      rw [← hx] at hat
      rw [← hy] at hat'
      obtain ⟨c0, c1, _⟩ := hat
      obtain ⟨d0, d1, _⟩ := hat'
      obtain ⟨r, hr⟩ : ∃ r, r = keyCmp x.nm y.nm := ⟨_, rfl⟩
      have HX : Hid (∀ W, Calls Try.prog 52 #[.agg #[.string x.nm, .bool x.drain], .agg #[.string y.nm, .bool y.drain]] W fun e w' => e = .returned (.int .i64 r) ∧ Below W.heap.size W w') := fun W => by rw [hr]; exact cmpBtI _ _ _ _ W
      have HP : Hid ((fun i => decide (keyCmp (l.getD i Bt.none).nm (l.getD (i + 1) Bt.none).nm < 0)) j = decide (r < 0)) := by show decide _ = _; rw [hr, hx, hy]
      clear hr hx hy
      by_cases hz : r < 0
      · have HE := hid (allTo_step HQ.out (HP.out.trans (decide_eq_true hz)))
        go_wp2_with fail
        refine region_tail 10 (by kernel_rfl) (by kernel_rfl) ?_
        intro W hWd
        rw [← hWd] at hB HWD c0 c1 d0 d1
        simp only [List.take_succ_cons, List.take_zero, List.drop_succ_cons, List.drop_zero]
        clear hWd
        have hj0 : (0 : Int) ≤ (j : Int) := by omega
        have hj1 : (j : Int) < (l.length : Int) := by omega
        have hj2 : (0 : Int) ≤ (j : Int) + 1 := by omega
        have hjw : IntKind.i64.wrap (j : Int) = (j : Int) := wrapI _ (by omega) (by omega)
        repeat still_step
        refine wpStill_nil ?_
        go_wp2_with (go_at_call 52; refine (HX.out _).mono ?_; rintro e w2 ⟨rfl, hb2⟩)
        go_roundw
        case rel => exact ⟨j + 1, by omega, by go_num, HE.out, blw_trans HWD.out hb2⟩
        case measure => simp [intOf]; omega
      · have HE : Hid (R = false) := by show R = false; rw [HR.out]; exact allTo_false (k := j) (HP.out.trans (decide_eq_false hz)) _ (by omega)
        go_wp2_with fail
        refine region_tail 10 (by kernel_rfl) (by kernel_rfl) ?_
        intro W hWd
        rw [← hWd] at hB HWD c0 c1 d0 d1
        simp only [List.take_succ_cons, List.take_zero, List.drop_succ_cons, List.drop_zero]
        clear hWd
        have hj0 : (0 : Int) ≤ (j : Int) := by omega
        have hj1 : (j : Int) < (l.length : Int) := by omega
        have hj2 : (0 : Int) ≤ (j : Int) + 1 := by omega
        have hjw : IntKind.i64.wrap (j : Int) = (j : Int) := wrapI _ (by omega) (by omega)
        repeat still_step
        refine wpStill_nil ?_
        go_wp2_with (go_at_call 52; refine (HX.out _).mono ?_; rintro e w2 ⟨rfl, hb2⟩)
        go_ret
        exact ⟨Pl.ret_bool HE.out.symm, blw_trans HWD.out hb2⟩
    · have HE : Hid (R = true) := by
        show R = true
        rw [HR.out]
        have : j = l.length - 1 := by omega
        rw [this] at HQ; exact HQ.out
      go_wp2
      go_ret
      exact ⟨Pl.ret_bool HE.out.symm, hW⟩

def ascCp (l : List Cp) : Bool := allTo (fun i => decide (cpCmp (l.getD i Cp.none).svc (l.getD i Cp.none).num (l.getD (i + 1) Cp.none).svc (l.getD (i + 1) Cp.none).num < 0)) (l.length - 1)

set_option maxRecDepth 8000 in
set_option maxHeartbeats 8000000 in
theorem ascCpI (a : Option Addr) (c : Nat) (l : List Cp) (w : World) (h : CpsV w a l) :
    Calls Try.prog 53 #[.slice a l.length c, .func (.func 54) #[] #[]] w fun e w' => e = .returned (.bool (ascCp l)) ∧ Below w.heap.size w w' := by
  have hl := h.len
  unfold maxLen at hl
  have HH : Hid (CpsV w a l) := h
  obtain ⟨R, hR⟩ : ∃ R, R = ascCp l := ⟨_, rfl⟩
  have HR : Hid (R = ascCp l) := hR
  rw [← hR]
  clear h hR
  go_enter Try.func53, Try.ntmps53
  go_wp2
  go_loopw [5] (fun i wr => ∃ j : Nat, j ≤ l.length - 1 ∧ i = .int .i64 ((j + 1 : Nat) : Int) ∧ allTo (fun i => decide (cpCmp (l.getD i Cp.none).svc (l.getD i Cp.none).num (l.getD (i + 1) Cp.none).svc (l.getD (i + 1) Cp.none).num < 0)) j = true ∧ Below w.heap.size w wr) (fun i _ => l.length - (intOf i).toNat)
  case atStart => exact ⟨0, Nat.zero_le _, rfl, rfl, Below.refl _ _⟩
  case round =>
    obtain ⟨j, hj, rfl, hq, hW⟩ := hrel
    have HQ := hid hq
    clear hq
    by_cases hlt : j + 1 < l.length
    · obtain ⟨x, hx⟩ : ∃ x, x = l.getD j Cp.none := ⟨_, rfl⟩
      obtain ⟨y, hy⟩ : ∃ y, y = l.getD (j + 1) Cp.none := ⟨_, rfl⟩
      have HWD := hid hW.drew
      obtain ⟨b, off, ha, hB, hat⟩ := (HH.out.later hW.drew).at_ j (by omega)
      obtain ⟨b', off', ha', _, hat'⟩ := (HH.out.later hW.drew).at_ (j + 1) hlt
      rw [ha] at ha'
      injection ha' with ha'
      injection ha' with hb1 hb2 _
      subst hb1 hb2
      clear hW
      subst ha
      rw [← hx] at hat
      rw [← hy] at hat'
      obtain ⟨c0, c1, c2, c3, c4, c5, c6, _⟩ := hat
      obtain ⟨d0, d1, d2, d3, d4, d5, d6, _⟩ := hat'
      obtain ⟨r, hr⟩ : ∃ r, r = cpCmp x.svc x.num y.svc y.num := ⟨_, rfl⟩
      have HX : Hid (∀ W, Calls Try.prog 54 #[.agg #[.string x.svc, .int .i64 x.num, .int .i64 x.ver, .int .i64 x.image, .int .i64 x.state, .bool x.ending, .string x.berth], .agg #[.string y.svc, .int .i64 y.num, .int .i64 y.ver, .int .i64 y.image, .int .i64 y.state, .bool y.ending, .string y.berth]] W fun e w' => e = .returned (.int .i64 r) ∧ Below W.heap.size W w') := fun W => by rw [hr]; exact cmpCpI _ _ _ _ _ _ _ _ _ _ _ _ _ _ W
      have HP : Hid ((fun i => decide (cpCmp (l.getD i Cp.none).svc (l.getD i Cp.none).num (l.getD (i + 1) Cp.none).svc (l.getD (i + 1) Cp.none).num < 0)) j = decide (r < 0)) := by show decide _ = _; rw [hr, hx, hy]
      clear hr hx hy
      by_cases hz : r < 0
      · have HE := hid (allTo_step HQ.out (HP.out.trans (decide_eq_true hz)))
        go_wp2_with fail
        refine region_tail 10 (by kernel_rfl) (by kernel_rfl) ?_
        intro W hWd
        rw [← hWd] at hB HWD c0 c1 c2 c3 c4 c5 c6 d0 d1 d2 d3 d4 d5 d6
        simp only [List.take_succ_cons, List.take_zero, List.drop_succ_cons, List.drop_zero]
        clear hWd
        have hj0 : (0 : Int) ≤ (j : Int) := by omega
        have hj1 : (j : Int) < (l.length : Int) := by omega
        have hj2 : (0 : Int) ≤ (j : Int) + 1 := by omega
        have hjw : IntKind.i64.wrap (j : Int) = (j : Int) := wrapI _ (by omega) (by omega)
        repeat still_step
        refine wpStill_nil ?_
        go_wp2_with (go_at_call 54; refine (HX.out _).mono ?_; rintro e w2 ⟨rfl, hb2⟩)
        go_roundw
        case rel => exact ⟨j + 1, by omega, by go_num, HE.out, blw_trans HWD.out hb2⟩
        case measure => simp [intOf]; omega
      · have HE : Hid (R = false) := by show R = false; rw [HR.out]; exact allTo_false (k := j) (HP.out.trans (decide_eq_false hz)) _ (by omega)
        go_wp2_with fail
        refine region_tail 10 (by kernel_rfl) (by kernel_rfl) ?_
        intro W hWd
        rw [← hWd] at hB HWD c0 c1 c2 c3 c4 c5 c6 d0 d1 d2 d3 d4 d5 d6
        simp only [List.take_succ_cons, List.take_zero, List.drop_succ_cons, List.drop_zero]
        clear hWd
        have hj0 : (0 : Int) ≤ (j : Int) := by omega
        have hj1 : (j : Int) < (l.length : Int) := by omega
        have hj2 : (0 : Int) ≤ (j : Int) + 1 := by omega
        have hjw : IntKind.i64.wrap (j : Int) = (j : Int) := wrapI _ (by omega) (by omega)
        repeat still_step
        refine wpStill_nil ?_
        go_wp2_with (go_at_call 54; refine (HX.out _).mono ?_; rintro e w2 ⟨rfl, hb2⟩)
        go_ret
        exact ⟨Pl.ret_bool HE.out.symm, blw_trans HWD.out hb2⟩
    · have HE : Hid (R = true) := by
        show R = true
        rw [HR.out]
        have : j = l.length - 1 := by omega
        rw [this] at HQ; exact HQ.out
      go_wp2
      go_ret
      exact ⟨Pl.ret_bool HE.out.symm, hW⟩

end Go.Proofs.Ytfmcdpgeplkcgaa
