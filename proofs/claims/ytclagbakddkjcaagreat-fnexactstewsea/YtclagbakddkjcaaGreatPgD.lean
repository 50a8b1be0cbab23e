/-
  Stewards: services and berths that are ok: the program's.
-/
import Derived.Test.YtclagbakddkjcaaGreatPgA
import Derived.Test.YtclagbakddkjcaaGreatStB
namespace Go.Proofs.YtclagbakddkjcaaGreat
open Go.RowKit Go.Deep

theorem allTo_step {p : Nat → Bool} {k : Nat} (h : allTo p k = true) (hp : p k = true) : allTo p (k + 1) = true := by
  simp [allTo, h, hp]

def ascSv (l : List Sv) : Bool := allTo (fun i => decide (keyCmp (l.getD i Sv.none).nm (l.getD (i + 1) Sv.none).nm < 0)) (l.length - 1)

set_option maxRecDepth 8000 in
set_option maxHeartbeats 8000000 in
theorem ascSvI (a : Option Addr) (c : Nat) (l : List Sv) (w : World) (h : SvsV w a l) :
    Calls Tryz.prog 68 #[.slice a l.length c, .func (.func 69) #[] #[]] w fun e w' => e = .returned (.bool (ascSv l)) ∧ Below w.heap.size w w' := by
  have hl := h.len
  unfold maxLen at hl
  have HH : Hid (SvsV w a l) := h
  obtain ⟨R, hR⟩ : ∃ R, R = ascSv l := ⟨_, rfl⟩
  have HR : Hid (R = ascSv l) := hR
  rw [← hR]
  clear h hR
  go_enter Tryz.func68, Tryz.ntmps68
  go_wp2
  go_loopw [5] (fun i wr => ∃ j : Nat, j ≤ l.length - 1 ∧ i = .int .i64 ((j + 1 : Nat) : Int) ∧ allTo (fun i => decide (keyCmp (l.getD i Sv.none).nm (l.getD (i + 1) Sv.none).nm < 0)) j = true ∧ Below w.heap.size w wr) (fun i _ => l.length - (intOf i).toNat)
  case atStart => exact ⟨0, Nat.zero_le _, rfl, rfl, Below.refl _ _⟩
  case round =>
    obtain ⟨j, hj, rfl, hq, hW⟩ := hrel
    have HQ := hid hq
    clear hq
    by_cases hlt : j + 1 < l.length
    · obtain ⟨x, hx⟩ : ∃ x, x = l.getD j Sv.none := ⟨_, rfl⟩
      obtain ⟨y, hy⟩ : ∃ y, y = l.getD (j + 1) Sv.none := ⟨_, rfl⟩
      have HWD := hid hW.drew
      obtain ⟨b, off, ha, hB, hat⟩ := (HH.out.later hW.drew).at_ j (by omega)
      obtain ⟨b', off', ha', _, hat'⟩ := (HH.out.later hW.drew).at_ (j + 1) hlt
      rw [ha] at ha'
      injection ha' with ha'
      injection ha' with hb1 hb2 _
      subst hb1 hb2
      clear hW
      subst ha
      rw [← hx] at hat
      rw [← hy] at hat'
      obtain ⟨c0, c1, c2, c3, c4, c5, c6, c7, c8, c9, c10, c11, c12, _⟩ := hat
      obtain ⟨d0, d1, d2, d3, d4, d5, d6, d7, d8, d9, d10, d11, d12, _⟩ := hat'
      obtain ⟨r, hr⟩ : ∃ r, r = keyCmp x.nm y.nm := ⟨_, rfl⟩
      have HX : Hid (∀ W, Calls Tryz.prog 69 #[.agg #[.string x.nm, .int .i64 x.ver, .bool x.gone, .int .i64 x.image, .int .i64 x.want, .int .i64 x.down, .int .i64 x.over, .int .i64 x.next, .int .i64 x.per, .int .i64 x.least, .int .i64 x.most, .int .i64 x.load, .int .i64 x.cool], .agg #[.string y.nm, .int .i64 y.ver, .bool y.gone, .int .i64 y.image, .int .i64 y.want, .int .i64 y.down, .int .i64 y.over, .int .i64 y.next, .int .i64 y.per, .int .i64 y.least, .int .i64 y.most, .int .i64 y.load, .int .i64 y.cool]] W fun e w' => e = .returned (.int .i64 r) ∧ Below W.heap.size W w') := fun W => by rw [hr]; exact cmpSvI _ _ _ _ _ _ _ _ _ _ _ _ _ _ _ _ _ _ _ _ _ _ _ _ _ _ W
      have HP : Hid ((fun i => decide (keyCmp (l.getD i Sv.none).nm (l.getD (i + 1) Sv.none).nm < 0)) j = decide (r < 0)) := by show decide _ = _; rw [hr, hx, hy]
      clear hr hx hy
      by_cases hz : r < 0
      · have HE := hid (allTo_step HQ.out (HP.out.trans (decide_eq_true hz)))
        go_wp2_with fail
        refine region_tail 10 (by kernel_rfl) (by kernel_rfl) ?_
        intro W hWd
        rw [← hWd] at hB HWD c0 c1 c2 c3 c4 c5 c6 c7 c8 c9 c10 c11 c12 d0 d1 d2 d3 d4 d5 d6 d7 d8 d9 d10 d11 d12
        simp only [List.take_succ_cons, List.take_zero, List.drop_succ_cons, List.drop_zero]
        clear hWd
        have hj0 : (0 : Int) ≤ (j : Int) := by omega
        have hj1 : (j : Int) < (l.length : Int) := by omega
        have hj2 : (0 : Int) ≤ (j : Int) + 1 := by omega
        have hjw : IntKind.i64.wrap (j : Int) = (j : Int) := wrapI _ (by omega) (by omega)
        repeat still_step
        refine wpStill_nil ?_
        go_wp2_with (go_at_call 69; refine (HX.out _).mono ?_; rintro e w2 ⟨rfl, hb2⟩)
        go_roundw
        case rel => exact ⟨j + 1, by omega, by go_num, HE.out, blw_trans HWD.out hb2⟩
        case measure => simp [intOf]; omega
      · have HE : Hid (R = false) := by show R = false; rw [HR.out]; exact allTo_false (k := j) (HP.out.trans (decide_eq_false hz)) _ (by omega)
        go_wp2_with fail
        refine region_tail 10 (by kernel_rfl) (by kernel_rfl) ?_
        intro W hWd
        rw [← hWd] at hB HWD c0 c1 c2 c3 c4 c5 c6 c7 c8 c9 c10 c11 c12 d0 d1 d2 d3 d4 d5 d6 d7 d8 d9 d10 d11 d12
        simp only [List.take_succ_cons, List.take_zero, List.drop_succ_cons, List.drop_zero]
        clear hWd
        have hj0 : (0 : Int) ≤ (j : Int) := by omega
        have hj1 : (j : Int) < (l.length : Int) := by omega
        have hj2 : (0 : Int) ≤ (j : Int) + 1 := by omega
        have hjw : IntKind.i64.wrap (j : Int) = (j : Int) := wrapI _ (by omega) (by omega)
        repeat still_step
        refine wpStill_nil ?_
        go_wp2_with (go_at_call 69; refine (HX.out _).mono ?_; rintro e w2 ⟨rfl, hb2⟩)
        go_ret
        exact ⟨Pl.ret_bool HE.out.symm, blw_trans HWD.out hb2⟩
    · have HE : Hid (R = true) := by
        show R = true
        rw [HR.out]
        have : j = l.length - 1 := by omega
        rw [this] at HQ; exact HQ.out
      go_wp2
      go_ret
      exact ⟨Pl.ret_bool HE.out.symm, hW⟩

def ascBt (l : List Bt) : Bool := allTo (fun i => decide (keyCmp (l.getD i Bt.none).nm (l.getD (i + 1) Bt.none).nm < 0)) (l.length - 1)

set_option maxRecDepth 8000 in
set_option maxHeartbeats 8000000 in
theorem ascBtI (a : Option Addr) (c : Nat) (l : List Bt) (w : World) (h : BtsV w a l) :
    Calls Tryz.prog 73 #[.slice a l.length c, .func (.func 74) #[] #[]] w fun e w' => e = .returned (.bool (ascBt l)) ∧ Below w.heap.size w w' := by
  have hl := h.len
  unfold maxLen at hl
  have HH : Hid (BtsV w a l) := h
  obtain ⟨R, hR⟩ : ∃ R, R = ascBt l := ⟨_, rfl⟩
  have HR : Hid (R = ascBt l) := hR
  rw [← hR]
  clear h hR
  go_enter Tryz.func73, Tryz.ntmps73
  go_wp2
  go_loopw [5] (fun i wr => ∃ j : Nat, j ≤ l.length - 1 ∧ i = .int .i64 ((j + 1 : Nat) : Int) ∧ allTo (fun i => decide (keyCmp (l.getD i Bt.none).nm (l.getD (i + 1) Bt.none).nm < 0)) j = true ∧ Below w.heap.size w wr) (fun i _ => l.length - (intOf i).toNat)
  case atStart => exact ⟨0, Nat.zero_le _, rfl, rfl, Below.refl _ _⟩
  case round =>
    obtain ⟨j, hj, rfl, hq, hW⟩ := hrel
    have HQ := hid hq
    clear hq
    by_cases hlt : j + 1 < l.length
    · obtain ⟨x, hx⟩ : ∃ x, x = l.getD j Bt.none := ⟨_, rfl⟩
      obtain ⟨y, hy⟩ : ∃ y, y = l.getD (j + 1) Bt.none := ⟨_, rfl⟩
      have HWD := hid hW.drew
      obtain ⟨b, off, ha, hB, hat⟩ := (HH.out.later hW.drew).at_ j (by omega)
      obtain ⟨b', off', ha', _, hat'⟩ := (HH.out.later hW.drew).at_ (j + 1) hlt
      rw [ha] at ha'
      injection ha' with ha'
      injection ha' with hb1 hb2 _
      subst hb1 hb2
      clear hW
      subst ha
      rw [← hx] at hat
      rw [← hy] at hat'
      obtain ⟨c0, c1, _⟩ := hat
      obtain ⟨d0, d1, _⟩ := hat'
      obtain ⟨r, hr⟩ : ∃ r, r = keyCmp x.nm y.nm := ⟨_, rfl⟩
      have HX : Hid (∀ W, Calls Tryz.prog 74 #[.agg #[.string x.nm, .bool x.drain], .agg #[.string y.nm, .bool y.drain]] W fun e w' => e = .returned (.int .i64 r) ∧ Below W.heap.size W w') := fun W => by rw [hr]; exact cmpBtI _ _ _ _ W
      have HP : Hid ((fun i => decide (keyCmp (l.getD i Bt.none).nm (l.getD (i + 1) Bt.none).nm < 0)) j = decide (r < 0)) := by show decide _ = _; rw [hr, hx, hy]
      clear hr hx hy
      by_cases hz : r < 0
      · have HE := hid (allTo_step HQ.out (HP.out.trans (decide_eq_true hz)))
        go_wp2_with fail
        refine region_tail 10 (by kernel_rfl) (by kernel_rfl) ?_
        intro W hWd
        rw [← hWd] at hB HWD c0 c1 d0 d1
        simp only [List.take_succ_cons, List.take_zero, List.drop_succ_cons, List.drop_zero]
        clear hWd
        have hj0 : (0 : Int) ≤ (j : Int) := by omega
        have hj1 : (j : Int) < (l.length : Int) := by omega
        have hj2 : (0 : Int) ≤ (j : Int) + 1 := by omega
        have hjw : IntKind.i64.wrap (j : Int) = (j : Int) := wrapI _ (by omega) (by omega)
        repeat still_step
        refine wpStill_nil ?_
        go_wp2_with (go_at_call 74; refine (HX.out _).mono ?_; rintro e w2 ⟨rfl, hb2⟩)
        go_roundw
        case rel => exact ⟨j + 1, by omega, by go_num, HE.out, blw_trans HWD.out hb2⟩
        case measure => simp [intOf]; omega
      · have HE : Hid (R = false) := by show R = false; rw [HR.out]; exact allTo_false (k := j) (HP.out.trans (decide_eq_false hz)) _ (by omega)
        go_wp2_with fail
        refine region_tail 10 (by kernel_rfl) (by kernel_rfl) ?_
        intro W hWd
        rw [← hWd] at hB HWD c0 c1 d0 d1
        simp only [List.take_succ_cons, List.take_zero, List.drop_succ_cons, List.drop_zero]
        clear hWd
        have hj0 : (0 : Int) ≤ (j : Int) := by omega
        have hj1 : (j : Int) < (l.length : Int) := by omega
        have hj2 : (0 : Int) ≤ (j : Int) + 1 := by omega
        have hjw : IntKind.i64.wrap (j : Int) = (j : Int) := wrapI _ (by omega) (by omega)
        repeat still_step
        refine wpStill_nil ?_
        go_wp2_with (go_at_call 74; refine (HX.out _).mono ?_; rintro e w2 ⟨rfl, hb2⟩)
        go_ret
        exact ⟨Pl.ret_bool HE.out.symm, blw_trans HWD.out hb2⟩
    · have HE : Hid (R = true) := by
        show R = true
        rw [HR.out]
        have : j = l.length - 1 := by omega
        rw [this] at HQ; exact HQ.out
      go_wp2
      go_ret
      exact ⟨Pl.ret_bool HE.out.symm, hW⟩

def ascCp (l : List Cp) : Bool := allTo (fun i => decide (cpCmp (l.getD i Cp.none).svc (l.getD i Cp.none).num (l.getD (i + 1) Cp.none).svc (l.getD (i + 1) Cp.none).num < 0)) (l.length - 1)

set_option maxRecDepth 8000 in
set_option maxHeartbeats 8000000 in
theorem ascCpI (a : Option Addr) (c : Nat) (l : List Cp) (w : World) (h : CpsV w a l) :
    Calls Tryz.prog 75 #[.slice a l.length c, .func (.func 76) #[] #[]] w fun e w' => e = .returned (.bool (ascCp l)) ∧ Below w.heap.size w w' := by
  have hl := h.len
  unfold maxLen at hl
  have HH : Hid (CpsV w a l) := h
  obtain ⟨R, hR⟩ : ∃ R, R = ascCp l := ⟨_, rfl⟩
  have HR : Hid (R = ascCp l) := hR
  rw [← hR]
  clear h hR
  go_enter Tryz.func75, Tryz.ntmps75
  go_wp2
  go_loopw [5] (fun i wr => ∃ j : Nat, j ≤ l.length - 1 ∧ i = .int .i64 ((j + 1 : Nat) : Int) ∧ allTo (fun i => decide (cpCmp (l.getD i Cp.none).svc (l.getD i Cp.none).num (l.getD (i + 1) Cp.none).svc (l.getD (i + 1) Cp.none).num < 0)) j = true ∧ Below w.heap.size w wr) (fun i _ => l.length - (intOf i).toNat)
  case atStart => exact ⟨0, Nat.zero_le _, rfl, rfl, Below.refl _ _⟩
  case round =>
    obtain ⟨j, hj, rfl, hq, hW⟩ := hrel
    have HQ := hid hq
    clear hq
    by_cases hlt : j + 1 < l.length
    · obtain ⟨x, hx⟩ : ∃ x, x = l.getD j Cp.none := ⟨_, rfl⟩
      obtain ⟨y, hy⟩ : ∃ y, y = l.getD (j + 1) Cp.none := ⟨_, rfl⟩
      have HWD := hid hW.drew
      obtain ⟨b, off, ha, hB, hat⟩ := (HH.out.later hW.drew).at_ j (by omega)
      obtain ⟨b', off', ha', _, hat'⟩ := (HH.out.later hW.drew).at_ (j + 1) hlt
      rw [ha] at ha'
      injection ha' with ha'
      injection ha' with hb1 hb2 _
      subst hb1 hb2
      clear hW
      subst ha
      rw [← hx] at hat
      rw [← hy] at hat'
      obtain ⟨c0, c1, c2, c3, c4, c5, c6, _⟩ := hat
      obtain ⟨d0, d1, d2, d3, d4, d5, d6, _⟩ := hat'
      obtain ⟨r, hr⟩ : ∃ r, r = cpCmp x.svc x.num y.svc y.num := ⟨_, rfl⟩
      have HX : Hid (∀ W, Calls Tryz.prog 76 #[.agg #[.string x.svc, .int .i64 x.num, .int .i64 x.ver, .int .i64 x.image, .int .i64 x.state, .bool x.ending, .string x.berth], .agg #[.string y.svc, .int .i64 y.num, .int .i64 y.ver, .int .i64 y.image, .int .i64 y.state, .bool y.ending, .string y.berth]] W fun e w' => e = .returned (.int .i64 r) ∧ Below W.heap.size W w') := fun W => by rw [hr]; exact cmpCpI _ _ _ _ _ _ _ _ _ _ _ _ _ _ W
      have HP : Hid ((fun i => decide (cpCmp (l.getD i Cp.none).svc (l.getD i Cp.none).num (l.getD (i + 1) Cp.none).svc (l.getD (i + 1) Cp.none).num < 0)) j = decide (r < 0)) := by show decide _ = _; rw [hr, hx, hy]
      clear hr hx hy
      by_cases hz : r < 0
      · have HE := hid (allTo_step HQ.out (HP.out.trans (decide_eq_true hz)))
        go_wp2_with fail
        refine region_tail 10 (by kernel_rfl) (by kernel_rfl) ?_
        intro W hWd
        rw [← hWd] at hB HWD c0 c1 c2 c3 c4 c5 c6 d0 d1 d2 d3 d4 d5 d6
        simp only [List.take_succ_cons, List.take_zero, List.drop_succ_cons, List.drop_zero]
        clear hWd
        have hj0 : (0 : Int) ≤ (j : Int) := by omega
        have hj1 : (j : Int) < (l.length : Int) := by omega
        have hj2 : (0 : Int) ≤ (j : Int) + 1 := by omega
        have hjw : IntKind.i64.wrap (j : Int) = (j : Int) := wrapI _ (by omega) (by omega)
        repeat still_step
        refine wpStill_nil ?_
        go_wp2_with (go_at_call 76; refine (HX.out _).mono ?_; rintro e w2 ⟨rfl, hb2⟩)
        go_roundw
        case rel => exact ⟨j + 1, by omega, by go_num, HE.out, blw_trans HWD.out hb2⟩
        case measure => simp [intOf]; omega
      · have HE : Hid (R = false) := by show R = false; rw [HR.out]; exact allTo_false (k := j) (HP.out.trans (decide_eq_false hz)) _ (by omega)
        go_wp2_with fail
        refine region_tail 10 (by kernel_rfl) (by kernel_rfl) ?_
        intro W hWd
        rw [← hWd] at hB HWD c0 c1 c2 c3 c4 c5 c6 d0 d1 d2 d3 d4 d5 d6
        simp only [List.take_succ_cons, List.take_zero, List.drop_succ_cons, List.drop_zero]
        clear hWd
        have hj0 : (0 : Int) ≤ (j : Int) := by omega
        have hj1 : (j : Int) < (l.length : Int) := by omega
        have hj2 : (0 : Int) ≤ (j : Int) + 1 := by omega
        have hjw : IntKind.i64.wrap (j : Int) = (j : Int) := wrapI _ (by omega) (by omega)
        repeat still_step
        refine wpStill_nil ?_
        go_wp2_with (go_at_call 76; refine (HX.out _).mono ?_; rintro e w2 ⟨rfl, hb2⟩)
        go_ret
        exact ⟨Pl.ret_bool HE.out.symm, blw_trans HWD.out hb2⟩
    · have HE : Hid (R = true) := by
        show R = true
        rw [HR.out]
        have : j = l.length - 1 := by omega
        rw [this] at HQ; exact HQ.out
      go_wp2
      go_ret
      exact ⟨Pl.ret_bool HE.out.symm, hW⟩

end Go.Proofs.YtclagbakddkjcaaGreat

namespace Go.Proofs.YtclagbakddkjcaaGreat
open Go.RowKit Go.Deep

def wishOk (s : Sv) : Bool := inB s.image 1 1000000 && inB s.next 1 1000000 && inB s.want 0 10 && inB s.down 0 10 && inB s.over 0 10 && decide (0 < s.down + s.over)
def loadOk (s : Sv) : Bool :=
  if s.per = 0 then decide (s.least = 0) && decide (s.most = 0) && decide (s.load = 0) && decide (s.cool = 0)
  else inB s.per 1 1000000 && inB s.load 0 1000000 && inB s.cool 0 3 && inB s.most 0 10 && inB s.least 0 s.most

theorem svOk_eq (s : Sv) (now : Int) : svOk s now = (snmOk s.nm && inB s.ver 1 now && wishOk s && loadOk s) := by
  unfold svOk wishOk loadOk
  by_cases h : s.per = 0
  · rw [if_pos h, if_pos h, Bool.eq_iff_iff]
    unfold inB
    simp only [Bool.and_eq_true, Bool.not_eq_true', decide_eq_true_eq, decide_eq_false_iff_not]
    constructor
    · rintro ⟨⟨⟨⟨⟨⟨⟨⟨a, b⟩, c⟩, d⟩, e⟩, f⟩, g⟩, h⟩, i⟩
      exact ⟨⟨⟨a, b⟩, ⟨⟨⟨⟨⟨c, d⟩, e⟩, f⟩, g⟩, by omega⟩⟩, i⟩
    · rintro ⟨⟨⟨a, b⟩, ⟨⟨⟨⟨⟨c, d⟩, e⟩, f⟩, g⟩, h⟩⟩, i⟩
      exact ⟨⟨⟨⟨⟨⟨⟨⟨a, b⟩, c⟩, d⟩, e⟩, f⟩, g⟩, by omega⟩, i⟩
  · rw [if_neg h, if_neg h, Bool.eq_iff_iff]
    unfold inB
    simp only [Bool.and_eq_true, Bool.not_eq_true', decide_eq_true_eq, decide_eq_false_iff_not]
    constructor
    · rintro ⟨⟨⟨⟨⟨⟨⟨⟨a, b⟩, c⟩, d⟩, e⟩, f⟩, g⟩, h⟩, i⟩
      exact ⟨⟨⟨a, b⟩, ⟨⟨⟨⟨⟨c, d⟩, e⟩, f⟩, g⟩, by omega⟩⟩, by omega⟩
    · rintro ⟨⟨⟨a, b⟩, ⟨⟨⟨⟨⟨c, d⟩, e⟩, f⟩, g⟩, h⟩⟩, i⟩
      exact ⟨⟨⟨⟨⟨⟨⟨⟨a, b⟩, c⟩, d⟩, e⟩, f⟩, g⟩, by omega⟩, by omega⟩

set_option maxHeartbeats 4000000 in
theorem wishI (s : Sv) (w : World) :
    Calls Tryz.prog 71 #[.agg #[.string s.nm, .int .i64 s.ver, .bool s.gone, .int .i64 s.image, .int .i64 s.want, .int .i64 s.down, .int .i64 s.over, .int .i64 s.next, .int .i64 s.per, .int .i64 s.least, .int .i64 s.most, .int .i64 s.load, .int .i64 s.cool]] w fun e w' => e = .returned (.bool (wishOk s)) ∧ Below w.heap.size w w' := by
  obtain ⟨R, hR⟩ : ∃ R, R = wishOk s := ⟨_, rfl⟩
  have HR := hid hR
  rw [← hR]
  clear hR
  cases h0 : inB s.image 1 1000000
  · have HF : Hid (R = false) := by show R = false; rw [HR.out]; simp [wishOk, h0]
    clear HR
    go_enter Tryz.func71, Tryz.ntmps71
    go_wp2_with (go_at_call 67; refine (withinI _ _ _ _).mono ?_; rintro e w' ⟨rfl, rfl⟩)
    go_ret
    exact ⟨Pl.ret_bool (by first | exact HF.out.symm | (rw [HF.out]; simp)), blw_alloc (Below.refl _ _) _⟩
  cases h1 : inB s.next 1 1000000
  · have HF : Hid (R = false) := by show R = false; rw [HR.out]; simp [wishOk, h0, h1]
    clear HR
    go_enter Tryz.func71, Tryz.ntmps71
    go_wp2_with (go_at_call 67; refine (withinI _ _ _ _).mono ?_; rintro e w' ⟨rfl, rfl⟩)
    go_ret
    exact ⟨Pl.ret_bool (by first | exact HF.out.symm | (rw [HF.out]; simp)), blw_alloc (Below.refl _ _) _⟩
  cases h2 : inB s.want 0 10
  · have HF : Hid (R = false) := by show R = false; rw [HR.out]; simp [wishOk, h0, h1, h2]
    clear HR
    go_enter Tryz.func71, Tryz.ntmps71
    go_wp2_with (go_at_call 67; refine (withinI _ _ _ _).mono ?_; rintro e w' ⟨rfl, rfl⟩)
    go_ret
    exact ⟨Pl.ret_bool (by first | exact HF.out.symm | (rw [HF.out]; simp)), blw_alloc (Below.refl _ _) _⟩
  cases h3 : inB s.down 0 10
  · have HF : Hid (R = false) := by show R = false; rw [HR.out]; simp [wishOk, h0, h1, h2, h3]
    clear HR
    go_enter Tryz.func71, Tryz.ntmps71
    go_wp2_with (go_at_call 67; refine (withinI _ _ _ _).mono ?_; rintro e w' ⟨rfl, rfl⟩)
    go_ret
    exact ⟨Pl.ret_bool (by first | exact HF.out.symm | (rw [HF.out]; simp)), blw_alloc (Below.refl _ _) _⟩
  cases h4 : inB s.over 0 10
  · have HF : Hid (R = false) := by show R = false; rw [HR.out]; simp [wishOk, h0, h1, h2, h3, h4]
    clear HR
    go_enter Tryz.func71, Tryz.ntmps71
    go_wp2_with (go_at_call 67; refine (withinI _ _ _ _).mono ?_; rintro e w' ⟨rfl, rfl⟩)
    go_ret
    exact ⟨Pl.ret_bool (by first | exact HF.out.symm | (rw [HF.out]; simp)), blw_alloc (Below.refl _ _) _⟩
  have hd : 0 ≤ s.down ∧ s.down ≤ 10 := by have q := h3; unfold inB at q; simp at q; exact q
  have ho : 0 ≤ s.over ∧ s.over ≤ 10 := by have q := h4; unfold inB at q; simp at q; exact q
  obtain ⟨hd0, hd1⟩ := hd
  obtain ⟨ho0, ho1⟩ := ho
  have HF : Hid (R = decide (0 < s.down + s.over)) := by show R = _; rw [HR.out]; simp [wishOk, h0, h1, h2, h3, h4]
  clear HR
  go_enter Tryz.func71, Tryz.ntmps71
  go_wp2_with (go_at_call 67; refine (withinI _ _ _ _).mono ?_; rintro e w' ⟨rfl, rfl⟩)
  go_ret
  exact ⟨Pl.ret_bool (by first | exact HF.out.symm | (rw [HF.out]; simp)), blw_alloc (Below.refl _ _) _⟩

set_option maxHeartbeats 4000000 in
theorem loadI (s : Sv) (w : World) :
    Calls Tryz.prog 72 #[.agg #[.string s.nm, .int .i64 s.ver, .bool s.gone, .int .i64 s.image, .int .i64 s.want, .int .i64 s.down, .int .i64 s.over, .int .i64 s.next, .int .i64 s.per, .int .i64 s.least, .int .i64 s.most, .int .i64 s.load, .int .i64 s.cool]] w fun e w' => e = .returned (.bool (loadOk s)) ∧ Below w.heap.size w w' := by
  obtain ⟨R, hR⟩ : ∃ R, R = loadOk s := ⟨_, rfl⟩
  have HR := hid hR
  rw [← hR]
  clear hR
  by_cases hp : s.per = 0
  · have HR2 : Hid (R = (decide (s.least = 0) && decide (s.most = 0) && decide (s.load = 0) && decide (s.cool = 0))) := by show R = _; rw [HR.out, loadOk, if_pos hp]
    clear HR
    rcases (Decidable.em (s.least = 0)).symm with g0 | g0
    · have HF : Hid (R = false) := by show R = false; rw [HR2.out]; simp [g0]
      clear HR2
      go_enter Tryz.func72, Tryz.ntmps72
      go_wp2_with (go_at_call 67; refine (withinI _ _ _ _).mono ?_; rintro e w' ⟨rfl, rfl⟩)
      go_ret
      exact ⟨Pl.ret_bool (by first | exact HF.out.symm | (rw [HF.out]; simpa using g0)), blw_alloc (Below.refl _ _) _⟩
    rcases (Decidable.em (s.most = 0)).symm with g1 | g1
    · have HF : Hid (R = false) := by show R = false; rw [HR2.out]; simp [g0, g1]
      clear HR2
      go_enter Tryz.func72, Tryz.ntmps72
      go_wp2_with (go_at_call 67; refine (withinI _ _ _ _).mono ?_; rintro e w' ⟨rfl, rfl⟩)
      go_ret
      exact ⟨Pl.ret_bool (by first | exact HF.out.symm | (rw [HF.out]; simpa using g1)), blw_alloc (Below.refl _ _) _⟩
    rcases (Decidable.em (s.load = 0)).symm with g2 | g2
    · have HF : Hid (R = false) := by show R = false; rw [HR2.out]; simp [g0, g1, g2]
      clear HR2
      go_enter Tryz.func72, Tryz.ntmps72
      go_wp2_with (go_at_call 67; refine (withinI _ _ _ _).mono ?_; rintro e w' ⟨rfl, rfl⟩)
      go_ret
      exact ⟨Pl.ret_bool (by first | exact HF.out.symm | (rw [HF.out]; simpa using g2)), blw_alloc (Below.refl _ _) _⟩
    rcases (Decidable.em (s.cool = 0)).symm with g3 | g3
    · have HF : Hid (R = false) := by show R = false; rw [HR2.out]; simp [g0, g1, g2, g3]
      clear HR2
      go_enter Tryz.func72, Tryz.ntmps72
      go_wp2_with (go_at_call 67; refine (withinI _ _ _ _).mono ?_; rintro e w' ⟨rfl, rfl⟩)
      go_ret
      exact ⟨Pl.ret_bool (by first | exact HF.out.symm | (rw [HF.out]; simpa using g3)), blw_alloc (Below.refl _ _) _⟩
    have HF : Hid (R = true) := by show R = true; rw [HR2.out]; simp [g0, g1, g2, g3]
    clear HR2
    go_enter Tryz.func72, Tryz.ntmps72
    go_wp2_with (go_at_call 67; refine (withinI _ _ _ _).mono ?_; rintro e w' ⟨rfl, rfl⟩)
    go_ret
    exact ⟨Pl.ret_bool (by first | exact HF.out.symm | (rw [HF.out]; simpa using g3)), blw_alloc (Below.refl _ _) _⟩
  · have HR2 : Hid (R = (inB s.per 1 1000000 && inB s.load 0 1000000 && inB s.cool 0 3 && inB s.most 0 10 && inB s.least 0 s.most)) := by show R = _; rw [HR.out, loadOk, if_neg hp]
    clear HR
    cases g0 : inB s.per 1 1000000
    · have HF : Hid (R = false) := by show R = false; rw [HR2.out]; simp [g0]
      clear HR2
      go_enter Tryz.func72, Tryz.ntmps72
      go_wp2_with (go_at_call 67; refine (withinI _ _ _ _).mono ?_; rintro e w' ⟨rfl, rfl⟩)
      go_ret
      exact ⟨Pl.ret_bool (by first | exact HF.out.symm | (rw [HF.out]; simp)), blw_alloc (Below.refl _ _) _⟩
    cases g1 : inB s.load 0 1000000
    · have HF : Hid (R = false) := by show R = false; rw [HR2.out]; simp [g0, g1]
      clear HR2
      go_enter Tryz.func72, Tryz.ntmps72
      go_wp2_with (go_at_call 67; refine (withinI _ _ _ _).mono ?_; rintro e w' ⟨rfl, rfl⟩)
      go_ret
      exact ⟨Pl.ret_bool (by first | exact HF.out.symm | (rw [HF.out]; simp)), blw_alloc (Below.refl _ _) _⟩
    cases g2 : inB s.cool 0 3
    · have HF : Hid (R = false) := by show R = false; rw [HR2.out]; simp [g0, g1, g2]
      clear HR2
      go_enter Tryz.func72, Tryz.ntmps72
      go_wp2_with (go_at_call 67; refine (withinI _ _ _ _).mono ?_; rintro e w' ⟨rfl, rfl⟩)
      go_ret
      exact ⟨Pl.ret_bool (by first | exact HF.out.symm | (rw [HF.out]; simp)), blw_alloc (Below.refl _ _) _⟩
    cases g3 : inB s.most 0 10
    · have HF : Hid (R = false) := by show R = false; rw [HR2.out]; simp [g0, g1, g2, g3]
      clear HR2
      go_enter Tryz.func72, Tryz.ntmps72
      go_wp2_with (go_at_call 67; refine (withinI _ _ _ _).mono ?_; rintro e w' ⟨rfl, rfl⟩)
      go_ret
      exact ⟨Pl.ret_bool (by first | exact HF.out.symm | (rw [HF.out]; simp)), blw_alloc (Below.refl _ _) _⟩
    cases g4 : inB s.least 0 s.most
    · have HF : Hid (R = false) := by show R = false; rw [HR2.out]; simp [g0, g1, g2, g3, g4]
      clear HR2
      go_enter Tryz.func72, Tryz.ntmps72
      go_wp2_with (go_at_call 67; refine (withinI _ _ _ _).mono ?_; rintro e w' ⟨rfl, rfl⟩)
      go_ret
      exact ⟨Pl.ret_bool (by first | exact HF.out.symm | (rw [HF.out]; simp)), blw_alloc (Below.refl _ _) _⟩
    have HF : Hid (R = true) := by show R = true; rw [HR2.out]; simp [g0, g1, g2, g3, g4]
    clear HR2
    go_enter Tryz.func72, Tryz.ntmps72
    go_wp2_with (go_at_call 67; refine (withinI _ _ _ _).mono ?_; rintro e w' ⟨rfl, rfl⟩)
    go_ret
    exact ⟨Pl.ret_bool (by first | exact HF.out.symm | (rw [HF.out]; simp)), blw_alloc (Below.refl _ _) _⟩

set_option maxHeartbeats 4000000 in
theorem nowI (K : SBk) (v1 v2 v3 : Value) (w : World) :
    Calls Tryz.prog 52 #[.agg #[.int .i64 K.now, v1, v2, v3]] w fun e w' => e = .returned (.bool (inB K.now 0 1000000)) ∧ Below w.heap.size w w' := by
  go_enter Tryz.func52, Tryz.ntmps52
  go_wp2_with (go_at_call 67; refine (withinI _ _ _ _).mono ?_; rintro e w' ⟨rfl, rfl⟩)
  go_ret
  exact ⟨rfl, blw_alloc (Below.refl _ _) _⟩

end Go.Proofs.YtclagbakddkjcaaGreat

namespace Go.Proofs.YtclagbakddkjcaaGreat
open Go.RowKit Go.Deep

def svsAll (K : SBk) : Bool := allTo (fun i => svOk (K.svcs.getD i Sv.none) K.now) K.svcs.length

set_option maxRecDepth 8000 in
set_option maxHeartbeats 40000000 in
theorem servicesI (K : SBk) (a0 a1 a2 : Option Addr) (c0 c1 c2 : Nat) (w : World) (h : SBkV w a0 a1 a2 K) :
    Calls Tryz.prog 53 #[.agg #[.int .i64 K.now, .slice a0 K.svcs.length c0, .slice a1 K.cps.length c1, .slice a2 K.bts.length c2]] w fun e w' => e = .returned (.bool (decide (K.svcs.length ≤ 8) && ascSv K.svcs && svsAll K)) ∧ Below w.heap.size w w' := by
  have HH := hid h
  have hl := h.s.len
  unfold maxLen at hl
  clear h
  obtain ⟨R, hR⟩ : ∃ R, R = (decide (K.svcs.length ≤ 8) && ascSv K.svcs && svsAll K) := ⟨_, rfl⟩
  have HR := hid hR
  rw [← hR]
  clear hR
  obtain ⟨wa, hwa⟩ : ∃ wa, wa = w.alloc (.cells #[.int .i64 K.now, .slice a0 K.svcs.length c0, .slice a1 K.cps.length c1, .slice a2 K.bts.length c2] 37) := ⟨_, rfl⟩
  have HB : Hid (Below w.heap.size w wa) := by show Below _ _ _; rw [hwa]; exact blw_alloc (Below.refl _ _) _
  have HX : Hid (Box4 wa w.heap.size (.int .i64 K.now) (.slice a0 K.svcs.length c0) (.slice a1 K.cps.length c1) (.slice a2 K.bts.length c2)) := by show Box4 _ _ _ _ _ _; rw [hwa]; exact Box4.new' w _ _ _ _ _ _ rfl
  go_enter Tryz.func53, Tryz.ntmps53
  go_upto_region 1 with fail
  rw [← hwa]
  clear hwa
  obtain ⟨yz, y0, y1, y2, y3⟩ := HX.out
  rcases (Decidable.em (K.svcs.length ≤ 8)).symm with g0 | g0
  · have HF : Hid (R = false) := by show R = false; rw [HR.out]; simp [g0]
    go_wp2
    go_ret
    exact ⟨Pl.ret_bool HF.out.symm, HB.out⟩
  go_wp2_with fail
  refine (ascSvI a0 c0 K.svcs wa (HH.out.later HB.out).s).mono ?_
  rintro e w1 ⟨rfl, hb1⟩
  have HB1 := hid (blw_trans HB.out hb1)
  have HX1 := hid (HX.out.later hb1)
  clear yz y0 y1 y2 y3 hb1
  obtain ⟨yz, y0, y1, y2, y3⟩ := HX1.out
  cases k0 : ascSv K.svcs
  · have HF : Hid (R = false) := by show R = false; rw [HR.out, k0]; simp
    go_wp2
    go_ret
    exact ⟨Pl.ret_bool HF.out.symm, HB1.out⟩
  have HR2 : Hid (R = svsAll K) := by show R = _; rw [HR.out, k0]; simp [g0]
  clear HR
  go_wp2
  clear yz y0 y1 y2 y3 k0
  go_loopw [18] (fun i wr => ∃ q : Nat, q ≤ K.svcs.length ∧ i = .int .i64 q ∧ allTo (fun i => svOk (K.svcs.getD i Sv.none) K.now) q = true ∧ Below w1.heap.size w1 wr) (fun i _ => K.svcs.length - (intOf i).toNat)
  case atStart => exact ⟨0, Nat.zero_le _, rfl, rfl, Below.refl _ _⟩
  case round =>
    obtain ⟨q, hq, rfl, ha, hW⟩ := hrel
    have HQ := hid ha
    have HB2 := hid (blw_trans HB1.out hW)
    have HX2 := hid (HX1.out.later hW)
    have HWW := hid hW
    clear ha hW
    by_cases hlt : q < K.svcs.length
    · obtain ⟨b, off, ha, hbl, hf⟩ := (HH.out.later HB2.out).s.at_ q hlt
      subst ha
      obtain ⟨x, hx⟩ : ∃ x, x = K.svcs.getD q Sv.none := ⟨_, rfl⟩
      rw [← hx] at hf
      have HSZ := hid hf.sized
      obtain ⟨e0, e1, e2, e3, e4, e5, e6, e7, e8, e9, e10, e11, e12, _⟩ := hf
      have hm0 : (0 : Int) ≤ (q : Int) := by omega
      have hm3 : (q : Int) < (K.svcs.length : Int) := by omega
      have HP : Hid (svOk (K.svcs.getD q Sv.none) K.now = (snmOk x.nm && inB x.ver 1 K.now && wishOk x && loadOk x)) := by show _ = _; rw [← hx]; exact svOk_eq x K.now
      clear hx
      obtain ⟨w2, hw2⟩ : ∃ w2, w2 = wr.alloc (.cells #[.string x.nm, .int .i64 x.ver, .bool x.gone, .int .i64 x.image, .int .i64 x.want, .int .i64 x.down, .int .i64 x.over, .int .i64 x.next, .int .i64 x.per, .int .i64 x.least, .int .i64 x.most, .int .i64 x.load, .int .i64 x.cool] 41) := ⟨_, rfl⟩
      have HW2 : Hid (Below wr.heap.size wr w2) := by show Below _ _ _; rw [hw2]; exact blw_alloc (Below.refl _ _) _
      have HY2 : Hid (Box13 w2 wr.heap.size (.string x.nm) (.int .i64 x.ver) (.bool x.gone) (.int .i64 x.image) (.int .i64 x.want) (.int .i64 x.down) (.int .i64 x.over) (.int .i64 x.next) (.int .i64 x.per) (.int .i64 x.least) (.int .i64 x.most) (.int .i64 x.load) (.int .i64 x.cool)) := by show Box13 _ _ _ _ _ _ _ _ _ _ _ _ _ _ _; rw [hw2]; exact Box13.new' wr _ _ _ _ _ _ _ _ _ _ _ _ _ _ _ rfl
      have HX3 := hid (HX2.out.later HW2.out)
      go_upto_region 6 with fail
      rw [← hw2]
      clear hw2 e0 e1 e2 e3 e4 e5 e6 e7 e8 e9 e10 e11 e12 hbl
      obtain ⟨yz, y0, y1, y2, y3⟩ := HX3.out
      obtain ⟨zz, z0, z1, z2, z3, z4, z5, z6, z7, z8, z9, z10, z11, z12⟩ := HY2.out
      have HNI := hid (isNameI x.nm w2 HSZ.out)
      cases k0 : snmOk x.nm
      · have HF : Hid (R = false) := by
          show R = false
          rw [HR2.out]
          exact allTo_false (k := q) (by rw [HP.out, k0]; rfl) _ hlt
        go_wp2_with (go_at_call 70; refine (HNI.out).mono ?_; rw [k0]; rintro e w' ⟨rfl, rfl⟩)
        go_ret
        exact ⟨Pl.ret_bool HF.out.symm, blw_trans HB2.out HW2.out⟩
      cases k1 : inB x.ver 1 K.now
      · have HF : Hid (R = false) := by
          show R = false
          rw [HR2.out]
          exact allTo_false (k := q) (by rw [HP.out, k0, k1]; rfl) _ hlt
        go_wp2_with (first | (go_at_call 70; refine (HNI.out).mono ?_; rw [k0]; rintro e w' ⟨rfl, rfl⟩) | (go_at_call 67; refine (withinI _ _ _ _).mono ?_; rintro e w' ⟨rfl, rfl⟩))
        go_ret
        exact ⟨Pl.ret_bool HF.out.symm, blw_trans HB2.out HW2.out⟩
      go_wp2_with fail
      refine HNI.out.mono ?_
      rw [k0]
      rintro e w' ⟨rfl, rfl⟩
      go_wp2_with fail
      refine (withinI _ _ _ _).mono ?_
      rintro e w' ⟨rfl, rfl⟩
      go_wp2_with fail
      refine (wishI x _).mono ?_
      rintro e w3 ⟨rfl, hb3⟩
      have HB3 := hid (blw_trans (blw_trans HB2.out HW2.out) hb3)
      have HW3 := hid (blw_trans HW2.out hb3)
      have HY3 := hid (HY2.out.later hb3)
      have HX4 := hid (HX3.out.later hb3)
      clear yz y0 y1 y2 y3 zz z0 z1 z2 z3 z4 z5 z6 z7 z8 z9 z10 z11 z12 hb3 HNI
      obtain ⟨yz, y0, y1, y2, y3⟩ := HX4.out
      obtain ⟨zz, z0, z1, z2, z3, z4, z5, z6, z7, z8, z9, z10, z11, z12⟩ := HY3.out
      cases k2 : wishOk x
      · have HF : Hid (R = false) := by
          show R = false
          rw [HR2.out]
          exact allTo_false (k := q) (by rw [HP.out, k0, k1, k2]; rfl) _ hlt
        go_wp2
        go_ret
        exact ⟨Pl.ret_bool HF.out.symm, HB3.out⟩
      go_wp2_with fail
      refine (loadI x _).mono ?_
      rintro e w4 ⟨rfl, hb4⟩
      have HB4 := hid (blw_trans HB3.out hb4)
      have HW4 := hid (blw_trans HW3.out hb4)
      clear yz y0 y1 y2 y3 zz z0 z1 z2 z3 z4 z5 z6 z7 z8 z9 z10 z11 z12 hb4
      cases k3 : loadOk x
      · have HF : Hid (R = false) := by
          show R = false
          rw [HR2.out]
          exact allTo_false (k := q) (by rw [HP.out, k0, k1, k2, k3]; rfl) _ hlt
        go_wp2
        go_ret
        exact ⟨Pl.ret_bool HF.out.symm, HB4.out⟩
      have HN : Hid (allTo (fun i => svOk (K.svcs.getD i Sv.none) K.now) (q + 1) = true) := allTo_step HQ.out (by rw [HP.out, k0, k1, k2, k3]; rfl)
      go_wp2
      go_roundw
      case rel => exact ⟨q + 1, by omega, by go_num, HN.out, blw_trans HWW.out HW4.out⟩
      case measure => simp [intOf]; omega
    · have HF : Hid (R = true) := by
        show R = true
        rw [HR2.out, svsAll]
        have : q = K.svcs.length := by omega
        rw [← this]; exact HQ.out
      go_wp2
      go_ret
      exact ⟨Pl.ret_bool HF.out.symm, HB2.out⟩

def btsAll (K : SBk) : Bool := allTo (fun i => snmOk (K.bts.getD i Bt.none).nm) K.bts.length

set_option maxRecDepth 8000 in
set_option maxHeartbeats 40000000 in
theorem berthsI (K : SBk) (a0 a1 a2 : Option Addr) (c0 c1 c2 : Nat) (w : World) (h : SBkV w a0 a1 a2 K) :
    Calls Tryz.prog 54 #[.agg #[.int .i64 K.now, .slice a0 K.svcs.length c0, .slice a1 K.cps.length c1, .slice a2 K.bts.length c2]] w fun e w' => e = .returned (.bool (decide (K.bts.length ≤ 6) && ascBt K.bts && btsAll K)) ∧ Below w.heap.size w w' := by
  have HH := hid h
  have hl := h.b.len
  unfold maxLen at hl
  clear h
  obtain ⟨R, hR⟩ : ∃ R, R = (decide (K.bts.length ≤ 6) && ascBt K.bts && btsAll K) := ⟨_, rfl⟩
  have HR := hid hR
  rw [← hR]
  clear hR
  obtain ⟨wa, hwa⟩ : ∃ wa, wa = w.alloc (.cells #[.int .i64 K.now, .slice a0 K.svcs.length c0, .slice a1 K.cps.length c1, .slice a2 K.bts.length c2] 37) := ⟨_, rfl⟩
  have HB : Hid (Below w.heap.size w wa) := by show Below _ _ _; rw [hwa]; exact blw_alloc (Below.refl _ _) _
  have HX : Hid (Box4 wa w.heap.size (.int .i64 K.now) (.slice a0 K.svcs.length c0) (.slice a1 K.cps.length c1) (.slice a2 K.bts.length c2)) := by show Box4 _ _ _ _ _ _; rw [hwa]; exact Box4.new' w _ _ _ _ _ _ rfl
  go_enter Tryz.func54, Tryz.ntmps54
  go_upto_region 1 with fail
  rw [← hwa]
  clear hwa
  obtain ⟨yz, y0, y1, y2, y3⟩ := HX.out
  rcases (Decidable.em (K.bts.length ≤ 6)).symm with g0 | g0
  · have HF : Hid (R = false) := by show R = false; rw [HR.out]; simp [g0]
    go_wp2
    go_ret
    exact ⟨Pl.ret_bool HF.out.symm, HB.out⟩
  go_wp2_with fail
  refine (ascBtI a2 c2 K.bts wa (HH.out.later HB.out).b).mono ?_
  rintro e w1 ⟨rfl, hb1⟩
  have HB1 := hid (blw_trans HB.out hb1)
  have HX1 := hid (HX.out.later hb1)
  clear yz y0 y1 y2 y3 hb1
  obtain ⟨yz, y0, y1, y2, y3⟩ := HX1.out
  cases k0 : ascBt K.bts
  · have HF : Hid (R = false) := by show R = false; rw [HR.out, k0]; simp
    go_wp2
    go_ret
    exact ⟨Pl.ret_bool HF.out.symm, HB1.out⟩
  have HR2 : Hid (R = btsAll K) := by show R = _; rw [HR.out, k0]; simp [g0]
  clear HR
  go_wp2
  clear yz y0 y1 y2 y3 k0
  go_loopw [18] (fun i wr => ∃ q : Nat, q ≤ K.bts.length ∧ i = .int .i64 q ∧ allTo (fun i => snmOk (K.bts.getD i Bt.none).nm) q = true ∧ Below w1.heap.size w1 wr) (fun i _ => K.bts.length - (intOf i).toNat)
  case atStart => exact ⟨0, Nat.zero_le _, rfl, rfl, Below.refl _ _⟩
  case round =>
    obtain ⟨q, hq, rfl, ha, hW⟩ := hrel
    have HQ := hid ha
    have HB2 := hid (blw_trans HB1.out hW)
    have HX2 := hid (HX1.out.later hW)
    have HWW := hid hW
    clear ha hW
    by_cases hlt : q < K.bts.length
    · obtain ⟨b, off, ha, hbl, hf⟩ := (HH.out.later HB2.out).b.at_ q hlt
      subst ha
      obtain ⟨x, hx⟩ : ∃ x, x = K.bts.getD q Bt.none := ⟨_, rfl⟩
      rw [← hx] at hf
      have HSZ := hid hf.sized
      obtain ⟨e0, e1, _⟩ := hf
      have hm0 : (0 : Int) ≤ (q : Int) := by omega
      have hm3 : (q : Int) < (K.bts.length : Int) := by omega
      have HP : Hid (snmOk (K.bts.getD q Bt.none).nm = snmOk x.nm) := by show _ = _; rw [← hx]
      clear hx
      obtain ⟨w2, hw2⟩ : ∃ w2, w2 = wr.alloc (.cells #[.string x.nm, .bool x.drain] 79) := ⟨_, rfl⟩
      have HW2 : Hid (Below wr.heap.size wr w2) := by show Below _ _ _; rw [hw2]; exact blw_alloc (Below.refl _ _) _
      have z0 : w2.cell? ⟨wr.heap.size, 0, none⟩ = some (.string x.nm) := by rw [hw2]; exact World.cell?_alloc_at _ _ _ _ rfl
      have zz : wr.heap.size < w2.heap.size := by rw [hw2]; simp
      go_upto_region 6 with fail
      rw [← hw2]
      clear hw2 e0 e1 hbl
      have HNI := hid (isNameI x.nm w2 HSZ.out)
      cases k0 : snmOk x.nm
      · have HF : Hid (R = false) := by
          show R = false
          rw [HR2.out]
          exact allTo_false (k := q) (by rw [HP.out, k0]) _ hlt
        go_wp2_with (go_at_call 70; refine (HNI.out).mono ?_; rw [k0]; rintro e w' ⟨rfl, rfl⟩)
        go_ret
        exact ⟨Pl.ret_bool HF.out.symm, blw_trans HB2.out HW2.out⟩
      have HN : Hid (allTo (fun i => snmOk (K.bts.getD i Bt.none).nm) (q + 1) = true) := allTo_step HQ.out (by rw [HP.out, k0])
      go_wp2_with (go_at_call 70; refine (HNI.out).mono ?_; rw [k0]; rintro e w' ⟨rfl, rfl⟩)
      go_roundw
      case rel => exact ⟨q + 1, by omega, by go_num, HN.out, blw_trans HWW.out HW2.out⟩
      case measure => simp [intOf]; omega
    · have HF : Hid (R = true) := by
        show R = true
        rw [HR2.out, btsAll]
        have : q = K.bts.length := by omega
        rw [← this]; exact HQ.out
      go_wp2
      go_ret
      exact ⟨Pl.ret_bool HF.out.symm, HB2.out⟩

end Go.Proofs.YtclagbakddkjcaaGreat
