/-
  Stewards: an act, from beginning to end, by the program.
-/
import Derived.Defers
import Derived.Recover
import Derived.Test.YtpamkibnahhphaaGreatDoorIaW
import Derived.Test.YtpamkibnahhphaaGreatDoorIaD
import Derived.Test.YtpamkibnahhphaaGreatDoorIaF
import Derived.Test.YtpamkibnahhphaaGreatDoorIaG
import Derived.Test.YtpamkibnahhphaaGreatDoorSaX
import Derived.Test.YtpamkibnahhphaaGreatDoorIaC
import Derived.Test.YtpamkibnahhphaaGreatDoorPgD
namespace Go.Proofs.YtpamkibnahhphaaGreatDoor
open Go.RowKit Go.Deep

set_option maxRecDepth 8000 in
set_option maxHeartbeats 4000000 in
theorem cmpEnI (k j : Int) (p1 q1 : Value) (w : World) : Calls Tryz.prog 93 #[.agg #[.int .i64 k, p1], .agg #[.int .i64 j, q1]] w fun e w' => e = .returned (.int .i64 (numCmp k j)) ∧ Below w.heap.size w w' := by
  obtain ⟨wa, hwa⟩ : ∃ wa, wa = (w.alloc (.cells #[.int .i64 k, p1] 96)).alloc (.cells #[.int .i64 j, q1] 96) := ⟨_, rfl⟩
  have HB : Hid (Below w.heap.size w wa) := by show Below _ _ _; rw [hwa]; exact blw_alloc (blw_alloc (Below.refl _ _) _) _
  have a0 : wa.cell? ⟨w.heap.size, 0, none⟩ = some (.int .i64 k) := by
    rw [hwa]; exact (World.cell?_alloc_past _ _ _ (by simp)).trans (World.cell?_alloc_at _ _ _ _ rfl)
  have b0 : wa.cell? ⟨w.heap.size + 1, 0, none⟩ = some (.int .i64 j) := by
    rw [hwa]; exact (World.cell?_alloc_at _ _ _ _ (by simp))
  have z : w.heap.size + 1 < wa.heap.size := by rw [hwa]; simp
  have z' : w.heap.size < wa.heap.size := by omega
  go_enter Tryz.func93, Tryz.ntmps93
  go_upto_region 1 with fail
  rw [← hwa]
  clear hwa
  go_wp2_with (go_at_call 110; refine (cmpI _ _ _).mono ?_; rintro e w' ⟨rfl, rfl⟩)
  go_ret
  exact ⟨rfl, HB.out⟩


def ascEn (l : List En) : Bool := allTo (fun i => decide (numCmp (l.getD i En.none).num (l.getD (i + 1) En.none).num < 0)) (l.length - 1)

set_option maxRecDepth 8000 in
set_option maxHeartbeats 8000000 in
theorem ascEnI (a : Option Addr) (c : Nat) (l : List En) (w : World) (h : EnsV w a l) :
    Calls Tryz.prog 92 #[.slice a l.length c, .func (.func 93) #[] #[]] w fun e w' => e = .returned (.bool (ascEn l)) ∧ Below w.heap.size w w' := by
  have hl := h.len
  unfold maxLen at hl
  have HH : Hid (EnsV w a l) := h
  obtain ⟨R, hR⟩ : ∃ R, R = ascEn l := ⟨_, rfl⟩
  have HR : Hid (R = ascEn l) := hR
  rw [← hR]
  clear h hR
  go_enter Tryz.func92, Tryz.ntmps92
  go_wp2
  go_loopw [5] (fun i wr => ∃ j : Nat, j ≤ l.length - 1 ∧ i = .int .i64 ((j + 1 : Nat) : Int) ∧ allTo (fun i => decide (numCmp (l.getD i En.none).num (l.getD (i + 1) En.none).num < 0)) j = true ∧ Below w.heap.size w wr) (fun i _ => l.length - (intOf i).toNat)
  case atStart => exact ⟨0, Nat.zero_le _, rfl, rfl, Below.refl _ _⟩
  case round =>
    obtain ⟨j, hj, rfl, hq, hW⟩ := hrel
    have HQ := hid hq
    clear hq
    by_cases hlt : j + 1 < l.length
    · obtain ⟨x, hx⟩ : ∃ x, x = l.getD j En.none := ⟨_, rfl⟩
      obtain ⟨y, hy⟩ : ∃ y, y = l.getD (j + 1) En.none := ⟨_, rfl⟩
      have HWD := hid hW.drew
      obtain ⟨b, off, ha, hB, hat⟩ := (HH.out.later hW.drew).at_ j (by omega)
      obtain ⟨b', off', ha', _, hat'⟩ := (HH.out.later hW.drew).at_ (j + 1) hlt
      rw [ha] at ha'
      injection ha' with ha'
      injection ha' with hb1 hb2 _
      subst hb1 hb2
      clear hW
      subst ha
      rw [← hx] at hat
      rw [← hy] at hat'
      obtain ⟨c0, c1, _⟩ := hat
      obtain ⟨d0, d1, _⟩ := hat'
      obtain ⟨r, hr⟩ : ∃ r, r = numCmp x.num y.num := ⟨_, rfl⟩
      have HX : Hid (∀ W, Calls Tryz.prog 93 #[.agg #[.int .i64 x.num, .int .i64 x.seen], .agg #[.int .i64 y.num, .int .i64 y.seen]] W fun e w' => e = .returned (.int .i64 r) ∧ Below W.heap.size W w') := fun W => by rw [hr]; exact cmpEnI _ _ _ _ W
      have HP : Hid ((fun i => decide (numCmp (l.getD i En.none).num (l.getD (i + 1) En.none).num < 0)) j = decide (r < 0)) := by show decide _ = _; rw [hr, hx, hy]
      clear hr hx hy
      by_cases hz : r < 0
      · have HE := hid (allTo_step HQ.out (HP.out.trans (decide_eq_true hz)))
        go_wp2_with fail
        refine region_tail 10 (by kernel_rfl) (by kernel_rfl) ?_
        intro W hWd
        rw [← hWd] at hB HWD c0 c1 d0 d1
        simp only [List.take_succ_cons, List.take_zero, List.drop_succ_cons, List.drop_zero]
        clear hWd
        have hj0 : (0 : Int) ≤ (j : Int) := by omega
        have hj1 : (j : Int) < (l.length : Int) := by omega
        have hj2 : (0 : Int) ≤ (j : Int) + 1 := by omega
        have hjw : IntKind.i64.wrap (j : Int) = (j : Int) := wrapI _ (by omega) (by omega)
        repeat still_step
        refine wpStill_nil ?_
        go_wp2_with (go_at_call 93; refine (HX.out _).mono ?_; rintro e w2 ⟨rfl, hb2⟩)
        go_roundw
        case rel => exact ⟨j + 1, by omega, by go_num, HE.out, blw_trans HWD.out hb2⟩
        case measure => simp [intOf]; omega
      · have HE : Hid (R = false) := by show R = false; rw [HR.out]; exact allTo_false (k := j) (HP.out.trans (decide_eq_false hz)) _ (by omega)
        go_wp2_with fail
        refine region_tail 10 (by kernel_rfl) (by kernel_rfl) ?_
        intro W hWd
        rw [← hWd] at hB HWD c0 c1 d0 d1
        simp only [List.take_succ_cons, List.take_zero, List.drop_succ_cons, List.drop_zero]
        clear hWd
        have hj0 : (0 : Int) ≤ (j : Int) := by omega
        have hj1 : (j : Int) < (l.length : Int) := by omega
        have hj2 : (0 : Int) ≤ (j : Int) + 1 := by omega
        have hjw : IntKind.i64.wrap (j : Int) = (j : Int) := wrapI _ (by omega) (by omega)
        repeat still_step
        refine wpStill_nil ?_
        go_wp2_with (go_at_call 93; refine (HX.out _).mono ?_; rintro e w2 ⟨rfl, hb2⟩)
        go_ret
        exact ⟨Pl.ret_bool HE.out.symm, blw_trans HWD.out hb2⟩
    · have HE : Hid (R = true) := by
        show R = true
        rw [HR.out]
        have : j = l.length - 1 := by omega
        rw [this] at HQ; exact HQ.out
      go_wp2
      go_ret
      exact ⟨Pl.ret_bool HE.out.symm, hW⟩


theorem numCmp_lt (a b : Int) : numCmp a b < 0 ↔ a < b := by
  unfold numCmp; split
  · simp_all
  · split <;> simp_all
theorem ascEn_eq (X : Ac) : allTo (endAt X) X.ends.length = ascEn X.ends := by
  rw [Bool.eq_iff_iff, ascEn, allTo_iff, allTo_iff]
  constructor
  · intro h i hi
    have := h (i + 1) (by omega)
    simp only [endAt, Nat.add_sub_cancel, Bool.or_eq_true, decide_eq_true_eq] at this
    exact decide_eq_true ((numCmp_lt _ _).2 (this.resolve_left (by omega)))
  · intro h i hi
    cases i with
    | zero => simp [endAt]
    | succ i =>
      have := (numCmp_lt _ _).1 (of_decide_eq_true (h i (by omega)))
      simp only [endAt, Nat.add_sub_cancel, Bool.or_eq_true, decide_eq_true_eq]
      exact Or.inr this

set_option maxRecDepth 8000 in
set_option maxHeartbeats 40000000 in
theorem actOkI (X : Ac) (a : Option Addr) (c : Nat) (w : World) (h : EnsV w a X.ends) :
    Calls Tryz.prog 63 #[.agg #[.string X.svc, .int .i64 X.seen, .int .i64 X.create, .int .i64 X.want, .int .i64 X.cool, .bool X.scale, .slice a X.ends.length c, .bool X.drop]] w fun e w' => e = .returned (.bool (acOk X)) ∧ Below w.heap.size w w' := by
  have HH := hid h
  have hl := h.len
  unfold maxLen at hl
  clear h
  obtain ⟨R, hR⟩ : ∃ R, R = acOk X := ⟨_, rfl⟩
  have HR := hid hR
  rw [← hR]
  clear hR
  obtain ⟨wa, hwa⟩ : ∃ wa, wa = w.alloc (.cells #[.string X.svc, .int .i64 X.seen, .int .i64 X.create, .int .i64 X.want, .int .i64 X.cool, .bool X.scale, .slice a X.ends.length c, .bool X.drop] 42) := ⟨_, rfl⟩
  have HB : Hid (Below w.heap.size w wa) := by show Below _ _ _; rw [hwa]; exact blw_alloc (Below.refl _ _) _
  have HX : Hid (BoxA wa w.heap.size (.string X.svc) (.int .i64 X.seen) (.int .i64 X.create) (.int .i64 X.want) (.int .i64 X.cool) (.bool X.scale) (.slice a X.ends.length c) (.bool X.drop)) := by show BoxA _ _ _ _ _ _ _ _ _ _ ; rw [hwa]; exact BoxA.new' w _ _ _ _ _ _ _ _ _ _ rfl
  go_enter Tryz.func63, Tryz.ntmps63
  go_upto_region 1 with fail
  rw [← hwa]
  clear hwa
  obtain ⟨yz, y0, y1, y2, y3, y4, y5, y6, y7⟩ := HX.out
  cases c1 : inB X.create 0 20
  · have HE : Hid (R = false) := by show R = _; rw [HR.out, acOk, c1]; rfl
    clear HR
    go_wp2_with (first | (go_at_call 80; refine (withinI _ _ _ _).mono ?_; rintro e w' ⟨rfl, rfl⟩))
    go_ret
    exact ⟨Pl.ret_bool HE.out.symm, HB.out⟩
  rcases (Decidable.em (X.ends.length ≤ 200)).symm with g0 | g0
  · have HE : Hid (R = false) := by show R = _; rw [HR.out, acOk]; simp [g0]
    have g1 : (200 : Int) < (X.ends.length : Int) := by omega
    clear HR
    go_wp2_with (first | (go_at_call 80; refine (withinI _ _ _ _).mono ?_; rintro e w' ⟨rfl, rfl⟩))
    go_ret
    exact ⟨Pl.ret_bool HE.out.symm, HB.out⟩
  have HS : Hid (R = (ascEn X.ends && (acScale X && acDrop X))) := by show R = _; rw [HR.out, acOk, c1, ascEn_eq]; simp [g0]
  have g1 : ¬ (200 : Int) < (X.ends.length : Int) := by omega
  clear HR
  go_wp2_with (first | (go_at_call 80; refine (withinI _ _ _ _).mono ?_; rintro e w' ⟨rfl, rfl⟩))
  refine (ascEnI a c X.ends wa (HH.out.later HB.out)).mono ?_
  rintro e w1 ⟨rfl, hb1⟩
  have HB1 := hid (blw_trans HB.out hb1)
  have HX1 := hid (HX.out.later hb1)
  clear yz y0 y1 y2 y3 y4 y5 y6 y7 hb1 c1
  obtain ⟨yz, y0, y1, y2, y3, y4, y5, y6, y7⟩ := HX1.out
  cases c2 : ascEn X.ends
  · have HE : Hid (R = false) := by show R = _; rw [HS.out, c2]; rfl
    clear HS c2
    go_wp2
    go_ret
    exact ⟨Pl.ret_bool HE.out.symm, HB1.out⟩
  have HS2 : Hid (R = (acScale X && acDrop X)) := by show R = _; rw [HS.out, c2]; rfl
  clear HS c2
  cases hd : X.drop
  · have HS3 : Hid (R = acScale X) := by show R = _; rw [HS2.out]; simp [acDrop, hd]
    rw [hd] at y7
    clear HS2
    cases hs : X.scale
    · rw [hs] at y5
      have HE : Hid (R = (X.want == 0 && X.cool == 0)) := by show R = _; rw [HS3.out, acScale, hs]; rfl
      clear HS3
      by_cases e1 : X.want = 0
      · by_cases e2 : X.cool = 0
        · have HF : Hid (R = true) := by show R = _; rw [HE.out]; simp [e1, e2]
          clear HE
          go_wp2
          go_ret
          exact ⟨Pl.ret_bool HF.out.symm, HB1.out⟩
        · have HF : Hid (R = false) := by show R = _; rw [HE.out]; simp [e2]
          have k1 : (X.cool == 0) = false := by simp [e2]
          clear HE
          go_wp2
          go_ret
          exact ⟨Pl.ret_bool (by rw [HF.out]; try first | exact k1 | simp [e2]), HB1.out⟩
      · have HF : Hid (R = false) := by show R = _; rw [HE.out]; simp [e1]
        have k1 : (X.want == 0) = false := by simp [e1]
        clear HE
        go_wp2
        go_ret
        exact ⟨Pl.ret_bool (by rw [HF.out]; try first | rfl | simp [e1]), HB1.out⟩
    · rw [hs] at y5
      have HE : Hid (R = (inB X.want 0 10 && inB X.cool 0 3)) := by show R = _; rw [HS3.out, acScale, hs]; rfl
      clear HS3
      cases k1 : inB X.want 0 10
      · have HF : Hid (R = false) := by show R = _; rw [HE.out, k1]; rfl
        clear HE
        go_wp2_with (first | (go_at_call 80; refine (withinI _ _ _ _).mono ?_; rintro e w' ⟨rfl, rfl⟩))
        go_ret
        exact ⟨Pl.ret_bool HF.out.symm, HB1.out⟩
      · have HF : Hid (R = inB X.cool 0 3) := by show R = _; rw [HE.out, k1]; rfl
        clear HE
        go_wp2_with (first | (go_at_call 80; refine (withinI _ _ _ _).mono ?_; rintro e w' ⟨rfl, rfl⟩))
        go_ret
        exact ⟨Pl.ret_bool HF.out.symm, HB1.out⟩
  · rw [hd] at y7
    by_cases e1 : X.create = 0
    · cases hs : X.scale
      · rw [hs] at y5
        by_cases e2 : X.ends.length = 0
        · have HE : Hid (R = (X.want == 0 && X.cool == 0)) := by show R = _; rw [HS2.out]; simp [acScale, acDrop, hd, hs, e1, e2]
          clear HS2
          by_cases e3 : X.want = 0
          · by_cases e4 : X.cool = 0
            · have HF : Hid (R = true) := by show R = _; rw [HE.out]; simp [e3, e4]
              clear HE
              go_wp2
              go_ret
              exact ⟨Pl.ret_bool HF.out.symm, HB1.out⟩
            · have HF : Hid (R = false) := by show R = _; rw [HE.out]; simp [e4]
              have k1 : (X.cool == 0) = false := by simp [e4]
              clear HE
              go_wp2
              go_ret
              exact ⟨Pl.ret_bool (by rw [HF.out]; try first | exact k1 | simp [e4]), HB1.out⟩
          · have HF : Hid (R = false) := by show R = _; rw [HE.out]; simp [e3]
            have k1 : (X.want == 0) = false := by simp [e3]
            clear HE
            go_wp2
            go_ret
            exact ⟨Pl.ret_bool (by rw [HF.out]; try first | rfl | simp [e3]), HB1.out⟩
        · have HF : Hid (R = false) := by show R = _; rw [HS2.out]; simp [acDrop, hd, e2]
          have k2 : (0 : Int) < (X.ends.length : Int) := by omega
          clear HS2
          go_wp2
          go_ret
          exact ⟨Pl.ret_bool HF.out.symm, HB1.out⟩
      · rw [hs] at y5
        have HF : Hid (R = false) := by show R = _; rw [HS2.out]; simp [acDrop, hd, hs]
        clear HS2
        go_wp2
        go_ret
        exact ⟨Pl.ret_bool HF.out.symm, HB1.out⟩
    · have HF : Hid (R = false) := by show R = _; rw [HS2.out]; simp [acDrop, hd, e1]
      have k1 : (X.create == 0) = false := by simp [e1]
      have k2 : (X.create != 0) = true := by simp [e1]
      clear HS2
      go_wp2
      go_ret
      exact ⟨Pl.ret_bool HF.out.symm, HB1.out⟩

end Go.Proofs.YtpamkibnahhphaaGreatDoor

namespace Go.Proofs.YtpamkibnahhphaaGreatDoor
open Go.RowKit Go.Deep

set_option maxHeartbeats 4000000 in
theorem highI (s : Sv) (w : World) :
    Calls Tryz.prog 103 #[.agg #[.string s.nm, .int .i64 s.ver, .bool s.gone, .int .i64 s.image, .int .i64 s.want, .int .i64 s.down, .int .i64 s.over, .int .i64 s.next, .int .i64 s.per, .int .i64 s.least, .int .i64 s.most, .int .i64 s.load, .int .i64 s.cool]] w fun e w' => e = .returned (.bool (decide (1000000 < s.next))) ∧ Below w.heap.size w w' := by
  obtain ⟨wa, hwa⟩ : ∃ wa, wa = w.alloc (.cells #[.string s.nm, .int .i64 s.ver, .bool s.gone, .int .i64 s.image, .int .i64 s.want, .int .i64 s.down, .int .i64 s.over, .int .i64 s.next, .int .i64 s.per, .int .i64 s.least, .int .i64 s.most, .int .i64 s.load, .int .i64 s.cool] 86) := ⟨_, rfl⟩
  have HB : Hid (Below w.heap.size w wa) := by show Below _ _ _; rw [hwa]; exact blw_alloc (Below.refl _ _) _
  have HX : Hid (Box13 wa w.heap.size (.string s.nm) (.int .i64 s.ver) (.bool s.gone) (.int .i64 s.image) (.int .i64 s.want) (.int .i64 s.down) (.int .i64 s.over) (.int .i64 s.next) (.int .i64 s.per) (.int .i64 s.least) (.int .i64 s.most) (.int .i64 s.load) (.int .i64 s.cool)) := by show Box13 _ _ _ _ _ _ _ _ _ _ _ _ _ _ _; rw [hwa]; exact Box13.new' _ _ _ _ _ _ _ _ _ _ _ _ _ _ _ _ rfl
  have z := HX.out.lt
  have x7 := HX.out.x7
  go_enter Tryz.func103, Tryz.ntmps103
  go_upto_region 1 with fail
  rw [← hwa]
  clear hwa
  go_wp2
  go_ret
  exact ⟨rfl, HB.out⟩

/-- The first service whose Next is too high, or -1. -/
def highIx (l : List Sv) : Int := firstTo (fun i => decide (1000000 < (l.getD i Sv.none).next)) l.length

set_option maxRecDepth 8000 in
set_option maxHeartbeats 8000000 in
theorem idxSvI (a : Option Addr) (c : Nat) (l : List Sv) (w : World) (h : SvsV w a l) :
    Calls Tryz.prog 116 #[.slice a l.length c, .func (.func 103) #[] #[]] w fun e w' => e = .returned (.int .i64 (highIx l)) ∧ Below w.heap.size w w' := by
  have hl := h.len
  unfold maxLen at hl
  have HH := hid h
  clear h
  obtain ⟨R, hR⟩ : ∃ R, R = highIx l := ⟨_, rfl⟩
  have HR := hid hR
  rw [← hR]
  clear hR
  go_enter Tryz.func116, Tryz.ntmps116
  go_wp2
  go_loopw [8] (fun i wr => ∃ q : Nat, q ≤ l.length ∧ i = .int .i64 q ∧ (∀ j, j < q → (fun i => decide (1000000 < (l.getD i Sv.none).next)) j = false) ∧ Below w.heap.size w wr) (fun i _ => l.length - (intOf i).toNat)
  case atStart => exact ⟨0, Nat.zero_le _, rfl, fun j hj => absurd hj (Nat.not_lt_zero j), Below.refl _ _⟩
  case round =>
    obtain ⟨q, hq, rfl, hall, hW⟩ := hrel
    have HQ := hid hall
    have HW := hid hW
    clear hall hW
    by_cases hlt : q < l.length
    · obtain ⟨s, hs⟩ : ∃ s, s = l.getD q Sv.none := ⟨_, rfl⟩
      have HSS := hid hs
      obtain ⟨b, off, ha, hbl, hf⟩ := (HH.out.later HW.out).at_ q hlt
      rw [← hs] at hf
      clear hs
      subst ha
      obtain ⟨s0, s1, s2, s3, s4, s5, s6, s7, s8, s9, s10, s11, s12, _⟩ := hf
      have hk0 : (0 : Int) ≤ (q : Int) := by omega
      have hk3 : (q : Int) < (l.length : Int) := by omega
      go_wp2_with fail
      refine (highI s _).mono ?_
      rintro e w2 ⟨rfl, hb⟩
      have HW2 := hid (blw_trans HW.out hb)
      clear s0 s1 s2 s3 s4 s5 s6 s7 s8 s9 s10 s11 s12 hb hbl
      by_cases hn : 1000000 < s.next
      · have HE : Hid (R = (q : Int)) := by show R = _; rw [HR.out]; exact firstTo_hit hlt (by rw [← HSS.out]; exact decide_eq_true hn) HQ.out
        rw [decide_eq_true hn]
        go_wp2
        go_ret
        exact ⟨by rw [HE.out]; rfl, HW2.out⟩
      · have HN : Hid (∀ j, j < q + 1 → (fun i => decide (1000000 < (l.getD i Sv.none).next)) j = false) := fun j hj => by
          by_cases e : j = q
          · subst e; show decide _ = false; rw [← HSS.out]; exact decide_eq_false hn
          · exact HQ.out j (by omega)
        rw [decide_eq_false hn]
        clear hn
        go_wp2
        go_roundw
        case rel => exact ⟨q + 1, by omega, by go_num, HN.out, HW2.out⟩
        case measure => simp [intOf]; omega
    · obtain rfl : q = l.length := by omega
      have HE : Hid (R = -1) := by show R = _; rw [HR.out]; exact firstTo_none HQ.out
      go_wp2
      go_ret
      exact ⟨by rw [HE.out]; rfl, HW.out⟩

set_option maxHeartbeats 4000000 in
theorem containsI (a : Option Addr) (c : Nat) (l : List Sv) (w : World) (h : SvsV w a l) :
    Calls Tryz.prog 102 #[.slice a l.length c, .func (.func 103) #[] #[]] w fun e w' => e = .returned (.bool (decide (0 ≤ highIx l))) ∧ Below w.heap.size w w' := by
  have HH := hid (idxSvI a c l w h)
  clear h
  obtain ⟨x, hx⟩ : ∃ x, x = highIx l := ⟨_, rfl⟩
  rw [← hx] at HH ⊢
  clear hx
  go_enter Tryz.func102, Tryz.ntmps102
  go_wp2_with fail
  refine HH.out.mono ?_
  rintro e w2 ⟨rfl, hb⟩
  go_wp2
  go_ret
  exact ⟨rfl, hb⟩

/-- Whether there would be too much. -/
def roomOff (now : Int) (sv : List Sv) (cp : List Cp) : Bool := decide (0 ≤ highIx sv) || decide (200 < cp.length) || decide (1000000 < now)

set_option maxRecDepth 8000 in
set_option maxHeartbeats 8000000 in
theorem needRoomI {lo p : Nat} {W : World} {X : Ac} {ae : Value} {now : Int} {sv : List Sv} {cp : List Cp} {bt : List Bt} {k : Nat} {es : List Nat} {p0 p1 p2 pe : Option Addr} {n0 n1 n2 ne q0 q1 q2 qe : Nat} (h : Wk lo p W X ae now sv cp bt k es p0 p1 p2 pe n0 n1 n2 ne q0 q1 q2 qe) :
    Calls Tryz.prog 69 #[.pointer (some ⟨p, 0, none⟩)] W fun e W' => (if roomOff now sv cp then e = stopE 7 else e = .returned (.tuple #[])) ∧ Below W.heap.size W W' := by
  have HW := hid h
  have hz := h.lt
  have hm1 := h.m1
  have c9 : W.cell? ⟨p, 9, none⟩ = some (.slice p0 n0 q0) := h.cell 9
  have HCO : Hid (Calls Tryz.prog 102 #[.slice p0 n0 q0, .func (.func 103) #[] #[]] W fun e w' => e = .returned (.bool (decide (0 ≤ highIx sv))) ∧ Below W.heap.size W w') := by
    have hv := h.v
    have := containsI p0 q0 sv W hv.s
    rwa [h.l0] at this
  have HL1 := hid h.l1
  clear h
  obtain ⟨R, hR⟩ : ∃ R, R = roomOff now sv cp := ⟨_, rfl⟩
  obtain ⟨hx, hhx⟩ : ∃ hx, hx = decide (0 ≤ highIx sv) := ⟨_, rfl⟩
  have HR : Hid (R = (hx || decide (200 < cp.length) || decide (1000000 < now))) := by show R = _; rw [hR, hhx]; rfl
  rw [← hR]
  rw [← hhx] at HCO
  clear hR hhx
  go_enter Tryz.func69, Tryz.ntmps69
  go_wp2_with fail
  refine HCO.out.mono ?_
  rintro e w1 ⟨rfl, hb1⟩
  have HW1 := hid (HW.out.later hb1)
  have HB1 := hid hb1
  clear c9 hz hb1 HW HCO
  have hz := HW1.out.lt
  have c8 : w1.cell? ⟨p, 8, none⟩ = some (.int .i64 now) := HW1.out.cell 8
  have c10 : w1.cell? ⟨p, 10, none⟩ = some (.slice p1 n1 q1) := HW1.out.cell 10
  cases hx
  · by_cases h1 : 200 < n1
    · have HE : Hid (R = true) := by show R = _; rw [HR.out]; simp [HL1.out, h1]
      have h1' : (200 : Int) < (n1 : Int) := by omega
      go_wp2_with fail
      refine (stopYes _ _).mono ?_
      rintro e w2 ⟨rfl, rfl⟩
      go_wp2
      exact ⟨rfl, by first | rfl | (rw [if_pos HE.out]; rfl), HB1.out⟩
    · have h1' : decide ((200 : Int) < (n1 : Int)) = false := decide_eq_false (by omega)
      have h1n : decide (200 < n1) = false := decide_eq_false h1
      by_cases h2 : 1000000 < now
      · have HE : Hid (R = true) := by show R = _; rw [HR.out]; simp [h2]
        have h2' : decide (1000000 < now) = true := decide_eq_true h2
        clear h1
        go_wp2_with fail
        refine (stopYes _ _).mono ?_
        rintro e w2 ⟨rfl, rfl⟩
        go_wp2
        exact ⟨rfl, by first | rfl | (rw [if_pos HE.out]; rfl), HB1.out⟩
      · have HE : Hid (¬ R = true) := by show ¬ _; rw [HR.out]; simp [HL1.out, h1, h2]
        have h2' : decide (1000000 < now) = false := decide_eq_false h2
        clear h1 h2
        go_wp2_with fail
        refine (stopNo _ _).mono ?_
        rintro e w2 ⟨rfl, rfl⟩
        go_wp2
        first | go_end0 | refine bodyPost_ret (results_none rfl _ _ _) rfl ?_
        exact ⟨by first | rfl | (rw [if_neg HE.out]), HB1.out⟩
  · have HE : Hid (R = true) := by show R = _; rw [HR.out]; rfl
    go_wp2_with fail
    refine (stopYes _ _).mono ?_
    rintro e w2 ⟨rfl, rfl⟩
    go_wp2
    exact ⟨rfl, by first | rfl | (rw [if_pos HE.out]; rfl), HB1.out⟩

end Go.Proofs.YtpamkibnahhphaaGreatDoor

namespace Go.Proofs.YtpamkibnahhphaaGreatDoor
open Go.RowKit Go.Deep

set_option maxHeartbeats 4000000 in
theorem catchIdle (pn pe : Addr) (w : World) :
    CallsD Tryz.prog 62 #[.pointer (some pn), .pointer (some pe)] .returning w fun e u' w' => e = .returned (.tuple #[]) ∧ u' = .returning ∧ w' = w := by
  refine callsD_of_wpS Tryz.func62 rfl fun c₀ cs hu => ?_
  apply wpS_seq
  apply wpS_region
  simp [wpOpsS, go_sem, recoverD, hu, Tryz.ntmps62, Exit.thenS]
  refine wpS_of_wp ?_
  go_wp2
  · cases c₀
    simp_all [bodyPostS, results, Tryz.results62]
  all_goals (rename_i h; exact absurd trivial h)

set_option maxRecDepth 8000 in
set_option maxHeartbeats 8000000 in
theorem catchStop (pn pe : Nat) (c : Int) (v0 v1 v2 v3 v4 : Value) (w : World) (hn : w.heap[pn]? = some (.cells #[v0, v1, v2, v3] 36 (0, 0))) (he : w.heap[pe]? = some (.cells #[v4] 60 (0, 0))) :
    CallsD Tryz.prog 62 #[.pointer (some ⟨pn, 0, none⟩), .pointer (some ⟨pe, 0, none⟩)] (.panicking [{ v := stopV c, recovered := false }]) w fun e u' w' =>
      e = .returned (.tuple #[]) ∧ u' = .panicking [{ v := stopV c, recovered := true }] ∧ w'.heap[pn]? = some (.cells #[.int .i64 0, .slice none 0 0, .slice none 0 0, .slice none 0 0] 36 (0, 0)) ∧ w'.heap[pe]? = some (.cells #[refV c] 60 (0, 0)) ∧ ∀ L, L ≤ pn → L ≤ pe → Below L w w' := by
  refine callsD_of_wpS Tryz.func62 rfl fun c₀ cs hu => ?_
  apply wpS_seq
  apply wpS_region
  unfold stopV at hu ⊢
  simp [wpOpsS, go_sem, recoverD, hu, Tryz.ntmps62, Exit.thenS, Array.replicate, List.replicate]
  refine wpS_of_wp ?_
  have hta : ∀ w, (Instr.typeAssert (.iface 108 (.agg #[.iface 64 (.agg #[.int .i64 c])])) 20 108 true).run Tryz.prog w = .ok (.tuple #[.agg #[.iface 64 (.agg #[.int .i64 c])], .bool true]) w := fun w => by kernel_rfl
  obtain ⟨w1, hw1⟩ : ∃ w1, w1 = w.alloc (.cells #[.iface 64 (.agg #[.int .i64 c])] 108) := ⟨_, rfl⟩
  have hbw : Below w.heap.size w w1 := by rw [hw1]; exact blw_alloc (Below.refl _ _) _
  have hx : w1.heap[w.heap.size]? = some (.cells #[.iface 64 (.agg #[.int .i64 c])] 108 (0, 0)) := by rw [hw1]; exact heap_alloc_new _ _
  have hn1 := (hbw.block pn (lt_heap hn)).trans hn
  have he1 := (hbw.block pe (lt_heap he)).trans he
  have HN := hid hn1
  have HEE := hid he1
  have HBW := hid hbw
  have HPN : Hid (pn ≠ pe) := by
    intro e
    subst e
    rw [hn] at he
    injection he with he
    injection he with _ he _
    exact absurd he (by decide)
  have HLN := hid (lt_heap hn)
  have HLE := hid (lt_heap he)
  go_upto_region 5 with fail
  rw [← hw1]
  clear hw1
  have xz := lt_block hx
  have x0 := cellsOf_block hx 0
  have nz := lt_block hn1
  have n0 := cellsOf_block hn1 0
  have n1 := cellsOf_block hn1 1
  have n2 := cellsOf_block hn1 2
  have n3 := cellsOf_block hn1 3
  have nf0 := frozen_block hn1 0
  have nf1 := frozen_block hn1 1
  have nf2 := frozen_block hn1 2
  have nf3 := frozen_block hn1 3
  have ez := lt_block he1
  have e0 := cellsOf_block he1 0
  have ef0 := frozen_block he1 0
  simp only [List.getElem?_toArray, List.getElem?_cons_zero, List.getElem?_cons_succ] at x0 n0 n1 n2 n3 e0
  clear hx hn1 he1 hn he hbw
  have q1 : ¬ (w.heap.size = pn) := by have := HLN.out; omega
  have q2 : ¬ (pn = w.heap.size) := by have := HLN.out; omega
  have q3 : ¬ (w.heap.size = pe) := by have := HLE.out; omega
  have q4 : ¬ (pe = w.heap.size) := by have := HLE.out; omega
  have q5 : ¬ (pn = pe) := HPN.out
  have q6 : ¬ (pe = pn) := fun e => HPN.out e.symm
  go_region
  obtain ⟨w9, hw9⟩ : ∃ w9, w9 = (((((w1.setCell ⟨pn, 0, none⟩ (.int .i64 0)).setCell ⟨pn, 1, none⟩ (.slice none 0 0)).setCell ⟨pn, 2, none⟩ (.slice none 0 0)).setCell ⟨pn, 3, none⟩ (.slice none 0 0)).setCell ⟨pe, 0, none⟩ (.iface 64 (.agg #[.int .i64 c]))).drew := ⟨_, rfl⟩
  rw [← hw9]
  have h1 : w9.heap[pn]? = some (.cells #[.int .i64 0, .slice none 0 0, .slice none 0 0, .slice none 0 0] 36 (0, 0)) := by
    rw [hw9]
    show (World.setCell _ _ _).heap[pn]? = _
    rw [set_other q5]
    exact set_block (set_block (set_block (set_block HN.out 0 _) 1 _) 2 _) 3 _
  have h2 : w9.heap[pe]? = some (.cells #[refV c] 60 (0, 0)) := by
    rw [hw9]
    show (World.setCell _ _ _).heap[pe]? = _
    refine set_block (cs := #[v4]) ?_ 0 _
    rw [set_other q6, set_other q6, set_other q6, set_other q6]
    exact HEE.out
  have h3 : ∀ L, L ≤ pn → L ≤ pe → Below L w w9 := fun L h1 h2 => by
    rw [hw9]
    exact Below.drew (blw_sc (blw_sc (blw_sc (blw_sc (blw_sc (blw_less HBW.out (by have := HLN.out; omega)) h1 _ _) h1 _ _) h1 _ _) h1 _ _) h2 _ _)
  clear hw9
  show bodyPostS _ _ _ _ _ _ _ _ _
  simp [bodyPostS, results, Tryz.results62]
  exact ⟨h1, h2, h3⟩

end Go.Proofs.YtpamkibnahhphaaGreatDoor

namespace Go.Proofs.YtpamkibnahhphaaGreatDoor
open Go.RowKit Go.Deep

/-- What the program makes of a book, step by step. -/
def pK (K : SBk) (X : Ac) : Nat := (svIx K.svcs X.svc).toNat
def pS1 (K : SBk) (X : Ac) : Sv := upVer (K.svcs.getD (pK K X) Sv.none) (K.now + 1)
def pSv1 (K : SBk) (X : Ac) : List Sv := K.svcs.set (pK K X) (pS1 K X)
def pEs (K : SBk) (X : Ac) : List Nat := esTo K X X.ends.length
def pMay (K : SBk) (X : Ac) : Bool := allTo (mayTo (K.now + 1) (pSv1 K X) K.cps K.bts (pK K X) (pEs K X)) (pEs K X).length
def pCp2 (K : SBk) (X : Ac) : List Cp := endsTo K.cps (K.now + 1) (pEs K X) (pEs K X).length
def pS2 (K : SBk) (X : Ac) : Sv := if X.scale then scaled X (pS1 K X) else pS1 K X
def pSv2 (K : SBk) (X : Ac) : List Sv := K.svcs.set (pK K X) (pS2 K X)
def pAt (K : SBk) (X : Ac) : Nat := placeAt (pCp2 K X) (pS2 K X).nm (pS2 K X).next
def pS3 (K : SBk) (X : Ac) : Sv := upNext (pS2 K X) X.create.toNat
def pSv3 (K : SBk) (X : Ac) : List Sv := K.svcs.set (pK K X) (pS3 K X)
def pCp3 (K : SBk) (X : Ac) : List Cp := (pCp2 K X).take (pAt K X) ++ mkCps (pS2 K X) (K.now + 1) X.create.toNat ++ (pCp2 K X).drop (pAt K X)
def pSv4 (K : SBk) (X : Ac) : List Sv := if X.drop then (pSv3 K X).take (pK K X) ++ (pSv3 K X).drop (pK K X + 1) else pSv3 K X
def pBook (K : SBk) (X : Ac) : SBk := ⟨K.now + 1, pSv4 K X, pCp3 K X, K.bts⟩
def pRoom (K : SBk) (X : Ac) : Int := if roomOff (K.now + 1) (pSv4 K X) (pCp3 K X) then 7 else 0
def pDrop (K : SBk) (X : Ac) : Int := if X.drop && dropOff (pCp3 K X) (pS3 K X) then 6 else pRoom K X
def pMake (K : SBk) (X : Ac) : Int := if (X.create != 0) && createOff (pCp2 K X) (pS2 K X) X.create.toNat then 6 else pDrop K X
def pScale (K : SBk) (X : Ac) : Int := if X.scale && scaleOff X (pS1 K X) then 6 else pMake K X
def pEnd (K : SBk) (X : Ac) : Int := if pMay K X then pScale K X else 5
def pCode (K : SBk) (X : Ac) : Int := if acOk X = false then 2 else if woCode K X = 0 then pEnd K X else woCode K X
def ActR (K : SBk) (X : Ac) (w : World) (e : Ending) (w' : World) : Prop :=
  ((pCode K X ≠ 0 ∧ e = .returned (.tuple #[.agg #[.int .i64 0, .slice none 0 0, .slice none 0 0, .slice none 0 0], refV (pCode K X)])) ∨ (pCode K X = 0 ∧ ∃ s0 s1 s2, e = .returned (.tuple #[.agg #[.int .i64 (K.now + 1), s0, s1, s2], .nilIface]) ∧ BkOwn w' w.heap.size (pBook K X) s0 s1 s2)) ∧ Below w.heap.size w w'

/-- What stands of the caller's own while an act is done. -/
structure Ct (w : World) (L pn pe : Nat) (W : World) : Prop where
  bel : Below w.heap.size w W
  nx : W.heap[pn]? = some (.cells #[.int .i64 0, .slice none 0 0, .slice none 0 0, .slice none 0 0] 36 (0, 0))
  er : W.heap[pe]? = some (.cells #[.nilIface] 60 (0, 0))
  ln : w.heap.size ≤ pn
  le : w.heap.size ≤ pe
  un : pn < L
  ue : pe < L
  lw : w.heap.size ≤ L
theorem Ct.on {w : World} {L pn pe : Nat} {W W' : World} (h : Ct w L pn pe W) (hb : Below L W W') : Ct w L pn pe W' :=
  ⟨blw_two h.bel (blw_less hb h.lw), (hb.block pn h.un).trans h.nx, (hb.block pe h.ue).trans h.er, h.ln, h.le, h.un, h.ue, h.lw⟩

set_option maxRecDepth 8000 in
set_option maxHeartbeats 4000000 in
theorem doorStop {K : SBk} {X : Ac} {w W : World} {L pn pe : Nat} (tmps : Array Value) (c : Int) (h4 : tmps[4]?.getD undef = .pointer (some ⟨pn, 0, none⟩)) (h5 : tmps[5]?.getD undef = .pointer (some ⟨pe, 0, none⟩)) (hC : Ct w L pn pe W) (hc : pCode K X = c) (hc0 : c ≠ 0) :
    Leaves Tryz.prog Tryz.f27 tmps (ActR K X w) [{ target := .fn (.func 62) #[.pointer (some ⟨pn, 0, none⟩), .pointer (some ⟨pe, 0, none⟩)], args := #[] }] (.panicking [{ v := stopV c, recovered := false }]) W := by
  refine leaves_cons (f := 62) (args := #[.pointer (some ⟨pn, 0, none⟩), .pointer (some ⟨pe, 0, none⟩)]) (by simp) (by simp [go_sem]) ?_
  refine (catchStop pn pe c _ _ _ _ _ W hC.nx hC.er).mono ?_
  rintro e u' w' ⟨rfl, rfl, h1, h2, h3⟩
  have n0 := cellsOf_block h1 0
  have n1 := cellsOf_block h1 1
  have n2 := cellsOf_block h1 2
  have n3 := cellsOf_block h1 3
  have e0 := cellsOf_block h2 0
  simp only [List.getElem?_toArray, List.getElem?_cons_zero, List.getElem?_cons_succ] at n0 n1 n2 n3 e0
  show Leaves _ _ _ _ [] .returning w'
  refine ⟨.tuple #[.agg #[.int .i64 0, .slice none 0 0, .slice none 0 0, .slice none 0 0], refV c], ?_, Or.inl ⟨by rw [hc]; exact hc0, by rw [hc]⟩, blw_two hC.bel (h3 _ hC.ln hC.le)⟩
  simp [results, Tryz.results27, go_sem, h4, h5, n0, n1, n2, n3, e0]

set_option maxRecDepth 8000 in
set_option maxHeartbeats 4000000 in
theorem doorRet {K : SBk} {X : Ac} {w W : World} {pn pe : Nat} (tmps : Array Value) (v0 v1 v2 v3 v4 : Value) (h4 : tmps[4]?.getD undef = .pointer (some ⟨pn, 0, none⟩)) (h5 : tmps[5]?.getD undef = .pointer (some ⟨pe, 0, none⟩)) (hn : W.heap[pn]? = some (.cells #[v0, v1, v2, v3] 36 (0, 0))) (he : W.heap[pe]? = some (.cells #[v4] 60 (0, 0)))
    (hR : ActR K X w (.returned (.tuple #[.agg #[v0, v1, v2, v3], v4])) W) :
    Leaves Tryz.prog Tryz.f27 tmps (ActR K X w) [{ target := .fn (.func 62) #[.pointer (some ⟨pn, 0, none⟩), .pointer (some ⟨pe, 0, none⟩)], args := #[] }] .returning W := by
  refine leaves_cons (f := 62) (args := #[.pointer (some ⟨pn, 0, none⟩), .pointer (some ⟨pe, 0, none⟩)]) (by simp) (by simp [go_sem]) ?_
  refine (catchIdle ⟨pn, 0, none⟩ ⟨pe, 0, none⟩ W).mono ?_
  rintro e u' w' ⟨rfl, rfl, rfl⟩
  have n0 := cellsOf_block hn 0
  have n1 := cellsOf_block hn 1
  have n2 := cellsOf_block hn 2
  have n3 := cellsOf_block hn 3
  have e0 := cellsOf_block he 0
  simp only [List.getElem?_toArray, List.getElem?_cons_zero, List.getElem?_cons_succ] at n0 n1 n2 n3 e0
  show Leaves _ _ _ _ [] .returning w'
  refine ⟨_, ?_, hR⟩
  simp [results, Tryz.results27, go_sem, h4, h5, n0, n1, n2, n3, e0]

noncomputable def ac0 : Code := (Tryz.f27.body).getD .skip
noncomputable def ac1 : Code := ssnd ac0
noncomputable def ac2 : Code := ssnd ac1
noncomputable def ac3 : Code := ssnd ac2
noncomputable def ac4 : Code := ssnd ac3
noncomputable def ac5 : Code := ssnd ac4
noncomputable def ac6 : Code := ssnd ac5
noncomputable def ac7 : Code := ssnd ac6
noncomputable def ac8 : Code := ssnd ac7
noncomputable def ac9 : Code := ssnd ac8
noncomputable def ac10 : Code := ssnd ac9
theorem ac9_r : ac9 = .seq (sfst ac9) (.seq (sfst ac10) .ret) := by kernel_rfl
theorem ac8_9 : ac8 = .seq (sfst ac8) ac9 := by kernel_rfl
theorem ac7_8 : ac7 = .seq (sfst ac7) ac8 := by kernel_rfl
theorem ac6_7 : ac6 = .seq (sfst ac6) ac7 := by kernel_rfl
theorem ac5_6 : ac5 = .seq (sfst ac5) ac6 := by kernel_rfl
theorem ac0_5 : ac0 = .seq (sfst ac0) (.seq (sfst ac1) (.seq (sfst ac2) (.seq (sfst ac3) (.seq (sfst ac4) ac5)))) := by kernel_rfl

set_option maxRecDepth 8000 in
set_option maxHeartbeats 40000000 in
theorem segRoom (K : SBk) (X : Ac) (w : World) (L pn pe p : Nat) (W : World) (HC : Hid (Ct w L pn pe W)) (vae : Value) (p0 p1 p2 pf : Option Addr) (n0 n1 n2 ne q0 q1 q2 qe : Nat) (HW : Hid (Wk L p W X vae (K.now + 1) (pSv4 K X) (pCp3 K X) K.bts (pK K X) (pEs K X) p0 p1 p2 pf n0 n1 n2 ne q0 q1 q2 qe)) (HP : Hid (pCode K X = pRoom K X)) (u0 u1 u2 u3 u7 u8 u9 u10 u11 u12 u13 u14 u15 u16 u17 u18 u19 u20 u21 u22 u23 u24 u25 u26 u27 u28 u29 u30 u31 u32 u33 u34 u35 u36 u37 : Value) :
    Code.wp Tryz.prog ac9 (bodyPostD Tryz.prog Tryz.f27 (ActR K X w)) { tmps := #[u0, u1, u2, u3, .pointer (some ⟨pn, 0, none⟩), .pointer (some ⟨pe, 0, none⟩), .pointer (some ⟨p, 0, none⟩), u7, u8, u9, u10, u11, u12, u13, u14, u15, u16, u17, u18, u19, u20, u21, u22, u23, u24, u25, u26, u27, u28, u29, u30, u31, u32, u33, u34, u35, u36, u37], defers := [{ target := .fn (.func 62) #[.pointer (some ⟨pn, 0, none⟩), .pointer (some ⟨pe, 0, none⟩)], args := #[] }] } W := by
  rw [ac9_r]
  simp only [ac10, ac9, ac8, ac7, ac6, ac5, ac4, ac3, ac2, ac1, ac0, Tryz.f27, Option.getD_some, sfst_seq, ssnd_seq]
  go_wp2_with fail
  refine (needRoomI HW.out).mono ?_
  rintro e w1 ⟨he, hb⟩
  have HW1 := hid (HW.out.later hb)
  have HC1 := hid (HC.out.on (blw_less hb HW.out.lo))
  clear hb HW HC
  unfold pRoom at HP
  cases hr : roomOff (K.now + 1) (pSv4 K X) (pCp3 K X)
  · rw [hr] at he HP
    simp only [Bool.false_eq_true, if_false] at he HP
    subst he
    clear hr
    have hz := HW1.out.lt
    have d8 : w1.cell? ⟨p, 8, none⟩ = some (.int .i64 (K.now + 1)) := HW1.out.cell 8
    have d9 : w1.cell? ⟨p, 9, none⟩ = some (.slice p0 n0 q0) := HW1.out.cell 9
    have d10 : w1.cell? ⟨p, 10, none⟩ = some (.slice p1 n1 q1) := HW1.out.cell 10
    have d11 : w1.cell? ⟨p, 11, none⟩ = some (.slice p2 n2 q2) := HW1.out.cell 11
    have hnx := HC1.out.nx
    have her := HC1.out.er
    have nz := lt_block hnx
    have m0 := cellsOf_block hnx 0
    have m1 := cellsOf_block hnx 1
    have m2 := cellsOf_block hnx 2
    have m3 := cellsOf_block hnx 3
    have f0 := frozen_block hnx 0
    have f1 := frozen_block hnx 1
    have f2 := frozen_block hnx 2
    have f3 := frozen_block hnx 3
    have ez := lt_block her
    have e0 := cellsOf_block her 0
    have ef := frozen_block her 0
    simp only [List.getElem?_toArray, List.getElem?_cons_zero, List.getElem?_cons_succ] at m0 m1 m2 m3 e0
    have hne : pn ≠ pe := by
      intro e
      subst e
      rw [hnx] at her
      injection her with her
      injection her with _ her _
      exact absurd her (by decide)
    have q1' : ¬ (pn = pe) := hne
    have q2' : ¬ (pe = pn) := fun e => hne e.symm
    obtain ⟨w2, hw2⟩ : ∃ w2, w2 = ((((w1.setCell ⟨pn, 0, none⟩ (.int .i64 (K.now + 1))).setCell ⟨pn, 1, none⟩ (.slice p0 n0 q0)).setCell ⟨pn, 2, none⟩ (.slice p1 n1 q1)).setCell ⟨pn, 3, none⟩ (.slice p2 n2 q2)).setCell ⟨pe, 0, none⟩ .nilIface := ⟨_, rfl⟩
    have HN2 : Hid (w2.heap[pn]? = some (.cells #[.int .i64 (K.now + 1), .slice p0 n0 q0, .slice p1 n1 q1, .slice p2 n2 q2] 36 (0, 0))) := by
      show _ = _
      rw [hw2, set_other hne]
      exact set_block (set_block (set_block (set_block hnx 0 _) 1 _) 2 _) 3 _
    have HE2 : Hid (w2.heap[pe]? = some (.cells #[.nilIface] 60 (0, 0))) := by
      show _ = _
      rw [hw2]
      refine set_block (cs := #[.nilIface]) ?_ 0 _
      rw [set_other q2', set_other q2', set_other q2', set_other q2']
      exact her
    have HB2 : Hid (Below w.heap.size w w2) := by
      show Below _ _ _
      rw [hw2]
      exact blw_sc (blw_sc (blw_sc (blw_sc (blw_sc HC1.out.bel HC1.out.ln _ _) HC1.out.ln _ _) HC1.out.ln _ _) HC1.out.ln _ _) HC1.out.le _ _
    have HK2 : Hid (BkOwn w2 w.heap.size (pBook K X) (.slice p0 n0 q0) (.slice p1 n1 q1) (.slice p2 n2 q2)) := by
      have hw : ∀ e size v n xs, w1.ownsRow L e size v n xs → w2.ownsRow w.heap.size e size v n xs := fun e size v n xs ho => by
        rw [hw2]
        exact owns_lo (owns_sc (owns_sc (owns_sc (owns_sc (owns_sc ho HC1.out.un _ _) HC1.out.un _ _) HC1.out.un _ _) HC1.out.un _ _) HC1.out.ue _ _) HC1.out.lw
      have l0 := HW1.out.l0
      have l1 := HW1.out.l1
      have l2 := HW1.out.l2
      refine ⟨?_, ?_, ?_, HW1.out.z0, HW1.out.z1, HW1.out.z2, ⟨?_, ?_, ?_⟩⟩
      · show World.ownsRow _ _ _ _ _ (pSv4 K X).length _; rw [l0]; exact hw _ _ _ _ _ HW1.out.o0
      · show World.ownsRow _ _ _ _ _ (pCp3 K X).length _; rw [l1]; exact hw _ _ _ _ _ HW1.out.o1
      · show World.ownsRow _ _ _ _ _ K.bts.length _; rw [l2]; exact hw _ _ _ _ _ HW1.out.o2
      · show (pSv4 K X).length ≤ _; rw [l0]; exact HW1.out.m0
      · show (pCp3 K X).length ≤ _; rw [l1]; exact HW1.out.m1
      · show K.bts.length ≤ _; rw [l2]; exact HW1.out.m2
    clear hnx her
    go_wp2
    rw [← hw2]
    exact doorRet _ _ _ _ _ _ rfl rfl HN2.out HE2.out ⟨Or.inr ⟨HP.out, _, _, _, rfl, HK2.out⟩, HB2.out⟩
  · rw [hr] at he HP
    simp only [if_true] at he HP
    unfold stopE at he
    subst he
    clear hr
    go_wp2
    exact doorStop _ 7 rfl rfl HC1.out HP.out (by decide)

end Go.Proofs.YtpamkibnahhphaaGreatDoor
