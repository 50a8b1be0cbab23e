/-
  A world that is ok: by the program.
-/
import Derived.Test.YtcefgacmagobnaaKXa
import Derived.Test.YtcefgacmagobnaaRvI
import Derived.Test.YtcefgacmagobnaaUL
namespace Go.Proofs.Ytcefgacmagobnaa
open Go.RowKit Go.Deep

set_option maxHeartbeats 2000000 in
theorem cmpRfI (x y : Int) (p q : Value) (w : World) :
    Calls Try.prog 63 #[.agg #[.int .i64 x, p], .agg #[.int .i64 y, q]] w fun e w' => e = .returned (.int .i64 (numCmp x y)) ∧ Below w.heap.size w w' := by
  obtain ⟨wa, hwa⟩ : ∃ wa, wa = (w.alloc (.cells #[.int .i64 x, p] 57)).alloc (.cells #[.int .i64 y, q] 57) := ⟨_, rfl⟩
  have HB : Hid (Below w.heap.size w wa) := by show Below _ _ _; rw [hwa]; exact blw_alloc (blw_alloc (Below.refl _ _) _) _
  have a0 : wa.cell? ⟨w.heap.size, 0, none⟩ = some (.int .i64 x) := by
    rw [hwa]; exact (World.cell?_alloc_past _ _ _ (by simp)).trans (World.cell?_alloc_at _ _ _ _ rfl)
  have b0 : wa.cell? ⟨w.heap.size + 1, 0, none⟩ = some (.int .i64 y) := by
    rw [hwa]; exact (World.cell?_alloc_at _ _ _ _ (by simp))
  have z : w.heap.size + 1 < wa.heap.size := by rw [hwa]; simp
  have z' : w.heap.size < wa.heap.size := by omega
  go_enter Try.func63, Try.ntmps63
  go_upto_region 1 with fail
  rw [← hwa]
  clear hwa
  go_wp2_with (go_at_call 85; refine (cmpNuI _ _ _).mono ?_; rintro e w' ⟨rfl, rfl⟩)
  go_ret
  exact ⟨rfl, HB.out⟩

def ascRf (l : List Rf) : Bool := allTo (fun i => decide (numCmp (l.getD i Rf.none).ix (l.getD (i + 1) Rf.none).ix < 0)) (l.length - 1)

set_option maxRecDepth 8000 in
set_option maxHeartbeats 8000000 in
theorem ascRfI (a : Option Addr) (c : Nat) (l : List Rf) (w : World) (h : RfsV w a l) :
    Calls Try.prog 62 #[.slice a l.length c, .func (.func 63) #[] #[]] w fun e w' => e = .returned (.bool (ascRf l)) ∧ Below w.heap.size w w' := by
  have hl := h.len
  have HH : Hid (RfsV w a l) := h
  obtain ⟨R, hR⟩ : ∃ R, R = ascRf l := ⟨_, rfl⟩
  have HR : Hid (R = ascRf l) := hR
  rw [← hR]
  clear h hR
  go_enter Try.func62, Try.ntmps62
  go_wp2
  go_loopw [5] (fun i wr => ∃ j : Nat, j ≤ l.length - 1 ∧ i = .int .i64 ((j + 1 : Nat) : Int) ∧ allTo (fun i => decide (numCmp (l.getD i Rf.none).ix (l.getD (i + 1) Rf.none).ix < 0)) j = true ∧ Below w.heap.size w wr) (fun i _ => l.length - (intOf i).toNat)
  case atStart => exact ⟨0, Nat.zero_le _, rfl, rfl, Below.refl _ _⟩
  case round =>
    obtain ⟨j, hj, rfl, hq, hW⟩ := hrel
    have HQ := hid hq
    clear hq
    by_cases hlt : j + 1 < l.length
    · obtain ⟨x, hx⟩ : ∃ x, x = l.getD j Rf.none := ⟨_, rfl⟩
      obtain ⟨y, hy⟩ : ∃ y, y = l.getD (j + 1) Rf.none := ⟨_, rfl⟩
      have HWD := hid hW.drew
      obtain ⟨b, off, ha, hB, c0, c1, _⟩ := (HH.out.later hW.drew).at_ j (by omega)
      obtain ⟨b', off', ha', _, d0, d1, _⟩ := (HH.out.later hW.drew).at_ (j + 1) hlt
      rw [ha] at ha'
      injection ha' with ha'
      injection ha' with hb1 hb2 _
      subst hb1 hb2
      clear hW
      subst ha
      rw [← hx] at c0 c1
      rw [← hy] at d0 d1
      obtain ⟨r, hr⟩ : ∃ r, r = numCmp x.ix y.ix := ⟨_, rfl⟩
      have HX : Hid (∀ W, Calls Try.prog 63 #[.agg #[.int .i64 x.ix, .string x.txt], .agg #[.int .i64 y.ix, .string y.txt]] W fun e w' => e = .returned (.int .i64 r) ∧ Below W.heap.size W w') := fun W => by rw [hr]; exact cmpRfI _ _ _ _ W
      have HP : Hid ((fun i => decide (numCmp (l.getD i Rf.none).ix (l.getD (i + 1) Rf.none).ix < 0)) j = decide (r < 0)) := by show decide _ = _; rw [hr, hx, hy]
      clear hr hx hy
      by_cases hz : r < 0
      · have HE := hid (allTo_step HQ.out (HP.out.trans (decide_eq_true hz)))
        go_wp2_with fail
        refine region_tail 10 (by kernel_rfl) (by kernel_rfl) ?_
        intro W hWd
        rw [← hWd] at hB HWD c0 c1 d0 d1
        simp only [List.take_succ_cons, List.take_zero, List.drop_succ_cons, List.drop_zero]
        clear hWd
        have hj0 : (0 : Int) ≤ (j : Int) := by omega
        have hj1 : (j : Int) < (l.length : Int) := by omega
        have hj2 : (0 : Int) ≤ (j : Int) + 1 := by omega
        have hjw : IntKind.i64.wrap (j : Int) = (j : Int) := wrapI _ (by omega) (by omega)
        repeat still_step
        refine wpStill_nil ?_
        go_wp2_with (go_at_call 63; refine (HX.out _).mono ?_; rintro e w2 ⟨rfl, hb2⟩)
        go_roundw
        case rel => exact ⟨j + 1, by omega, by go_num, HE.out, blw_trans HWD.out hb2⟩
        case measure => simp [intOf]; omega
      · have HE : Hid (R = false) := by show R = false; rw [HR.out]; exact allTo_false (k := j) (HP.out.trans (decide_eq_false hz)) _ (by omega)
        go_wp2_with fail
        refine region_tail 10 (by kernel_rfl) (by kernel_rfl) ?_
        intro W hWd
        rw [← hWd] at hB HWD c0 c1 d0 d1
        simp only [List.take_succ_cons, List.take_zero, List.drop_succ_cons, List.drop_zero]
        clear hWd
        have hj0 : (0 : Int) ≤ (j : Int) := by omega
        have hj1 : (j : Int) < (l.length : Int) := by omega
        have hj2 : (0 : Int) ≤ (j : Int) + 1 := by omega
        have hjw : IntKind.i64.wrap (j : Int) = (j : Int) := wrapI _ (by omega) (by omega)
        repeat still_step
        refine wpStill_nil ?_
        go_wp2_with (go_at_call 63; refine (HX.out _).mono ?_; rintro e w2 ⟨rfl, hb2⟩)
        go_ret
        exact ⟨Pl.ret_bool HE.out.symm, blw_trans HWD.out hb2⟩
    · have HE : Hid (R = true) := by
        show R = true
        rw [HR.out]
        have : j = l.length - 1 := by omega
        rw [this] at HQ; exact HQ.out
      go_wp2
      go_ret
      exact ⟨Pl.ret_bool HE.out.symm, hW⟩


theorem fixes_eq (l : List Rf) : (allTo (fun i => inB (l.getD i Rf.none).ix 1 120 && decide ((l.getD i Rf.none).txt.size ≤ 160)) l.length && ascRf l) = fixesOk l := by
  rw [Bool.eq_iff_iff, Bool.and_eq_true, fixesOk, ascRf, allTo_iff, allTo_iff, allTo_iff]
  unfold fixAt
  simp only [Bool.and_eq_true, Bool.or_eq_true, decide_eq_true_eq, numCmp_neg]
  constructor
  · rintro ⟨h, k⟩ i hi
    refine ⟨h i hi, ?_⟩
    by_cases e : i = 0
    · exact Or.inl e
    · right
      have := k (i - 1) (by omega)
      rwa [show i - 1 + 1 = i by omega] at this
  · intro h
    refine ⟨fun i hi => (h i hi).1, fun i hi => ?_⟩
    have := (h (i + 1) (by omega)).2
    simpa using this

set_option maxRecDepth 8000 in
set_option maxHeartbeats 8000000 in
theorem fixedOkI (l : List Rf) (a : Option Addr) (c : Nat) (w : World) (h : RfsV w a l) :
    Calls Try.prog 29 #[.slice a l.length c] w fun e w' => e = .returned (.bool (fixesOk l)) ∧ Below w.heap.size w w' := by
  have HH := hid h
  have hl := h.len
  clear h
  obtain ⟨R, hR⟩ : ∃ R, R = fixesOk l := ⟨_, rfl⟩
  have HR : Hid (R = (allTo (fun i => inB (l.getD i Rf.none).ix 1 120 && decide ((l.getD i Rf.none).txt.size ≤ 160)) l.length && ascRf l)) := by show R = _; rw [fixes_eq]; exact hR
  rw [← hR]
  clear hR
  go_enter Try.func29, Try.ntmps29
  go_wp2
  go_loopw [4, 7] (fun _ i wr => ∃ q : Nat, q ≤ l.length ∧ i = .int .i64 q ∧ allTo (fun i => inB (l.getD i Rf.none).ix 1 120 && decide ((l.getD i Rf.none).txt.size ≤ 160)) q = true ∧ Below w.heap.size w wr) (fun _ i _ => l.length - (intOf i).toNat)
  case atStart => exact ⟨0, Nat.zero_le _, rfl, rfl, Below.refl _ _⟩
  case round =>
    obtain ⟨q, hq, rfl, ha, hW⟩ := hrel
    have HQ := hid ha
    have HB := hid hW
    clear ha hW
    by_cases hlt : q < l.length
    · obtain ⟨b, off, hab, hbl, e0, e1, hsz⟩ := (HH.out.later HB.out).at_ q hlt
      subst hab
      obtain ⟨x, hx⟩ : ∃ x : Rf, x = l.getD q Rf.none := ⟨_, rfl⟩
      rw [← hx] at e0 e1 hsz
      have HP : Hid ((fun i => inB (l.getD i Rf.none).ix 1 120 && decide ((l.getD i Rf.none).txt.size ≤ 160)) q = (inB x.ix 1 120 && decide (x.txt.size ≤ 160))) := by show (_ && _) = _; rw [← hx]
      have hm0 : (0 : Int) ≤ (q : Int) := by omega
      have hm3 : (q : Int) < (l.length : Int) := by omega
      have hrg : wr.rangeAt b (off + q * 2) [.int .i64 x.ix, .string x.txt] := fun j v hv => by
        match j, hv with
        | 0, hv => injection hv with hv; subst hv; exact e0
        | 1, hv => injection hv with hv; subst hv; exact e1
        | n + 2, hv => simp at hv
      obtain ⟨wb, hwb⟩ : ∃ wb, wb = (wr.alloc (.cells #[.int .i64 0, .string { data := #[] }] 57)).setCells wr.heap.size 0 [.int .i64 x.ix, .string x.txt] := ⟨_, rfl⟩
      have hth := nv_there wr #[.int .i64 0, .string { data := #[] }] 57 [.int .i64 x.ix, .string x.txt] rfl
      have hone := all_oneCell_toArray (Raw.one (w := wr) (ss := shRecFix) (.i x.ix (.s x.txt .nil)))
      have hszz : (Try.prog.info? 57).map (·.size) = some (#[.int .i64 x.ix, .string x.txt] : Array Value).size := by kernel_rfl
      have hby : Below wr.heap.size wr wb := by rw [hwb]; exact nv_below wr #[.int .i64 0, .string { data := #[] }] 57 _
      have HY : Hid (LBox wb wr.heap.size [.int .i64 x.ix, .string x.txt]) := by show LBox _ _ _; rw [hwb]; exact nv_box wr #[.int .i64 0, .string { data := #[] }] 57 _ rfl
      have HB2 : Hid (Below w.heap.size w wb) := blw_trans HB.out hby
      clear hx hby e0 e1
      go_upto_region 4 with (first | refine wpList_load_mid rfl 57 _ rfl b (off + q * 2) rfl [.int .i64 x.ix, .string x.txt] _ hrg Try.underlying57 rfl (by kernel_rfl) ?_ | refine wpList_store_mid rfl 57 _ _ rfl wr.heap.size 0 #[.int .i64 x.ix, .string x.txt] rfl rfl hth hszz hone ?_)
      first | rw [← hwb] | (simp only [List.toList_toArray]; rw [← hwb])
      clear hwb hbl hth hone hszz hrg
      have gz := HY.out.lt
      have g0 := HY.out.get 0 _ rfl
      have g1 := HY.out.get 1 _ rfl
      cases hin : inB x.ix 1 120
      · have HE : Hid (R = false) := by show R = _; rw [HR.out, allTo_false (k := q) (HP.out.trans (by rw [hin]; rfl)) _ hlt]; rfl
        go_wp2_with (go_at_call 24; refine (withinI _ _ _ _).mono ?_; rintro e w' ⟨rfl, rfl⟩)
        go_ret
        exact ⟨Pl.ret_bool HE.out.symm, HB2.out⟩
      by_cases ht : (160 : Int) < (x.txt.size : Int)
      · have HE : Hid (R = false) := by show R = _; rw [HR.out, allTo_false (k := q) (HP.out.trans (by rw [decide_eq_false (p := x.txt.size ≤ 160) (by omega)]; simp)) _ hlt]; rfl
        go_wp2_with (go_at_call 24; refine (withinI _ _ _ _).mono ?_; rintro e w' ⟨rfl, rfl⟩)
        go_ret
        exact ⟨Pl.ret_bool HE.out.symm, HB2.out⟩
      have HN := hid (allTo_step HQ.out (HP.out.trans (by rw [hin, decide_eq_true (p := x.txt.size ≤ 160) (by omega)]; rfl)))
      go_wp2_with (go_at_call 24; refine (withinI _ _ _ _).mono ?_; rintro e w' ⟨rfl, rfl⟩)
      go_roundw
      case rel => exact ⟨q + 1, by omega, by go_num, HN.out, HB2.out⟩
      case measure => simp [intOf]; omega
    obtain rfl : q = l.length := by omega
    have HE : Hid (R = ascRf l) := by show R = _; rw [HR.out, HQ.out]; rfl
    clear HR HQ
    go_wp2_with fail
    refine (ascRfI a c l _ (HH.out.later HB.out)).mono ?_
    rintro e w2 ⟨rfl, hb⟩
    go_wp2
    go_ret
    exact ⟨Pl.ret_bool HE.out.symm, blw_trans HB.out hb⟩

def badFl (of : Int) (x : Rm) : Bool := !msgOk x of

set_option maxRecDepth 8000 in
set_option maxHeartbeats 4000000 in
theorem flClI (x : Rm) (a0 : Option Addr) (c0 : Nat) (of : Int) (p : Nat) (W : World) (hs : RssV W a0 x.slots) (hp : p < W.heap.size) (h0 : W.cell? ⟨p, 0, none⟩ = some (.int .i64 of)) :
    Calls Try.prog 27 #[.agg #[.int .i64 x.kind, .int .i64 x.frm, .int .i64 x.to_, .int .i64 x.bal, .int .i64 x.ix, .int .i64 x.known, .string x.txt, .slice a0 x.slots.length c0], .pointer (some ⟨p, 0, none⟩)] W fun e w' => e = .returned (.bool (badFl of x)) ∧ Below W.heap.size W w' := by
  have HH := hid hs
  obtain ⟨wa, hwa⟩ : ∃ wa, wa = W.alloc (.cells #[.int .i64 x.kind, .int .i64 x.frm, .int .i64 x.to_, .int .i64 x.bal, .int .i64 x.ix, .int .i64 x.known, .string x.txt, .slice a0 x.slots.length c0] 55) := ⟨_, rfl⟩
  have HB : Hid (Below W.heap.size W wa) := by show Below _ _ _; rw [hwa]; exact blw_alloc (Below.refl _ _) _
  have HX : Hid (LBox wa W.heap.size [.int .i64 x.kind, .int .i64 x.frm, .int .i64 x.to_, .int .i64 x.bal, .int .i64 x.ix, .int .i64 x.known, .string x.txt, .slice a0 x.slots.length c0]) := by show LBox _ _ _; rw [hwa]; exact LBox.new W #[.int .i64 x.kind, .int .i64 x.frm, .int .i64 x.to_, .int .i64 x.bal, .int .i64 x.ix, .int .i64 x.known, .string x.txt, .slice a0 x.slots.length c0] _ _ rfl
  have g0 : wa.cell? ⟨p, 0, none⟩ = some (.int .i64 of) := (HB.out.cell (p := ⟨p, 0, none⟩) hp).trans h0
  have gp : p < wa.heap.size := Nat.lt_of_lt_of_le hp HB.out.size
  go_enter Try.func27, Try.ntmps27
  go_upto_region 1 with fail
  rw [← hwa]
  clear hwa h0 hp hs
  have yz := HX.out.lt
  have hrg := HX.out.at_
  have HC := hid (recMessageOkV x a0 c0 of wa (HH.out.later HB.out))
  go_wp2_with (refine wpList_load_mid rfl 55 _ rfl W.heap.size 0 rfl [.int .i64 x.kind, .int .i64 x.frm, .int .i64 x.to_, .int .i64 x.bal, .int .i64 x.ix, .int .i64 x.known, .string x.txt, .slice a0 x.slots.length c0] _ hrg Try.underlying55 rfl (by kernel_rfl) ?_)
  refine HC.out.mono ?_
  rintro e w2 ⟨rfl, hb⟩
  have HB2 := hid (blw_trans HB.out hb)
  clear hb hrg yz g0 gp
  go_wp2
  go_ret
  exact ⟨rfl, HB2.out⟩

set_option maxRecDepth 8000 in
set_option maxHeartbeats 8000000 in
theorem idxFnFl (of : Int) (p : Nat) (l : List Rm) (a : Option Addr) (c : Nat) (w : World) (hC : RmsV w a l) (hp : p < w.heap.size) (h0 : w.cell? ⟨p, 0, none⟩ = some (.int .i64 of)) :
    Calls Try.prog 61 #[.slice a l.length c, .func (.func 27) #[] #[.pointer (some ⟨p, 0, none⟩)]] w fun e w' => e = .returned (.int .i64 (firstTo (fun i => badFl of (l.getD i Rm.none)) l.length)) ∧ Below w.heap.size w w' := by
  have HL := hid hC
  have hl := hC.len
  have HP := hid (And.intro hp h0)
  clear hC hp h0
  go_enter Try.func61, Try.ntmps61
  go_wp2
  go_loopw [8] (fun i wr => ∃ k : Nat, k ≤ l.length ∧ i = .int .i64 k ∧ (∀ j, j < k → badFl of (l.getD j Rm.none) = false) ∧ Below w.heap.size w wr) (fun i _ => l.length - (intOf i).toNat)
  case atStart => exact ⟨0, Nat.zero_le _, rfl, fun j hj => absurd hj (Nat.not_lt_zero j), Below.refl _ _⟩
  case round =>
    obtain ⟨k, hk, rfl, hall, hW⟩ := hrel
    have HA := hid hall
    have HW := hid hW
    clear hall hW
    by_cases hlt : k < l.length
    · obtain ⟨b1, off1, a0, c0, ha1, hbl1, hf1, hn⟩ := (HL.out.later HW.out).at_ k hlt
      subst ha1
      obtain ⟨x, hx⟩ : ∃ x, x = l.getD k Rm.none := ⟨_, rfl⟩
      rw [← hx] at hf1 hn
      have HXE := hid hx
      have HN := hid hn
      clear hx hn
      obtain ⟨e0, e1, e2, e3, e4, e5, e6, e7⟩ := hf1
      have hm0 : (0 : Int) ≤ (k : Int) := by omega
      have hm3 : (k : Int) < (l.length : Int) := by omega
      have HCL := flClI x a0 c0 of p wr HN.out (Nat.lt_of_lt_of_le HP.out.1 HW.out.size) ((HW.out.cell (p := ⟨p, 0, none⟩) HP.out.1).trans HP.out.2)
      go_wp2_with fail
      refine HCL.mono ?_
      rintro e w1 ⟨rfl, hb⟩
      have HW1 := hid (blw_trans HW.out hb)
      clear e0 e1 e2 e3 e4 e5 e6 e7 hb HW hbl1 HCL
      cases hd : badFl of x
      · have HN : Hid (∀ j, j < k + 1 → badFl of (l.getD j Rm.none) = false) := fun j hj => by
          by_cases e : j = k
          · subst e; rw [← HXE.out]; exact hd
          · exact HA.out j (by omega)
        go_wp2
        go_roundw
        case rel => exact ⟨k + 1, by omega, by go_num, HN.out, HW1.out⟩
        case measure => simp [intOf]; omega
      · have HN : Hid (firstTo (fun i => badFl of (l.getD i Rm.none)) l.length = k) := firstTo_hit hlt (by rw [← HXE.out]; exact hd) HA.out
        go_wp2
        go_ret
        exact ⟨by rw [HN.out]; rfl, HW1.out⟩
    · obtain rfl : k = l.length := by omega
      have HN : Hid (firstTo (fun i => badFl of (l.getD i Rm.none)) l.length = -1) := firstTo_none HA.out
      go_wp2
      go_ret
      exact ⟨by rw [HN.out]; rfl, HW.out⟩

set_option maxHeartbeats 4000000 in
theorem containsFl (of : Int) (p : Nat) (l : List Rm) (a : Option Addr) (c : Nat) (w : World) (hC : RmsV w a l) (hp : p < w.heap.size) (h0 : w.cell? ⟨p, 0, none⟩ = some (.int .i64 of)) :
    Calls Try.prog 26 #[.slice a l.length c, .func (.func 27) #[] #[.pointer (some ⟨p, 0, none⟩)]] w fun e w' => e = .returned (.bool (!allTo (fun i => !badFl of (l.getD i Rm.none)) l.length)) ∧ Below w.heap.size w w' := by
  have HH := hid (idxFnFl of p l a c w hC hp h0)
  have hq : (!allTo (fun i => !badFl of (l.getD i Rm.none)) l.length) = decide (0 ≤ firstTo (fun i => badFl of (l.getD i Rm.none)) l.length) := by
    rcases firstTo_cases (fun i => badFl of (l.getD i Rm.none)) l.length with ⟨h, hn⟩ | ⟨k, hk, h, hp, _⟩
    · rw [h, (allTo_iff _ _).2 (fun i hi => by rw [hn i hi]; rfl)]; rfl
    · rw [h, allTo_false (k := k) (by rw [hp]; rfl) _ hk]; simp
  rw [hq]
  clear hC hp h0 hq
  obtain ⟨y, hy⟩ : ∃ y, y = firstTo (fun i => badFl of (l.getD i Rm.none)) l.length := ⟨_, rfl⟩
  rw [← hy] at HH ⊢
  clear hy
  go_enter Try.func26, Try.ntmps26
  go_wp2_with fail
  refine HH.out.mono ?_
  rintro e w2 ⟨rfl, hb⟩
  go_wp2
  go_ret
  exact ⟨rfl, hb⟩

end Go.Proofs.Ytcefgacmagobnaa

namespace Go.Proofs.Ytcefgacmagobnaa
open Go.RowKit Go.Deep


theorem flOk_eq (K : Rw) : allTo (fun i => !badFl (K.recs.length : Int) (K.fl.getD i Rm.none)) K.fl.length = flOk K :=
  allTo_congr fun i _ => by unfold badFl; simp

set_option maxRecDepth 8000 in
set_option maxHeartbeats 16000000 in
theorem recWorldOkV (K : Rw) (a0 a1 a2 : Option Addr) (c0 c1 c2 : Nat) (w : World) (h : RwV w a0 a1 a2 K) :
    Calls Try.prog 9 #[.agg #[.slice a0 K.recs.length c0, .slice a1 K.fl.length c1, .slice a2 K.fx.length c2]] w fun e w' => e = .returned (.bool (worldOk K)) ∧ Below w.heap.size w w' := by
  have HH := hid h
  have hl0 := h.l0.len
  have hl1 := h.l1.len
  have hl2 := h.l2.len
  clear h
  obtain ⟨R, hR⟩ : ∃ R, R = worldOk K := ⟨_, rfl⟩
  have HR : Hid (R = (inB (K.recs.length : Int) 1 5 && decide (K.fl.length ≤ 600) && allTo (recAt K) K.recs.length && flOk K && fixesOk K.fx)) := hR
  rw [← hR]
  clear hR
  obtain ⟨wa, hwa⟩ : ∃ wa, wa = (w.alloc (.cells #[.slice a0 K.recs.length c0, .slice a1 K.fl.length c1, .slice a2 K.fx.length c2] 33)).alloc (.cells #[.int .i64 (K.recs.length : Int)] 3) := ⟨_, rfl⟩
  have HB : Hid (Below w.heap.size w wa) := by show Below _ _ _; rw [hwa]; exact blw_alloc (blw_alloc (Below.refl _ _) _) _
  have HX : Hid (LBox wa w.heap.size [.slice a0 K.recs.length c0, .slice a1 K.fl.length c1, .slice a2 K.fx.length c2]) := by show LBox _ _ _; rw [hwa]; exact (LBox.new w #[.slice a0 K.recs.length c0, .slice a1 K.fl.length c1, .slice a2 K.fx.length c2] _ _ rfl).past _
  have HO : Hid (LBox wa (w.heap.size + 1) [.int .i64 (K.recs.length : Int)]) := by
    show LBox _ _ _; rw [hwa]; exact LBox.new _ #[.int .i64 (K.recs.length : Int)] _ _ (by simp)
  go_enter Try.func9, Try.ntmps9
  go_upto_region 2 with fail
  rw [← hwa]
  clear hwa
  have yz := HX.out.lt
  have oz := HO.out.lt
  have o0 := HO.out.get 0 _ rfl
  have y0 := HX.out.get 0 _ rfl
  have y1 := HX.out.get 1 _ rfl
  cases h0 : inB (K.recs.length : Int) 1 5
  · have HE : Hid (R = false) := by show R = _; rw [HR.out, h0]; rfl
    clear HR
    go_wp2_with (go_at_call 24; refine (withinI _ _ _ _).mono ?_; rintro e w' ⟨rfl, rfl⟩)
    go_ret
    exact ⟨Pl.ret_bool HE.out.symm, HB.out⟩
  by_cases h1 : (600 : Int) < (K.fl.length : Int)
  · have HE : Hid (R = false) := by show R = _; rw [HR.out, decide_eq_false (p := K.fl.length ≤ 600) (by omega), Bool.and_false]; rfl
    clear HR
    go_wp2_with (go_at_call 24; refine (withinI _ _ _ _).mono ?_; rintro e w' ⟨rfl, rfl⟩)
    go_ret
    exact ⟨Pl.ret_bool HE.out.symm, HB.out⟩
  have HR1 : Hid (R = (allTo (recAt K) K.recs.length && flOk K && fixesOk K.fx)) := by show R = _; rw [HR.out, h0, decide_eq_true (p := K.fl.length ≤ 600) (by omega)]; simp
  clear HR
  go_wp2_with (go_at_call 24; refine (withinI _ _ _ _).mono ?_; rintro e w' ⟨rfl, rfl⟩)
  clear y0 y1 yz h0 o0 oz
  go_loopw [4, 5, 21] (fun _ _ i wr => ∃ q : Nat, q ≤ K.recs.length ∧ i = .int .i64 q ∧ allTo (recAt K) q = true ∧ LBox wr w.heap.size [.slice a0 K.recs.length c0, .slice a1 K.fl.length c1, .slice a2 K.fx.length c2] ∧ LBox wr (w.heap.size + 1) [.int .i64 (K.recs.length : Int)] ∧ Below w.heap.size w wr) (fun _ _ i _ => K.recs.length - (intOf i).toNat)
  case atStart => exact ⟨0, Nat.zero_le _, rfl, rfl, HX.out, HO.out, HB.out⟩
  case round =>
    obtain ⟨q, hq, rfl, ha, hX, hO, hW⟩ := hrel
    have HQ := hid ha
    have HB2 := hid hW
    have HX2 := hid hX
    have HO2 := hid hO
    clear ha hW hX hO HX HB HO
    by_cases hlt : q < K.recs.length
    · obtain ⟨b, off, ve, hab, hbl, hlen, hrg, hE, hwt⟩ := (HH.out.l0.later HB2.out).spec q hlt
      subst hab
      obtain ⟨x, hx⟩ : ∃ x : Rr, x = K.recs.getD q Rr.nil := ⟨_, rfl⟩
      rw [← hx] at hE hwt
      have HL := hid hlen
      have HRW := hid hE
      have HWT := hid hwt
      have HP : Hid (recAt K q = (recOk x && (x.num == (q : Int) + 1) && (x.of_ == (K.recs.length : Int)))) := by show _ = _; rw [recAt, ← hx]
      have hm0 : (0 : Int) ≤ (q : Int) := by omega
      have hm3 : (q : Int) < (K.recs.length : Int) := by omega
      obtain ⟨wb, hwb⟩ : ∃ wb, wb = (wr.alloc (.cells #[.int .i64 0, .int .i64 0, .bool false, .int .i64 0, .int .i64 0, .slice none 0 0, .int .i64 0, .int .i64 0, .slice none 0 0, .slice none 0 0, .slice none 0 0, .bool false, .bool false, .int .i64 0, .slice none 0 0, .slice none 0 0, .slice none 0 0, .int .i64 0] 52)).setCells wr.heap.size 0 ve := ⟨_, rfl⟩
      have hth := nv_there wr #[.int .i64 0, .int .i64 0, .bool false, .int .i64 0, .int .i64 0, .slice none 0 0, .int .i64 0, .int .i64 0, .slice none 0 0, .slice none 0 0, .slice none 0 0, .bool false, .bool false, .int .i64 0, .slice none 0 0, .slice none 0 0, .slice none 0 0, .int .i64 0] 52 ve (by rw [HL.out]; rfl)
      have hone := all_oneCell_toArray hE.one
      have hsz : (Try.prog.info? 52).map (·.size) = some ve.toArray.size := by rw [List.size_toArray, HL.out]; kernel_rfl
      have hby : Below wr.heap.size wr wb := by rw [hwb]; exact nv_below wr #[.int .i64 0, .int .i64 0, .bool false, .int .i64 0, .int .i64 0, .slice none 0 0, .int .i64 0, .int .i64 0, .slice none 0 0, .slice none 0 0, .slice none 0 0, .bool false, .bool false, .int .i64 0, .slice none 0 0, .slice none 0 0, .slice none 0 0, .int .i64 0] 52 ve
      have HY : Hid (LBox wb wr.heap.size ve) := by show LBox _ _ _; rw [hwb]; exact nv_box wr #[.int .i64 0, .int .i64 0, .bool false, .int .i64 0, .int .i64 0, .slice none 0 0, .int .i64 0, .int .i64 0, .slice none 0 0, .slice none 0 0, .slice none 0 0, .bool false, .bool false, .int .i64 0, .slice none 0 0, .slice none 0 0, .slice none 0 0, .int .i64 0] 52 ve (by rw [HL.out]; rfl)
      have HB3 := hid (blw_trans HB2.out hby)
      have HX3 := hid (HX2.out.later hby)
      have HO3 := hid (HO2.out.later hby)
      have HRW3 := hid (HRW.out.later hby)
      clear hx hE hwt hlen HB2 HX2 HO2 hby HRW
      go_upto_region 7 with (first | refine wpList_load_mid rfl 52 _ rfl b (off + q * 18) rfl ve _ hrg Try.underlying52 rfl (by rw [HL.out]; kernel_rfl) ?_ | refine wpList_store_mid rfl 52 _ _ rfl wr.heap.size 0 ve.toArray rfl rfl hth hsz hone ?_)
      first | rw [← hwb] | (simp only [List.toList_toArray]; rw [← hwb])
      clear hwb hth hone hsz hrg hbl
      obtain ⟨b0, b1, b2, b3, b4, b5, b6, d0, d1, d2, d3, d4, d5, d6, hve, hv, z0, z1, z3⟩ := vRr HRW3.out HWT.out
      have yz := HY.out.lt
      have y0 := HY.out.get 0 (.int .i64 x.num) (by rw [hve]; rfl)
      have y1 := HY.out.get 1 (.int .i64 x.of_) (by rw [hve]; rfl)
      have oz := HO3.out.lt
      have o0 := HO3.out.get 0 _ rfl
      have HC : Hid (Calls Try.prog 25 #[.agg ve.toArray] wb fun e w' => e = .returned (.bool (recOk x)) ∧ Below wb.heap.size wb w') := recValidV x b0 b1 b2 b3 b4 b5 b6 d0 d1 d2 d3 d4 d5 d6 ve hve wb hv z0 z1 z3
      clear hve hv z0 z1 z3
      cases hn : (x.num == (q : Int) + 1)
      · have hn2 : (x.num != (q : Int) + 1) = true := by rw [bne, hn]; rfl
        have HE : Hid (R = false) := by show R = _; rw [HR1.out, allTo_false (k := q) (by rw [HP.out, hn]; simp) _ hlt]; rfl
        go_wp2
        go_ret
        exact ⟨Pl.ret_bool HE.out.symm, HB3.out⟩
      have hn2 : (x.num != (q : Int) + 1) = false := by rw [bne, hn]; rfl
      cases ho : (x.of_ == (K.recs.length : Int))
      · have ho2 : (x.of_ != (K.recs.length : Int)) = true := by rw [bne, ho]; rfl
        have HE : Hid (R = false) := by show R = _; rw [HR1.out, allTo_false (k := q) (by rw [HP.out, ho]; simp) _ hlt]; rfl
        go_wp2
        go_ret
        exact ⟨Pl.ret_bool HE.out.symm, HB3.out⟩
      have ho2 : (x.of_ != (K.recs.length : Int)) = false := by rw [bne, ho]; rfl
      have hrg := HY.out.at_
      go_wp2_with (refine load_mid_g (by kernel_rfl) 52 _ rfl wr.heap.size 0 rfl ve _ hrg Try.underlying52 rfl (by rw [HL.out]; kernel_rfl) ?_)
      refine HC.out.mono ?_
      rintro e w1 ⟨rfl, hb⟩
      have HB4 := hid (blw_trans HB3.out hb)
      have HX4 := hid (HX3.out.later hb)
      have HO4 := hid (HO3.out.later hb)
      clear hb HC hrg HX3 HB3 HO3 HY HRW3 yz y0 y1 oz o0
      cases hv : recOk x
      · have HE : Hid (R = false) := by show R = _; rw [HR1.out, allTo_false (k := q) (by rw [HP.out, hv]; rfl) _ hlt]; rfl
        go_wp2
        go_ret
        exact ⟨Pl.ret_bool HE.out.symm, HB4.out⟩
      have HN : Hid (allTo (recAt K) (q + 1) = true) := by show (allTo _ q && recAt K q) = true; rw [HQ.out, HP.out, hv, hn, ho]; rfl
      go_wp2
      go_roundw
      case rel => exact ⟨q + 1, by omega, by go_num, HN.out, HX4.out, HO4.out, HB4.out⟩
      case measure => simp [intOf]; omega
    obtain rfl : q = K.recs.length := by omega
    have HR2 : Hid (R = (flOk K && fixesOk K.fx)) := by show R = _; rw [HR1.out, HQ.out]; simp
    clear HR1 HQ hlt hq
    have yz := HX2.out.lt
    have y1 := HX2.out.get 1 _ rfl
    have y2 := HX2.out.get 2 _ rfl
    have oz := HO2.out.lt
    have o0 := HO2.out.get 0 _ rfl
    have HC := hid (containsFl (K.recs.length : Int) (w.heap.size + 1) K.fl a1 c1 _ (HH.out.l1.later HB2.out) oz o0)
    rw [flOk_eq] at HC
    go_wp2_with fail
    refine HC.out.mono ?_
    rintro e w1 ⟨rfl, hb⟩
    have HB3 := hid (blw_trans HB2.out hb)
    have HX3 := hid (HX2.out.later hb)
    clear hb HC HB2 HX2 yz y1 y2 oz o0 HO2
    have yz := HX3.out.lt
    have y2 := HX3.out.get 2 _ rfl
    cases hf : flOk K
    · have HE : Hid (R = false) := by show R = _; rw [HR2.out, hf]; rfl
      go_wp2
      go_ret
      exact ⟨Pl.ret_bool HE.out.symm, HB3.out⟩
    have HE : Hid (R = fixesOk K.fx) := by show R = _; rw [HR2.out, hf]; rfl
    have HC := hid (fixedOkI K.fx a2 c2 w1 (HH.out.l2.later HB3.out))
    go_wp2_with fail
    refine HC.out.mono ?_
    rintro e w2 ⟨rfl, hb⟩
    have HB4 := hid (blw_trans HB3.out hb)
    clear hb HC
    go_wp2
    go_ret
    exact ⟨Pl.ret_bool HE.out.symm, HB4.out⟩
end Go.Proofs.Ytcefgacmagobnaa
