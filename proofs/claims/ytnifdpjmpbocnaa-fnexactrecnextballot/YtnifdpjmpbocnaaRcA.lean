/-
  Recorders: slots and disks that are ok, by the specification.
-/
import Derived.Test.YtnifdpjmpbocnaaClr
namespace Go.Proofs.Ytnifdpjmpbocnaa
open Go.RowKit Go.Deep

set_option maxHeartbeats 400000 in
theorem l21InS (n lo hi : Int) (w : World) :
    Calls Try.prog 14 #[.int .i64 n, .int .i64 lo, .int .i64 hi] w fun e w' => e = .returned (.bool (inB n lo hi)) ∧ w = w' := by
  unfold inB
  by_cases h : lo ≤ n
  · go_enter Try.func14, Try.ntmps14
    go_wp2
    go_ret
    exact ⟨Pl.ret_bool (by simp [h]), rfl⟩
  · go_enter Try.func14, Try.ntmps14
    go_wp2
    go_ret
    exact ⟨Pl.ret_bool (by rw [Bool.eq_iff_iff]; simp; omega), rfl⟩

set_option maxRecDepth 8000 in
set_option maxHeartbeats 8000000 in
theorem l21SlotsS (l : List Rs) (a : Option Addr) (c : Nat) (w : World) (h : RssV w a l) :
    Calls Try.prog 61 #[.slice a l.length c] w fun e w' => e = .returned (.bool (slotsOk l)) ∧ w = w' := by
  have HH := hid h
  have hl := h.len
  unfold maxLen at hl
  clear h
  obtain ⟨R, hR⟩ : ∃ R, R = slotsOk l := ⟨_, rfl⟩
  have HR : Hid (R = (decide (l.length ≤ 120) && allTo (fun i => slotOk (l.getD i Rs.none)) l.length)) := hR
  rw [← hR]
  clear hR
  by_cases h1 : l.length ≤ 120
  · have HS : Hid (R = allTo (fun i => slotOk (l.getD i Rs.none)) l.length) := by show R = _; rw [HR.out, decide_eq_true h1]; rfl
    have h1i : ¬ ((120 : Int) < (l.length : Int)) := by omega
    clear HR
    go_enter Try.func61, Try.ntmps61
    go_wp2
    go_loopw [3] (fun i wr => ∃ q : Nat, q ≤ l.length ∧ i = .int .i64 q ∧ allTo (fun i => slotOk (l.getD i Rs.none)) q = true ∧ wr = w) (fun i _ => l.length - (intOf i).toNat)
    case atStart => exact ⟨0, Nat.zero_le _, rfl, rfl, rfl⟩
    case round =>
      obtain ⟨q, hq, rfl, ha, hW⟩ := hrel
      subst hW
      have HQ := hid ha
      clear ha
      by_cases hlt : q < l.length
      · obtain ⟨b, off, ha, hbl, hf⟩ := HH.out.at_ q hlt
        subst ha
        obtain ⟨x, hx⟩ : ∃ x, x = l.getD q Rs.none := ⟨_, rfl⟩
        rw [← hx] at hf
        obtain ⟨f0, f1, fs⟩ := hf
        have HPQ : Hid (slotOk (l.getD q Rs.none) = (inB x.bal 0 1000000 && decide (x.txt.size ≤ 160) && !(decide (x.bal = 0) && !x.txt.toList.isEmpty))) := by show _ = _; rw [← hx]; rfl
        clear hx
        have hm0 : (0 : Int) ≤ (q : Int) := by omega
        have hm3 : (q : Int) < (l.length : Int) := by omega
        have hsz : x.txt.size ≤ maxLen := fs
        unfold maxLen at hsz
        have HI := l21InS x.bal 0 1000000 wr
        cases hin : inB x.bal 0 1000000
        · have HF : Hid (R = false) := by show R = false; rw [HS.out]; exact allTo_false (k := q) (by rw [HPQ.out, hin]; rfl) _ hlt
          rw [hin] at HI
          clear hin
          go_wp2_with (go_at_call 14; refine HI.mono ?_; rintro e w' ⟨rfl, rfl⟩)
          go_ret
          exact ⟨Pl.ret_bool HF.out.symm, rfl⟩
        rw [hin] at HI
        by_cases hs : x.txt.size ≤ 160
        · have hsi : ¬ ((160 : Int) < (x.txt.size : Int)) := by omega
          by_cases hz : x.bal = 0
          · have hz1 : (x.bal == 0) = true := by simpa using hz
            by_cases he : x.txt.toList = []
            · have HT : Hid (slotOk (l.getD q Rs.none) = true) := by show _ = true; rw [HPQ.out, hin, decide_eq_true hs, decide_eq_true hz, he]; rfl
              clear hin hz
              go_wp2_with (go_at_call 14; refine HI.mono ?_; rintro e w' ⟨rfl, rfl⟩)
              go_roundw
              case rel => exact ⟨q + 1, by omega, by go_num, by rw [allTo, HQ.out, HT.out]; rfl, by first | rfl | trivial⟩
              case measure => simp [intOf]; omega
            · have HF : Hid (R = false) := by show R = false; rw [HS.out]; exact allTo_false (k := q) (by rw [HPQ.out, hin, decide_eq_true hs, decide_eq_true hz, show x.txt.toList.isEmpty = false by cases e : x.txt.toList with | nil => exact absurd e he | cons _ _ => rfl]; rfl) _ hlt
              clear hin hz
              have he2 : (x.txt.toList == []) = false := by simpa using he
              go_wp2_with (go_at_call 14; refine HI.mono ?_; rintro e w' ⟨rfl, rfl⟩)
              go_ret
              exact ⟨Pl.ret_bool HF.out.symm, rfl⟩
          · have hz1 : (x.bal == 0) = false := by simpa using hz
            have HT : Hid (slotOk (l.getD q Rs.none) = true) := by show _ = true; rw [HPQ.out, hin, decide_eq_true hs, decide_eq_false hz]; rfl
            clear hin hz
            go_wp2_with (go_at_call 14; refine HI.mono ?_; rintro e w' ⟨rfl, rfl⟩)
            go_roundw
            case rel => exact ⟨q + 1, by omega, by go_num, by rw [allTo, HQ.out, HT.out]; rfl, by first | rfl | trivial⟩
            case measure => simp [intOf]; omega
        · have hsi : (160 : Int) < (x.txt.size : Int) := by omega
          have HF : Hid (R = false) := by show R = false; rw [HS.out]; exact allTo_false (k := q) (by rw [HPQ.out, hin, decide_eq_false hs]; rfl) _ hlt
          clear hin hs
          go_wp2_with (go_at_call 14; refine HI.mono ?_; rintro e w' ⟨rfl, rfl⟩)
          go_ret
          exact ⟨Pl.ret_bool HF.out.symm, rfl⟩
      · obtain rfl : q = l.length := by omega
        go_wp2
        go_ret
        exact ⟨Pl.ret_bool (by rw [HS.out, HQ.out]), rfl⟩
  · have h1i : (120 : Int) < (l.length : Int) := by omega
    have HE : Hid (R = false) := by show R = _; rw [HR.out, decide_eq_false h1]; rfl
    go_enter Try.func61, Try.ntmps61
    go_wp2
    go_ret
    exact ⟨Pl.ret_bool HE.out.symm, rfl⟩

set_option maxRecDepth 8000 in
set_option maxHeartbeats 8000000 in
theorem recDiskOkS (K : Rd) (a : Option Addr) (c : Nat) (w : World) (h : RssV w a K.slots) :
    Calls Try.prog 57 #[.agg #[.int .i64 K.prom, .int .i64 K.known, .slice a K.slots.length c]] w fun e w' => e = .returned (.bool (diskOk K)) ∧ Below w.heap.size w w' := by
  have HH := hid h
  have hl := h.len
  unfold maxLen at hl
  clear h
  obtain ⟨R, hR⟩ : ∃ R, R = diskOk K := ⟨_, rfl⟩
  have HR : Hid (R = (inB K.prom 0 1000000 && slotsOk K.slots && inB K.known 0 K.slots.length && allTo (dslot K) K.slots.length)) := hR
  rw [← hR]
  clear hR
  obtain ⟨wa, hwa⟩ : ∃ wa, wa = w.alloc (.cells #[.int .i64 K.prom, .int .i64 K.known, .slice a K.slots.length c] 36) := ⟨_, rfl⟩
  have HB : Hid (Below w.heap.size w wa) := by show Below _ _ _; rw [hwa]; exact blw_alloc (Below.refl _ _) _
  have HX : Hid (Box3 wa w.heap.size (.int .i64 K.prom) (.int .i64 K.known) (.slice a K.slots.length c)) := by show Box3 _ _ _ _ _; rw [hwa]; exact Box3.new' w _ _ _ _ _ rfl
  go_enter Try.func57, Try.ntmps57
  go_upto_region 1 with fail
  rw [← hwa]
  clear hwa
  have HSL := l21SlotsS K.slots a c wa (HH.out.later HB.out)
  obtain ⟨yz, y0, y1, y2⟩ := HX.out
  cases h1 : inB K.prom 0 1000000
  · have HE : Hid (R = false) := by show R = _; rw [HR.out, h1]; rfl
    go_wp2_with (go_at_call 14; refine (l21InS _ _ _ _).mono ?_; rintro e w' ⟨rfl, rfl⟩)
    go_ret
    exact ⟨Pl.ret_bool HE.out.symm, HB.out⟩
  cases h2 : slotsOk K.slots
  · have HE : Hid (R = false) := by show R = _; rw [HR.out, h1, h2]; rfl
    rw [h2] at HSL
    go_wp2_with (first | (go_at_call 14; refine (l21InS _ _ _ _).mono ?_; rintro e w' ⟨rfl, rfl⟩) | (go_at_call 61; refine HSL.mono ?_; rintro e w' ⟨rfl, rfl⟩))
    go_ret
    exact ⟨Pl.ret_bool HE.out.symm, HB.out⟩
  rw [h2] at HSL
  cases h3 : inB K.known 0 K.slots.length
  · have HE : Hid (R = false) := by show R = _; rw [HR.out, h1, h2, h3]; rfl
    go_wp2_with (first | (go_at_call 14; refine (l21InS _ _ _ _).mono ?_; rintro e w' ⟨rfl, rfl⟩) | (go_at_call 61; refine HSL.mono ?_; rintro e w' ⟨rfl, rfl⟩))
    go_ret
    exact ⟨Pl.ret_bool HE.out.symm, HB.out⟩
  have HE : Hid (R = allTo (dslot K) K.slots.length) := by show R = _; rw [HR.out, h1, h2, h3]; rfl
  clear HR
  go_wp2_with (first | (go_at_call 14; refine (l21InS _ _ _ _).mono ?_; rintro e w' ⟨rfl, rfl⟩) | (go_at_call 61; refine HSL.mono ?_; rintro e w' ⟨rfl, rfl⟩))
  clear h1 h2 h3 HSL yz y0 y1 y2
  go_loopw [3] (fun i wr => ∃ q : Nat, q ≤ K.slots.length ∧ i = .int .i64 q ∧ allTo (dslot K) q = true ∧ Below wa.heap.size wa wr) (fun i _ => K.slots.length - (intOf i).toNat)
  case atStart => exact ⟨0, Nat.zero_le _, rfl, rfl, Below.refl _ _⟩
  case round =>
    obtain ⟨q, hq, rfl, ha, hW⟩ := hrel
    have HQ := hid ha
    have HW := hid hW
    have HB2 := hid (blw_trans HB.out hW)
    have HX2 := hid (HX.out.later hW)
    clear ha hW
    obtain ⟨yz, y0, y1, y2⟩ := HX2.out
    by_cases hlt : q < K.slots.length
    · obtain ⟨b, off, ha, hbl, hf⟩ := (HH.out.later HB2.out).at_ q hlt
      subst ha
      obtain ⟨x, hx⟩ : ∃ x, x = K.slots.getD q Rs.none := ⟨_, rfl⟩
      rw [← hx] at hf
      obtain ⟨f0, f1, fs⟩ := hf
      have HPQ : Hid (dslot K q = (decide (x.bal ≤ K.prom) && !(decide ((q : Int) < K.known) && decide (x.bal = 0)))) := by show _ = _; rw [dslot, ← hx]
      clear hx
      have hNE := pst_some wr
      have hyz : ∀ px : Pst wr, w.heap.size < px.W.heap.size := fun px => px.size yz
      have hbz : ∀ px : Pst wr, b < px.W.heap.size := fun px => px.size hbl
      have Y0 : ∀ px : Pst wr, px.W.cell? ⟨w.heap.size, 0, none⟩ = some (.int .i64 K.prom) := fun px => px.cell y0 yz
      have Y1 : ∀ px : Pst wr, px.W.cell? ⟨w.heap.size, 1, none⟩ = some (.int .i64 K.known) := fun px => px.cell y1 yz
      have Y2 : ∀ px : Pst wr, px.W.cell? ⟨w.heap.size, 2, none⟩ = some (.slice (some ⟨b, off, none⟩) K.slots.length c) := fun px => px.cell y2 yz
      have E0 : ∀ px : Pst wr, px.W.cell? ⟨b, off + q * 2, none⟩ = some (.int .i64 x.bal) := fun px => px.cell f0 hbl
      have hm0 : (0 : Int) ≤ (q : Int) := by omega
      have hm3 : (q : Int) < (K.slots.length : Int) := by omega
      clear f0 f1 fs
      by_cases k1 : x.bal ≤ K.prom
      · have k1d : decide (K.prom < x.bal) = false := decide_eq_false (by omega)
        by_cases k2 : (q : Int) < K.known
        · have k2d : decide ((q : Int) < K.known) = true := decide_eq_true k2
          by_cases k3 : x.bal = 0
          · have k3d : (x.bal == 0) = true := by simpa using k3
            have HF : Hid (R = false) := by show R = false; rw [HE.out]; exact allTo_false (k := q) (by rw [HPQ.out, decide_eq_true k1, k2d, decide_eq_true k3]; rfl) _ hlt
            clear hbl k1 k2 k3
            go_wp2_with fail
            clear yz y0 y1 y2
            refine region_class wr (Below.refl _ _) (by kernel_rfl) (by kernel_rfl) ?_
            repeat (first
              | go_big_quiet_skip
              | (go_big_quiet_want; go_big_quiet_op; go_big_quiet_on))
            refine wpQuiet_nil ?_
            intro _ hw'
            obtain ⟨x6, hw''⟩ := hw'
            subst hw''
            go_wp2
            go_ret
            exact ⟨Pl.ret_bool HF.out.symm, blw_trans HB2.out x6.ok⟩
          · have k3d : (x.bal == 0) = false := by simpa using k3
            have HT : Hid (dslot K q = true) := by show _ = true; rw [HPQ.out, decide_eq_true k1, k2d, decide_eq_false k3]; rfl
            clear hbl k1 k2 k3
            go_wp2_with fail
            clear yz y0 y1 y2
            refine region_class wr (Below.refl _ _) (by kernel_rfl) (by kernel_rfl) ?_
            repeat (first
              | go_big_quiet_skip
              | (go_big_quiet_want; go_big_quiet_op; go_big_quiet_on))
            refine wpQuiet_nil ?_
            intro _ hw'
            obtain ⟨x6, hw''⟩ := hw'
            subst hw''
            go_wp2
            go_roundw
            case rel => exact ⟨q + 1, by omega, by go_num, by rw [allTo, HQ.out, HT.out]; rfl, blw_trans HW.out x6.ok⟩
            case measure => simp [intOf]; omega
        · have k2d : decide ((q : Int) < K.known) = false := decide_eq_false k2
          have HT : Hid (dslot K q = true) := by show _ = true; rw [HPQ.out, decide_eq_true k1, k2d]; rfl
          clear hbl k1 k2
          go_wp2_with fail
          clear yz y0 y1 y2
          refine region_class wr (Below.refl _ _) (by kernel_rfl) (by kernel_rfl) ?_
          repeat (first
            | go_big_quiet_skip
            | (go_big_quiet_want; go_big_quiet_op; go_big_quiet_on))
          refine wpQuiet_nil ?_
          intro _ hw'
          obtain ⟨x6, hw''⟩ := hw'
          subst hw''
          go_wp2
          go_roundw
          case rel => exact ⟨q + 1, by omega, by go_num, by rw [allTo, HQ.out, HT.out]; rfl, blw_trans HW.out x6.ok⟩
          case measure => simp [intOf]; omega
      · have k1d : decide (K.prom < x.bal) = true := decide_eq_true (by omega)
        have HF : Hid (R = false) := by show R = false; rw [HE.out]; exact allTo_false (k := q) (by rw [HPQ.out, decide_eq_false k1]; rfl) _ hlt
        clear hbl k1
        go_wp2_with fail
        clear yz y0 y1 y2
        refine region_class wr (Below.refl _ _) (by kernel_rfl) (by kernel_rfl) ?_
        repeat (first
          | go_big_quiet_skip
          | (go_big_quiet_want; go_big_quiet_op; go_big_quiet_on))
        refine wpQuiet_nil ?_
        intro _ hw'
        obtain ⟨x6, hw''⟩ := hw'
        subst hw''
        go_wp2
        go_ret
        exact ⟨Pl.ret_bool HF.out.symm, blw_trans HB2.out x6.ok⟩
    · obtain rfl : q = K.slots.length := by omega
      go_wp2
      go_ret
      exact ⟨Pl.ret_bool (by rw [HE.out, HQ.out]), HB2.out⟩

end Go.Proofs.Ytnifdpjmpbocnaa
