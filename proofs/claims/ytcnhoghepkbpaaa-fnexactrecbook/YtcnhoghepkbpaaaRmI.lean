/-
  RecMessageOk by the program.
-/
import Derived.Test.YtcnhoghepkbpaaaRpA
import Derived.Test.YtcnhoghepkbpaaaRcB
namespace Go.Proofs.Ytcnhoghepkbpaaa
open Go.RowKit Go.Deep

theorem RssV.take {w : World} {a : Option Addr} {l : List Rs} (h : RssV w a l) (k : Nat) (hk : k ≤ l.length) : RssV w a (l.take k) :=
  ⟨by have := h.len; rw [List.length_take]; omega, fun i hi => by
    rw [List.length_take] at hi
    obtain ⟨b, off, e, hl, hf⟩ := h.at_ i (by omega)
    refine ⟨b, off, e, hl, ?_⟩
    have : (l.take k).getD i Rs.none = l.getD i Rs.none := by
      rw [List.getD_eq_getElem?_getD, List.getElem?_take_of_lt (by omega), ← List.getD_eq_getElem?_getD]
    rw [this]; exact hf⟩

set_option maxRecDepth 8000 in
set_option maxHeartbeats 8000000 in
theorem idxFnRs (l : List Rs) (a : Option Addr) (c : Nat) (w : World) (hC : RssV w a l) :
    Calls Try.prog 76 #[.slice a l.length c, .func (.func 67) #[] #[]] w fun e w' => e = .returned (.int .i64 (firstTo (fun i => (l.getD i Rs.none).bal == 0) l.length)) ∧ Below w.heap.size w w' := by
  have HL := hid hC
  have hl := hC.len
  unfold maxLen at hl
  clear hC
  go_enter Try.func76, Try.ntmps76
  go_wp2
  go_loopw [8] (fun i wr => ∃ k : Nat, k ≤ l.length ∧ i = .int .i64 k ∧ (∀ j, j < k → ((l.getD j Rs.none).bal == 0) = false) ∧ Below w.heap.size w wr) (fun i _ => l.length - (intOf i).toNat)
  case atStart => exact ⟨0, Nat.zero_le _, rfl, fun j hj => absurd hj (Nat.not_lt_zero j), Below.refl _ _⟩
  case round =>
    obtain ⟨k, hk, rfl, hall, hW⟩ := hrel
    have HA := hid hall
    have HW := hid hW
    clear hall hW
    by_cases hlt : k < l.length
    · obtain ⟨b1, off1, ha1, hbl1, hf1⟩ := (HL.out.later HW.out).at_ k hlt
      subst ha1
      obtain ⟨x, hx⟩ : ∃ x, x = l.getD k Rs.none := ⟨_, rfl⟩
      rw [← hx] at hf1
      have HXE := hid hx
      clear hx
      obtain ⟨e0, e1, _⟩ := hf1
      have hm0 : (0 : Int) ≤ (k : Int) := by omega
      have hm3 : (k : Int) < (l.length : Int) := by omega
      go_wp2_with fail
      refine (isEmptyI x wr).mono ?_
      rintro e w1 ⟨rfl, hb⟩
      have HW1 := hid (blw_trans HW.out hb)
      clear e0 e1 hb HW hbl1
      cases hd : (x.bal == 0)
      · have HN : Hid (∀ j, j < k + 1 → ((l.getD j Rs.none).bal == 0) = false) := fun j hj => by
          by_cases e : j = k
          · subst e; rw [← HXE.out]; exact hd
          · exact HA.out j (by omega)
        go_wp2
        go_roundw
        case rel => exact ⟨k + 1, by omega, by go_num, HN.out, HW1.out⟩
        case measure => simp [intOf]; omega
      · have HN : Hid (firstTo (fun i => (l.getD i Rs.none).bal == 0) l.length = k) := firstTo_hit hlt (by rw [← HXE.out]; exact hd) HA.out
        go_wp2
        go_ret
        exact ⟨by rw [HN.out]; rfl, HW1.out⟩
    · obtain rfl : k = l.length := by omega
      have HN : Hid (firstTo (fun i => (l.getD i Rs.none).bal == 0) l.length = -1) := firstTo_none HA.out
      go_wp2
      go_ret
      exact ⟨by rw [HN.out]; rfl, HW.out⟩

/-- Whether there is an empty one among them. -/
def someEmp (l : List Rs) : Bool := decide (0 ≤ firstTo (fun i => (l.getD i Rs.none).bal == 0) l.length)

set_option maxHeartbeats 4000000 in
theorem containsRs (l : List Rs) (a : Option Addr) (c : Nat) (w : World) (h : RssV w a l) :
    Calls Try.prog 66 #[.slice a l.length c, .func (.func 67) #[] #[]] w fun e w' => e = .returned (.bool (someEmp l)) ∧ Below w.heap.size w w' := by
  have HH := hid (idxFnRs l a c w h)
  clear h
  unfold someEmp
  obtain ⟨x, hx⟩ : ∃ x, x = firstTo (fun i => (l.getD i Rs.none).bal == 0) l.length := ⟨_, rfl⟩
  rw [← hx] at HH ⊢
  clear hx
  go_enter Try.func66, Try.ntmps66
  go_wp2_with fail
  refine HH.out.mono ?_
  rintro e w2 ⟨rfl, hb⟩
  go_wp2
  go_ret
  exact ⟨rfl, hb⟩

theorem slotM_eq (s : Rs) : slotM 1000000 s = slotOk s := by
  unfold slotM slotOk
  congr 2
theorem slotsM_eq (l : List Rs) : slotsM l 1000000 = slotsOk l := by
  unfold slotsM slotsOk
  rw [allTo_congr (q := fun i => slotOk (l.getD i Rs.none)) fun i _ => slotM_eq _]

theorem someEmp_iff (l : List Rs) : someEmp l = true ↔ ∃ i, i < l.length ∧ (l.getD i Rs.none).bal = 0 := by
  unfold someEmp
  rcases firstTo_cases (fun i => (l.getD i Rs.none).bal == 0) l.length with ⟨h, hn⟩ | ⟨k, hk, h, hp, hn⟩
  · rw [h]
    constructor
    · intro q; simp at q
    · rintro ⟨i, hi, he⟩
      have := hn i hi
      rw [he] at this
      cases this
  · rw [h]
    constructor
    · intro _; exact ⟨k, hk, by simpa using hp⟩
    · intro _; simp

theorem diskOk_eq (K : Rd) : (inB K.prom 0 1000000 && slotsM K.slots K.prom && inB K.known 0 K.slots.length && !someEmp (K.slots.take K.known.toNat)) = diskOk K := by
  unfold diskOk
  rw [Bool.eq_iff_iff]
  simp only [Bool.and_eq_true, Bool.not_eq_true', slotsM, slotsOk, decide_eq_true_eq, allTo_iff]
  unfold inB slotM slotOk dslot
  constructor
  · rintro ⟨⟨⟨hp, hl, hs⟩, hk⟩, he⟩
    simp only [Bool.and_eq_true, decide_eq_true_eq] at hp hk
    refine ⟨⟨⟨by simp [hp], hl, fun i hi => ?_⟩, by simp [hk]⟩, fun i hi => ?_⟩
    · have := hs i hi
      unfold inB at this ⊢
      simp only [Bool.and_eq_true, decide_eq_true_eq] at this ⊢
      refine ⟨⟨⟨this.1.1.1, by omega⟩, this.1.2⟩, ?_⟩
      have q := this.2
      rw [← q]; rfl
    · have := hs i hi
      unfold inB at this
      simp only [Bool.and_eq_true, decide_eq_true_eq] at this ⊢
      refine ⟨this.1.1.2, ?_⟩
      rw [Bool.not_eq_true', Bool.and_eq_false_iff]
      by_cases q : (i : Int) < K.known
      · right
        rw [decide_eq_false_iff_not]
        intro z
        have e : someEmp (K.slots.take K.known.toNat) = true := (someEmp_iff _).2 ⟨i, by rw [List.length_take]; omega, by rw [List.getD_eq_getElem?_getD, List.getElem?_take_of_lt (by omega), ← List.getD_eq_getElem?_getD]; exact z⟩
        rw [e] at he; cases he
      · left; rw [decide_eq_false_iff_not]; exact q
  · rintro ⟨⟨⟨hp, hl, hs⟩, hk⟩, hd⟩
    simp only [Bool.and_eq_true, decide_eq_true_eq] at hp hk
    refine ⟨⟨⟨by simp [hp], hl, fun i hi => ?_⟩, by simp [hk]⟩, ?_⟩
    · have := hs i hi
      have d := hd i hi
      unfold inB at this ⊢
      simp only [Bool.and_eq_true, decide_eq_true_eq] at this d ⊢
      refine ⟨⟨⟨this.1.1.1, d.1⟩, this.1.2⟩, ?_⟩
      have q := this.2
      rw [← q]; rfl
    · rw [Bool.eq_false_iff]
      intro e
      obtain ⟨i, hi, z⟩ := (someEmp_iff _).1 e
      rw [List.length_take] at hi
      rw [List.getD_eq_getElem?_getD, List.getElem?_take_of_lt (by omega), ← List.getD_eq_getElem?_getD] at z
      have d := hd i (by omega)
      simp only [Bool.and_eq_true, decide_eq_true_eq, Bool.not_eq_true', Bool.and_eq_false_iff, decide_eq_false_iff_not] at d
      rcases d.2 with q | q
      · omega
      · exact q z

set_option maxRecDepth 8000 in
set_option maxHeartbeats 8000000 in
theorem recDiskOkV (K : Rd) (a : Option Addr) (c : Nat) (w : World) (h : RssV w a K.slots) (hc : K.slots.length ≤ c) :
    Calls Try.prog 54 #[.agg #[.int .i64 K.prom, .int .i64 K.known, .slice a K.slots.length c]] w fun e w' => e = .returned (.bool (diskOk K)) ∧ Below w.heap.size w w' := by
  have HH := hid h
  have hl := h.len
  unfold maxLen at hl
  clear h
  obtain ⟨R, hR⟩ : ∃ R, R = diskOk K := ⟨_, rfl⟩
  have HR : Hid (R = (inB K.prom 0 1000000 && slotsM K.slots K.prom && inB K.known 0 K.slots.length && !someEmp (K.slots.take K.known.toNat))) := by show R = _; rw [diskOk_eq]; exact hR
  rw [← hR]
  clear hR
  obtain ⟨wa, hwa⟩ : ∃ wa, wa = w.alloc (.cells #[.int .i64 K.prom, .int .i64 K.known, .slice a K.slots.length c] 35) := ⟨_, rfl⟩
  have HB : Hid (Below w.heap.size w wa) := by show Below _ _ _; rw [hwa]; exact blw_alloc (Below.refl _ _) _
  have HX : Hid (Box3 wa w.heap.size (.int .i64 K.prom) (.int .i64 K.known) (.slice a K.slots.length c)) := by show Box3 _ _ _ _ _ ; rw [hwa]; exact Box3.new' w _ _ _ _ _ rfl
  go_enter Try.func54, Try.ntmps54
  go_upto_region 1 with fail
  rw [← hwa]
  clear hwa
  obtain ⟨yz, y0, y1, y2⟩ := HX.out
  cases h0 : inB K.prom 0 1000000
  · have HE : Hid (R = false) := by show R = _; rw [HR.out, h0]; rfl
    clear HR
    go_wp2_with (go_at_call 57; refine (withinI _ _ _ _).mono ?_; rintro e w' ⟨rfl, rfl⟩)
    go_ret
    exact ⟨Pl.ret_bool HE.out.symm, HB.out⟩
  go_wp2_with (go_at_call 57; refine (withinI _ _ _ _).mono ?_; rintro e w' ⟨rfl, rfl⟩)
  refine (slotsOkI K.slots a c K.prom wa (HH.out.later HB.out)).mono ?_
  rintro e w1 ⟨rfl, hb1⟩
  have HB1 := hid (blw_trans HB.out hb1)
  have HX1 := hid (HX.out.later hb1)
  clear yz y0 y1 y2 hb1
  obtain ⟨yz, y0, y1, y2⟩ := HX1.out
  cases h1 : slotsM K.slots K.prom
  · have HE : Hid (R = false) := by show R = _; rw [HR.out, h0, h1]; rfl
    clear HR
    go_wp2
    go_ret
    exact ⟨Pl.ret_bool HE.out.symm, HB1.out⟩
  cases h2 : inB K.known 0 K.slots.length
  · have HE : Hid (R = false) := by show R = _; rw [HR.out, h0, h1, h2]; rfl
    clear HR
    go_wp2_with (go_at_call 57; refine (withinI _ _ _ _).mono ?_; rintro e w' ⟨rfl, rfl⟩)
    go_ret
    exact ⟨Pl.ret_bool HE.out.symm, HB1.out⟩
  have hk : 0 ≤ K.known ∧ K.known ≤ K.slots.length := by have q := h2; unfold inB at q; simp at q; exact q
  obtain ⟨kn, hkn⟩ : ∃ kn : Nat, K.known = kn := ⟨K.known.toNat, by omega⟩
  have HE : Hid (R = !someEmp (K.slots.take kn)) := by show R = _; rw [HR.out, h0, h1, h2, hkn]; rfl
  have hkl : kn ≤ K.slots.length := by omega
  rw [hkn] at y1 h2
  clear HR hkn hk
  have hm0 : (0 : Int) ≤ (kn : Int) := by omega
  have hm1 : (kn : Int) ≤ (c : Int) := by omega
  have hm2 : kn ≤ c := by omega
  go_wp2_with (go_at_call 57; refine (withinI _ _ _ _).mono ?_; rintro e w' ⟨rfl, rfl⟩)
  have HC := containsRs (K.slots.take kn) a c w1 ((HH.out.later HB1.out).take kn hkl)
  rw [List.length_take, Nat.min_eq_left hkl] at HC
  refine HC.mono ?_
  rintro e w2 ⟨rfl, hb2⟩
  have HB2 := hid (blw_trans HB1.out hb2)
  clear hb2
  go_wp2
  go_ret
  exact ⟨Pl.ret_bool HE.out.symm, HB2.out⟩

theorem recDiskOkI (K : Rd) (b0 : Nat) (w : World) (h : RdIn w b0 K) :
    Calls Try.prog 54 #[.agg #[.int .i64 K.prom, .int .i64 K.known, .slice (some ⟨b0, 0, none⟩) K.slots.length K.slots.length]] w fun e w' => e = .returned (.bool (diskOk K)) ∧ Below w.heap.size w w' :=
  recDiskOkV K (some ⟨b0, 0, none⟩) K.slots.length w h.v (Nat.le_refl _)

end Go.Proofs.Ytcnhoghepkbpaaa

namespace Go.Proofs.Ytcnhoghepkbpaaa
open Go.RowKit Go.Deep

set_option maxRecDepth 8000 in
set_option maxHeartbeats 8000000 in
theorem recMessageOkV (K : Rm) (a : Option Addr) (c : Nat) (of : Int) (w : World) (h : RssV w a K.slots) :
    Calls Try.prog 70 #[.agg #[.int .i64 K.kind, .int .i64 K.frm, .int .i64 K.to_, .int .i64 K.bal, .int .i64 K.ix, .int .i64 K.known, .string K.txt, .slice a K.slots.length c], .int .i64 of] w fun e w' => e = .returned (.bool (msgOk K of)) ∧ Below w.heap.size w w' := by
  have HH := hid h
  have hl := h.len
  unfold maxLen at hl
  clear h
  obtain ⟨R, hR⟩ : ∃ R, R = msgOk K of := ⟨_, rfl⟩
  have HR : Hid (R = (inB K.kind 1 9 && inB K.frm 1 of && inB K.to_ 1 of && inB K.bal 0 1000000 && inB K.ix 0 120 && inB K.known 0 120 && decide (K.txt.size ≤ 160) && slotsOk K.slots)) := hR
  rw [← hR]
  clear hR
  obtain ⟨wa, hwa⟩ : ∃ wa, wa = w.alloc (.cells #[.int .i64 K.kind, .int .i64 K.frm, .int .i64 K.to_, .int .i64 K.bal, .int .i64 K.ix, .int .i64 K.known, .string K.txt, .slice a K.slots.length c] 84) := ⟨_, rfl⟩
  have HB : Hid (Below w.heap.size w wa) := by show Below _ _ _; rw [hwa]; exact blw_alloc (Below.refl _ _) _
  have HX : Hid (Box8 wa w.heap.size (.int .i64 K.kind) (.int .i64 K.frm) (.int .i64 K.to_) (.int .i64 K.bal) (.int .i64 K.ix) (.int .i64 K.known) (.string K.txt) (.slice a K.slots.length c)) := by show Box8 _ _ _ _ _ _ _ _ _ _ ; rw [hwa]; exact Box8.new' w _ _ _ _ _ _ _ _ _ _ rfl
  go_enter Try.func70, Try.ntmps70
  go_upto_region 1 with fail
  rw [← hwa]
  clear hwa
  have HSL := slotsOkI K.slots a c 1000000 wa (HH.out.later HB.out)
  obtain ⟨yz, y0, y1, y2, y3, y4, y5, y6, y7⟩ := HX.out
  cases h0 : inB K.kind 1 9
  · have HE : Hid (R = false) := by show R = _; rw [HR.out, h0]; rfl
    clear HR
    go_wp2_with (go_at_call 57; refine (withinI _ _ _ _).mono ?_; rintro e w' ⟨rfl, rfl⟩)
    go_ret
    exact ⟨Pl.ret_bool HE.out.symm, HB.out⟩
  cases h1 : inB K.frm 1 of
  · have HE : Hid (R = false) := by show R = _; rw [HR.out, h0, h1]; rfl
    clear HR
    go_wp2_with (go_at_call 57; refine (withinI _ _ _ _).mono ?_; rintro e w' ⟨rfl, rfl⟩)
    go_ret
    exact ⟨Pl.ret_bool HE.out.symm, HB.out⟩
  cases h2 : inB K.to_ 1 of
  · have HE : Hid (R = false) := by show R = _; rw [HR.out, h0, h1, h2]; rfl
    clear HR
    go_wp2_with (go_at_call 57; refine (withinI _ _ _ _).mono ?_; rintro e w' ⟨rfl, rfl⟩)
    go_ret
    exact ⟨Pl.ret_bool HE.out.symm, HB.out⟩
  cases h3 : inB K.bal 0 1000000
  · have HE : Hid (R = false) := by show R = _; rw [HR.out, h0, h1, h2, h3]; rfl
    clear HR
    go_wp2_with (go_at_call 57; refine (withinI _ _ _ _).mono ?_; rintro e w' ⟨rfl, rfl⟩)
    go_ret
    exact ⟨Pl.ret_bool HE.out.symm, HB.out⟩
  cases h4 : inB K.ix 0 120
  · have HE : Hid (R = false) := by show R = _; rw [HR.out, h0, h1, h2, h3, h4]; rfl
    clear HR
    go_wp2_with (go_at_call 57; refine (withinI _ _ _ _).mono ?_; rintro e w' ⟨rfl, rfl⟩)
    go_ret
    exact ⟨Pl.ret_bool HE.out.symm, HB.out⟩
  cases h5 : inB K.known 0 120
  · have HE : Hid (R = false) := by show R = _; rw [HR.out, h0, h1, h2, h3, h4, h5]; rfl
    clear HR
    go_wp2_with (go_at_call 57; refine (withinI _ _ _ _).mono ?_; rintro e w' ⟨rfl, rfl⟩)
    go_ret
    exact ⟨Pl.ret_bool HE.out.symm, HB.out⟩
  by_cases h6 : K.txt.size ≤ 160
  · have h6i : (K.txt.size : Int) ≤ 160 := by omega
    have HE : Hid (R = slotsM K.slots 1000000) := by show R = _; rw [HR.out, h0, h1, h2, h3, h4, h5, decide_eq_true h6, slotsM_eq]; rfl
    clear HR
    go_wp2_with (go_at_call 57; refine (withinI _ _ _ _).mono ?_; rintro e w' ⟨rfl, rfl⟩)
    refine HSL.mono ?_
    rintro e w1 ⟨rfl, hb1⟩
    have HB1 := hid (blw_trans HB.out hb1)
    clear hb1
    go_wp2
    go_ret
    exact ⟨Pl.ret_bool HE.out.symm, HB1.out⟩
  · have h6i : ¬ ((K.txt.size : Int) ≤ 160) := by omega
    have HE : Hid (R = false) := by show R = _; rw [HR.out, h0, h1, h2, h3, h4, h5, decide_eq_false h6]; rfl
    clear HR
    go_wp2_with (go_at_call 57; refine (withinI _ _ _ _).mono ?_; rintro e w' ⟨rfl, rfl⟩)
    go_ret
    exact ⟨Pl.ret_bool HE.out.symm, HB.out⟩

theorem recMessageOkI (K : Rm) (b0 : Nat) (of : Int) (w : World) (h : RmIn w b0 K) :
    Calls Try.prog 70 #[.agg #[.int .i64 K.kind, .int .i64 K.frm, .int .i64 K.to_, .int .i64 K.bal, .int .i64 K.ix, .int .i64 K.known, .string K.txt, .slice (some ⟨b0, 0, none⟩) K.slots.length K.slots.length], .int .i64 of] w fun e w' => e = .returned (.bool (msgOk K of)) ∧ Below w.heap.size w w' :=
  recMessageOkV K (some ⟨b0, 0, none⟩) K.slots.length of w h.v

end Go.Proofs.Ytcnhoghepkbpaaa
