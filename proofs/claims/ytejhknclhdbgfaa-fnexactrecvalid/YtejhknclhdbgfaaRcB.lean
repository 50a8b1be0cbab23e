/-
  Recorders: a message that is ok, by the specification.
-/
import Derived.Test.YtejhknclhdbgfaaRcA
import Derived.Test.YtejhknclhdbgfaaMemRm
namespace Go.Proofs.Ytejhknclhdbgfaa
open Go.RowKit Go.Deep

def msgOk (K : Rm) (of : Int) : Bool := inB K.kind 1 9 && inB K.frm 1 of && inB K.to_ 1 of && inB K.bal 0 1000000 && inB K.ix 0 120 && inB K.known 0 120 && decide (K.txt.size ≤ 160) && slotsOk K.slots
theorem RmIn.v {w : World} {b0 : Nat} {K : Rm} (h : RmIn w b0 K) : RssV w (some ⟨b0, 0, none⟩) K.slots := h.l0.v

set_option maxRecDepth 8000 in
set_option maxHeartbeats 8000000 in
theorem recMessageOkS (K : Rm) (a : Option Addr) (c : Nat) (of : Int) (w : World) (h : RssV w a K.slots) :
    Calls Try.prog 30 #[.agg #[.int .i64 K.kind, .int .i64 K.frm, .int .i64 K.to_, .int .i64 K.bal, .int .i64 K.ix, .int .i64 K.known, .string K.txt, .slice a K.slots.length c], .int .i64 of] w fun e w' => e = .returned (.bool (msgOk K of)) ∧ Below w.heap.size w w' := by
  have HH := hid h
  have hl := h.len
  unfold maxLen at hl
  clear h
  obtain ⟨R, hR⟩ : ∃ R, R = msgOk K of := ⟨_, rfl⟩
  have HR : Hid (R = (inB K.kind 1 9 && inB K.frm 1 of && inB K.to_ 1 of && inB K.bal 0 1000000 && inB K.ix 0 120 && inB K.known 0 120 && decide (K.txt.size ≤ 160) && slotsOk K.slots)) := hR
  rw [← hR]
  clear hR
  obtain ⟨wa, hwa⟩ : ∃ wa, wa = w.alloc (.cells #[.int .i64 K.kind, .int .i64 K.frm, .int .i64 K.to_, .int .i64 K.bal, .int .i64 K.ix, .int .i64 K.known, .string K.txt, .slice a K.slots.length c] 62) := ⟨_, rfl⟩
  have HB : Hid (Below w.heap.size w wa) := by show Below _ _ _; rw [hwa]; exact blw_alloc (Below.refl _ _) _
  have HX : Hid (Box8 wa w.heap.size (.int .i64 K.kind) (.int .i64 K.frm) (.int .i64 K.to_) (.int .i64 K.bal) (.int .i64 K.ix) (.int .i64 K.known) (.string K.txt) (.slice a K.slots.length c)) := by show Box8 _ _ _ _ _ _ _ _ _ _ ; rw [hwa]; exact Box8.new' w _ _ _ _ _ _ _ _ _ _ rfl
  go_enter Try.func30, Try.ntmps30
  go_upto_region 1 with fail
  rw [← hwa]
  clear hwa
  have HSL := l21SlotsS K.slots a c wa (HH.out.later HB.out)
  obtain ⟨yz, y0, y1, y2, y3, y4, y5, y6, y7⟩ := HX.out
  cases h0 : inB K.kind 1 9
  · have HE : Hid (R = false) := by show R = _; rw [HR.out, h0]; rfl
    clear HR
    go_wp2_with (first | (go_at_call 34; refine (l21InS _ _ _ _).mono ?_; rintro e w' ⟨rfl, rfl⟩) | (go_at_call 35; refine HSL.mono ?_; rintro e w' ⟨rfl, rfl⟩))
    go_ret
    exact ⟨Pl.ret_bool HE.out.symm, HB.out⟩
  cases h1 : inB K.frm 1 of
  · have HE : Hid (R = false) := by show R = _; rw [HR.out, h0, h1]; rfl
    clear HR
    go_wp2_with (first | (go_at_call 34; refine (l21InS _ _ _ _).mono ?_; rintro e w' ⟨rfl, rfl⟩) | (go_at_call 35; refine HSL.mono ?_; rintro e w' ⟨rfl, rfl⟩))
    go_ret
    exact ⟨Pl.ret_bool HE.out.symm, HB.out⟩
  cases h2 : inB K.to_ 1 of
  · have HE : Hid (R = false) := by show R = _; rw [HR.out, h0, h1, h2]; rfl
    clear HR
    go_wp2_with (first | (go_at_call 34; refine (l21InS _ _ _ _).mono ?_; rintro e w' ⟨rfl, rfl⟩) | (go_at_call 35; refine HSL.mono ?_; rintro e w' ⟨rfl, rfl⟩))
    go_ret
    exact ⟨Pl.ret_bool HE.out.symm, HB.out⟩
  cases h3 : inB K.bal 0 1000000
  · have HE : Hid (R = false) := by show R = _; rw [HR.out, h0, h1, h2, h3]; rfl
    clear HR
    go_wp2_with (first | (go_at_call 34; refine (l21InS _ _ _ _).mono ?_; rintro e w' ⟨rfl, rfl⟩) | (go_at_call 35; refine HSL.mono ?_; rintro e w' ⟨rfl, rfl⟩))
    go_ret
    exact ⟨Pl.ret_bool HE.out.symm, HB.out⟩
  cases h4 : inB K.ix 0 120
  · have HE : Hid (R = false) := by show R = _; rw [HR.out, h0, h1, h2, h3, h4]; rfl
    clear HR
    go_wp2_with (first | (go_at_call 34; refine (l21InS _ _ _ _).mono ?_; rintro e w' ⟨rfl, rfl⟩) | (go_at_call 35; refine HSL.mono ?_; rintro e w' ⟨rfl, rfl⟩))
    go_ret
    exact ⟨Pl.ret_bool HE.out.symm, HB.out⟩
  cases h5 : inB K.known 0 120
  · have HE : Hid (R = false) := by show R = _; rw [HR.out, h0, h1, h2, h3, h4, h5]; rfl
    clear HR
    go_wp2_with (first | (go_at_call 34; refine (l21InS _ _ _ _).mono ?_; rintro e w' ⟨rfl, rfl⟩) | (go_at_call 35; refine HSL.mono ?_; rintro e w' ⟨rfl, rfl⟩))
    go_ret
    exact ⟨Pl.ret_bool HE.out.symm, HB.out⟩
  rcases (Decidable.em (K.txt.size ≤ 160)).symm with g6 | g6
  · have h6 : decide (K.txt.size ≤ 160) = false := decide_eq_false g6
    have g6i : ¬ ((K.txt.size : Int) ≤ 160) := by omega
    have HE : Hid (R = false) := by show R = _; rw [HR.out, h0, h1, h2, h3, h4, h5, h6]; rfl
    clear HR
    go_wp2_with (first | (go_at_call 34; refine (l21InS _ _ _ _).mono ?_; rintro e w' ⟨rfl, rfl⟩) | (go_at_call 35; refine HSL.mono ?_; rintro e w' ⟨rfl, rfl⟩))
    go_ret
    exact ⟨Pl.ret_bool HE.out.symm, HB.out⟩
  have h6 : decide (K.txt.size ≤ 160) = true := decide_eq_true g6
  have g6i : (K.txt.size : Int) ≤ 160 := by omega
  cases h7 : slotsOk K.slots
  · have HE : Hid (R = false) := by show R = _; rw [HR.out, h0, h1, h2, h3, h4, h5, h6, h7]; rfl
    rw [h7] at HSL
    clear HR
    go_wp2_with (first | (go_at_call 34; refine (l21InS _ _ _ _).mono ?_; rintro e w' ⟨rfl, rfl⟩) | (go_at_call 35; refine HSL.mono ?_; rintro e w' ⟨rfl, rfl⟩))
    go_ret
    exact ⟨Pl.ret_bool HE.out.symm, HB.out⟩
  have HE : Hid (R = true) := by show R = _; rw [HR.out, h0, h1, h2, h3, h4, h5, h6, h7]; rfl
  rw [h7] at HSL
  clear HR
  go_wp2_with (first | (go_at_call 34; refine (l21InS _ _ _ _).mono ?_; rintro e w' ⟨rfl, rfl⟩) | (go_at_call 35; refine HSL.mono ?_; rintro e w' ⟨rfl, rfl⟩))
  go_ret
  exact ⟨Pl.ret_bool HE.out.symm, HB.out⟩

end Go.Proofs.Ytejhknclhdbgfaa
