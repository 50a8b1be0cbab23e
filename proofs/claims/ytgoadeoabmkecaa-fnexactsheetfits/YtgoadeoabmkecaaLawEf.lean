/-
  The law of SheetFits.
-/
import Derived.Test.YtgoadeoabmkecaaETz
import Derived.Test.YtgoadeoabmkecaaETt
import Derived.Test.YtgoadeoabmkecaaETe
import Derived.Test.YtgoadeoabmkecaaETx
import Derived.Test.YtgoadeoabmkecaaUL
namespace Go.Proofs.Ytgoadeoabmkecaa
open Go.RowKit Go.Deep


set_option maxRecDepth 8000 in
set_option maxHeartbeats 8000000 in
theorem lawSheetFits (ex0 ex1 : ByteArray) (ws : List ByteArray) (va : Option Addr) (vc : Nat) (an : Bool) (w : World) (h : Raw w [.row 9 [.s]] [.row ws.length (txD ws)] [.slice va ws.length vc]) (hz : szd (txD ws)) (hx0 : ex0.size ≤ maxLen) (hx1 : ex1.size ≤ maxLen)
    (hS : ∀ (v : Value) (W : World), Raw W [.row 9 [.s]] [.row ws.length (txD ws)] [v] → Calls Try.prog 11 #[.string ex0, .string ex1, v] W fun e w' => e = .returned (.bool an) ∧ Below W.heap.size W w')
    (hI : ∀ (v : Value) (W : World), ex0.size ≤ 1048576 → ex1.size ≤ 1048576 → ws.length + wtL (txD ws) ≤ 1048576 → Raw W [.row 9 [.s]] [.row ws.length (txD ws)] [v] → Calls Try.prog 13 #[.string ex0, .string ex1, v] W fun e w' => e = .returned (.bool an) ∧ Below W.heap.size W w') :
    Calls Try.prog 4 #[.string ex0, .string ex1, .slice va ws.length vc] w fun e w' => e = .returned (.bool true) ∧ Below w.heap.size w w' := by
  have HR := uh h
  have HZ := uh hz
  have HSP := uh hS
  have HIM := uh hI
  have hy0 : ex0.size ≤ 9223372036854775807 := hx0
  have hy1 : ex1.size ≤ 9223372036854775807 := hx1
  have HB : Hid (Below w.heap.size w w) := Below.refl _ _
  clear h hz hS hI hx0 hx1
  obtain ⟨n, hn⟩ : ∃ n, n = ws.length := ⟨_, rfl⟩
  obtain ⟨es, hes⟩ : ∃ es, es = txD ws := ⟨_, rfl⟩
  rw [← hn] at HR HSP HIM ⊢
  rw [← hes] at HR HSP HIM HZ
  clear hn hes
  go_enter Try.func4, Try.ntmps4
  by_cases ht0 : 1048576 < (ex0.size : Int)
  · go_wp2
    go_ret
    exact ⟨rfl, HB.out⟩
  by_cases ht1 : 1048576 < (ex1.size : Int)
  · go_wp2
    go_ret
    exact ⟨rfl, HB.out⟩
  have HT0 : Hid (ex0.size ≤ 1048576) := by show _ ≤ _; omega
  have HT1 : Hid (ex1.size ≤ 1048576) := by show _ ≤ _; omega
  obtain ⟨m, hm⟩ : ∃ m : Int, m = if ((n + wtL es : Nat) : Int) ≤ 1048576 then 1048576 - ((n + wtL es : Nat) : Int) else -1 := ⟨_, rfl⟩
  have HC := uh (szStringS n es (.slice va n vc) 1048576 w (by omega) (by omega) HR.out HZ.out)
  rw [← hm] at HC
  have HM := uh hm
  clear hm
  go_wp2_with fail
  refine HC.out.mono ?_
  rintro e w1 ⟨rfl, hb⟩
  replace HB := uh hb
  clear hb HC
  by_cases hl : m < 0
  · go_wp2
    go_ret
    exact ⟨rfl, HB.out⟩
  have HW : Hid (n + wtL es ≤ 1048576) := by
    show _ ≤ _; have h2 := HM.out
    split at h2
    · omega
    · omega
  go_wp2_with fail
  refine (toStringS n es (.slice va n vc) w1 (HR.out.later HB.out) HW.out).mono ?_
  rintro e w2 ⟨v2, F2, rfl, rep2, _, _, hb2⟩
  replace HB := uh (blw_trans HB.out hb2)
  have HC := uh (HSP.out v2 w2 rep2.raw)
  obtain ⟨a2, c2, e2⟩ := rep2.raw.len0
  subst e2
  clear rep2 hb2
  go_wp2_with fail
  refine HC.out.mono ?_
  rintro e w3 ⟨rfl, hb⟩
  replace HB := uh (blw_trans HB.out hb)
  clear hb HC
  go_wp2_with fail
  refine (toStringS n es (.slice va n vc) w3 (HR.out.later HB.out) HW.out).mono ?_
  rintro e w4 ⟨v4, F4, rfl, rep4, _, _, hb4⟩
  replace HB := uh (blw_trans HB.out hb4)
  have HR4 := uh rep4.raw
  obtain ⟨a4, c4, e4⟩ := rep4.raw.len0
  subst e4
  clear rep4 hb4
  have HC := uh (HIM.out _ w4 HT0.out HT1.out HW.out HR4.out)
  go_wp2_with fail
  refine HC.out.mono ?_
  rintro e w5 ⟨rfl, hb⟩
  replace HB := uh (blw_trans HB.out hb)
  replace HR4 := uh (HR4.out.later hb)
  clear hb HC
  have hne : (an != an) = false := by simp
  go_wp2_with fail
  refine (toStringS n es (.slice va n vc) w5 (HR.out.later HB.out) HW.out).mono ?_
  rintro e w6 ⟨v6, F6, rfl, rep6, _, _, hb6⟩
  replace HB := uh (blw_trans HB.out hb6)
  have HC := uh (eqStringS n es (.slice a4 n c4) v6 w6 (HR4.out.later hb6) rep6.raw)
  obtain ⟨a6, c6, e6⟩ := rep6.raw.len0
  subst e6
  clear rep6 hb6
  go_wp2_with fail
  refine HC.out.mono ?_
  rintro e w7 ⟨rfl, hb⟩
  replace HB := uh (blw_trans HB.out hb)
  clear hb HC
  go_wp2
  go_ret
  exact ⟨rfl, HB.out⟩

end Go.Proofs.Ytgoadeoabmkecaa
