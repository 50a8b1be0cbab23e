/-
  The law of DeskOk.
-/
import Derived.Test.YtjjobbalifjdkaaDKz
import Derived.Test.YtjjobbalifjdkaaDKt
import Derived.Test.YtjjobbalifjdkaaUL
namespace Go.Proofs.Ytjjobbalifjdkaa
open Go.RowKit Go.Deep


set_option maxRecDepth 8000 in
set_option maxHeartbeats 16000000 in
theorem lawDeskOk (ds : List Dt) (cs : List Value) (an0 : Bool) (w : World) (h : Raw w shDesk ds cs) (hz : szd ds)
    (hS : wtL ds ≤ 1048576 → ∀ (c : List Value) (F : List Nat) (W : World), Rep W true shDesk F ds c → Calls Try.prog 5 #[.agg c.toArray] W (fun e w' => e = .returned (.bool an0) ∧ Below W.heap.size W w'))
    (hI : wtL ds ≤ 1048576 → ∀ (c : List Value) (F : List Nat) (W : World), Rep W true shDesk F ds c → Calls Try.prog 7 #[.agg c.toArray] W (fun e w' => e = .returned (.bool an0) ∧ Below W.heap.size W w')) :
    Calls Try.prog 3 #[.agg cs.toArray] w fun e w' => e = .returned (.bool true) ∧ Below w.heap.size w w' := by
  have HR := uh h
  have HZ := uh hz
  have HSP := uh hS
  have HIM := uh hI
  have LNX : Hid (cs.length = 4) := h.len
  clear h hz hS hI
  obtain ⟨wa, hwa⟩ : ∃ wa, wa = w.alloc (.cells cs.toArray 23) := ⟨_, rfl⟩
  have HB : Hid (Below w.heap.size w wa) := by show Below _ _ _; rw [hwa]; exact blw_alloc (Below.refl _ _) _
  have HX : Hid (LBox wa w.heap.size cs) := by show LBox _ _ _; rw [hwa]; exact LBox.new w cs.toArray _ _ rfl
  go_enter Try.func3, Try.ntmps3
  go_upto_region 1 with fail
  rw [← hwa]
  clear hwa
  have hzX := HX.out.lt
  have haX := HX.out.at_
  obtain ⟨m, hm⟩ : ∃ m : Int, m = if ((wtL ds : Nat) : Int) ≤ 1048576 then 1048576 - ((wtL ds : Nat) : Int) else -1 := ⟨_, rfl⟩
  have HC := uh (szDesk ds cs 1048576 wa (by omega) (by omega) (HR.out.later HB.out) HZ.out)
  rw [← hm] at HC
  have HM := uh hm
  clear hm
  go_wp2_with (refine wpList_load_mid rfl 23 _ rfl w.heap.size 0 rfl cs _ haX Try.underlying23 rfl (by rw [LNX.out]; kernel_rfl) ?_)
  refine HC.out.mono ?_
  rintro e w1 ⟨rfl, hb⟩
  clear hzX haX
  replace HB := uh (blw_trans HB.out hb)
  replace HX := uh (HX.out.later hb)
  clear hb
  clear HC
  by_cases hl : m < 0
  · go_wp2
    go_ret
    exact ⟨rfl, HB.out⟩
  have HW : Hid (wtL ds ≤ 1048576) := by
    show _ ≤ _; have h2 := HM.out
    split at h2
    · omega
    · omega
  have hzX := HX.out.lt
  have haX := HX.out.at_
  go_wp2_with (refine wpList_load_mid rfl 23 _ rfl w.heap.size 0 rfl cs _ haX Try.underlying23 rfl (by rw [LNX.out]; kernel_rfl) ?_)
  refine (toDesk ds cs w1 (HR.out.later HB.out) HW.out).mono ?_
  rintro e w2 ⟨c0, F0, rfl, rep, nd, fr, hb⟩
  clear hzX haX
  replace HB := uh (blw_trans HB.out hb)
  replace HX := uh (HX.out.later hb)
  clear hb
  have HC := uh (HSP.out HW.out c0 F0 w2 rep)
  clear rep nd fr HSP
  have hzX := HX.out.lt
  go_wp2_with fail
  refine HC.out.mono ?_
  rintro e w3 ⟨rfl, hb⟩
  clear hzX HC
  replace HB := uh (blw_trans HB.out hb)
  replace HX := uh (HX.out.later hb)
  clear hb
  have hzX := HX.out.lt
  have haX := HX.out.at_
  go_wp2_with (refine wpList_load_mid rfl 23 _ rfl w.heap.size 0 rfl cs _ haX Try.underlying23 rfl (by rw [LNX.out]; kernel_rfl) ?_)
  refine (toDesk ds cs w3 (HR.out.later HB.out) HW.out).mono ?_
  rintro e w4 ⟨c1, F1, rfl, rep, nd, fr, hb⟩
  clear hzX haX
  replace HB := uh (blw_trans HB.out hb)
  replace HX := uh (HX.out.later hb)
  clear hb
  have HC := uh (HIM.out HW.out c1 F1 w4 rep)
  clear rep nd fr HIM
  have hzX := HX.out.lt
  go_wp2_with fail
  refine HC.out.mono ?_
  rintro e w5 ⟨rfl, hb⟩
  clear hzX HC
  replace HB := uh (blw_trans HB.out hb)
  replace HX := uh (HX.out.later hb)
  clear hb
  cases an0 <;> go_wp2
  all_goals go_ret
  all_goals exact ⟨rfl, HB.out⟩

end Go.Proofs.Ytjjobbalifjdkaa
