/-
  The law of SheetRules.
-/
import Derived.Test.YtgoadeoabmkecaaERe
import Derived.Test.YtgoadeoabmkecaaERm
import Derived.Test.YtgoadeoabmkecaaERh
import Derived.Test.YtgoadeoabmkecaaUL
namespace Go.Proofs.Ytgoadeoabmkecaa
open Go.RowKit Go.Deep


set_option maxRecDepth 8000 in
set_option maxHeartbeats 16000000 in
theorem lawSheetRules (ex0 : ByteArray) (N : Nat) (A : List Dt) (w : World) (hx0 : ex0.size ≤ maxLen)
    (hS : ex0.size ≤ 1048576 → ∀ W : World, Calls Try.prog 5 #[.string ex0] W (AnsL [.row 34 shSheetRule] (.row N A) W))
    (hI : ex0.size ≤ 1048576 → ∀ W : World, Calls Try.prog 6 #[.string ex0] W (AnsL [.row 34 shSheetRule] (.row N A) W))
    (hA : ex0.size ≤ 1048576 → cntL A ≤ 1000000000) :
    Calls Try.prog 3 #[.string ex0] w fun e w' => e = .returned (.bool true) ∧ Below w.heap.size w w' := by
  have hy0 : ex0.size ≤ 9223372036854775807 := hx0
  clear hx0
  have HSP := uh hS
  have HIM := uh hI
  have HCN := uh hA
  clear hS hI hA
  have HB : Hid (Below w.heap.size w w) := Below.refl _ _
  have O0 := uh (Nat.le_refl w.heap.size)
  go_enter Try.func3, Try.ntmps3
  by_cases ht0 : 1048576 < (ex0.size : Int)
  · go_wp2
    go_ret
    exact ⟨rfl, HB.out⟩
  have HT0 : Hid (ex0.size ≤ 1048576) := by show _ ≤ _; omega
  replace HSP := uh (HSP.out HT0.out)
  replace HIM := uh (HIM.out HT0.out)
  replace HCN := uh (HCN.out HT0.out)
  have HC := uh (HSP.out w)
  go_wp2_with fail
  refine HC.out.mono ?_
  rintro e w1 ⟨vS, FS, rfl, rep, nd, fr, hb⟩
  obtain ⟨vaS, vcS, hvS⟩ := rep.raw.len0
  subst hvS
  clear HC
  replace HB := uh (blw_trans HB.out hb)
  have O1 := uh (hb.size)
  have FBS : Hid (∀ b ∈ FS, w.heap.size ≤ b ∧ b < w1.heap.size) := fun b hb => ⟨fr b hb, rep.lt b hb⟩
  have NDS := uh nd
  have RPS := uh rep
  clear rep nd fr hb
  have HC := uh (HIM.out w1)
  go_wp2_with fail
  refine HC.out.mono ?_
  rintro e w2 ⟨vG, FG, rfl, rep, nd, fr, hb⟩
  obtain ⟨vaG, vcG, hvG⟩ := rep.raw.len0
  subst hvG
  clear HC
  replace HB := uh (blw_trans HB.out hb)
  replace RPS := uh (RPS.out.later hb)
  have O2 := uh (hb.size)
  have FBG : Hid (∀ b ∈ FG, w1.heap.size ≤ b ∧ b < w2.heap.size) := fun b hb => ⟨fr b hb, rep.lt b hb⟩
  have NDG := uh nd
  have RPG := uh rep
  clear rep nd fr hb
  go_wp2_with fail
  refine (eqSheetRuleS N A _ _ w2 RPG.out.raw RPS.out.raw).mono ?_
  rintro e w3 ⟨rfl, hb⟩
  replace HB := uh (blw_trans HB.out hb)
  replace RPS := uh (RPS.out.later hb)
  replace RPG := uh (RPG.out.later hb)
  have O3 := uh (hb.size)
  clear hb
  go_wp2_with fail
  refine (markSheetRuleS FG N A _ 1 w3 RPG.out NDG.out (by omega) (by have := HCN.out; omega)).mono ?_
  rintro e w4 ⟨he, hb, rr⟩
  obtain ⟨k10, hk10⟩ : ∃ k10 : Nat, k10 = 1 + cntL A := ⟨_, rfl⟩
  rw [← hk10] at he
  subst he
  have HK10 := uh hk10
  have kn10 : ¬ (k10 : Int) < 0 := by omega
  clear hk10
  have HTY := uh RPG.out.raw.typ
  replace HB := uh (hb.below (fun b e => by have := FBG.out b e; have := O0.out; have := O1.out; have := O2.out; have := O3.out; omega) HB.out)
  replace RPS := uh (RPS.out.keep hb (fun b hb e => by have := FBG.out b e; have := FBS.out b hb; have := O0.out; have := O1.out; have := O2.out; have := O3.out; omega))
  have O4 := uh (hb.size)
  replace RPG := uh rr
  clear hb rr
  go_wp2_with fail
  refine (heldSheetRuleS N A _ 1 w4 (by obtain ⟨_, _, _, e, t, _⟩ := HTY.out.c_r; injection e with e1 e2; injection e1 with e3 e4; subst e3; subst e4; exact t) RPG.out.raw (by omega) (by have := HCN.out; omega)).mono ?_
  rintro e w5 ⟨he, hb⟩
  rw [← HK10.out] at he
  subst he
  replace HB := uh (blw_trans HB.out hb)
  replace RPS := uh (RPS.out.later hb)
  replace RPG := uh (RPG.out.later hb)
  have O5 := uh (hb.size)
  clear hb
  have HC := uh (HIM.out w5)
  go_wp2_with fail
  refine HC.out.mono ?_
  rintro e w6 ⟨vH, FH, rfl, rep, nd, fr, hb⟩
  obtain ⟨vaH, vcH, hvH⟩ := rep.raw.len0
  subst hvH
  clear HC
  replace HB := uh (blw_trans HB.out hb)
  replace RPS := uh (RPS.out.later hb)
  replace RPG := uh (RPG.out.later hb)
  have O6 := uh (hb.size)
  have FBH : Hid (∀ b ∈ FH, w5.heap.size ≤ b ∧ b < w6.heap.size) := fun b hb => ⟨fr b hb, rep.lt b hb⟩
  have NDH := uh nd
  have RPH := uh rep
  clear rep nd fr hb
  go_wp2_with fail
  refine (eqSheetRuleS N A _ _ w6 RPH.out.raw RPS.out.raw).mono ?_
  rintro e w7 ⟨rfl, hb⟩
  replace HB := uh (blw_trans HB.out hb)
  replace RPS := uh (RPS.out.later hb)
  replace RPG := uh (RPG.out.later hb)
  replace RPH := uh (RPH.out.later hb)
  have O7 := uh (hb.size)
  clear hb
  go_wp2_with fail
  refine (heldSheetRuleS N A _ 1 w7 (by obtain ⟨_, _, _, e, t, _⟩ := HTY.out.c_r; injection e with e1 e2; injection e1 with e3 e4; subst e3; subst e4; exact t) RPG.out.raw (by omega) (by have := HCN.out; omega)).mono ?_
  rintro e w8 ⟨he, hb⟩
  rw [← HK10.out] at he
  subst he
  replace HB := uh (blw_trans HB.out hb)
  replace RPS := uh (RPS.out.later hb)
  replace RPG := uh (RPG.out.later hb)
  replace RPH := uh (RPH.out.later hb)
  have O8 := uh (hb.size)
  clear hb
  go_wp2
  go_ret
  exact ⟨rfl, HB.out⟩

end Go.Proofs.Ytgoadeoabmkecaa
