/-
  The law of SheetWord.
-/
import Derived.Test.YtakjplfliaohiaaUL
namespace Go.Proofs.Ytakjplfliaohiaa
open Go.RowKit Go.Deep


set_option maxRecDepth 8000 in
set_option maxHeartbeats 16000000 in
theorem lawSheetWord (ex0 : ByteArray) (A : ByteArray) (w : World) (hx0 : ex0.size ≤ maxLen)
    (hS : ex0.size ≤ 1048576 → ∀ W : World, Calls Try.prog 4 #[.string ex0] W (fun e w' => e = .returned (.string A) ∧ Below W.heap.size W w'))
    (hI : ex0.size ≤ 1048576 → ∀ W : World, Calls Try.prog 5 #[.string ex0] W (fun e w' => e = .returned (.string A) ∧ Below W.heap.size W w')) :
    Calls Try.prog 3 #[.string ex0] w fun e w' => e = .returned (.bool true) ∧ Below w.heap.size w w' := by
  have hy0 : ex0.size ≤ 9223372036854775807 := hx0
  clear hx0
  have HSP := uh hS
  have HIM := uh hI
  clear hS hI
  have HB : Hid (Below w.heap.size w w) := Below.refl _ _
  have O0 := uh (Nat.le_refl w.heap.size)
  go_enter Try.func3, Try.ntmps3
  by_cases ht0 : 1048576 < (ex0.size : Int)
  · go_wp2
    go_ret
    exact ⟨rfl, HB.out⟩
  have HT0 : Hid (ex0.size ≤ 1048576) := by show _ ≤ _; omega
  replace HSP := uh (HSP.out HT0.out)
  replace HIM := uh (HIM.out HT0.out)
  have hne : (A.toList != A.toList) = false := by simp
  go_wp2_with fail
  refine (HSP.out _).mono ?_
  rintro e wa ⟨rfl, hba⟩
  replace HB := uh (blw_trans HB.out hba)
  clear hba
  go_wp2_with fail
  refine (HIM.out _).mono ?_
  rintro e wb ⟨rfl, hbb⟩
  replace HB := uh (blw_trans HB.out hbb)
  clear hbb
  go_wp2
  go_ret
  exact ⟨rfl, HB.out⟩

end Go.Proofs.Ytakjplfliaohiaa
