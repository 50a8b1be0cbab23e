/-
  Desks that are ok: the program.
-/
import Derived.Test.YtjjobbalifjdkaaDKs
namespace Go.Proofs.Ytjjobbalifjdkaa
open Go.RowKit Go.Deep


set_option maxRecDepth 8000 in
set_option maxHeartbeats 2000000 in
theorem deskOkI (a b c d : ByteArray) (w : World) (ha : a.size ≤ maxLen) (hb : b.size ≤ maxLen) (hc : c.size ≤ maxLen) : Calls Try.prog 7 #[.agg #[.string a, .string b, .string c, .string d]] w fun e w' => e = .returned (.bool (deskD a b c)) ∧ Below w.heap.size w w' := by
  obtain ⟨wa, hwa⟩ : ∃ wa, wa = w.alloc (.cells #[.string a, .string b, .string c, .string d] 26) := ⟨_, rfl⟩
  have HB : Hid (Below w.heap.size w wa) := by show Below _ _ _; rw [hwa]; exact blw_alloc (Below.refl _ _) _
  have HX : Hid (LBox wa w.heap.size [.string a, .string b, .string c, .string d]) := by show LBox _ _ _; rw [hwa]; exact LBox.new w #[.string a, .string b, .string c, .string d] _ _ rfl
  have HLA := uh ha
  have HLB := uh hb
  have HLC := uh hc
  clear ha hb hc
  unfold deskD
  go_enter Try.func7, Try.ntmps7
  go_upto_region 1 with fail
  rw [← hwa]
  clear hwa
  have hl := HX.out.lt
  have x0 := HX.out.get 0 _ rfl
  have x1 := HX.out.get 1 _ rfl
  have x2 := HX.out.get 2 _ rfl
  cases hA : Pl.nameOk a <;> cases hB : Pl.nameOk b <;> cases hE : c.toList.isEmpty <;> go_wp2_with (first | (go_at_call 10; refine (isName_any _ _ (by first | exact HLA.out | exact HLB.out | exact HLC.out)).mono ?_; rintro e w1 ⟨rfl, rfl⟩))
  all_goals go_ret
  all_goals exact ⟨by simp_all, HB.out⟩
end Go.Proofs.Ytjjobbalifjdkaa
