/-
  Desks that are ok: the specification.
-/
import Derived.Test.YtjjobbalifjdkaaUL
import Derived.Test.YtjjobbalifjdkaaWalkA
namespace Go.Proofs.Ytjjobbalifjdkaa
open Go.RowKit Go.Deep

def deskD (a b c : ByteArray) : Bool := Pl.nameOk a && (Pl.nameOk b && (c.toList.isEmpty || Pl.nameOk c))

set_option maxRecDepth 8000 in
set_option maxHeartbeats 4000000 in
theorem l30MaybeD (s : ByteArray) (w : World) (hs : s.size ≤ maxLen) : Calls Try.prog 9 #[.string s] w fun e w' => e = .returned (.bool (s.toList.isEmpty || Pl.nameOk s)) ∧ w = w' := by
  have HC : Hid (∀ W, Calls Try.prog 8 #[.string s] W fun e w' => e = .returned (.bool (Pl.nameOk s)) ∧ W = w') := fun W => l1NameOk_any s W hs
  obtain ⟨x, hx⟩ : ∃ x, x = Pl.nameOk s := ⟨_, rfl⟩
  rw [← hx] at HC ⊢
  clear hx
  go_enter Try.func9, Try.ntmps9
  cases h : s.toList.isEmpty <;> go_wp2_with (go_at_call 8; refine (HC.out _).mono ?_; rintro e w1 ⟨rfl, rfl⟩)
  all_goals go_ret
  all_goals exact ⟨by simp, rfl⟩

set_option maxRecDepth 8000 in
set_option maxHeartbeats 2000000 in
theorem deskOkS (a b c d : ByteArray) (w : World) (ha : a.size ≤ maxLen) (hb : b.size ≤ maxLen) (hc : c.size ≤ maxLen) : Calls Try.prog 5 #[.agg #[.string a, .string b, .string c, .string d]] w fun e w' => e = .returned (.bool (deskD a b c)) ∧ Below w.heap.size w w' := by
  obtain ⟨wa, hwa⟩ : ∃ wa, wa = w.alloc (.cells #[.string a, .string b, .string c, .string d] 26) := ⟨_, rfl⟩
  have HB : Hid (Below w.heap.size w wa) := by show Below _ _ _; rw [hwa]; exact blw_alloc (Below.refl _ _) _
  have HX : Hid (LBox wa w.heap.size [.string a, .string b, .string c, .string d]) := by show LBox _ _ _; rw [hwa]; exact LBox.new w #[.string a, .string b, .string c, .string d] _ _ rfl
  have HLA := uh ha
  have HLB := uh hb
  have HLC := uh hc
  clear ha hb hc
  unfold deskD
  go_enter Try.func5, Try.ntmps5
  go_upto_region 1 with fail
  rw [← hwa]
  clear hwa
  have hl := HX.out.lt
  have x0 := HX.out.get 0 _ rfl
  have x1 := HX.out.get 1 _ rfl
  have x2 := HX.out.get 2 _ rfl
  cases hA : Pl.nameOk a <;> cases hB : Pl.nameOk b <;> go_wp2_with (first | (go_at_call 8; refine (l1NameOk_any _ _ (by first | exact HLA.out | exact HLB.out | exact HLC.out)).mono ?_; rintro e w1 ⟨rfl, rfl⟩) | (go_at_call 9; refine (l30MaybeD _ _ HLC.out).mono ?_; rintro e w1 ⟨rfl, rfl⟩))
  all_goals go_ret
  all_goals exact ⟨by simp_all, HB.out⟩
end Go.Proofs.Ytjjobbalifjdkaa
