/-
  The law of SheetDiff: the row.
-/
import Derived.Test.YtojcopamegmeeaaRows
import Derived.Test.YtojcopamegmeeaaLawEd
import Derived.Test.YtojcopamegmeeaaESo
import Derived.Test.YtojcopamegmeeaaESp
import Derived.Test.YtojcopamegmeeaaEVd
import Derived.Test.YtojcopamegmeeaaEJd
namespace Go.Proofs.Ytojcopamegmeeaa
open Go.ChangeShapes Go.WideShapes Go.ChangeAt Go.RowKit Go.Deep


set_option maxRecDepth 100000 in
theorem sheetDiff_lifted (os : Os) (started : os.Started) (H : Type) (enc : TypeId × Value → H) :
    ReturnsInHanded {} Try.checked os 3 .any (Rows.fnExactSheetDiffSpec.pre6 enc Try.prog Try.f3 Rows.fnExactSheetDiffRow.domain false) (Rows.fnExactSheetDiffSpec.post enc Try.prog Try.f3 false true false false) := by
  refine returnsInHanded_of_change (C := Try.checked) uownL started (by kernel_rfl) Try.func3
    (ChangeSpec.witness6 (enc := enc) (C := Try.checked) false ⟨#[], #[.agg #[.slice none 0 0], .agg #[.slice none 0 0]], []⟩ 8 (by kernel_rfl) (by kernel_rfl) (by kernel_rfl) (by kernel_rfl)) ?_
  intro W base args ds gs before hval0 hW _ _
  have hval : ∀ (j : Nat) t v, Try.f3.params[j]? = some t → args[j]? = some v → Value.okWide Try.prog W .any base t v := hval0
  have hW' := hW
  obtain ⟨p, q, hA0, hV, rfl, _, _⟩ := hW
  have hA : DataW.TrodAll enc Try.prog W 0 (fun _ => true) true Try.f3.params.toList args.toList ds p := hA0
  rw [Try.params3] at hA hval
  obtain ⟨v0, vs0, d0, ds0, p0, q0, hargs, rfl, rfl, h0, r0⟩ := trodAll_cons hA
  obtain ⟨v1, vs1, d1, ds1, p1, q1, rfl, rfl, rfl, h1, r1⟩ := trodAll_cons r0
  obtain ⟨rfl, rfl, rfl⟩ := trodAll_nil r1
  obtain rfl : args = #[v0, v1] := by cases args; simp_all
  obtain ⟨rfl, rfl⟩ := trodVars_none hV
  have k0 := h0
  have lt0 : ∀ x ∈ p0, x.block < W.heap.size := by obtain ⟨m, hm⟩ := k0; exact DataW.trod_lt m _ _ _ hm
  have k1 := h1
  have lt1 : ∀ x ∈ p1, x.block < W.heap.size := by obtain ⟨m, hm⟩ := k1; exact DataW.trod_lt m _ _ _ hm
  obtain ⟨cs0, rfl, _⟩ := okWide_struct Try.underlying24 (hval 0 24 v0 rfl rfl)
  obtain ⟨l0, rfl⟩ : ∃ l : List Value, cs0 = l.toArray := ⟨cs0.toList, by simp⟩
  obtain ⟨cs1, rfl, _⟩ := okWide_struct Try.underlying24 (hval 1 24 v1 rfl rfl)
  obtain ⟨l1, rfl⟩ : ∃ l : List Value, cs1 = l.toArray := ⟨cs1.toList, by simp⟩
  obtain ⟨fuel0, hf0⟩ := h0
  obtain ⟨dd0, hrr0, hz0⟩ := openSheet hf0
  have hraw0 : Raw W shSheet dd0 l0 := by simpa [Value.cells] using hrr0
  obtain ⟨fuel1, hf1⟩ := h1
  obtain ⟨dd1, hrr1, hz1⟩ := openSheet hf1
  have hraw1 : Raw W shSheet dd1 l1 := by simpa [Value.cells] using hrr1
  clear hA0 hval0 hrr0 hrr1
  obtain ⟨K, rfl⟩ := dSheet _ hraw0.typ
  obtain ⟨M, rfl⟩ := dSheet _ hraw1.typ
  have HOK := szd_sheet K hz0
  have HOM := szd_sheet M hz1
  have htk := hraw0.typ
  have htm := hraw1.typ
  refine (lawSheetDiff [blsD K] [blsD M] l0 l1 (Pl.diffOut K M).length ((Pl.diffOut K M).flatMap chD) W hraw0 hraw1 hz0 hz1 (fun hw c d F G X hr hr2 => by obtain ⟨v, rfl, hv⟩ := rawSheet hr.raw; obtain ⟨u, rfl, hu⟩ := rawSheet hr2.raw; rw [wt_sheet, wt_sheet] at hw; exact sheetDiffS K M v u X hv hu HOK HOM (sheet_small K (by omega)) (sheet_small M (by omega))) (fun hw c d F G X hr hr2 => by obtain ⟨v, rfl, hv⟩ := rawSheet hr.raw; obtain ⟨u, rfl, hu⟩ := rawSheet hr2.raw; rw [wt_sheet, wt_sheet] at hw; exact sheetDiffI K M v u X hv hu HOK HOM hw) (fun hw => diff_cnt htm (by omega)) (fun hw => sheet_cnt htk (by omega)) (fun hw => sheet_cnt htm (by omega))).mono fun e W' ⟨he, bel⟩ => ?_
  subst he
  exact ⟨_, rfl, _, _, _, [], _, [], hW', trodAll_mk1 (shut_bool Try.underlying4 _), (trodAll_cons_mk (Below.trod ulaidL (by kernel_rfl) (of_decide_eq_true (by kernel_rfl)) k0 bel lt0) (trodAll_cons_mk (Below.trod ulaidL (by kernel_rfl) (of_decide_eq_true (by kernel_rfl)) k1 bel lt1) trodAll_mk0)), rfl, bel.frame _, fun h => by cases h⟩

theorem sheetDiff_holds : Rows.FnExactSheetDiffSaid :=
  OpenClaim.holds_of_wide 3 Try.f3 rfl rfl rfl rfl rfl rfl rfl ⟨rfl, rfl, rfl, rfl, rfl⟩ rfl rfl rfl rfl rfl (by kernel_rfl) Try.func3 (by kernel_rfl)
    (of_decide_eq_true (by kernel_rfl)) (by unfold Func.isWrapper; first | (rw [if_pos (by decide +kernel)]; kernel_rfl) | (rw [if_neg (by decide +kernel)]; exact ⟨rfl, rfl⟩))
    (fun os started H enc _ => sheetDiff_lifted os started H enc)

end Go.Proofs.Ytojcopamegmeeaa
