/-
  The law of SheetFill: the row.
-/
import Derived.Test.YtfmhfacaemfhlaaRows
import Derived.Test.YtfmhfacaemfhlaaLawEi
import Derived.Test.YtfmhfacaemfhlaaESo
import Derived.Test.YtfmhfacaemfhlaaESp
import Derived.Test.YtfmhfacaemfhlaaEFi
import Derived.Test.YtfmhfacaemfhlaaEYd
import Derived.Test.YtfmhfacaemfhlaaEYq
import Derived.Test.YtfmhfacaemfhlaaEYs
namespace Go.Proofs.Ytfmhfacaemfhlaa
open Go.ChangeShapes Go.WideShapes Go.ChangeAt Go.RowKit Go.Deep


set_option maxRecDepth 100000 in
theorem sheetFill_lifted (os : Os) (started : os.Started) (H : Type) (enc : TypeId × Value → H) :
    ReturnsInHanded {} Try.checked os 3 .any (Rows.fnExactSheetFillSpec.pre6 enc Try.prog Try.f3 Rows.fnExactSheetFillRow.domain false) (Rows.fnExactSheetFillSpec.post enc Try.prog Try.f3 false true false false) := by
  refine returnsInHanded_of_change (C := Try.checked) uownL started (by kernel_rfl) Try.func3
    (ChangeSpec.witness6 (enc := enc) (C := Try.checked) false ⟨#[], #[.agg #[.slice none 0 0]], []⟩ 8 (by kernel_rfl) (by kernel_rfl) (by kernel_rfl) (by kernel_rfl)) ?_
  intro W base args ds gs before hval0 hW _ _
  have hval : ∀ (j : Nat) t v, Try.f3.params[j]? = some t → args[j]? = some v → Value.okWide Try.prog W .any base t v := hval0
  have hW' := hW
  obtain ⟨p, q, hA0, hV, rfl, _, _⟩ := hW
  have hA : DataW.TrodAll enc Try.prog W 0 (fun _ => true) true Try.f3.params.toList args.toList ds p := hA0
  rw [Try.params3] at hA hval
  obtain ⟨v0, vs0, d0, ds0, p0, q0, hargs, rfl, rfl, h0, r0⟩ := trodAll_cons hA
  obtain ⟨rfl, rfl, rfl⟩ := trodAll_nil r0
  obtain rfl : args = #[v0] := by cases args; simp_all
  obtain ⟨rfl, rfl⟩ := trodVars_none hV
  have k0 := h0
  have lt0 : ∀ x ∈ p0, x.block < W.heap.size := by obtain ⟨m, hm⟩ := k0; exact DataW.trod_lt m _ _ _ hm
  obtain ⟨cs0, rfl, _⟩ := okWide_struct Try.underlying24 (hval 0 24 v0 rfl rfl)
  obtain ⟨l0, rfl⟩ : ∃ l : List Value, cs0 = l.toArray := ⟨cs0.toList, by simp⟩
  obtain ⟨fuel0, hf0⟩ := h0
  obtain ⟨ds0, hraw0, hz0⟩ := openSheet hf0
  have hraw : Raw W shSheet ds0 l0 := by simpa [Value.cells] using hraw0
  clear hA0 hval0 hraw0
  obtain ⟨K, rfl⟩ := dSheet _ hraw.typ
  have HOT := szd_sheet K hz0
  have hty := hraw.typ
  refine (lawSheetFill [blsD K] l0 [blsD (Pl.fillOut K)] W hraw hz0 (fun hw c F X hr => by obtain ⟨v, rfl, hv⟩ := rawSheet hr.raw; rw [wt_sheet] at hw; exact sheetFillS K v X hv (sm_of HOT hw)) (fun hw c F X hr => by obtain ⟨v, rfl, hv⟩ := rawSheet hr.raw; rw [wt_sheet] at hw; rw [← fill_eq]; exact fillTop K v X hv HOT hw) (fun hw => fill_cnt hty hw) (fun hw => sheet_cnt hty hw)).mono fun e W' ⟨he, bel⟩ => ?_
  subst he
  exact ⟨_, rfl, _, _, _, [], _, [], hW', trodAll_mk1 (shut_bool Try.underlying4 _), (trodAll_cons_mk (Below.trod ulaidL (by kernel_rfl) (of_decide_eq_true (by kernel_rfl)) k0 bel lt0) trodAll_mk0), rfl, bel.frame _, fun h => by cases h⟩

theorem sheetFill_holds : Rows.FnExactSheetFillSaid :=
  OpenClaim.holds_of_wide 3 Try.f3 rfl rfl rfl rfl rfl rfl rfl ⟨rfl, rfl, rfl, rfl, rfl⟩ rfl rfl rfl rfl rfl (by kernel_rfl) Try.func3 (by kernel_rfl)
    (of_decide_eq_true (by kernel_rfl)) (by unfold Func.isWrapper; first | (rw [if_pos (by decide +kernel)]; kernel_rfl) | (rw [if_neg (by decide +kernel)]; exact ⟨rfl, rfl⟩))
    (fun os started H enc _ => sheetFill_lifted os started H enc)

end Go.Proofs.Ytfmhfacaemfhlaa
