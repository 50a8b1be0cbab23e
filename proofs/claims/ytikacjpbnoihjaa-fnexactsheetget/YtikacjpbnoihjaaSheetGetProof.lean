/-
  The law of SheetGet: the row.
-/
import Derived.Test.YtikacjpbnoihjaaRows
import Derived.Test.YtikacjpbnoihjaaLawEg
import Derived.Test.YtikacjpbnoihjaaESo
import Derived.Test.YtikacjpbnoihjaaESp
import Derived.Test.YtikacjpbnoihjaaEGg
import Derived.Test.YtikacjpbnoihjaaEYg
namespace Go.Proofs.Ytikacjpbnoihjaa
open Go.ChangeShapes Go.WideShapes Go.ChangeAt Go.RowKit Go.Deep


set_option maxRecDepth 100000 in
theorem sheetGet_lifted (os : Os) (started : os.Started) (H : Type) (enc : TypeId × Value → H) :
    ReturnsInHanded {} Try.checked os 3 .any (Rows.fnExactSheetGetSpec.pre6 enc Try.prog Try.f3 Rows.fnExactSheetGetRow.domain false) (Rows.fnExactSheetGetSpec.post enc Try.prog Try.f3 false true false false) := by
  refine returnsInHanded_of_change (C := Try.checked) uownL started (by kernel_rfl) Try.func3
    (ChangeSpec.witness6 (enc := enc) (C := Try.checked) false ⟨#[], #[.agg #[.slice none 0 0], .string ByteArray.empty, .string ByteArray.empty, .string ByteArray.empty], []⟩ 8 (by kernel_rfl) (by kernel_rfl) (by kernel_rfl) (by kernel_rfl)) ?_
  intro W base args ds gs before hval0 hW _ _
  have hval : ∀ (j : Nat) t v, Try.f3.params[j]? = some t → args[j]? = some v → Value.okWide Try.prog W .any base t v := hval0
  have hW' := hW
  obtain ⟨p, q, hA0, hV, rfl, _, _⟩ := hW
  have hA : DataW.TrodAll enc Try.prog W 0 (fun _ => true) true Try.f3.params.toList args.toList ds p := hA0
  rw [Try.params3] at hA hval
  obtain ⟨v0, vs0, d0, ds0, p0, q0, hargs, rfl, rfl, h0, r0⟩ := trodAll_cons hA
  obtain ⟨v1, vs1, d1, ds1, p1, q1, rfl, rfl, rfl, h1, r1⟩ := trodAll_cons r0
  obtain ⟨v2, vs2, d2, ds2, p2, q2, rfl, rfl, rfl, h2, r2⟩ := trodAll_cons r1
  obtain ⟨v3, vs3, d3, ds3, p3, q3, rfl, rfl, rfl, h3, r3⟩ := trodAll_cons r2
  obtain ⟨rfl, rfl, rfl⟩ := trodAll_nil r3
  obtain rfl : args = #[v0, v1, v2, v3] := by cases args; simp_all
  obtain ⟨rfl, rfl⟩ := trodVars_none hV
  have k0 := h0
  have lt0 : ∀ x ∈ p0, x.block < W.heap.size := by obtain ⟨m, hm⟩ := k0; exact DataW.trod_lt m _ _ _ hm
  have k1 := h1
  have lt1 : ∀ x ∈ p1, x.block < W.heap.size := by obtain ⟨m, hm⟩ := k1; exact DataW.trod_lt m _ _ _ hm
  have k2 := h2
  have lt2 : ∀ x ∈ p2, x.block < W.heap.size := by obtain ⟨m, hm⟩ := k2; exact DataW.trod_lt m _ _ _ hm
  have k3 := h3
  have lt3 : ∀ x ∈ p3, x.block < W.heap.size := by obtain ⟨m, hm⟩ := k3; exact DataW.trod_lt m _ _ _ hm
  obtain ⟨cs0, rfl, _⟩ := okWide_struct Try.underlying24 (hval 0 24 v0 rfl rfl)
  obtain ⟨l0, rfl⟩ : ∃ l : List Value, cs0 = l.toArray := ⟨cs0.toList, by simp⟩
  obtain ⟨s1, rfl⟩ := okWide_string Try.underlying9 (hval 1 9 v1 rfl rfl)
  obtain ⟨fuel1, hf1⟩ := h1
  obtain ⟨s1b, es1, _, sz1⟩ := DataW.trod_string Try.underlying9 hf1
  have es1 : s1 = s1b := by simpa [Value.cells] using es1
  subst es1
  obtain ⟨s2, rfl⟩ := okWide_string Try.underlying9 (hval 2 9 v2 rfl rfl)
  obtain ⟨fuel2, hf2⟩ := h2
  obtain ⟨s2b, es2, _, sz2⟩ := DataW.trod_string Try.underlying9 hf2
  have es2 : s2 = s2b := by simpa [Value.cells] using es2
  subst es2
  obtain ⟨s3, rfl⟩ := okWide_string Try.underlying9 (hval 3 9 v3 rfl rfl)
  obtain ⟨fuel3, hf3⟩ := h3
  obtain ⟨s3b, es3, _, sz3⟩ := DataW.trod_string Try.underlying9 hf3
  have es3 : s3 = s3b := by simpa [Value.cells] using es3
  subst es3
  obtain ⟨fuel0, hf0⟩ := h0
  obtain ⟨ds0, hraw0, hz0⟩ := openSheet hf0
  have hraw : Raw W shSheet ds0 l0 := by simpa [Value.cells] using hraw0
  clear hA0 hval0 hraw0
  obtain ⟨K, rfl⟩ := dSheet _ hraw.typ
  have HOT := szd_sheet K hz0
  have hty := hraw.typ
  refine (lawSheetGet [blsD K] l0 s1 s2 s3 (Pl.getOut K s1 s2 s3).1.length ((Pl.getOut K s1 s2 s3).1.flatMap lnD) (Pl.getOut K s1 s2 s3).2 W hraw hz0 sz1 sz2 sz3 (fun hw h1 h2 h3 c F X hr => by obtain ⟨v, rfl, hv⟩ := rawSheet hr.raw; rw [wt_sheet] at hw; exact sheetGetS K v s1 s2 s3 X hv HOT (sheet_small K hw)) (fun hw h1 h2 h3 c F X hr => by obtain ⟨v, rfl, hv⟩ := rawSheet hr.raw; rw [wt_sheet] at hw; exact sheetGetI K v s1 s2 s3 X hv HOT hw h1 h2 h3) (fun hw _ _ _ => by rw [wt_sheet] at hw; exact get_cnt K s1 s2 s3 hw) (fun hw _ _ _ => sheet_cnt hty hw)).mono fun e W' ⟨he, bel⟩ => ?_
  subst he
  exact ⟨_, rfl, _, _, _, [], _, [], hW', trodAll_mk1 (shut_bool Try.underlying4 _), (trodAll_cons_mk (Below.trod ulaidL (by kernel_rfl) (of_decide_eq_true (by kernel_rfl)) k0 bel lt0) (trodAll_cons_mk (Below.trod ulaidL (by kernel_rfl) (of_decide_eq_true (by kernel_rfl)) k1 bel lt1) (trodAll_cons_mk (Below.trod ulaidL (by kernel_rfl) (of_decide_eq_true (by kernel_rfl)) k2 bel lt2) (trodAll_cons_mk (Below.trod ulaidL (by kernel_rfl) (of_decide_eq_true (by kernel_rfl)) k3 bel lt3) trodAll_mk0)))), rfl, bel.frame _, fun h => by cases h⟩

theorem sheetGet_holds : Rows.FnExactSheetGetSaid :=
  OpenClaim.holds_of_wide 3 Try.f3 rfl rfl rfl rfl rfl rfl rfl ⟨rfl, rfl, rfl, rfl, rfl⟩ rfl rfl rfl rfl rfl (by kernel_rfl) Try.func3 (by kernel_rfl)
    (of_decide_eq_true (by kernel_rfl)) (by unfold Func.isWrapper; first | (rw [if_pos (by decide +kernel)]; kernel_rfl) | (rw [if_neg (by decide +kernel)]; exact ⟨rfl, rfl⟩))
    (fun os started H enc _ => sheetGet_lifted os started H enc)

end Go.Proofs.Ytikacjpbnoihjaa
