/-
  The law of SheetFits: the row.
-/
import Derived.ProofKit
import Derived.OpenShut
import Derived.ShutString
import Derived.ChangeOld
import Derived.Test.YthmaeeakmmblkaaRows
import Derived.Test.YthmaeeakmmblkaaLawEf
import Derived.Test.YthmaeeakmmblkaaETo
import Derived.Test.YthmaeeakmmblkaaEFd
import Derived.Test.YthmaeeakmmblkaaEIf
namespace Go.Proofs.Ythmaeeakmmblkaa
open Go.ChangeShapes Go.WideShapes Go.ChangeAt Go.RowKit Go.Deep



set_option maxRecDepth 100000 in
theorem sheetFits_lifted (os : Os) (started : os.Started) (H : Type) (enc : TypeId × Value → H) :
    ReturnsInHanded {} Try.checked os 3 .any (Rows.fnExactSheetFitsSpec.pre6 enc Try.prog Try.f3 Rows.fnExactSheetFitsRow.domain false) (Rows.fnExactSheetFitsSpec.post enc Try.prog Try.f3 false true false false) := by
  refine returnsInHanded_of_change (C := Try.checked) uownL started (by kernel_rfl) Try.func3
    (ChangeSpec.witness6 (enc := enc) (C := Try.checked) false ⟨#[], #[.string ByteArray.empty, .string ByteArray.empty, .slice none 0 0], []⟩ 8 (by kernel_rfl) (by kernel_rfl) (by kernel_rfl) (by kernel_rfl)) ?_
  intro W base args ds gs before hval0 hW _ _
  have hval : ∀ (j : Nat) t v, Try.f3.params[j]? = some t → args[j]? = some v → Value.okWide Try.prog W .any base t v := hval0
  have hW' := hW
  obtain ⟨p, q, hA0, hV, rfl, _, _⟩ := hW
  have hA : DataW.TrodAll enc Try.prog W 0 (fun _ => true) true Try.f3.params.toList args.toList ds p := hA0
  rw [Try.params3] at hA hval
  obtain ⟨v0, vs0, d0, ds0, p0, q0, hargs, rfl, rfl, h0, r0⟩ := trodAll_cons hA
  obtain ⟨v1, vs1, d1, ds1, p1, q1, rfl, rfl, rfl, h1, r1⟩ := trodAll_cons r0
  obtain ⟨v2, vs2, d2, ds2, p2, q2, rfl, rfl, rfl, h2, r2⟩ := trodAll_cons r1
  obtain ⟨rfl, rfl, rfl⟩ := trodAll_nil r2
  obtain rfl : args = #[v0, v1, v2] := by cases args; simp_all
  obtain ⟨rfl, rfl⟩ := trodVars_none hV
  have k0 := h0
  have lt0 : ∀ x ∈ p0, x.block < W.heap.size := by obtain ⟨m, hm⟩ := k0; exact DataW.trod_lt m _ _ _ hm
  have k1 := h1
  have lt1 : ∀ x ∈ p1, x.block < W.heap.size := by obtain ⟨m, hm⟩ := k1; exact DataW.trod_lt m _ _ _ hm
  have k2 := h2
  have lt2 : ∀ x ∈ p2, x.block < W.heap.size := by obtain ⟨m, hm⟩ := k2; exact DataW.trod_lt m _ _ _ hm
  obtain ⟨s0, rfl⟩ := okWide_string Try.underlying9 (hval 0 9 v0 rfl rfl)
  obtain ⟨fuel0, hf0⟩ := h0
  obtain ⟨s0b, es0, _, sz0⟩ := DataW.trod_string Try.underlying9 hf0
  have es0 : s0 = s0b := by simpa [Value.cells] using es0
  subst es0
  obtain ⟨s1, rfl⟩ := okWide_string Try.underlying9 (hval 1 9 v1 rfl rfl)
  obtain ⟨fuel1, hf1⟩ := h1
  obtain ⟨s1b, es1, _, sz1⟩ := DataW.trod_string Try.underlying9 hf1
  have es1 : s1 = s1b := by simpa [Value.cells] using es1
  subst es1
  obtain ⟨fuel2, hf2⟩ := h2
  obtain ⟨va0, len0, vc0, rfl⟩ := okWide_slice Try.under_texts (hval 2 22 v2 rfl rfl)
  obtain ⟨n2, es2, hraw0, hz20⟩ := openStringS hf2
  have hraw1 : Raw W [.row 9 [.s]] [.row n2 es2] [.slice va0 len0 vc0] := by simpa [Value.cells] using hraw0
  obtain ⟨ax, cx, hex⟩ := hraw1.len0
  injection hex with hx1 hx2 hx3
  subst hx2
  obtain ⟨ws0, rfl, hlw⟩ := typTx _ _ (by obtain ⟨_, _, _, e, t, _⟩ := hraw1.typ.c_r; injection e with e1 e2; injection e1 with e3 e4; subst e3; subst e4; exact t)
  subst hlw
  have hraw := hraw1
  have hz2 := hz20
  clear hraw0
  clear hA0 hval0
  refine (lawSheetFits s0 s1 ws0 va0 vc0 (Pl.sheetFits s0 s1 ws0) W hraw hz2 sz0 sz1 (fun v X hr => sheetFitsS s0 s1 ws0 v X hr (szd_tx ws0 hz2)) (fun v X h0 h1 hw hr => sheetFitsI s0 s1 ws0 v X h0 h1 hw hr)).mono fun e W' ⟨he, bel⟩ => ?_
  subst he
  exact ⟨_, rfl, _, _, _, [], _, [], hW', trodAll_mk1 (shut_bool Try.underlying4 _), (trodAll_cons_mk (Below.trod ulaidL (by kernel_rfl) (of_decide_eq_true (by kernel_rfl)) k0 bel lt0) (trodAll_cons_mk (Below.trod ulaidL (by kernel_rfl) (of_decide_eq_true (by kernel_rfl)) k1 bel lt1) (trodAll_cons_mk (Below.trod ulaidL (by kernel_rfl) (of_decide_eq_true (by kernel_rfl)) k2 bel lt2) trodAll_mk0))), rfl, bel.frame _, fun h => by cases h⟩

theorem sheetFits_holds : Rows.FnExactSheetFitsSaid :=
  OpenClaim.holds_of_wide 3 Try.f3 rfl rfl rfl rfl rfl rfl rfl ⟨rfl, rfl, rfl, rfl, rfl⟩ rfl rfl rfl rfl rfl (by kernel_rfl) Try.func3 (by kernel_rfl)
    (of_decide_eq_true (by kernel_rfl)) (by unfold Func.isWrapper; first | (rw [if_pos (by decide +kernel)]; kernel_rfl) | (rw [if_neg (by decide +kernel)]; exact ⟨rfl, rfl⟩))
    (fun os started H enc _ => sheetFits_lifted os started H enc)

end Go.Proofs.Ythmaeeakmmblkaa
