/-
  The law of RecValid: the row.
-/
import Derived.Test.YtejhknclhdbgfaaRows
import Derived.Test.YtejhknclhdbgfaaLawRV
import Derived.Test.YtejhknclhdbgfaaOpenRr
import Derived.Test.YtejhknclhdbgfaaRvI
namespace Go.Proofs.Ytejhknclhdbgfaa
open Go.ChangeShapes Go.WideShapes Go.ChangeAt Go.RowKit Go.Deep

set_option maxRecDepth 100000 in
theorem recValid_lifted (os : Os) (started : os.Started) (H : Type) (enc : TypeId × Value → H) :
    ReturnsInHanded {} Try.checked os 6 .any (Rows.fnExactRecValidSpec.pre6 enc Try.prog Try.f6 Rows.fnExactRecValidRow.domain false) (Rows.fnExactRecValidSpec.post enc Try.prog Try.f6 false true false false) := by
  refine returnsInHanded_of_change (C := Try.checked) ownL started (by kernel_rfl) Try.func6
    (ChangeSpec.witness6 (enc := enc) (C := Try.checked) false ⟨#[], #[.agg #[.int .i64 0, .int .i64 0, .bool false, .int .i64 0, .int .i64 0, .slice none 0 0, .int .i64 0, .int .i64 0, .slice none 0 0, .slice none 0 0, .slice none 0 0, .bool false, .bool false, .int .i64 0, .slice none 0 0, .slice none 0 0, .slice none 0 0, .int .i64 0]], []⟩ 8 (by kernel_rfl) (by kernel_rfl) (by kernel_rfl) (by kernel_rfl)) ?_
  intro W base args ds gs before hval0 hW _ _
  have hval : ∀ (j : Nat) t v, Try.f6.params[j]? = some t → args[j]? = some v → Value.okWide Try.prog W .any base t v := hval0
  have hW' := hW
  obtain ⟨p, q, hA0, hV, rfl, _, _⟩ := hW
  have hA : DataW.TrodAll enc Try.prog W 0 (fun _ => true) true Try.f6.params.toList args.toList ds p := hA0
  rw [Try.params6] at hA hval
  obtain ⟨v0, vs0, d0, ds0, p0, q0, hargs, rfl, rfl, h0, r0⟩ := trodAll_cons hA
  obtain ⟨rfl, rfl, rfl⟩ := trodAll_nil r0
  obtain rfl : args = #[v0] := by cases args; simp_all
  obtain ⟨rfl, rfl⟩ := trodVars_none hV
  have k0 := h0
  have lt0 : ∀ x ∈ p0, x.block < W.heap.size := by obtain ⟨m, hm⟩ := k0; exact DataW.trod_lt m _ _ _ hm
  obtain ⟨cs0, rfl, _⟩ := okWide_struct Try.underlying52 (hval 0 52 v0 rfl rfl)
  obtain ⟨fuel0, hf0⟩ := h0
  obtain ⟨K0, bv00, bv10, bv20, bv30, bv40, bv50, bv60, hcs0, hat0⟩ := open_rec hf0
  obtain rfl : cs0 = #[.int .i64 K0.num, .int .i64 K0.of_, .bool K0.up, .int .i64 K0.safe.prom, .int .i64 K0.safe.known, bv00, .int .i64 K0.disk.prom, .int .i64 K0.disk.known, bv10, bv20, bv30, .bool K0.lead, .bool K0.try_, .int .i64 K0.bal, bv40, bv50, bv60, .int .i64 K0.heard] := by
    cases cs0; simpa [Value.cells] using hcs0
  clear hA0 hval0
  refine (lawRecValid K0 bv00 bv10 bv20 bv30 bv40 bv50 bv60 W hat0 (fun X b0 b1 b2 b3 b4 b5 b6 hk => recValidI K0 b0 b1 b2 b3 b4 b5 b6 X hk)).mono fun e W' ⟨he, bel⟩ => ?_
  subst he
  exact ⟨_, rfl, _, _, _, [], _, [], hW', trodAll_mk1 (shut_bool Try.underlying4 _), (trodAll_cons_mk (Below.trod laidOutL (by kernel_rfl) (of_decide_eq_true (by kernel_rfl)) k0 bel lt0) trodAll_mk0), rfl, bel.frame _, fun h => by cases h⟩

theorem recValid_holds : Rows.FnExactRecValidSaid :=
  OpenClaim.holds_of_wide 6 Try.f6 rfl rfl rfl rfl rfl rfl rfl ⟨rfl, rfl, rfl, rfl, rfl⟩ rfl rfl rfl rfl rfl (by kernel_rfl) Try.func6 (by kernel_rfl)
    (of_decide_eq_true (by kernel_rfl)) (by unfold Func.isWrapper; first | (rw [if_pos (by decide +kernel)]; kernel_rfl) | (rw [if_neg (by decide +kernel)]; exact ⟨rfl, rfl⟩))
    (fun os started H enc _ => recValid_lifted os started H enc)

end Go.Proofs.Ytejhknclhdbgfaa
