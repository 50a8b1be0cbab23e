/-
  The law of GateSlipOk: the row.
-/
import Derived.Test.YtkjkklcflpchlaaGreatSlipFacts
import Derived.Test.YtkjkklcflpchlaaGreatLawSl
import Derived.Test.YtkjkklcflpchlaaGreatOpenL
import Derived.Test.YtkjkklcflpchlaaGreatOpenSl
namespace Go.Proofs.YtkjkklcflpchlaaGreat
open Go.ChangeShapes Go.WideShapes Go.ChangeAt Go.RowKit Go.Deep

set_option maxRecDepth 100000 in
theorem slipOk_lifted (os : Os) (started : os.Started) (H : Type) (enc : TypeId × Value → H) :
    ReturnsInHanded {} Tryz.checked os 4 .any (Rows.fnExactGateSlipOkSpec.pre6 enc Tryz.prog Tryz.f4 Rows.fnExactGateSlipOkRow.domain false) (Rows.fnExactGateSlipOkSpec.post enc Tryz.prog Tryz.f4 false true false false) := by
  refine returnsInHanded_of_change (C := Tryz.checked) ownL started (by kernel_rfl) Tryz.func4
    (ChangeSpec.witness6 (enc := enc) (C := Tryz.checked) false ⟨#[], #[.agg #[.slice none 0 0, .slice none 0 0, .slice none 0 0], .agg #[.string ByteArray.empty, .string ByteArray.empty, .int .i64 0, .string ByteArray.empty, .string ByteArray.empty, .string ByteArray.empty, .slice none 0 0, .slice none 0 0, .int .i64 0, .string ByteArray.empty, .string ByteArray.empty, .slice none 0 0, .string ByteArray.empty, .string ByteArray.empty, .string ByteArray.empty, .int .i64 0, .int .i64 0, .slice none 0 0]], []⟩ 8 (by kernel_rfl) (by kernel_rfl) (by kernel_rfl) (by kernel_rfl)) ?_
  intro W base args ds gs before hval0 hW _ _
  have hval : ∀ (j : Nat) t v, Tryz.f4.params[j]? = some t → args[j]? = some v → Value.okWide Tryz.prog W .any base t v := hval0
  have hW' := hW
  obtain ⟨p, q, hA0, hV, rfl, _, _⟩ := hW
  have hA : DataW.TrodAll enc Tryz.prog W 0 (fun _ => true) true Tryz.f4.params.toList args.toList ds p := hA0
  rw [Tryz.params4] at hA hval
  obtain ⟨v0, vs0, d0, ds0, p0, q0, hargs, rfl, rfl, h0, r0⟩ := trodAll_cons hA
  obtain ⟨v1, vs1, d1, ds1, p1, q1, rfl, rfl, rfl, h1, r1⟩ := trodAll_cons r0
  obtain ⟨rfl, rfl, rfl⟩ := trodAll_nil r1
  obtain rfl : args = #[v0, v1] := by cases args; simp_all
  obtain ⟨rfl, rfl⟩ := trodVars_none hV
  have k0 := h0
  have lt0 : ∀ x ∈ p0, x.block < W.heap.size := by obtain ⟨m, hm⟩ := k0; exact DataW.trod_lt m _ _ _ hm
  have k1 := h1
  have lt1 : ∀ x ∈ p1, x.block < W.heap.size := by obtain ⟨m, hm⟩ := k1; exact DataW.trod_lt m _ _ _ hm
  obtain ⟨cs0, rfl, _⟩ := okWide_struct Tryz.underlying26 (hval 0 26 v0 rfl rfl)
  obtain ⟨cs1, rfl, _⟩ := okWide_struct Tryz.underlying51 (hval 1 51 v1 rfl rfl)
  obtain ⟨fuel0, hf0⟩ := h0
  obtain ⟨L0, lv00, lv10, lv20, hcs0, hat0⟩ := open_law hf0
  obtain rfl : cs0 = #[lv00, lv10, lv20] := by
    cases cs0; simpa [Value.cells] using hcs0
  obtain ⟨fuel1, hf1⟩ := h1
  obtain ⟨s1x, v11, v21, ra1, rc1, wv1, hcs1, hat1⟩ := open_slip hf1
  obtain rfl : cs1 = #[.string s1x.door, .string s1x.ask.who, .int .i64 s1x.ask.verb, .string s1x.ask.kind, .string s1x.ask.name, .string s1x.ask.team, v11, v21, .int .i64 s1x.ask.seen, .string s1x.ask.hold, .string s1x.ask.to_, .slice ra1 s1x.ask.rule.verbs.length rc1, .string s1x.ask.rule.kind, .string s1x.ask.rule.team, .string s1x.ask.rule.pre, .int .i64 s1x.ask.number, .int .i64 s1x.given, wv1] := by
    cases cs1; simpa [Value.cells] using hcs1
  clear hA0 hval0
  refine (lawSlipOk L0 lv00 lv10 lv20 s1x v11 v21 ra1 rc1 wv1 W hat0 hat1).mono fun e W' ⟨he, bel⟩ => ?_
  subst he
  exact ⟨_, rfl, _, _, _, [], _, [], hW', trodAll_mk1 (shut_bool Tryz.underlying4 _), (trodAll_cons_mk (Below.trod laidOutL (by kernel_rfl) (of_decide_eq_true (by kernel_rfl)) k0 bel lt0) (trodAll_cons_mk (Below.trod laidOutL (by kernel_rfl) (of_decide_eq_true (by kernel_rfl)) k1 bel lt1) trodAll_mk0)), rfl, bel.frame _, fun h => by cases h⟩

theorem slipOk_holds : Rows.FnExactGateSlipOkSaid :=
  OpenClaim.holds_of_wide 4 Tryz.f4 rfl rfl rfl rfl rfl rfl rfl ⟨rfl, rfl, rfl, rfl, rfl⟩ rfl rfl rfl rfl rfl slipOk_named Tryz.func4 slipOk_closed slipOk_inst slipOk_wrap
    (fun os started H enc _ => slipOk_lifted os started H enc)

end Go.Proofs.YtkjkklcflpchlaaGreat
