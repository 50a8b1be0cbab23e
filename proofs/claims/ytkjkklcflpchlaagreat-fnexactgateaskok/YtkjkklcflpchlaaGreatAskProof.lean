/-
  The law of GateAskOk: the row.
-/
import Derived.Test.YtkjkklcflpchlaaGreatAskFacts
import Derived.Test.YtkjkklcflpchlaaGreatLawAk
import Derived.Test.YtkjkklcflpchlaaGreatOpenL
import Derived.Test.YtkjkklcflpchlaaGreatOpenA
namespace Go.Proofs.YtkjkklcflpchlaaGreat
open Go.ChangeShapes Go.WideShapes Go.ChangeAt Go.RowKit Go.Deep

set_option maxRecDepth 100000 in
theorem askOk_lifted (os : Os) (started : os.Started) (H : Type) (enc : TypeId × Value → H) :
    ReturnsInHanded {} Tryz.checked os 3 .any (Rows.fnExactGateAskOkSpec.pre6 enc Tryz.prog Tryz.f3 Rows.fnExactGateAskOkRow.domain false) (Rows.fnExactGateAskOkSpec.post enc Tryz.prog Tryz.f3 false true false false) := by
  refine returnsInHanded_of_change (C := Tryz.checked) ownL started (by kernel_rfl) Tryz.func3
    (ChangeSpec.witness6 (enc := enc) (C := Tryz.checked) false ⟨#[], #[.agg #[.slice none 0 0, .slice none 0 0, .slice none 0 0], .agg #[.string ByteArray.empty, .int .i64 0, .string ByteArray.empty, .string ByteArray.empty, .string ByteArray.empty, .slice none 0 0, .slice none 0 0, .int .i64 0, .string ByteArray.empty, .string ByteArray.empty, .slice none 0 0, .string ByteArray.empty, .string ByteArray.empty, .string ByteArray.empty, .int .i64 0]], []⟩ 8 (by kernel_rfl) (by kernel_rfl) (by kernel_rfl) (by kernel_rfl)) ?_
  intro W base args ds gs before hval0 hW _ _
  have hval : ∀ (j : Nat) t v, Tryz.f3.params[j]? = some t → args[j]? = some v → Value.okWide Tryz.prog W .any base t v := hval0
  have hW' := hW
  obtain ⟨p, q, hA0, hV, rfl, _, _⟩ := hW
  have hA : DataW.TrodAll enc Tryz.prog W 0 (fun _ => true) true Tryz.f3.params.toList args.toList ds p := hA0
  rw [Tryz.params3] at hA hval
  obtain ⟨v0, vs0, d0, ds0, p0, q0, hargs, rfl, rfl, h0, r0⟩ := trodAll_cons hA
  obtain ⟨v1, vs1, d1, ds1, p1, q1, rfl, rfl, rfl, h1, r1⟩ := trodAll_cons r0
  obtain ⟨rfl, rfl, rfl⟩ := trodAll_nil r1
  obtain rfl : args = #[v0, v1] := by cases args; simp_all
  obtain ⟨rfl, rfl⟩ := trodVars_none hV
  have k0 := h0
  have lt0 : ∀ x ∈ p0, x.block < W.heap.size := by obtain ⟨m, hm⟩ := k0; exact DataW.trod_lt m _ _ _ hm
  have k1 := h1
  have lt1 : ∀ x ∈ p1, x.block < W.heap.size := by obtain ⟨m, hm⟩ := k1; exact DataW.trod_lt m _ _ _ hm
  obtain ⟨cs0, rfl, _⟩ := okWide_struct Tryz.underlying26 (hval 0 26 v0 rfl rfl)
  obtain ⟨cs1, rfl, _⟩ := okWide_struct Tryz.underlying32 (hval 1 32 v1 rfl rfl)
  obtain ⟨fuel0, hf0⟩ := h0
  obtain ⟨L0, lv00, lv10, lv20, hcs0, hat0⟩ := open_law hf0
  obtain rfl : cs0 = #[lv00, lv10, lv20] := by
    cases cs0; simpa [Value.cells] using hcs0
  obtain ⟨fuel1, hf1⟩ := h1
  obtain ⟨a1x, v11, v21, ra1, rc1, hcs1, hat1⟩ := open_ask hf1
  obtain rfl : cs1 = #[.string a1x.who, .int .i64 a1x.verb, .string a1x.kind, .string a1x.name, .string a1x.team, v11, v21, .int .i64 a1x.seen, .string a1x.hold, .string a1x.to_, .slice ra1 a1x.rule.verbs.length rc1, .string a1x.rule.kind, .string a1x.rule.team, .string a1x.rule.pre, .int .i64 a1x.number] := by
    cases cs1; simpa [Value.cells] using hcs1
  clear hA0 hval0
  refine (lawAskOk L0 lv00 lv10 lv20 a1x v11 v21 ra1 rc1 W hat0 hat1).mono fun e W' ⟨he, bel⟩ => ?_
  subst he
  exact ⟨_, rfl, _, _, _, [], _, [], hW', trodAll_mk1 (shut_bool Tryz.underlying4 _), (trodAll_cons_mk (Below.trod laidOutL (by kernel_rfl) (of_decide_eq_true (by kernel_rfl)) k0 bel lt0) (trodAll_cons_mk (Below.trod laidOutL (by kernel_rfl) (of_decide_eq_true (by kernel_rfl)) k1 bel lt1) trodAll_mk0)), rfl, bel.frame _, fun h => by cases h⟩

theorem askOk_holds : Rows.FnExactGateAskOkSaid :=
  OpenClaim.holds_of_wide 3 Tryz.f3 rfl rfl rfl rfl rfl rfl rfl ⟨rfl, rfl, rfl, rfl, rfl⟩ rfl rfl rfl rfl rfl askOk_named Tryz.func3 askOk_closed askOk_inst askOk_wrap
    (fun os started H enc _ => askOk_lifted os started H enc)

end Go.Proofs.YtkjkklcflpchlaaGreat
