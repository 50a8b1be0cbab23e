/-
  The law of StewSea: the row.
-/
import Derived.Test.YtclagbakddkjcaaGreatRows
import Derived.Test.YtclagbakddkjcaaGreatLawSE
import Derived.Test.YtclagbakddkjcaaGreatOpenEv
import Derived.Test.YtclagbakddkjcaaGreatChK
namespace Go.Proofs.YtclagbakddkjcaaGreat
open Go.ChangeShapes Go.WideShapes Go.ChangeAt Go.RowKit Go.Deep

theorem lawStewSea (K : SBk) (E : Ev) (v0 v1 v2 : Value) (w : World) (h : SBkAt w v0 v1 v2 K) (hsz : E.sv.nm.size ≤ maxLen ∧ E.nm.size ≤ maxLen) :
    Calls Tryz.prog 3 #[.agg #[.int .i64 K.now, v0, v1, v2], .agg #[.int .i64 E.kind, .string E.sv.nm, .int .i64 E.sv.ver, .bool E.sv.gone, .int .i64 E.sv.image, .int .i64 E.sv.want, .int .i64 E.sv.down, .int .i64 E.sv.over, .int .i64 E.sv.next, .int .i64 E.sv.per, .int .i64 E.sv.least, .int .i64 E.sv.most, .int .i64 E.sv.load, .int .i64 E.sv.cool, .string E.nm, .int .i64 E.num, .bool E.flag]] w fun e w' => e = .returned (.bool true) ∧ Below w.heap.size w w' :=
  lawSeaO K (stewSeaK K E) (stewSeaC K E) (.int .i64 E.kind) (.string E.sv.nm) (.int .i64 E.sv.ver) (.bool E.sv.gone) (.int .i64 E.sv.image) (.int .i64 E.sv.want) (.int .i64 E.sv.down) (.int .i64 E.sv.over) (.int .i64 E.sv.next) (.int .i64 E.sv.per) (.int .i64 E.sv.least) (.int .i64 E.sv.most) (.int .i64 E.sv.load) (.int .i64 E.sv.cool) (.string E.nm) (.int .i64 E.num) (.bool E.flag) v0 v1 v2 w _ _ rfl rfl h (fun W left h0 h1 => szEv E left W h0 h1 hsz) (fun W => toEv E W)
    (fun W _ _ _ _ hk => stewSeaS K E _ _ _ _ _ _ W hk.v hsz) (fun W _ b0 b1 b2 hk => stewSeaI K E b0 b1 b2 W hk hsz)

set_option maxRecDepth 100000 in
theorem stewSea_lifted (os : Os) (started : os.Started) (H : Type) (enc : TypeId × Value → H) :
    ReturnsInHanded {} Tryz.checked os 3 .any (Rows.fnExactStewSeaSpec.pre6 enc Tryz.prog Tryz.f3 Rows.fnExactStewSeaRow.domain false) (Rows.fnExactStewSeaSpec.post enc Tryz.prog Tryz.f3 false true false false) := by
  refine returnsInHanded_of_change (C := Tryz.checked) ownL started (by kernel_rfl) Tryz.func3
    (ChangeSpec.witness6 (enc := enc) (C := Tryz.checked) false ⟨#[], #[.agg #[.int .i64 0, .slice none 0 0, .slice none 0 0, .slice none 0 0], .agg #[.int .i64 0, .string ByteArray.empty, .int .i64 0, .bool false, .int .i64 0, .int .i64 0, .int .i64 0, .int .i64 0, .int .i64 0, .int .i64 0, .int .i64 0, .int .i64 0, .int .i64 0, .int .i64 0, .string ByteArray.empty, .int .i64 0, .bool false]], []⟩ 8 (by kernel_rfl) (by kernel_rfl) (by kernel_rfl) (by kernel_rfl)) ?_
  intro W base args ds gs before hval0 hW _ _
  have hval : ∀ (j : Nat) t v, Tryz.f3.params[j]? = some t → args[j]? = some v → Value.okWide Tryz.prog W .any base t v := hval0
  have hW' := hW
  obtain ⟨p, q, hA0, hV, rfl, _, _⟩ := hW
  have hA : DataW.TrodAll enc Tryz.prog W 0 (fun _ => true) true Tryz.f3.params.toList args.toList ds p := hA0
  rw [Tryz.params3] at hA hval
  obtain ⟨v0, vs0, d0, ds0, p0, q0, hargs, rfl, rfl, h0, r0⟩ := trodAll_cons hA
  obtain ⟨v1, vs1, d1, ds1, p1, q1, rfl, rfl, rfl, h1, r1⟩ := trodAll_cons r0
  obtain ⟨rfl, rfl, rfl⟩ := trodAll_nil r1
  obtain rfl : args = #[v0, v1] := by cases args; simp_all
  obtain ⟨rfl, rfl⟩ := trodVars_none hV
  have k0 := h0
  have lt0 : ∀ x ∈ p0, x.block < W.heap.size := by obtain ⟨m, hm⟩ := k0; exact DataW.trod_lt m _ _ _ hm
  have k1 := h1
  have lt1 : ∀ x ∈ p1, x.block < W.heap.size := by obtain ⟨m, hm⟩ := k1; exact DataW.trod_lt m _ _ _ hm
  obtain ⟨cs0, rfl, _⟩ := okWide_struct Tryz.underlying26 (hval 0 26 v0 rfl rfl)
  obtain ⟨cs1, rfl, _⟩ := okWide_struct Tryz.underlying30 (hval 1 30 v1 rfl rfl)
  obtain ⟨fuel0, hf0⟩ := h0
  obtain ⟨K0, bv00, bv10, bv20, hcs0, hat0⟩ := open_sbook hf0
  obtain rfl : cs0 = #[.int .i64 K0.now, bv00, bv10, bv20] := by
    cases cs0; simpa [Value.cells] using hcs0
  obtain ⟨fuel1, hf1⟩ := h1
  obtain ⟨E1, hcs1, hsz1⟩ := open_event hf1
  obtain rfl : cs1 = #[.int .i64 E1.kind, .string E1.sv.nm, .int .i64 E1.sv.ver, .bool E1.sv.gone, .int .i64 E1.sv.image, .int .i64 E1.sv.want, .int .i64 E1.sv.down, .int .i64 E1.sv.over, .int .i64 E1.sv.next, .int .i64 E1.sv.per, .int .i64 E1.sv.least, .int .i64 E1.sv.most, .int .i64 E1.sv.load, .int .i64 E1.sv.cool, .string E1.nm, .int .i64 E1.num, .bool E1.flag] := by
    cases cs1; simpa [Value.cells] using hcs1
  clear hA0 hval0
  refine (lawStewSea K0 E1 bv00 bv10 bv20 W hat0 hsz1).mono fun e W' ⟨he, bel⟩ => ?_
  subst he
  exact ⟨_, rfl, _, _, _, [], _, [], hW', trodAll_mk1 (shut_bool Tryz.underlying4 _), (trodAll_cons_mk (Below.trod laidOutL (by kernel_rfl) (of_decide_eq_true (by kernel_rfl)) k0 bel lt0) (trodAll_cons_mk (Below.trod laidOutL (by kernel_rfl) (of_decide_eq_true (by kernel_rfl)) k1 bel lt1) trodAll_mk0)), rfl, bel.frame _, fun h => by cases h⟩

theorem stewSea_holds : Rows.FnExactStewSeaSaid :=
  OpenClaim.holds_of_wide 3 Tryz.f3 rfl rfl rfl rfl rfl rfl rfl ⟨rfl, rfl, rfl, rfl, rfl⟩ rfl rfl rfl rfl rfl (by kernel_rfl) Tryz.func3 (by kernel_rfl)
    (of_decide_eq_true (by kernel_rfl)) (by unfold Func.isWrapper; first | (rw [if_pos (by decide +kernel)]; kernel_rfl) | (rw [if_neg (by decide +kernel)]; exact ⟨rfl, rfl⟩))
    (fun os started H enc _ => stewSea_lifted os started H enc)

end Go.Proofs.YtclagbakddkjcaaGreat
