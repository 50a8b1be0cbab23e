/-
  The law of RecWish: the row.
-/
import Derived.Test.YtcnhoghepkbpaaaGreatRows
import Derived.Test.YtcnhoghepkbpaaaGreatLawRW
import Derived.Test.YtcnhoghepkbpaaaGreatKOp
import Derived.Test.YtcnhoghepkbpaaaGreatKWt
import Derived.Test.YtcnhoghepkbpaaaGreatKWj
namespace Go.Proofs.YtcnhoghepkbpaaaGreat
open Go.ChangeShapes Go.WideShapes Go.ChangeAt Go.RowKit Go.Deep


theorem cnt_ans {K : Rr} (t : Typ shRecorder (eRr K)) (hw : wtL (eRr K) ≤ 1048576) (x : Tx) : cntT (eRr (ansW K x)) ≤ 1000000000 := by
  have h1 := cntT_le (eRr (ansW K x))
  have h2 : cntL (eRr K) ≤ 18 + 32 * wtL (eRr K) := cnt_wt t shB_rec
  have h3 : cntL (eRr (wishK K x)) ≤ cntL (eRr K) + 1 := by
    unfold wishK
    split
    · simp only [eRr, eRd, cntL, cntL_app, List.flatMap_append, List.length_append, List.length_cons, List.length_nil, List.flatMap_cons, List.flatMap_nil, eTx]
      omega
    · omega
  have h4 : cntL (eRr Rr.zero) ≤ 1000 := by simp [eRr, eRd, Rr.zero, cntL]
  have h5 : cntL (eRr (ansW K x)) ≤ cntL (eRr K) + 1000 := by
    unfold ansW
    split
    · split <;> omega
    · omega
  omega
set_option maxRecDepth 100000 in
theorem recWish_lifted (os : Os) (started : os.Started) (H : Type) (enc : TypeId × Value → H) :
    ReturnsInHanded {} Tryz.checked os 3 .any (Rows.fnExactRecWishSpec.pre6 enc Tryz.prog Tryz.f3 Rows.fnExactRecWishRow.domain false) (Rows.fnExactRecWishSpec.post enc Tryz.prog Tryz.f3 false true false false) := by
  refine returnsInHanded_of_change (C := Tryz.checked) uownL started (by kernel_rfl) Tryz.func3
    (ChangeSpec.witness6 (enc := enc) (C := Tryz.checked) false ⟨#[], #[.agg #[.int .i64 0, .int .i64 0, .bool false, .int .i64 0, .int .i64 0, .slice none 0 0, .int .i64 0, .int .i64 0, .slice none 0 0, .slice none 0 0, .slice none 0 0, .bool false, .bool false, .int .i64 0, .slice none 0 0, .slice none 0 0, .slice none 0 0, .int .i64 0], .string ByteArray.empty], []⟩ 8 (by kernel_rfl) (by kernel_rfl) (by kernel_rfl) (by kernel_rfl)) ?_
  intro W base args ds gs before hval0 hW _ _
  have hval : ∀ (j : Nat) t v, Tryz.f3.params[j]? = some t → args[j]? = some v → Value.okWide Tryz.prog W .any base t v := hval0
  have hW' := hW
  obtain ⟨p, q, hA0, hV, rfl, _, _⟩ := hW
  have hA : DataW.TrodAll enc Tryz.prog W 0 (fun _ => true) true Tryz.f3.params.toList args.toList ds p := hA0
  rw [Tryz.params3] at hA hval
  obtain ⟨v0, vs0, d0, ds0, p0, q0, hargs, rfl, rfl, h0, r0⟩ := trodAll_cons hA
  obtain ⟨v1, vs1, d1, ds1, p1, q1, rfl, rfl, rfl, h1, r1⟩ := trodAll_cons r0
  obtain ⟨rfl, rfl, rfl⟩ := trodAll_nil r1
  obtain rfl : args = #[v0, v1] := by cases args; simp_all
  obtain ⟨rfl, rfl⟩ := trodVars_none hV
  have k0 := h0
  have lt0 : ∀ x ∈ p0, x.block < W.heap.size := by obtain ⟨m, hm⟩ := k0; exact DataW.trod_lt m _ _ _ hm
  have k1 := h1
  have lt1 : ∀ x ∈ p1, x.block < W.heap.size := by obtain ⟨m, hm⟩ := k1; exact DataW.trod_lt m _ _ _ hm
  obtain ⟨cs0, rfl, _⟩ := okWide_struct Tryz.underlying30 (hval 0 30 v0 rfl rfl)
  obtain ⟨l0, rfl⟩ : ∃ l : List Value, cs0 = l.toArray := ⟨cs0.toList, by simp⟩
  obtain ⟨s1, rfl⟩ := okWide_string Tryz.underlying9 (hval 1 9 v1 rfl rfl)
  obtain ⟨fuel1, hf1⟩ := h1
  obtain ⟨s1b, es1, _, sz1⟩ := DataW.trod_string Tryz.underlying9 hf1
  have es1 : s1 = s1b := by simpa [Value.cells] using es1
  subst es1
  obtain ⟨fuel0, hf0⟩ := h0
  obtain ⟨ds0, hraw0, hz0⟩ := openRecorder hf0
  have hraw : Raw W shRecorder ds0 l0 := by simpa [Value.cells] using hraw0
  clear hA0 hval0 hraw0
  obtain ⟨K, rfl⟩ := dRr _ hraw.typ
  have hty := hraw.typ
  refine (lawRecWish (eRr K) l0 s1 (eRr (ansW K s1)) W hraw hz0 sz1 (fun hw ht c F X hr => recWishS K s1 c X hr.raw hw ht) (fun hw ht c F X hr => recWishI K s1 c X hr.raw hw ht) (fun hw _ => cnt_ans hty hw s1) (fun hw _ => cnt_rr hty hw)).mono fun e W' ⟨he, bel⟩ => ?_
  subst he
  exact ⟨_, rfl, _, _, _, [], _, [], hW', trodAll_mk1 (shut_bool Tryz.underlying4 _), (trodAll_cons_mk (Below.trod ulaidL (by kernel_rfl) (of_decide_eq_true (by kernel_rfl)) k0 bel lt0) (trodAll_cons_mk (Below.trod ulaidL (by kernel_rfl) (of_decide_eq_true (by kernel_rfl)) k1 bel lt1) trodAll_mk0)), rfl, bel.frame _, fun h => by cases h⟩

theorem recWish_holds : Rows.FnExactRecWishSaid :=
  OpenClaim.holds_of_wide 3 Tryz.f3 rfl rfl rfl rfl rfl rfl rfl ⟨rfl, rfl, rfl, rfl, rfl⟩ rfl rfl rfl rfl rfl (by kernel_rfl) Tryz.func3 (by kernel_rfl)
    (of_decide_eq_true (by kernel_rfl)) (by unfold Func.isWrapper; first | (rw [if_pos (by decide +kernel)]; kernel_rfl) | (rw [if_neg (by decide +kernel)]; exact ⟨rfl, rfl⟩))
    (fun os started H enc _ => recWish_lifted os started H enc)

end Go.Proofs.YtcnhoghepkbpaaaGreat
