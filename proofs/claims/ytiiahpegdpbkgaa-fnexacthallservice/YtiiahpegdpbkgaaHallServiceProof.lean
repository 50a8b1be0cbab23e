/-
  The law of HallService: the row.
-/
import Derived.Test.YtiiahpegdpbkgaaRows
import Derived.Test.YtiiahpegdpbkgaaLawHV
import Derived.Test.YtiiahpegdpbkgaaOOp
import Derived.Test.YtiiahpegdpbkgaaHVs
import Derived.Test.YtiiahpegdpbkgaaHVi
namespace Go.Proofs.Ytiiahpegdpbkgaa
open Go.ChangeShapes Go.WideShapes Go.ChangeAt Go.RowKit Go.Deep


theorem getD_memT {l : List ByteArray} {i : Nat} (h : i < l.length) : l.getD i ByteArray.empty ∈ l := by
  have : l.getD i ByteArray.empty = l[i] := by simp [h]
  rw [this]; exact List.getElem_mem h
/-- A list of texts as the laws' copies are. -/
theorem rep_atT {W : World} {F : List Nat} {l : List ByteArray} {v : Value} (h : Rep W true [.row 9 [.s]] F [.row l.length (l.flatMap eTx)] [v]) :
    ∃ p, v = .slice (some ⟨p, 0, none⟩) l.length l.length ∧ p < W.heap.size ∧ l.length ≤ maxLen ∧ ∀ i, i < l.length → W.cell? ⟨p, i, none⟩ = some (.string (l.getD i ByteArray.empty)) := by
  rcases h.slice with ⟨h0, _⟩ | ⟨p, o, c, u, m, G, rfl, rfl, hn, ho, hm, htt, vs, hr, hR⟩
  · cases h0
  · obtain ⟨rfl, rfl, rfl, rfl⟩ := htt rfl
    refine ⟨p, rfl, ho.lt, hn.1, fun i hi => ?_⟩
    obtain ⟨ve, hE, hg⟩ := hR.raw.el hi hr
    rw [show [Sh.s].length = 1 from rfl, el_flat ByteArray.empty eTx 1 (fun _ => rfl) l i hi] at hE
    obtain ⟨x, rfl, hx⟩ := hE.c_s
    have := rA_get hg 0 _ rfl
    simpa using this
set_option maxRecDepth 100000 in
theorem hallService_lifted (os : Os) (started : os.Started) (H : Type) (enc : TypeId × Value → H) :
    ReturnsInHanded {} Try.checked os 3 .any (Rows.fnExactHallServiceSpec.pre6 enc Try.prog Try.f3 Rows.fnExactHallServiceRow.domain false) (Rows.fnExactHallServiceSpec.post enc Try.prog Try.f3 false true false false) := by
  refine returnsInHanded_of_change (C := Try.checked) uownL started (by kernel_rfl) Try.func3
    (ChangeSpec.witness6 (enc := enc) (C := Try.checked) false ⟨#[], #[.agg #[.string ByteArray.empty, .string ByteArray.empty, .string ByteArray.empty, .slice none 0 0, .bool false, .slice none 0 0, .int .i64 0], .agg #[.string ByteArray.empty, .int .i64 0, .bool false, .int .i64 0, .int .i64 0, .int .i64 0, .int .i64 0, .int .i64 0, .int .i64 0, .int .i64 0, .int .i64 0, .int .i64 0, .int .i64 0]], []⟩ 8 (by kernel_rfl) (by kernel_rfl) (by kernel_rfl) (by kernel_rfl)) ?_
  intro W base args ds gs before hval0 hW _ _
  have hval : ∀ (j : Nat) t v, Try.f3.params[j]? = some t → args[j]? = some v → Value.okWide Try.prog W .any base t v := hval0
  have hW' := hW
  obtain ⟨p, q, hA0, hV, rfl, _, _⟩ := hW
  have hA : DataW.TrodAll enc Try.prog W 0 (fun _ => true) true Try.f3.params.toList args.toList ds p := hA0
  rw [Try.params3] at hA hval
  obtain ⟨v0, vs0, d0, ds0, p0, q0, hargs, rfl, rfl, h0, r0⟩ := trodAll_cons hA
  obtain ⟨v1, vs1, d1, ds1, p1, q1, rfl, rfl, rfl, h1, r1⟩ := trodAll_cons r0
  obtain ⟨rfl, rfl, rfl⟩ := trodAll_nil r1
  obtain rfl : args = #[v0, v1] := by cases args; simp_all
  obtain ⟨rfl, rfl⟩ := trodVars_none hV
  have k0 := h0
  have lt0 : ∀ x ∈ p0, x.block < W.heap.size := by obtain ⟨m, hm⟩ := k0; exact DataW.trod_lt m _ _ _ hm
  have k1 := h1
  have lt1 : ∀ x ∈ p1, x.block < W.heap.size := by obtain ⟨m, hm⟩ := k1; exact DataW.trod_lt m _ _ _ hm
  obtain ⟨cs0, rfl, _⟩ := okWide_struct Try.underlying24 (hval 0 24 v0 rfl rfl)
  obtain ⟨l0, rfl⟩ : ∃ l : List Value, cs0 = l.toArray := ⟨cs0.toList, by simp⟩
  obtain ⟨cs1, rfl, _⟩ := okWide_struct Try.underlying26 (hval 1 26 v1 rfl rfl)
  obtain ⟨l1, rfl⟩ : ∃ l : List Value, cs1 = l.toArray := ⟨cs1.toList, by simp⟩
  obtain ⟨fuel0, hf0⟩ := h0
  obtain ⟨dd0, hrr0, hz0⟩ := openGateObject hf0
  have hraw0 : Raw W shGateObject dd0 l0 := by simpa [Value.cells] using hrr0
  obtain ⟨fuel1, hf1⟩ := h1
  obtain ⟨dd1, hrr1, hz1⟩ := openStewService hf1
  have hraw1 : Raw W shStewService dd1 l1 := by simpa [Value.cells] using hrr1
  clear hA0 hval0 hrr0 hrr1
  obtain ⟨kd, nm, tm, n3, e3, en, n5, e5, ver, rfl, t3, t5⟩ := typGateObject hraw0.typ
  obtain ⟨l, rfl, rfl⟩ := typ_rows eTx dTx t3
  obtain ⟨b0, b1, b2, b3, b4, b5, b6, b7, b8, b9, b10, b11, b12, rfl⟩ := typStewService hraw1.typ
  refine (lawHallService _ _ l0 l1 (svD nm en l b4 b11) W hraw0 hraw1 hz0 hz1 (fun hw c d F G X hr hq => by
      obtain ⟨F3, v3, F5, v5, _, rfl, r3, r5⟩ := repGateObject hr
      obtain ⟨_, rfl⟩ := repStewService hq
      obtain ⟨p, rfl, hp, hm, hall⟩ := rep_atT r3
      exact hallServiceS kd nm tm l en v5 ver _ b4 b11 p X rfl rfl rfl hp (fun i hi => (hall i hi)) (fun i hi => by
        have h1 := wt_mem eTx l _ (getD_memT hi)
        simp only [eTx, wtL] at h1 hw
        unfold maxLen; omega)) (fun hw c d F G X hr hq => by
      obtain ⟨F3, v3, F5, v5, _, rfl, r3, r5⟩ := repGateObject hr
      obtain ⟨_, rfl⟩ := repStewService hq
      obtain ⟨p, rfl, hp, hm, hall⟩ := rep_atT r3
      exact hallServiceI kd nm tm l en v5 ver _ b4 b11 p X rfl rfl rfl hp (fun i hi => (hall i hi)) (fun i hi => by
        have h1 := wt_mem eTx l _ (getD_memT hi)
        simp only [eTx, wtL] at h1 hw
        unfold maxLen; omega))).mono fun e W' ⟨he, bel⟩ => ?_
  subst he
  exact ⟨_, rfl, _, _, _, [], _, [], hW', trodAll_mk1 (shut_bool Try.underlying4 _), (trodAll_cons_mk (Below.trod ulaidL (by kernel_rfl) (of_decide_eq_true (by kernel_rfl)) k0 bel lt0) (trodAll_cons_mk (Below.trod ulaidL (by kernel_rfl) (of_decide_eq_true (by kernel_rfl)) k1 bel lt1) trodAll_mk0)), rfl, bel.frame _, fun h => by cases h⟩

theorem hallService_holds : Rows.FnExactHallServiceSaid :=
  OpenClaim.holds_of_wide 3 Try.f3 rfl rfl rfl rfl rfl rfl rfl ⟨rfl, rfl, rfl, rfl, rfl⟩ rfl rfl rfl rfl rfl (by kernel_rfl) Try.func3 (by kernel_rfl)
    (of_decide_eq_true (by kernel_rfl)) (by unfold Func.isWrapper; first | (rw [if_pos (by decide +kernel)]; kernel_rfl) | (rw [if_neg (by decide +kernel)]; exact ⟨rfl, rfl⟩))
    (fun os started H enc _ => hallService_lifted os started H enc)

end Go.Proofs.Ytiiahpegdpbkgaa
