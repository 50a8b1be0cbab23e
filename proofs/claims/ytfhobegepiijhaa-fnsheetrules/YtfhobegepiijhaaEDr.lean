/-
  A drawn region in which a reader is read: calls may turn the reader's block, all else is as it was or new.
-/
import Derived.Test.YtfhobegepiijhaaEDa
import Derived.Test.YtfhobegepiijhaaRel
namespace Go.Proofs.Ytfhobegepiijhaa
open Go.RowKit Go.Deep
namespace RY

theorem cnt_set (L : Array Bool) (i : Nat) (h : L.getD i true = false) : (L.setIfInBounds i true).toList.count true = L.toList.count true + 1 := by
  have hi : i < L.size := by
    rcases Nat.lt_or_ge i L.size with q | q
    · exact q
    · have : L.getD i true = true := by simp [Array.getD, Nat.not_lt.2 q]
      rw [this] at h; cases h
  have hv : L.toList[i]'(by simpa using hi) = false := by
    have : L.getD i true = L[i] := by simp [Array.getD, hi]
    rw [this] at h
    simpa using h
  rw [Array.toList_setIfInBounds, List.count_set (by simpa using hi), hv]
  simp
theorem cnt_le (L : Array Bool) : L.toList.count true ≤ L.size := by
  have := List.count_le_length (a := true) (l := L.toList)
  simpa using this
/-- What an operation does: it yields a value, or calls what may read on. -/
def OpF (P : Program) (R : Nat) (v : Value) (len : Nat) (V : Nat → Value → World → Prop) (p : Nat) (i : Nat) (o : Oper) (a : Act) (W : World) : Prop :=
  (∃ u W', (execOp a.eval o).run P W = .ok (.value u) W' ∧ Below W.heap.size W W' ∧ V i u W') ∨
  (∃ f args, (execOp a.eval o).run P W = .ok (.enter f args) W ∧ Calls P f args W fun e W' => ∃ u, e = .returned u ∧ Fr R W W' ∧ (∃ q, q ≤ p + 10 ∧ Rd W' R v len q) ∧ V i u W')
theorem region_fr {P : Program} {id : Nat} {Q : Exit → Act → World → Prop} {a0 : Act} {w : World} {l : List Oper} (R : Nat) (v : Value) (len p0 : Nat) (hr : Rd w R v len p0) (V : Nat → Value → World → Prop) (hVm : ∀ j u W W', Fr R W W' → R < W.heap.size → V j u W → V j u W') (hm : P.follows .mixedOrders = true)
    (hasc : asc .any l.toArray = true) (hap : apartB l = true) (hpl : plainB l a0.tmps.size = true)
    (hop : ∀ (i : Nat) (o : Oper), l[i]? = some o → ∀ (a : Act) (W : World) (p : Nat), Fr R w W → Rd W R v len p → p ≤ p0 + 10 * l.length → (∀ k, noDst l k = true → a.eval (.tmp k) = a0.eval (.tmp k)) →
      (∀ (j : Nat) (o' : Oper) (k : Nat), l[j]? = some o' → o'.dst = some k → (∃ e ∈ o.after, e.on = j ∧ Region.binds .any e = true) → V j (a.eval (.tmp k)) W) → OpF P R v len V p i o a W)
    (hend : ∀ (W : World) (vs : Nat → Value) (p : Nat), Fr R w W → Rd W R v len p → p ≤ p0 + 10 * l.length → (∀ (i : Nat) (o : Oper) (k : Nat), l[i]? = some o → o.dst = some k → V i (vs k) W) → Q .normal (putAll l a0 vs) W) :
    (Code.region id l.toArray true).wp P Q a0 w := by
  have hdr : Below w.heap.size w w.drew := Below.drew (Below.refl _ _)
  refine region_rel (fun L W => L.size = l.length ∧ Fr R w W ∧ ∃ p, p ≤ p0 + 10 * L.toList.count true ∧ Rd W R v len p) V hm hasc hpl ⟨by simp, Fr.of_below hdr hr.own.lt, p0, by omega, hr.later hdr⟩ ?_ ?_
  · intro L a W i o h _ ho hi hall
    have hg := (plain_spec hpl ho).1
    obtain ⟨hsz, hF, p, hp, hR⟩ := h.cw
    have hc1 := cnt_le L
    have hc2 := cnt_set L i hi
    have hsz' : (L.setIfInBounds i true).size = l.length := by simpa using hsz
    rcases hop i o ho a W p hF hR (by omega) (fun k hk => h.keep hk) (fun j o' k hj hk ⟨e, he, hej, hb⟩ => h.new j o' k hj hk (by rw [← hej]; exact hall e he hb)) with ⟨u, W', hr', hb, hV⟩ | ⟨f, args, hr', hk⟩
    · have hF' := Fr.of_below (R := R) hb hR.own.lt
      exact wpOp_value (by simpa using ho) hg hr' (h.step hap hpl ho hi ⟨hsz', hF.trans hF', p, by omega, hR.later hb⟩ (fun j x hx => hVm j x W W' hF' hR.own.lt hx) (fun _ => hV))
    · refine wpOp_enter (by simpa using ho) hg hr' (hk.mono ?_)
      rintro e W' ⟨u, rfl, hF', ⟨q, hq, hRq⟩, hV⟩
      exact ⟨u, rfl, h.step hap hpl ho hi ⟨hsz', hF.trans hF', q, by omega, hRq⟩ (fun j x hx => hVm j x W W' hF' hR.own.lt hx) (fun _ => hV)⟩
  · rintro L W vs _ ⟨hsz, hF, p, hp, hR⟩ hV
    have hc1 := cnt_le L
    exact hend W vs p hF hR (by omega) hV

end RY
end Go.Proofs.Ytfhobegepiijhaa
