/-
  The law of RecValid.
-/
import Derived.Test.YtejhknclhdbgfaaLawRO
import Derived.Test.YtejhknclhdbgfaaRvC
namespace Go.Proofs.Ytejhknclhdbgfaa
open Go.RowKit Go.Deep

theorem lawRecValid (K : Rr) (v0 v1 v2 v3 v4 v5 v6 : Value) (w : World) (h : RrAt w v0 v1 v2 v3 v4 v5 v6 K)
    (hI : ∀ W b0 b1 b2 b3 b4 b5 b6, RrIn W b0 b1 b2 b3 b4 b5 b6 K → Calls Try.prog 28 #[.agg #[.int .i64 K.num, .int .i64 K.of_, .bool K.up, .int .i64 K.safe.prom, .int .i64 K.safe.known, .slice (some ⟨b0, 0, none⟩) K.safe.slots.length K.safe.slots.length, .int .i64 K.disk.prom, .int .i64 K.disk.known, .slice (some ⟨b1, 0, none⟩) K.disk.slots.length K.disk.slots.length, .slice (some ⟨b2, 0, none⟩) K.held.length K.held.length, .slice (some ⟨b3, 0, none⟩) K.wish.length K.wish.length, .bool K.lead, .bool K.try_, .int .i64 K.bal, .slice (some ⟨b4, 0, none⟩) K.yes.length K.yes.length, .slice (some ⟨b5, 0, none⟩) K.best.length K.best.length, .slice (some ⟨b6, 0, none⟩) K.acks.length K.acks.length, .int .i64 K.heard]] W fun e w' => e = .returned (.bool (recOk K)) ∧ Below W.heap.size W w') :
    Calls Try.prog 6 #[.agg #[.int .i64 K.num, .int .i64 K.of_, .bool K.up, .int .i64 K.safe.prom, .int .i64 K.safe.known, v0, .int .i64 K.disk.prom, .int .i64 K.disk.known, v1, v2, v3, .bool K.lead, .bool K.try_, .int .i64 K.bal, v4, v5, v6, .int .i64 K.heard]] w fun e w' => e = .returned (.bool true) ∧ Below w.heap.size w w' := by
  refine lawRecO _ _ _ _ _ _ _ _ _ _ _ _ _ _ _ _ _ _ w (recOk K) K.small (fun W d => ∃ b0 b1 b2 b3 b4 b5 b6, d = #[.int .i64 K.num, .int .i64 K.of_, .bool K.up, .int .i64 K.safe.prom, .int .i64 K.safe.known, .slice (some ⟨b0, 0, none⟩) K.safe.slots.length K.safe.slots.length, .int .i64 K.disk.prom, .int .i64 K.disk.known, .slice (some ⟨b1, 0, none⟩) K.disk.slots.length K.disk.slots.length, .slice (some ⟨b2, 0, none⟩) K.held.length K.held.length, .slice (some ⟨b3, 0, none⟩) K.wish.length K.wish.length, .bool K.lead, .bool K.try_, .int .i64 K.bal, .slice (some ⟨b4, 0, none⟩) K.yes.length K.yes.length, .slice (some ⟨b5, 0, none⟩) K.best.length K.best.length, .slice (some ⟨b6, 0, none⟩) K.acks.length K.acks.length, .int .i64 K.heard] ∧ RrIn W b0 b1 b2 b3 b4 b5 b6 K) ?_ ?_ ?_ ?_ ?_ ?_
  · intro W left hb h0 h1
    refine (szRR K v0 v1 v2 v3 v4 v5 v6 left W h0 h1 (h.later hb)).mono ?_
    rintro e w' ⟨⟨r, rfl, q, q', hr⟩, hb'⟩
    exact ⟨⟨r, rfl, q, q', hr⟩, hb'⟩
  · intro hs W hb
    refine (toRR K v0 v1 v2 v3 v4 v5 v6 W hs (h.later hb)).mono ?_
    rintro e w' ⟨⟨b0, b1, b2, b3, b4, b5, b6, rfl, hi, _⟩, hb'⟩
    exact ⟨⟨_, _, _, _, _, _, _, _, _, _, _, _, _, _, _, _, _, _, _, _, _, _, _, _, _, _, _, _, _, _, _, _, rfl, b0, b1, b2, b3, b4, b5, b6, rfl, hi⟩, hb'⟩
  · rintro W W' d ⟨b0, b1, b2, b3, b4, b5, b6, rfl, hi⟩ hb
    exact ⟨b0, b1, b2, b3, b4, b5, b6, rfl, hi.later hb⟩
  · rintro W d d' ⟨b0, b1, b2, b3, b4, b5, b6, rfl, hi⟩ ⟨q0, q1, q2, q3, q4, q5, q6, rfl, hi'⟩
    exact eqRR K b0 b1 b2 b3 b4 b5 b6 q0 q1 q2 q3 q4 q5 q6 W hi hi'
  · rintro W d ⟨b0, b1, b2, b3, b4, b5, b6, rfl, hi⟩
    exact recValidS K (some ⟨b0, 0, none⟩) (some ⟨b1, 0, none⟩) (some ⟨b2, 0, none⟩) (some ⟨b3, 0, none⟩) (some ⟨b4, 0, none⟩) (some ⟨b5, 0, none⟩) (some ⟨b6, 0, none⟩) _ _ _ _ _ _ _ W hi.v
  · rintro W d ⟨b0, b1, b2, b3, b4, b5, b6, rfl, hi⟩
    exact hI W b0 b1 b2 b3 b4 b5 b6 hi

end Go.Proofs.Ytejhknclhdbgfaa
