/-
  Falls and rises: plain.
-/
import Derived.Test.YtnifdpjmpbocnaaGreatKWp
import Derived.Test.YtnifdpjmpbocnaaGreatUC
namespace Go.Proofs.YtnifdpjmpbocnaaGreat
open Go.RowKit Go.Deep

def fallK (K : Rr) : Rr := if recOk K then { Rr.zero with num := K.num, of_ := K.of_, safe := K.safe, disk := K.safe } else Rr.zero
def riseK (K : Rr) : Rr := if recOk K then { K with up := true } else Rr.zero
theorem safe_wt (K : Rr) : wtL (eRd K.safe) ≤ wtL (eRr K) := by simp only [eRr, eRd, wtL, wtL_app]; omega
theorem repRec3 {W : World} {F : List Nat} {d : Rd} {c : List Value} (h : Rep W false shRecDisk F (eRd d) c) : ∃ v, c = [.int .i64 d.prom, .int .i64 d.known, v] ∧ Rep W false [.row 98 shRecSlot] F [.row d.slots.length (d.slots.flatMap eRs)] [v] := by
  have h2 : Rep W false shRecDisk F [.i d.prom, .i d.known, .row d.slots.length (d.slots.flatMap eRs)] c := h
  obtain ⟨F2, v2, hF, hc, r2⟩ := repRecDisk h2
  rw [List.append_nil] at hF
  subst hF
  exact ⟨v2, hc, r2⟩
theorem cnt_fall {K : Rr} (t : Typ shRecorder (eRr K)) (hw : wtL (eRr K) ≤ 1048576) : cntT (eRr (fallK K)) ≤ 1000000000 := by
  have h1 := cntT_le (eRr (fallK K))
  have h2 : cntL (eRr K) ≤ 18 + 32 * wtL (eRr K) := cnt_wt t shB_rec
  have h3 : cntL (eRr (fallK K)) ≤ 100 + 2 * cntL (eRr K) := by
    unfold fallK
    split
    · simp only [eRr, eRd, Rr.zero, cntL, cntL_app, List.length_nil, List.flatMap_nil]
      omega
    · simp only [eRr, eRd, Rr.zero, cntL, cntL_app, List.length_nil, List.flatMap_nil]
      omega
  omega
theorem cnt_rise {K : Rr} (t : Typ shRecorder (eRr K)) (hw : wtL (eRr K) ≤ 1048576) : cntT (eRr (riseK K)) ≤ 1000000000 := by
  have h1 := cntT_le (eRr (riseK K))
  have h2 : cntL (eRr K) ≤ 18 + 32 * wtL (eRr K) := cnt_wt t shB_rec
  have h3 : cntL (eRr (riseK K)) ≤ 100 + 2 * cntL (eRr K) := by
    unfold riseK
    split
    · simp only [eRr, eRd, cntL, cntL_app]
      omega
    · simp only [eRr, eRd, Rr.zero, cntL, cntL_app, List.length_nil, List.flatMap_nil]
      omega
  omega
end Go.Proofs.YtnifdpjmpbocnaaGreat
