/-
  What all agree on: plain.
-/
import Derived.Test.YtcefgacmagobnaaKBw
import Derived.Test.YtcefgacmagobnaaUL
import Derived.Test.YtcefgacmagobnaaRvI
import Derived.Test.YtcefgacmagobnaaKMs
import Derived.Test.YtcefgacmagobnaaKXs
namespace Go.Proofs.Ytcefgacmagobnaa
open Go.RowKit Go.Deep

theorem Try.txInfo : (Try.prog.info? 9).map (fun i => (i.zero, i.size, i.bytes)) = some (some (.string ByteArray.empty), 1, 16) := by kernel_rfl
theorem Try.txUnder : Try.prog.underlying 48 = some (.slice 9) := by kernel_rfl

end Go.Proofs.Ytcefgacmagobnaa

namespace Go.Proofs.Ytcefgacmagobnaa
open Go.RowKit Go.Deep

set_option maxRecDepth 8000 in
set_option maxHeartbeats 8000000 in
theorem recBookS (K : Rr) (cs : List Value) (W : World) (h : Raw W shRecorder (eRr K) cs) (hw : wtL (eRr K) ≤ 1048576) :
    Calls Try.prog 35 #[.agg cs.toArray] W (AnsL [.row 9 [.s]] (.row (bookOf K).length ((bookOf K).flatMap eTx)) W) := by
  obtain ⟨a0, a1, a2, a3, a4, a5, a6, c0, c1, c2, c3, c4, c5, c6, hcs, hv, _, hc1, _⟩ := vRr h hw
  have HC := uh hcs
  have HV := uh hv
  have HCall : Hid (∀ X, Below W.heap.size W X → Calls Try.prog 19 #[.agg cs.toArray] X fun e w' => e = .returned (.bool (recOk K)) ∧ Below X.heap.size X w') := fun X hX => by
    rw [HC.out]; exact recValidS K a0 a1 a2 a3 a4 a5 a6 c0 c1 c2 c3 c4 c5 c6 X (HV.out.later hX)
  clear h hcs hv hw
  obtain ⟨wa, hwa⟩ : ∃ wa, wa = (W.alloc (.cells cs.toArray 52)).alloc (.cells #[] 9) := ⟨_, rfl⟩
  have HB : Hid (Below W.heap.size W wa) := by show Below _ _ _; rw [hwa]; exact blw_alloc (blw_alloc (Below.refl _ _) _) _
  have HX : Hid (LBox wa W.heap.size cs) := by show LBox _ _ _; rw [hwa]; exact (LBox.new W cs.toArray _ _ rfl).past _
  have HG : Hid (Gr wa (W.heap.size + 1) 9 [.s] (.slice (some ⟨W.heap.size + 1, 0, none⟩) 0 0) 0 [] [] []) := by
    refine Gr.emp [.s] ?_ (Nat.le_refl _)
    rw [hwa]
    have e : (W.alloc (.cells cs.toArray 52)).heap.size = W.heap.size + 1 := by simp
    rw [← e]
    exact heap_alloc_new _ _
  go_enter Try.func35, Try.ntmps35
  go_upto_region 2 with fail
  rw [← hwa]
  clear hwa
  have hz := HX.out.lt
  have ha := HX.out.at_
  go_wp2_with (refine wpList_load_mid rfl 52 _ rfl W.heap.size 0 rfl cs _ ha Try.underlying52 rfl (by rw [HC.out]; kernel_rfl) ?_)
  refine (HCall.out wa HB.out).mono ?_
  rintro e w1 ⟨rfl, hb⟩
  replace HG := uh (HG.out.later hb)
  replace HX := uh (HX.out.later hb)
  replace HB := uh (blw_trans HB.out hb)
  clear hb hz ha HCall
  cases hok : recOk K
  · obtain ⟨F, r, nd, fr⟩ := HG.out.done
    have HE : Hid (bookOf K = []) := by show _ = _; rw [bookOf, hok]; rfl
    go_wp2
    go_ret
    refine ⟨_, F, rfl, ?_, nd, fun b hb => by have := fr b hb; omega, HB.out⟩
    rw [HE.out]; exact r
  obtain ⟨kn, hk1, hk2, hk3⟩ := disk_facts (rec_disk hok).2
  have HE : Hid (bookOf K = (K.disk.slots.take kn).map (·.txt)) := by
    show _ = _; rw [bookOf, hok]; show knownTx K.disk = _; rw [knownTx, hk1]; rfl
  have g7 : ∀ X : World, LBox X W.heap.size cs → X.cell? ⟨W.heap.size, 7, none⟩ = some (.int .i64 (kn : Int)) := fun X hX => hX.get 7 _ (by rw [HC.out, ← hk1]; rfl)
  have g8 : ∀ X : World, LBox X W.heap.size cs → X.cell? ⟨W.heap.size, 8, none⟩ = some (.slice a1 K.disk.slots.length c1) := fun X hX => hX.get 8 _ (by rw [HC.out]; rfl)
  have G7 := uh g7
  have G8 := uh g8
  have HS := uh HV.out.l1
  have HN := uh hk2
  obtain ⟨i0, hi0, hzz⟩ := Option.map_eq_some_iff.1 Try.txInfo
  simp only [Prod.mk.injEq] at hzz
  obtain ⟨hz0, hz1, hz2⟩ := hzz
  clear hk1 g7 g8 HV HC
  go_wp2
  go_loopw [3, 4] (fun o i wr => ∃ (q : Nat) (v : Value) (xs : List Value), q ≤ kn ∧ i = .int .i64 (q : Int) ∧ o = v ∧ Gr wr (W.heap.size + 1) 9 [.s] v q [] (((K.disk.slots.take q).map (·.txt)).flatMap eTx) xs ∧ LBox wr W.heap.size cs ∧ Below W.heap.size W wr) (fun _ i _ => kn - (intOf i).toNat)
  case atStart => exact ⟨0, _, _, Nat.zero_le _, rfl, rfl, HG.out, HX.out, HB.out⟩
  case round =>
    obtain ⟨q, v, xs, hq, rfl, rfl, hG, hX, hB⟩ := hrel
    have HG := uh hG
    have HX := uh hX
    have HB := uh hB
    clear hG hX hB
    have hz := HX.out.lt
    have c7 := G7.out wr HX.out
    have c8 := G8.out wr HX.out
    by_cases hlt : q < kn
    · obtain ⟨b, off, hab, hbl, hm, ht, _⟩ := (HS.out.later HB.out).at_ q (by have := HN.out; omega)
      obtain ⟨tx, htx⟩ : ∃ tx, tx = (K.disk.slots.getD q Rs.none).txt := ⟨_, rfl⟩
      rw [← htx] at ht
      subst hab
      have hn0 : (0 : Int) ≤ (q : Int) := by omega
      have hn1 : (q : Int) < (K.disk.slots.length : Int) := by have := HN.out; omega
      have HT := uh htx
      clear htx hm
      obtain ⟨va, vc, hvv⟩ := HG.out.shape
      subst hvv
      go_wp2_with (at_builtin; refine wpList_append_lies _ rfl _ _ 48 rfl (W.heap.size + 1) 9 i0 _ 1 16 Try.txUnder hi0 hz0 hz1 hz2 rfl (by decide) (.slice va q vc) q xs rfl ?h1a ⟨wr.heap.size, 0, none⟩ 1 1 [.string tx] rfl ?h1b ?h1c ?h1d ?h1e ?h1f ?h1g ?h1h _ rfl ?_)
      case h1a => exact owns_lt_later HG.out.row (blw_alloc (Below.refl _ _) _)
      try (case h1b => rfl)
      case h1c => exact news_new wr #[.string tx] 9
      case h1d => intro u hu; simp at hu; subst hu; rfl
      case h1e => decide
      case h1f => unfold maxLen; omega
      case h1g => omega
      case h1h => simp; omega
      intro g cap w3 hown hgrow hgg _
      have hbt : Below wr.heap.size wr (wr.alloc (.cells #[.string tx] 9)) := blw_alloc (Below.refl _ _) _
      have HN2 : Hid (Gr w3 (W.heap.size + 1) 9 [.s] (.slice (some ⟨g, 0, none⟩) (q + 1) cap) (q + 1) [] (((K.disk.slots.take (q + 1)).map (·.txt)).flatMap eTx) (xs ++ [.string tx])) := by
        have := HG.out.push (F := []) (e := eTx tx) hbt (.s tx .nil) List.nodup_nil (by simp) (by omega) hown hgrow (H := wr.heap.size + 1) (by simp) hgg
        rw [txs_snoc _ _ (by have := HN.out; omega), fm_snoc, ← HT.out]
        exact this
      have HX2 : Hid (LBox w3 W.heap.size cs) := (HX.out.later hbt).grown hgrow (HG.out.blk (by omega))
      have HB2 : Hid (Below W.heap.size W w3) := blw_grown (blw_trans HB.out hbt) hgrow (fun b hb => by have := (owns_blk_lt HG.out.row hb).1; omega)
      clear hown hgrow hbt HG HX HB c7 c8 hz
      go_wp2
      go_roundw
      case rel => exact ⟨q + 1, _, _, by omega, by go_num, rfl, HN2.out, HX2.out, HB2.out⟩
      case measure => simp [intOf]; omega
    · obtain rfl : q = kn := by omega
      obtain ⟨F, r, nd, fr⟩ := HG.out.done
      obtain ⟨va, vc, hvv⟩ := HG.out.shape
      subst hvv
      have HL : Hid (q = ((K.disk.slots.take q).map (·.txt)).length) := by show _ = _; rw [List.length_map, List.length_take]; have := HN.out; omega
      have HRR := uh (And.intro r (And.intro nd fr))
      clear r nd fr
      go_wp2
      go_ret
      refine ⟨_, F, rfl, ?_, HRR.out.2.1, fun b hb => by have := HRR.out.2.2 b hb; omega, HB.out⟩
      rw [HE.out, ← HL.out]
      exact HRR.out.1

theorem cnt_txs : ∀ l : List Tx, cntL (l.flatMap eTx) = l.length
  | [] => by simp [cntL]
  | x :: xs => by rw [List.flatMap_cons, cntL_app, cnt_txs xs]; simp [eTx, cntL]; omega
theorem book_len (K : Rr) : (bookOf K).length ≤ K.disk.slots.length := by
  unfold bookOf
  split
  · rw [knownTx, List.length_map, List.length_take]; omega
  · simp
theorem disk_wt (K : Rr) : K.disk.slots.length ≤ wtL (eRr K) := by
  simp only [eRr, eRd, wtL, wtL_app]; omega
end Go.Proofs.Ytcefgacmagobnaa

namespace Go.Proofs.Ytcefgacmagobnaa
open Go.RowKit Go.Deep


/-- What is fixed for a place. -/
def fixIx (l : List Rf) (ix : Int) : Int := firstTo (fun i => (l.getD i Rf.none).ix == ix) l.length
def fixOf (l : List Rf) (ix : Int) : ByteArray × Bool := if 0 ≤ fixIx l ix then ((l.getD (fixIx l ix).toNat Rf.none).txt, true) else (ByteArray.empty, false)
/-- This text is fixed for the place. -/
def isFix (l : List Rf) (ix : Int) (t : ByteArray) : Bool := (fixOf l ix).2 && same (fixOf l ix).1 t
def bookAt (K : Rw) (i : Nat) : Bool := allTo (fun k : Nat => isFix K.fx ((k : Int) + 1) ((bookOf (K.recs.getD i Rr.nil)).getD k ByteArray.empty)) (bookOf (K.recs.getD i Rr.nil)).length
def majAg (K : Rw) (j : Nat) : Bool := !(major K.recs ((j : Int) + 1)).2 || isFix K.fx ((j : Int) + 1) (major K.recs ((j : Int) + 1)).1
def agreeW (K : Rw) : Bool := worldOk K && (allTo (bookAt K) K.recs.length && allTo (majAg K) 120)
end Go.Proofs.Ytcefgacmagobnaa
