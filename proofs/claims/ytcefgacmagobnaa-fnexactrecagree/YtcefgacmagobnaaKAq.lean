/-
  What all agree on: the two answers are one.
-/
import Derived.Test.YtcefgacmagobnaaKAp
import Derived.Test.YtcefgacmagobnaaKMi
import Derived.Test.YtcefgacmagobnaaKAc
import Derived.Test.YtcefgacmagobnaaKXi
namespace Go.Proofs.Ytcefgacmagobnaa
open Go.RowKit Go.Deep

set_option maxRecDepth 4000 in
set_option maxHeartbeats 8000000 in
theorem binRf (ad : Option Addr) (cc : Nat) (l : List Rf) (t0 : Int) (t1 : ByteArray) (p : Nat) (w : World) (h : RfsV w ad l) (hlen : l.length ≤ 1048576) (hp : p ≤ l.length) (h1 : ∀ i, i < p → numCmp (l.getD i Rf.none).ix t0 < 0) (h2 : ∀ i, p ≤ i → i < l.length → 0 ≤ numCmp (l.getD i Rf.none).ix t0) :
    Calls Try.prog 69 #[.slice ad l.length cc, .agg #[.int .i64 t0, .string t1], .func (.func 63) #[] #[]] w fun e w' => e = .returned (.tuple #[.int .i64 (p : Nat), .bool (decide (p < l.length) && decide (numCmp (l.getD p Rf.none).ix t0 = 0))]) ∧ Below w.heap.size w w' := by
  have hl := hlen
  clear hlen
  have HH : Hid (RfsV w ad l ∧ (∀ i, i < p → numCmp (l.getD i Rf.none).ix t0 < 0) ∧ (∀ i, p ≤ i → i < l.length → 0 ≤ numCmp (l.getD i Rf.none).ix t0)) := ⟨h, h1, h2⟩
  obtain ⟨R, hR⟩ : ∃ R, R = (decide (p < l.length) && decide (numCmp (l.getD p Rf.none).ix t0 = 0)) := ⟨_, rfl⟩
  have HR : Hid (R = (decide (p < l.length) && decide (numCmp (l.getD p Rf.none).ix t0 = 0))) := hR
  rw [← hR]
  clear h h1 h2 hR
  have HY : Hid (∀ W, Below (w.alloc (.cells #[.int .i64 t0, .string t1] 57)).heap.size (w.alloc (.cells #[.int .i64 t0, .string t1] 57)) W → w.heap.size < W.heap.size ∧ ∀ j, W.cell? ⟨w.heap.size, j, none⟩ = (#[.int .i64 t0, .string t1] : Array Value)[j]?) := by
    intro W hW
    have q : w.heap.size < (w.alloc (.cells #[.int .i64 t0, .string t1] 57)).heap.size := by simp
    exact ⟨Nat.lt_of_lt_of_le q hW.size, fun j => (hW.cell (p := ⟨w.heap.size, j, none⟩) q).trans (World.cell?_alloc_at _ _ _ _ rfl)⟩
  have HC : Hid (∀ (W : World) (x : Rf) (b1 b2 : Nat), Calls Try.prog 63 #[.agg #[.int .i64 x.ix, .string x.txt], .agg #[.int .i64 t0, .string t1]] W fun e w' => e = .returned (.int .i64 (numCmp (x).ix t0)) ∧ Below W.heap.size W w') := fun W x b1 b2 => cmpRfI _ _ _ _ W
  go_enter Try.func69, Try.ntmps69
  go_wp2
  go_loopw [9, 10] (fun i j wr => ∃ a b : Nat, i = .int .i64 (a : Nat) ∧ j = .int .i64 (b : Nat) ∧ a ≤ p ∧ p ≤ b ∧ b ≤ l.length ∧ Below (w.alloc (.cells #[.int .i64 t0, .string t1] 57)).heap.size (w.alloc (.cells #[.int .i64 t0, .string t1] 57)) wr) (fun i j _ => (intOf j).toNat - (intOf i).toNat)
  case atStart => exact ⟨0, l.length, rfl, rfl, Nat.zero_le _, hp, Nat.le_refl _, Below.refl _ _⟩
  case round =>
    obtain ⟨a, b, rfl, rfl, ha, hb, hbl, hW⟩ := hrel
    have HW0 : Hid (Below w.heap.size w wr) := blw_trans (blw_alloc (Below.refl _ _) _) hW
    have HWn : Hid (Below (w.alloc (.cells #[.int .i64 t0, .string t1] 57)).heap.size (w.alloc (.cells #[.int .i64 t0, .string t1] 57)) wr) := hW
    clear hW
    by_cases hlt : a < b
    · obtain ⟨m, hm⟩ : ∃ m, m = (a + b) / 2 := ⟨_, rfl⟩
      have hm1 : a ≤ m := by omega
      have hm2 : m < b := by omega
      obtain ⟨x, hx⟩ : ∃ x, x = l.getD m Rf.none := ⟨_, rfl⟩
      obtain ⟨yz, ys⟩ := HY.out _ HWn.out.drew
      have y0 : wr.drew.cell? ⟨w.heap.size, 0, none⟩ = some (.int .i64 t0) := ys 0
      have y1 : wr.drew.cell? ⟨w.heap.size, 1, none⟩ = some (.string t1) := ys 1
      clear ys
      have hin := HH.out.1.later HW0.out.drew
      obtain ⟨B, off, hA, hB, hat⟩ := hin.at_ m (by omega)
      clear hin
      subst hA
      rw [← hx] at hat
      obtain ⟨c0, c1, _⟩ := hat
      obtain ⟨r, hr⟩ : ∃ r, r = numCmp (x).ix t0 := ⟨_, rfl⟩
      have HX : Hid (∀ W, Calls Try.prog 63 #[.agg #[.int .i64 x.ix, .string x.txt], .agg #[.int .i64 t0, .string t1]] W fun e w' => e = .returned (.int .i64 r) ∧ Below W.heap.size W w') := fun W => by rw [hr]; exact HC.out W x 0 0
      have HP : Hid ((r < 0 → m < p) ∧ (¬ r < 0 → p ≤ m)) := by
        refine ⟨fun hz => ?_, fun hz => ?_⟩
        · refine Nat.lt_of_not_le fun hh => ?_
          have := HH.out.2.2 m hh (by omega)
          rw [← hx, ← hr] at this; omega
        · refine Nat.le_of_not_lt fun hh => ?_
          have := HH.out.2.1 m hh
          rw [← hx, ← hr] at this; exact hz this
      have HMZ : Hid (((a : Int) + (b : Int)) / 2 = (m : Int)) := by show _ = _; omega
      clear hr hx hm
      have HWD : Hid (Below (w.alloc (.cells #[.int .i64 t0, .string t1] 57)).heap.size (w.alloc (.cells #[.int .i64 t0, .string t1] 57)) wr.drew) := HWn.out.drew
      have hm0 : (0 : Int) ≤ (m : Int) := by omega
      have hm3 : (m : Int) < (l.length : Int) := by omega
      by_cases hz : r < 0
      · have HE : Hid (m < p) := HP.out.1 hz
        go_wp2_with fail
        rw [HMZ.out]
        refine region_tail 6 (by kernel_rfl) (by kernel_rfl) ?_
        intro W hWd
        rw [← hWd] at hB HWD yz y0 y1 c0 c1
        simp only [List.take_succ_cons, List.take_zero, List.drop_succ_cons, List.drop_zero]
        clear hWd
        repeat still_step
        refine wpStill_nil ?_
        go_wp2_with (go_at_call 63; refine (HX.out _).mono ?_; rintro e w2 ⟨rfl, hb2⟩)
        go_roundw
        case rel => exact ⟨m + 1, b, by go_num, rfl, HE.out, hb, hbl, blw_trans HWD.out hb2⟩
        case measure => simp [intOf]; omega
      · have HE : Hid (p ≤ m) := HP.out.2 hz
        have hz' : 0 ≤ r := by omega
        go_wp2_with fail
        rw [HMZ.out]
        refine region_tail 6 (by kernel_rfl) (by kernel_rfl) ?_
        intro W hWd
        rw [← hWd] at hB HWD yz y0 y1 c0 c1
        simp only [List.take_succ_cons, List.take_zero, List.drop_succ_cons, List.drop_zero]
        clear hWd
        repeat still_step
        refine wpStill_nil ?_
        go_wp2_with (go_at_call 63; refine (HX.out _).mono ?_; rintro e w2 ⟨rfl, hb2⟩)
        go_roundw
        case rel => exact ⟨a, m, rfl, rfl, ha, HE.out, by omega, blw_trans HWD.out hb2⟩
        case measure => simp [intOf]; omega
    · obtain rfl : a = p := by omega
      obtain rfl : b = a := by omega
      by_cases hpl : b < l.length
      · obtain ⟨x, hx⟩ : ∃ x, x = l.getD b Rf.none := ⟨_, rfl⟩
        obtain ⟨yz, ys⟩ := HY.out _ HWn.out
        have y0 : wr.cell? ⟨w.heap.size, 0, none⟩ = some (.int .i64 t0) := ys 0
        have y1 : wr.cell? ⟨w.heap.size, 1, none⟩ = some (.string t1) := ys 1
        clear ys
        have hin := HH.out.1.later HW0.out
        obtain ⟨B, off, hA, hB, hat⟩ := hin.at_ b hpl
        clear hin
        subst hA
        rw [← hx] at hat
        obtain ⟨c0, c1, _⟩ := hat
        obtain ⟨r, hr⟩ : ∃ r, r = numCmp (x).ix t0 := ⟨_, rfl⟩
        have HX : Hid (∀ W, Calls Try.prog 63 #[.agg #[.int .i64 x.ix, .string x.txt], .agg #[.int .i64 t0, .string t1]] W fun e w' => e = .returned (.int .i64 r) ∧ Below W.heap.size W w') := fun W => by rw [hr]; exact HC.out W x 0 0
        have HRR : Hid (R = decide (r = 0)) := by show R = _; rw [HR.out, hr, hx]; simp [hpl]
        clear hr hx
        have hNE := pst_some wr
        have hBx : ∀ px : Pst wr, B < px.W.heap.size := fun px => px.size hB
        have hyz : ∀ px : Pst wr, w.heap.size < px.W.heap.size := fun px => px.size yz
        have Y0 : ∀ px : Pst wr, px.W.cell? ⟨w.heap.size, 0, none⟩ = some (.int .i64 t0) := fun px => px.cell y0 yz
        have Y1 : ∀ px : Pst wr, px.W.cell? ⟨w.heap.size, 1, none⟩ = some (.string t1) := fun px => px.cell y1 yz
        have C0 : ∀ px : Pst wr, px.W.cell? ⟨B, off + b * 2, none⟩ = some (.int .i64 x.ix) := fun px => px.cell c0 hB
        have C1 : ∀ px : Pst wr, px.W.cell? ⟨B, off + b * 2 + 1, none⟩ = some (.string x.txt) := fun px => px.cell c1 hB
        have hm0 : (0 : Int) ≤ (b : Int) := by omega
        have hm3 : (b : Int) < (l.length : Int) := by omega
        clear y0 y1 c0 c1 hB yz
        by_cases hz : r = 0
        all_goals
          have HE : Hid (R = decide (r = 0)) := HRR.out
          go_wp2_with fail
          refine region_class wr (Below.refl _ _) (by kernel_rfl) (by kernel_rfl) ?_
          repeat (first
            | go_big_quiet_skip
            | (go_big_quiet_want; go_big_quiet_op; first | go_big_quiet_on | (apply Exists.intro; refine ⟨fun px => ?_, ?_⟩; (focus (go_at_call 63; refine (HX.out _).mono ?_; rintro e w' ⟨he, hb⟩; exact ⟨he, ⟨w', blw_trans px.ok hb⟩, rfl⟩)); go_big_quiet_on)))
          refine wpQuiet_nil ?_
          intro _ hw'
          obtain ⟨x6, hw''⟩ := hw'
          subst hw''
          go_wp2
          go_ret2
          exact ⟨by rw [HE.out]; simp [hz], blw_trans HW0.out x6.ok⟩
      · have HE : Hid (R = false) := by show R = false; rw [HR.out]; simp [hpl]
        have hNE := pst_some wr
        go_wp2_with fail
        refine region_class wr (Below.refl _ _) (by kernel_rfl) (by kernel_rfl) ?_
        repeat (first
          | go_big_quiet_skip
          | (go_big_quiet_want; go_big_quiet_op; go_big_quiet_on))
        refine wpQuiet_nil ?_
        intro _ hw'
        obtain ⟨x6, hw''⟩ := hw'
        subst hw''
        go_wp2
        go_ret2
        refine ⟨?_, blw_trans HW0.out x6.ok⟩
        rw [HE.out]
        have : b = l.length := by omega
        simp [this]


/-- Where a place's fix stands, or would stand. -/
def placeRf (l : List Rf) (ix : Int) : Nat := l.findIdx fun x => !decide (x.ix < ix)
theorem placeRf_le (l : List Rf) (ix : Int) : placeRf l ix ≤ l.length := List.findIdx_le_length
theorem placeRf_lt (l : List Rf) (ix : Int) : ∀ i, i < placeRf l ix → (l.getD i Rf.none).ix < ix := by
  intro i hi
  have hl : i < l.length := Nat.lt_of_lt_of_le hi (placeRf_le l ix)
  have := List.not_of_lt_findIdx hi
  have e : l.getD i Rf.none = l[i] := by simp [hl]
  rw [e]
  simpa using this
theorem fixes_asc {l : List Rf} (h : fixesOk l = true) : ∀ i j, i < j → j < l.length → (l.getD i Rf.none).ix < (l.getD j Rf.none).ix := by
  have h1 := (allTo_iff _ _).1 h
  have step : ∀ j, j + 1 < l.length → (l.getD j Rf.none).ix < (l.getD (j + 1) Rf.none).ix := by
    intro j hj
    have := h1 (j + 1) hj
    simp only [fixAt, Bool.and_eq_true, Bool.or_eq_true, decide_eq_true_eq] at this
    rcases this.2 with e | e
    · omega
    · simpa using e
  intro i j hij
  induction j with
  | zero => omega
  | succ j ih =>
    intro hj
    by_cases e : i = j
    · subst e; exact step i hj
    · have := ih (by omega) (by omega); have := step j hj; omega
theorem placeRf_ge {l : List Rf} (h : fixesOk l = true) (ix : Int) : ∀ i, placeRf l ix ≤ i → i < l.length → ix ≤ (l.getD i Rf.none).ix := by
  intro i hi hl
  have hp : placeRf l ix < l.length := by omega
  have h0 : ix ≤ (l.getD (placeRf l ix) Rf.none).ix := by
    have := List.findIdx_getElem (w := hp)
    have e : l.getD (placeRf l ix) Rf.none = l[placeRf l ix] := by simp [hp]
    rw [e]
    have q : (!decide (l[placeRf l ix].ix < ix)) = true := this
    simp at q
    omega
  by_cases e : placeRf l ix = i
  · rw [← e]; exact h0
  · have := fixes_asc h (placeRf l ix) i (by omega) hl
    omega
def notedRf (l : List Rf) (ix : Int) : Bool := decide (placeRf l ix < l.length) && ((l.getD (placeRf l ix) Rf.none).ix == ix)
theorem noted_eq {l : List Rf} (h : fixesOk l = true) (ix : Int) : fixOf l ix = if notedRf l ix then ((l.getD (placeRf l ix) Rf.none).txt, true) else (ByteArray.empty, false) := by
  unfold fixOf fixIx
  cases hn : notedRf l ix
  · have hno : ∀ i, i < l.length → ((l.getD i Rf.none).ix == ix) = false := by
      intro i hi
      cases q : ((l.getD i Rf.none).ix == ix)
      · rfl
      · exfalso
        have q' : (l.getD i Rf.none).ix = ix := by simpa using q
        have h1 : placeRf l ix ≤ i := by
          rcases Nat.lt_or_ge i (placeRf l ix) with h2 | h2
          · have := placeRf_lt l ix i h2; omega
          · exact h2
        have h3 := placeRf_ge h ix (placeRf l ix) (Nat.le_refl _) (by omega)
        have h4 : (l.getD (placeRf l ix) Rf.none).ix = ix := by
          by_cases e : placeRf l ix = i
          · rw [e]; exact q'
          · have := fixes_asc h (placeRf l ix) i (by omega) hi; omega
        unfold notedRf at hn
        rw [decide_eq_true (p := placeRf l ix < l.length) (by omega), h4] at hn
        simp at hn
    rw [firstTo_none hno]; rfl
  · unfold notedRf at hn
    simp only [Bool.and_eq_true, decide_eq_true_eq] at hn
    have hit := firstTo_hit (p := fun i => (l.getD i Rf.none).ix == ix) hn.1 hn.2 (fun j hj => by
      have := placeRf_lt l ix j hj
      show ((l.getD j Rf.none).ix == ix) = false
      rw [beq_eq_false_iff_ne]; omega)
    rw [hit, if_pos (by omega), Int.toNat_natCast]; rfl
theorem numCmp_z (a b : Int) : (decide (numCmp a b = 0)) = (a == b) := by
  unfold numCmp
  by_cases h : a < b
  · rw [if_pos h, beq_eq_false_iff_ne.2 (by omega)]; rfl
  · rw [if_neg h]
    by_cases k : a = b
    · subst k; simp
    · rw [beq_eq_false_iff_ne.2 k]
      split <;> simp_all <;> omega

set_option maxRecDepth 4000 in
set_option maxHeartbeats 4000000 in
theorem fixPlaceI (l : List Rf) (ix : Int) (a : Option Addr) (c : Nat) (w : World) (h : RfsV w a l) (hok : fixesOk l = true) :
    Calls Try.prog 38 #[.slice a l.length c, .int .i64 ix] w fun e w' => e = .returned (.tuple #[.int .i64 (placeRf l ix : Nat), .bool (notedRf l ix)]) ∧ Below w.heap.size w w' := by
  have HC := hid (binRf a c l ix ByteArray.empty (placeRf l ix) w h h.len (placeRf_le _ _) (fun i hi => (numCmp_neg _ _).2 (placeRf_lt l ix i hi)) (fun i h1 h2 => by
    have := placeRf_ge hok ix i h1 h2
    have h3 := (numCmp_neg (l.getD i Rf.none).ix ix)
    omega))
  rw [numCmp_z] at HC
  clear h hok
  obtain ⟨p, hp⟩ : ∃ p, p = placeRf l ix := ⟨_, rfl⟩
  have HN : Hid (notedRf l ix = (decide (p < l.length) && ((l.getD p Rf.none).ix == ix))) := by show _ = _; rw [hp]; rfl
  rw [← hp] at HC ⊢
  clear hp
  go_enter Try.func38, Try.ntmps38
  go_wp2_with fail
  refine HC.out.mono ?_
  rintro e w1 ⟨rfl, hb⟩
  go_wp2
  go_ret2
  exact ⟨by rw [HN.out]; rfl, hb⟩
end Go.Proofs.Ytcefgacmagobnaa

namespace Go.Proofs.Ytcefgacmagobnaa
open Go.RowKit Go.Deep


theorem world_recs {K : Rw} (h : worldOk K = true) : ∀ i, i < K.recs.length → recOk (K.recs.getD i Rr.nil) = true := by
  intro i hi
  simp only [worldOk, Bool.and_eq_true] at h
  have := (allTo_iff _ _).1 h.1.1.2 i hi
  simp only [recAt, Bool.and_eq_true] at this
  exact this.1.1
theorem slots_len {K : Rr} (h : recOk K = true) : K.safe.slots.length ≤ 120 := by
  have h1 := (rec_disk h).1
  simp only [diskOk, slotsOk, Bool.and_eq_true, decide_eq_true_eq] at h1
  exact h1.1.1.2.1
theorem major_far {K : Rw} (h : worldOk K = true) (ix : Int) (hx : inB ix 1 120 = false) : major K.recs ix = (ByteArray.empty, false) := by
  refine major_out _ _ fun i hi => ?_
  have h1 := slots_len (world_recs h i hi)
  unfold hasI inI
  by_cases q : 1 ≤ ix
  · have : ¬ ix ≤ ((K.recs.getD i Rr.nil).safe.slots.length : Int) := by
      intro q2
      rw [inB, decide_eq_true q, decide_eq_true (p := ix ≤ 120) (by omega)] at hx
      cases hx
    rw [decide_eq_false this]; simp
  · rw [decide_eq_false q]; rfl

set_option maxRecDepth 8000 in
set_option maxHeartbeats 8000000 in
theorem recMajorV (K : Rw) (ix : Int) (a0 a1 a2 : Option Addr) (c0 c1 c2 : Nat) (w : World) (h : RwV w a0 a1 a2 K) :
    Calls Try.prog 12 #[.agg #[.slice a0 K.recs.length c0, .slice a1 K.fl.length c1, .slice a2 K.fx.length c2], .int .i64 ix] w fun e w' => e = .returned (.tuple #[.string (majW K ix).1, .bool (majW K ix).2]) ∧ Below w.heap.size w w' := by
  have HH := hid h
  clear h
  obtain ⟨wa, hwa⟩ : ∃ wa, wa = w.alloc (.cells #[.slice a0 K.recs.length c0, .slice a1 K.fl.length c1, .slice a2 K.fx.length c2] 33) := ⟨_, rfl⟩
  have HB : Hid (Below w.heap.size w wa) := by show Below _ _ _; rw [hwa]; exact blw_alloc (Below.refl _ _) _
  have HX : Hid (LBox wa w.heap.size [.slice a0 K.recs.length c0, .slice a1 K.fl.length c1, .slice a2 K.fx.length c2]) := by show LBox _ _ _; rw [hwa]; exact LBox.new w #[.slice a0 K.recs.length c0, .slice a1 K.fl.length c1, .slice a2 K.fx.length c2] _ _ rfl
  go_enter Try.func12, Try.ntmps12
  go_upto_region 1 with fail
  rw [← hwa]
  clear hwa
  have yz := HX.out.lt
  have y := HX.out.at_
  have HC := hid (recWorldOkV K a0 a1 a2 c0 c1 c2 wa (HH.out.later HB.out))
  go_wp2_with (refine wpList_load_mid rfl 33 _ rfl w.heap.size 0 rfl [.slice a0 K.recs.length c0, .slice a1 K.fl.length c1, .slice a2 K.fx.length c2] _ y Try.underlying33 rfl (by kernel_rfl) ?_)
  refine HC.out.mono ?_
  rintro e w1 ⟨rfl, hb⟩
  have HB2 := hid (blw_trans HB.out hb)
  have HX2 := hid (HX.out.later hb)
  clear hb HC yz y
  cases hok : worldOk K
  · have HE : Hid (majW K ix = (ByteArray.empty, false)) := by show _ = _; unfold majW; rw [hok]; rfl
    go_wp2
    go_ret2
    exact ⟨by rw [HE.out]; rfl, HB2.out⟩
  have HE : Hid (majW K ix = major K.recs ix) := by show _ = _; unfold majW; rw [hok]; rfl
  cases hin : inB ix 1 120
  · have HE2 : Hid (majW K ix = (ByteArray.empty, false)) := by show _ = _; rw [HE.out, major_far hok ix hin]
    go_wp2_with (go_at_call 24; refine (withinI _ _ _ _).mono ?_; rintro e w' ⟨rfl, rfl⟩)
    go_ret2
    exact ⟨by rw [HE2.out]; rfl, HB2.out⟩
  obtain ⟨m, rfl, hm⟩ : ∃ m : Nat, ix = (m : Int) + 1 ∧ m < 120 := by
    simp only [inB, Bool.and_eq_true, decide_eq_true_eq] at hin
    exact ⟨(ix - 1).toNat, by omega, by omega⟩
  have yz := HX2.out.lt
  have y0 := HX2.out.get 0 _ rfl
  have HC := hid (majorOfI K.recs m a0 c0 w1 (HH.out.l0.later HB2.out) (world_recs hok) (by omega))
  go_wp2_with (first | (go_at_call 24; refine (withinI _ _ _ _).mono ?_; rintro e w' ⟨rfl, rfl⟩) | fail)
  refine HC.out.mono ?_
  rintro e w2 ⟨rfl, hb⟩
  have HB3 := hid (blw_trans HB2.out hb)
  clear hb HC yz y0
  go_wp2
  go_ret2
  exact ⟨by rw [HE.out]; rfl, HB3.out⟩
end Go.Proofs.Ytcefgacmagobnaa

namespace Go.Proofs.Ytcefgacmagobnaa
open Go.RowKit Go.Deep


def isFixP (l : List Rf) (j : Nat) (t : ByteArray) : Bool := notedRf l ((j : Int) + 1) && same (l.getD (placeRf l ((j : Int) + 1)) Rf.none).txt t
def agP (K : Rw) (j : Nat) : Bool := (tells K.recs j).all (isFixP K.fx j)
def agreeP (K : Rw) : Bool := worldOk K && allTo (agP K) (lastTo K.recs K.recs.length)

theorem isFix_eq {l : List Rf} (h : fixesOk l = true) (j : Nat) (t : ByteArray) : isFixP l j t = isFix l ((j : Int) + 1) t := by
  unfold isFixP isFix
  rw [noted_eq h]
  cases notedRf l ((j : Int) + 1) <;> rfl
theorem mem_knTo {l : List Rr} {m : Nat} {t : ByteArray} : ∀ {k : Nat}, t ∈ knTo l m k ↔ ∃ i, i < k ∧ knows l m i = true ∧ t = ((l.getD i Rr.nil).disk.slots.getD m Rs.none).txt
  | 0 => by simp [knTo]
  | k + 1 => by
    rw [knTo, List.mem_append, mem_knTo (k := k)]
    constructor
    · rintro (⟨i, hi, h⟩ | h)
      · exact ⟨i, by omega, h⟩
      · split at h
        · rename_i q; exact ⟨k, by omega, q, by simpa using h⟩
        · cases h
    · rintro ⟨i, hi, h1, h2⟩
      by_cases e : i = k
      · subst e; right; rw [if_pos h1]; simpa using h2
      · exact Or.inl ⟨i, by omega, h1, h2⟩
theorem lastTo_ge {l : List Rr} {i : Nat} : ∀ {k : Nat}, i < k → (l.getD i Rr.nil).safe.slots.length ≤ lastTo l k ∧ (l.getD i Rr.nil).disk.known.toNat ≤ lastTo l k
  | 0, h => absurd h (Nat.not_lt_zero _)
  | k + 1, h => by
    rw [lastTo]
    by_cases e : i = k
    · subst e; omega
    · have := lastTo_ge (l := l) (i := i) (k := k) (by omega); omega
theorem agree_eq (K : Rw) : agreeP K = agreeW K := by
  unfold agreeP agreeW
  cases hok : worldOk K
  · rfl
  rw [Bool.true_and, Bool.true_and, Bool.eq_iff_iff, Bool.and_eq_true, allTo_iff, allTo_iff, allTo_iff]
  have hfx : fixesOk K.fx = true := by
    have h := hok
    simp only [worldOk, Bool.and_eq_true] at h
    exact h.2
  have hrs := world_recs hok
  have agI : ∀ j, agP K j = true ↔ ∀ t ∈ tells K.recs j, isFix K.fx ((j : Int) + 1) t = true := by
    intro j
    unfold agP
    rw [List.all_eq_true]
    constructor
    · intro h t ht; rw [← isFix_eq hfx]; exact h t ht
    · intro h t ht; rw [isFix_eq hfx]; exact h t ht
  have bk : ∀ i, i < K.recs.length → (bookAt K i = true ↔ ∀ k, knows K.recs k i = true → isFix K.fx ((k : Int) + 1) ((K.recs.getD i Rr.nil).disk.slots.getD k Rs.none).txt = true) := by
    intro i hi
    obtain ⟨kn, e1, e2, e3⟩ := disk_facts (rec_disk (hrs i hi)).2
    have eB : bookOf (K.recs.getD i Rr.nil) = ((K.recs.getD i Rr.nil).disk.slots.take kn).map (·.txt) := by
      rw [bookOf, hrs i hi]; show knownTx _ = _; rw [knownTx, e1]; rfl
    have eL : (bookOf (K.recs.getD i Rr.nil)).length = kn := by rw [eB, List.length_map, List.length_take]; omega
    unfold bookAt
    rw [eL, allTo_iff]
    have eG : ∀ k, k < kn → (bookOf (K.recs.getD i Rr.nil)).getD k ByteArray.empty = ((K.recs.getD i Rr.nil).disk.slots.getD k Rs.none).txt := by
      intro k hk
      rw [eB]
      have hk2 : k < (K.recs.getD i Rr.nil).disk.slots.length := by omega
      revert hk2
      generalize (K.recs.getD i Rr.nil).disk.slots = s
      intro hk2
      simp [List.getD, hk, List.getElem?_eq_getElem hk2]
    constructor
    · intro h k hk
      unfold knows at hk
      rw [e1] at hk
      have hk' : k < kn := by have := of_decide_eq_true hk; omega
      have := h k hk'
      rw [eG k hk'] at this
      exact this
    · intro h k hk
      have := h k (by unfold knows; rw [e1]; exact decide_eq_true (by omega))
      rw [eG k hk]
      exact this
  have mjI : ∀ j, majAg K j = true ↔ ∀ t ∈ told K.recs j, isFix K.fx ((j : Int) + 1) t = true := by
    intro j
    unfold majAg told
    cases h : (major K.recs ((j : Int) + 1)).2
    · simp
    · simp
  have mjO : ∀ j, lastTo K.recs K.recs.length ≤ j → told K.recs j = [] := by
    intro j hj
    have : major K.recs ((j : Int) + 1) = (ByteArray.empty, false) := by
      refine major_out _ _ fun i hi => ?_
      have := (lastTo_ge (l := K.recs) hi).1
      unfold hasI inI
      rw [decide_eq_false (p := (j : Int) + 1 ≤ ((K.recs.getD i Rr.nil).safe.slots.length : Int)) (by omega)]
      simp
    unfold told
    rw [this]; rfl
  constructor
  · intro h
    refine ⟨fun i hi => ?_, fun j hj => ?_⟩
    · rw [bk i hi]
      intro k hk
      have hkl : k < lastTo K.recs K.recs.length := by
        have h1 := (lastTo_ge (l := K.recs) hi).2
        unfold knows at hk
        have := of_decide_eq_true hk
        omega
      refine (agI k).1 (h k hkl) _ ?_
      unfold tells
      exact List.mem_append.2 (Or.inr (mem_knTo.2 ⟨i, hi, hk, rfl⟩))
    · rw [mjI]
      intro t ht
      by_cases hl : j < lastTo K.recs K.recs.length
      · exact (agI j).1 (h j hl) t (List.mem_append.2 (Or.inl ht))
      · rw [mjO j (by omega)] at ht; cases ht
  · rintro ⟨h1, h2⟩ j hj
    rw [agI]
    intro t ht
    unfold tells at ht
    rcases List.mem_append.1 ht with ht | ht
    · have hl := lastTo_le K.recs hrs K.recs.length (Nat.le_refl _)
      exact (mjI j).1 (h2 j (by omega)) t ht
    · obtain ⟨i, hi, hk, rfl⟩ := mem_knTo.1 ht
      exact (bk i hi).1 (h1 i hi) j hk
end Go.Proofs.Ytcefgacmagobnaa
