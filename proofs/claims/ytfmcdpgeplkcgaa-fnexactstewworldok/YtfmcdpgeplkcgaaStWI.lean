/-
  Stewards: a world that is ok, by the program.
-/
import Derived.RangeFuncCalls
import Derived.RangeFuncFrom
import Derived.Test.YtfmcdpgeplkcgaaStVI
import Derived.Test.YtfmcdpgeplkcgaaStK
import Derived.Test.YtfmcdpgeplkcgaaBwA
namespace Go.Proofs.Ytfmcdpgeplkcgaa
open Go.RowKit Go.Deep

/-- What the walk over past books, the last one first, has come to: whether all was well, and the last Now. -/
def wst (X : SW) (xs : List Nat) : Bool × Int := xs.foldl (fun p i => (p.1 && decide ((X.past.getD i SBk.none).now ≤ p.2) && sbOk (X.past.getD i SBk.none), (X.past.getD i SBk.none).now)) (true, X.book.now)
theorem wst_snoc (X : SW) (xs : List Nat) (i : Nat) : wst X (xs ++ [i]) = ((wst X xs).1 && decide ((X.past.getD i SBk.none).now ≤ (wst X xs).2) && sbOk (X.past.getD i SBk.none), (X.past.getD i SBk.none).now) := by
  unfold wst; rw [List.foldl_append]; rfl
theorem wst_true (X : SW) : ∀ m, m ≤ X.past.length → ((wst X (downs X.past.length m)).1 = true ↔ ∀ j, j < m → sbOk (X.past.getD (X.past.length - 1 - j) SBk.none) = true ∧ (X.past.getD (X.past.length - 1 - j) SBk.none).now ≤ (if j = 0 then X.book.now else (X.past.getD (X.past.length - j) SBk.none).now)) ∧ (wst X (downs X.past.length m)).2 = (if m = 0 then X.book.now else (X.past.getD (X.past.length - m) SBk.none).now)
  | 0, _ => ⟨⟨fun _ j hj => by omega, fun _ => rfl⟩, rfl⟩
  | m + 1, h => by
    obtain ⟨i1, i2⟩ := wst_true X m (by omega)
    rw [downs_snoc, wst_snoc]
    refine ⟨?_, ?_⟩
    · show ((_ && _) && _) = true ↔ _
      rw [Bool.and_eq_true, Bool.and_eq_true, decide_eq_true_eq, i1, i2]
      constructor
      · rintro ⟨⟨h1, h2⟩, h3⟩ j hj
        by_cases e : j = m
        · subst e; exact ⟨h3, h2⟩
        · exact h1 j (by omega)
      · intro hh
        exact ⟨⟨fun j hj => hh j (by omega), (hh m (by omega)).2⟩, (hh m (by omega)).1⟩
    · show _ = _
      rw [if_neg (by omega), show X.past.length - 1 - m = X.past.length - (m + 1) by omega]
theorem wst_pre (X : SW) {xs ys : List Nat} (h : xs <+: ys) (hf : (wst X xs).1 = false) : (wst X ys).1 = false := by
  obtain ⟨tl, rfl⟩ := h
  induction tl generalizing xs with
  | nil => rw [List.append_nil]; exact hf
  | cons a tl ih =>
    have : xs ++ a :: tl = (xs ++ [a]) ++ tl := by simp
    rw [this]
    exact ih (by rw [wst_snoc, hf]; rfl)
theorem swOk_eq (X : SW) : swOk X = (decide (X.past.length ≤ 8) && sbOk X.book && (wst X (downs X.past.length X.past.length)).1) := by
  have e : allTo (pastAt X) X.past.length = (wst X (downs X.past.length X.past.length)).1 := by
    rw [Bool.eq_iff_iff, allTo_iff, (wst_true X _ (Nat.le_refl _)).1]
    unfold pastAt
    simp only [Bool.and_eq_true, Bool.or_eq_true, decide_eq_true_eq]
    constructor
    · intro h j hj
      obtain ⟨⟨h1, h2⟩, h3⟩ := h (X.past.length - 1 - j) (by omega)
      refine ⟨h1, ?_⟩
      split
      · exact h2
      · obtain ⟨⟨_, _⟩, k3⟩ := h (X.past.length - j) (by omega)
        rcases k3 with k3 | k3
        · omega
        · rwa [show X.past.length - j - 1 = X.past.length - 1 - j by omega] at k3
    · intro h
      have step : ∀ i, i + 1 < X.past.length → (X.past.getD i SBk.none).now ≤ (X.past.getD (i + 1) SBk.none).now := by
        intro i hi
        have := (h (X.past.length - 1 - i) (by omega)).2
        rw [if_neg (by omega), show X.past.length - 1 - (X.past.length - 1 - i) = i by omega, show X.past.length - (X.past.length - 1 - i) = i + 1 by omega] at this
        exact this
      have top : ∀ k i, i + k + 1 = X.past.length → (X.past.getD i SBk.none).now ≤ X.book.now := by
        intro k
        induction k with
        | zero =>
          intro i hi
          have := (h 0 (by omega)).2
          rw [if_pos rfl, show X.past.length - 1 - 0 = i by omega] at this
          exact this
        | succ k ih => intro i hi; exact Int.le_trans (step i (by omega)) (ih (i + 1) (by omega))
      intro i hi
      refine ⟨⟨?_, top (X.past.length - 1 - i) i (by omega)⟩, ?_⟩
      · have := (h (X.past.length - 1 - i) (by omega)).1
        rwa [show X.past.length - 1 - (X.past.length - 1 - i) = i by omega] at this
      · by_cases e : i = 0
        · exact Or.inl e
        · right
          have := step (i - 1) (by omega)
          rwa [show i - 1 + 1 = i by omega] at this
  unfold swOk
  rw [e]
  cases sbOk X.book <;> cases decide (X.past.length ≤ 8) <;> rfl

/-- The places of past books' lists. -/
theorem bks_pick {w : World} {a3 : Option Addr} {l : List SBk} (h : SBksV w a3 l) : ∃ (A0 A1 A2 : Nat → Option Addr) (C0 C1 C2 : Nat → Nat), (∀ i, i < l.length → ∃ b off, a3 = some ⟨b, off, none⟩ ∧ b < w.heap.size ∧ w.cell? ⟨b, off + i * 4, none⟩ = some (.int .i64 (l.getD i SBk.none).now) ∧ w.cell? ⟨b, off + i * 4 + 1, none⟩ = some (.slice (A0 i) (l.getD i SBk.none).svcs.length (C0 i)) ∧ w.cell? ⟨b, off + i * 4 + 2, none⟩ = some (.slice (A1 i) (l.getD i SBk.none).cps.length (C1 i)) ∧ w.cell? ⟨b, off + i * 4 + 3, none⟩ = some (.slice (A2 i) (l.getD i SBk.none).bts.length (C2 i))) ∧ ∀ i, SBkV w (A0 i) (A1 i) (A2 i) (l.getD i SBk.none) := by
  have k : ∀ i, ∃ p : (Option Addr × Option Addr × Option Addr) × (Nat × Nat × Nat), (i < l.length → ∃ b off, a3 = some ⟨b, off, none⟩ ∧ b < w.heap.size ∧ w.cell? ⟨b, off + i * 4, none⟩ = some (.int .i64 (l.getD i SBk.none).now) ∧ w.cell? ⟨b, off + i * 4 + 1, none⟩ = some (.slice p.1.1 (l.getD i SBk.none).svcs.length p.2.1) ∧ w.cell? ⟨b, off + i * 4 + 2, none⟩ = some (.slice p.1.2.1 (l.getD i SBk.none).cps.length p.2.2.1) ∧ w.cell? ⟨b, off + i * 4 + 3, none⟩ = some (.slice p.1.2.2 (l.getD i SBk.none).bts.length p.2.2.2)) ∧ SBkV w p.1.1 p.1.2.1 p.1.2.2 (l.getD i SBk.none) := by
    intro i
    by_cases hi : i < l.length
    · obtain ⟨b, off, a0, a1, a2, c0, c1, c2, e, hl, ⟨q0, q1, q2, q3⟩, hv⟩ := h.at_ i hi
      exact ⟨((a0, a1, a2), (c0, c1, c2)), fun _ => ⟨b, off, e, hl, q0, q1, q2, q3⟩, hv⟩
    · refine ⟨((none, none, none), (0, 0, 0)), fun hh => absurd hh hi, ?_⟩
      rw [show l.getD i SBk.none = SBk.none by simp [List.getD, List.getElem?_eq_none (Nat.le_of_not_lt hi)]]
      exact ⟨⟨by simp [SBk.none], fun j hj => by simp [SBk.none] at hj⟩, ⟨by simp [SBk.none], fun j hj => by simp [SBk.none] at hj⟩, ⟨by simp [SBk.none], fun j hj => by simp [SBk.none] at hj⟩⟩
  obtain ⟨p, hp⟩ := Classical.axiomOfChoice k
  exact ⟨fun i => (p i).1.1, fun i => (p i).1.2.1, fun i => (p i).1.2.2, fun i => (p i).2.1, fun i => (p i).2.2.1, fun i => (p i).2.2.2, fun i hi => (hp i).1 hi, fun i => (hp i).2⟩

theorem retW {tmps : Array Value} {W : World} {B : Nat} {b : Bool} {R' : Ending → World → Prop} (ht : tmps[2]?.getD undef = .pointer (some ⟨B, 0, none⟩)) (hc : W.cell? ⟨B, 0, none⟩ = some (.bool b)) (hR : R' (.returned (.bool b)) W) :
    bodyPostM Fence.wide 4 Try.prog Try.f7 R' .ret { tmps := tmps, defers := [] } W :=
  ⟨.bool b, by simp [results, Try.f7, go_sem, ht, hc], hR⟩

theorem boxed_g {A A' : World} {row : Option Nat} {b : Nat} {t : TypeId} {v : Value} (h : Boxed A b t v) (hg : A.grownBy A' row) (hr : ∀ r, row = some r → ∃ o : Obj, A.heap[r]? = some o ∧ o.isCells = false) : Boxed A' b t v :=
  h.kept hg (fun e => by obtain ⟨o, ho, hc⟩ := hr _ e.symm; rw [show A.heap[b]? = _ from h] at ho; cases ho; cases hc)
theorem boxed_belw {W W' : World} {B : Nat} {t : TypeId} {v : Value} (h : Boxed W B t v) (hb : Below W.heap.size W W') : Boxed W' B t v := (hb.block B h.lt).trans h

attribute [local go_sem] Oper.semAt_some

set_option maxRecDepth 8000 in
set_option maxHeartbeats 40000000 in
theorem stewWorldOkV (X : SW) (a0 a1 a2 a3 : Option Addr) (c0 c1 c2 c3 : Nat) (w : World) (h : SWV w a0 a1 a2 a3 X) :
    Calls Try.prog 7 #[.agg #[.slice a3 X.past.length c3, .int .i64 X.book.now, .slice a0 X.book.svcs.length c0, .slice a1 X.book.cps.length c1, .slice a2 X.book.bts.length c2]] w fun e w' => e = .returned (.bool (swOk X)) ∧ Below w.heap.size w w' := by
  have HH := hid h
  have hl := h.p.len
  unfold maxLen at hl
  clear h
  obtain ⟨R, hR⟩ : ∃ R, R = swOk X := ⟨_, rfl⟩
  have HR : Hid (R = (decide (X.past.length ≤ 8) && sbOk X.book && (wst X (downs X.past.length X.past.length)).1)) := by show R = _; rw [hR, swOk_eq]
  rw [← hR]
  clear hR
  obtain ⟨B, hB⟩ : ∃ B, B = w.heap.size := ⟨_, rfl⟩
  obtain ⟨wa, hwa⟩ : ∃ wa, wa = (w.alloc (.cells #[.slice a3 X.past.length c3, .int .i64 X.book.now, .slice a0 X.book.svcs.length c0, .slice a1 X.book.cps.length c1, .slice a2 X.book.bts.length c2] 39)).alloc (.cells #[.bool false] 4) := ⟨_, rfl⟩
  have HB : Hid (Below w.heap.size w wa) := by show Below _ _ _; rw [hwa]; exact blw_alloc (blw_alloc (Below.refl _ _) _) _
  have HX : Hid (BoxW wa B (.slice a3 X.past.length c3) (.int .i64 X.book.now) (.slice a0 X.book.svcs.length c0) (.slice a1 X.book.cps.length c1) (.slice a2 X.book.bts.length c2) ∧ Boxed wa (B + 1) 4 (.bool false)) := by
    refine ⟨?_, ?_⟩
    · rw [hwa, hB]
      have n0 := World.alloc_heap_new w (.cells #[.slice a3 X.past.length c3, .int .i64 X.book.now, .slice a0 X.book.svcs.length c0, .slice a1 X.book.cps.length c1, .slice a2 X.book.bts.length c2] 39)
      have n1 := (Below.heap_alloc (w.alloc (.cells #[.slice a3 X.past.length c3, .int .i64 X.book.now, .slice a0 X.book.svcs.length c0, .slice a1 X.book.cps.length c1, .slice a2 X.book.bts.length c2] 39)) (.cells #[.bool false] 4) w.heap.size (by simp)).trans n0
      exact ⟨by simp; omega, by simp [World.cell?, n1], by simp [World.cell?, n1], by simp [World.cell?, n1], by simp [World.cell?, n1], by simp [World.cell?, n1]⟩
    · have := Boxed.new (w.alloc (.cells #[.slice a3 X.past.length c3, .int .i64 X.book.now, .slice a0 X.book.svcs.length c0, .slice a1 X.book.cps.length c1, .slice a2 X.book.bts.length c2] 39)) 4 (.bool false)
      rw [hwa, hB]; simpa using this
  refine (callsIn_wide (n := 4)).1 (callsIn_of_wp_marks Try.func7 rfl trivial ?_)
  simp only [Try.ntmps7, List.size_toArray, List.length_cons, List.length_nil, Nat.reduceAdd, Nat.reduceSub, Array.replicate_succ, Array.replicate_zero, List.push_toArray, List.append_toArray, List.nil_append, List.cons_append]
  refine wpIn_wide.2 ?_
  go_upto_region 1 with fail
  rw [← hwa, ← hB]
  have HBW := hid hB
  clear hwa hB
  have HEND : Hid (∀ W, Below wa.heap.size wa W → R = false → (W.setCell ⟨B + 1, 0, none⟩ (.bool false)).cell? ⟨B + 1, 0, none⟩ = some (.bool false) ∧ (Ending.returned (Value.bool false) = Ending.returned (Value.bool R) ∧ Below w.heap.size w (W.setCell ⟨B + 1, 0, none⟩ (.bool false)))) := fun W hW hr => by
    have hc := Boxed.cell (boxed_belw HX.out.2 hW)
    exact ⟨World.cell?_setCell_same' _ _ _ (by rw [hc]; rfl), by rw [hr], (blw_trans HB.out hW).setCell (p := ⟨B + 1, 0, none⟩) (by have := HBW.out; simp; omega) _⟩
  obtain ⟨yz, y0, y1, y2, y3, y4⟩ := HX.out.1
  by_cases h8 : X.past.length ≤ 8
  · have HV := stewValidV X.book a0 a1 a2 c0 c1 c2 wa (HH.out.later HB.out).b
    have h8i : ¬ ((8 : Int) < (X.past.length : Int)) := by omega
    go_wp2_with fail
    refine HV.mono ?_
    rintro e w1 ⟨rfl, hb1⟩
    clear HV h8i
    have HB1 := hid hb1
    have HX1 : Hid (Boxed w1 (B + 1) 4 (.bool false)) := boxed_belw HX.out.2 hb1
    clear yz y0 y1 y2 y3 y4
    cases hok : sbOk X.book
    · have HE : Hid (R = false) := by show R = _; rw [HR.out, hok]; simp
      clear hok
      have hc := Boxed.cell HX1.out
      have hf := Boxed.frozen HX1.out
      go_wp2
      obtain ⟨k1, k2⟩ := HEND.out w1 HB1.out HE.out
      exact retW rfl k1 k2
    · have HE : Hid (R = (wst X (downs X.past.length X.past.length)).1) := by show R = _; rw [HR.out, hok, decide_eq_true h8]; rfl
      clear hok HR
      obtain ⟨L, hL⟩ : ∃ L, L = w1.heap.size := ⟨_, rfl⟩
      obtain ⟨w2, hw2⟩ : ∃ w2, w2 = w1.alloc (.cells #[.int .i64 X.book.now] 3) := ⟨_, rfl⟩
      have HL2 : Hid (Boxed w2 L 3 (.int .i64 X.book.now)) := by show Boxed _ _ _ _; rw [hw2, hL]; exact Boxed.new w1 3 _
      have HZ2 : Hid (w2.heap.size = L + 1) := by show _ = _; rw [hw2, hL]; simp
      have HB2 : Hid (Below w1.heap.size w1 w2) := by
        show Below _ _ _
        rw [hw2]
        exact blw_alloc (Below.refl _ _) _
      have HLB : Hid (B + 1 < L) := by show B + 1 < L; rw [hL]; exact HX1.out.lt
      obtain ⟨yz, y0, y1, y2, y3, y4⟩ := HX.out.1.later HB1.out
      have hn1 : w1.heap.size ≠ B := by have := HLB.out; omega
      have hn2 : B < w1.heap.size := by have := HLB.out; omega
      go_upto_region 4 with fail
      first | rw [← hL, ← hw2] | (trace_state; fail)
      clear hn1 hn2 yz y0 y1 y2 y3 y4 hw2
      obtain ⟨yz, y0, y1, y2, y3, y4⟩ := (HX.out.1.later HB1.out).later HB2.out
      clear hL
      go_wp2_with fail
      refine (backwardI a3 X.past.length c3 w2).mono ?_
      rintro e w10 ⟨rfl, hw10⟩
      rw [HZ2.out]
      clear yz y0 y1 y2 y3 y4
      have hb10 : Below w2.heap.size w2 w10 := by rw [hw10]; exact blw_alloc (Below.refl _ _) _
      have HS10 : Hid (w10.heap.size = L + 2) := by show _ = _; rw [hw10]; simp [HZ2.out]
      have HB10 := hid (blw_trans (blw_trans (blw_trans HB.out HB1.out) HB2.out) hb10)
      have HR10 : Hid (Boxed w10 (B + 1) 4 (.bool false)) := boxed_belw (boxed_belw HX1.out HB2.out) hb10
      have HL10 : Hid (Boxed w10 L 3 (.int .i64 X.book.now)) := boxed_belw HL2.out hb10
      have HBX : Hid (w10.cell? ⟨L + 1, 0, none⟩ = some (.slice a3 X.past.length c3)) := by
        show _ = _
        rw [hw10, ← HZ2.out]; exact World.cell?_alloc_at _ _ _ _ rfl
      clear hw10 hb10 HX1 HL2
      obtain ⟨A0, A1, A2, C0, C1, C2, hcell, hbk⟩ := bks_pick HH.out.p
      have HSEQ := backward_stops 3 (by omega) w10 X.past.length a3 c3 (L + 1) (fun i => (X.past.getD i SBk.none).now) A0 A1 A2 (fun i => (X.past.getD i SBk.none).svcs.length) (fun i => (X.past.getD i SBk.none).cps.length) (fun i => (X.past.getD i SBk.none).bts.length) C0 C1 C2 (fun b => b ≠ L ∧ b < L + 2) ⟨HBX.out, by rw [HS10.out]; omega, fun i hi => by
          obtain ⟨b, off, e, hl, q0, q1, q2, q3⟩ := hcell i hi
          have c : ∀ j, w10.cell? ⟨b, j, none⟩ = w.cell? ⟨b, j, none⟩ := fun j => HB10.out.cell (p := ⟨b, j, none⟩) hl
          exact ⟨b, off, e, Nat.lt_of_lt_of_le hl HB10.out.size, (c _).trans q0, (c _).trans q1, (c _).trans q2, (c _).trans q3⟩⟩ ⟨by omega, by omega⟩ (fun b off ha hn => by
        obtain ⟨b', off', ha', hb', _⟩ := hcell 0 hn
        rw [ha] at ha'
        injection ha' with ha'
        injection ha' with e1 _ _
        subst e1
        have := HBW.out
        have := HLB.out
        exact ⟨by omega, by omega⟩) (by omega)
      have HBK := hid hbk
      clear hcell hbk HBX
      go_wp2_with fail
      refine (wpIn_wide (n := 4)).1 ?_
      obtain ⟨fr, hfr⟩ : ∃ fr : Nat → Nat → Act, fr = fun x E => { tmps := #[.agg #[.slice a3 X.past.length c3, .int .i64 X.book.now, .slice a0 X.book.svcs.length c0, .slice a1 X.book.cps.length c1, .slice a2 X.book.bts.length c2], .pointer (some ⟨B, 0, none⟩), .pointer (some ⟨B + 1, 0, none⟩), .pointer (some ⟨L, 0, none⟩), undef, .pointer (some ⟨E, 0, none⟩), .pointer (some ⟨B, 0, none⟩), .slice a3 X.past.length c3, .int .i64 (X.past.length : Nat), .bool false, .bool false, .pointer (some ⟨B, 1, none⟩), .agg #[.int .i64 X.book.now, .slice a0 X.book.svcs.length c0, .slice a1 X.book.cps.length c1, .slice a2 X.book.bts.length c2], .bool true, .bool false, .bool false, .pointer (some ⟨B, 1, none⟩), .pointer (some ⟨B, 1, none⟩), .int .i64 X.book.now, .pointer (some ⟨B, 0, none⟩), .slice a3 X.past.length c3, .func (.func 33) #[] #[.pointer (some ⟨L + 1, 0, none⟩)], .int .i64 (x : Nat), .agg #[.int .i64 (X.past.getD x SBk.none).now, .slice (A0 x) (X.past.getD x SBk.none).svcs.length (C0 x), .slice (A1 x) (X.past.getD x SBk.none).cps.length (C1 x), .slice (A2 x) (X.past.getD x SBk.none).bts.length (C2 x)], undef, undef, undef, undef, undef, undef, undef, undef, undef, undef, undef], defers := [] } := ⟨_, rfl⟩
      refine wpIn_rangeFunc_ownH rfl (by decide) (gf := 33) (lb := #[.pointer (some ⟨L + 1, 0, none⟩)]) rfl trivial (enters_of Try.func33 (by kernel_rfl) rfl) HSEQ (fun h k => KptB.trans h k)
        (fun W l o o' hl ho _ _ => ⟨by simp, fun b hb _ => World.putObj_heap_other (by have := HS10.out; omega)⟩) (Below.refl _ _) (fun _ => rfl)
        (fun pre W => ((wst X pre).1 = true ∧ Boxed W (B + 1) 4 (.bool false) ∧ Boxed W L 3 (.int .i64 (wst X pre).2)) ∧ Below w.heap.size w W)
        (fun c pre W => (c = .ret ∧ (wst X pre).1 = false ∧ W.cell? ⟨B + 1, 0, none⟩ = some (.bool false)) ∧ Below w.heap.size w W)
        (OwnFrom.and (Own.from (fun s A A' row hs hg hr => ⟨hs.1, boxed_g hs.2.1 hg hr, boxed_g hs.2.2 hg hr⟩) _) (ownFrom_below (Nat.le_refl _) HB10.out.size))
        (fun c => OwnFrom.and (Own.from (fun s A A' row hs hg hr => ⟨hs.1, hs.2.1, cell_kept hs.2.2 hg hr⟩) _) (ownFrom_below (Nat.le_refl _) HB10.out.size))
        ⟨⟨rfl, HR10.out, HL10.out⟩, HB10.out⟩
        (fun x a' W => ∃ E, a' = fr x E ∧ W.heap[E]? = some (.cells #[.int .i64 (X.past.getD x SBk.none).now, .slice (A0 x) (X.past.getD x SBk.none).svcs.length (C0 x), .slice (A1 x) (X.past.getD x SBk.none).cps.length (C1 x), .slice (A2 x) (X.past.getD x SBk.none).bts.length (C2 x)] 37 (0, 0)) ∧ L < E)
        (fun x a' _ W W' row hs hg hr => by
          obtain ⟨E, h1, h2, h3⟩ := hs
          refine ⟨E, h1, (hg.block E (Array.getElem?_eq_some_iff.1 h2).1 fun e => ?_).trans h2, h3⟩
          obtain ⟨_, o, ho, hc⟩ := hr E e.symm
          rw [h2] at ho
          cases ho
          cases hc)
        ?assign ?body ?done ?stop
      case assign =>
        rintro l pre x W K1 ⟨⟨hC1, hC2, hC3⟩, hBl⟩ hK
        try dsimp only
        rw [hfr] at hK
        dsimp only at hK
        obtain ⟨y, hy⟩ : ∃ y, y = X.past.getD x SBk.none := ⟨_, rfl⟩
        rw [← hy] at hK ⊢
        have HK := hid hK
        have HC := hid (And.intro hC1 (And.intro hC2 hC3))
        have HBl := hid hBl
        clear hK hy hfr hC1 hC2 hC3 hBl
        gi_wp2
        refine HK.out _ _ ⟨by simp, fun k o _ hk _ => (Below.heap_alloc W _ k (Array.getElem?_eq_some_iff.1 hk).1).trans hk⟩ (KptB.of_below (blw_alloc (Below.refl _ _) _)) ⟨⟨HC.out.1, HC.out.2.1.alloc _, HC.out.2.2.alloc _⟩, blw_alloc HBl.out _⟩ ⟨W.heap.size, rfl, World.alloc_heap_new W _, HC.out.2.2.lt⟩
      case body =>
        rintro l pre x a' W hl hr ⟨⟨hC1, hC2, hC3⟩, hBl⟩ ⟨E, ha, hE, hEz⟩ hlen
        rw [hfr] at ha
        dsimp only at ha
        subst ha
        obtain ⟨y, hy⟩ : ∃ y, y = X.past.getD x SBk.none := ⟨_, rfl⟩
        obtain ⟨la, hla⟩ : ∃ la, la = (wst X pre).2 := ⟨_, rfl⟩
        have HS : Hid (wst X (pre ++ [x]) = (decide (y.now ≤ la) && sbOk y, y.now)) := by show _ = _; rw [wst_snoc, hC1, ← hla, ← hy]; rfl
        have HBY : Hid (SBkV W (A0 x) (A1 x) (A2 x) y) := by rw [hy]; exact (HBK.out x).later hBl
        rw [← hla] at hC3
        rw [← hy] at hE ⊢
        have HC2 := hid hC2
        have HC3 := hid hC3
        have HBl := hid hBl
        have hEE : E < W.heap.size := (Array.getElem?_eq_some_iff.1 hE).1
        have E0 : W.cell? ⟨E, 0, none⟩ = some (.int .i64 y.now) := by simp [World.cell?, hE]
        have E1 : W.cell? ⟨E, 1, none⟩ = some (.slice (A0 x) y.svcs.length (C0 x)) := by simp [World.cell?, hE]
        have E2 : W.cell? ⟨E, 2, none⟩ = some (.slice (A1 x) y.cps.length (C1 x)) := by simp [World.cell?, hE]
        have E3 : W.cell? ⟨E, 3, none⟩ = some (.slice (A2 x) y.bts.length (C2 x)) := by simp [World.cell?, hE]
        have L0 := hC3.cell
        have hc := hC2.cell
        have hf := hC2.frozen
        have HE1 := hid hE
        clear hfr hy hla hC1 hC2 hC3 hBl hr hl hE
        by_cases hgt : y.now ≤ la
        · have HV := stewValidV y (A0 x) (A1 x) (A2 x) (C0 x) (C1 x) (C2 x) W HBY.out
          obtain ⟨ok, hok⟩ : ∃ ok, ok = sbOk y := ⟨_, rfl⟩
          rw [← hok] at HV
          have HOK := hid hok
          clear hok
          have hgi : ¬ (la < y.now) := by omega
          clear hc hf
          cases ok
          · gi_wp2_with (refine ⟨trivial, ?_⟩; gi_at_call 14; refine (CallsIn.inRound l (callsIn_wide.2 HV)).mono ?_; rintro e W1 ⟨rfl, hb1⟩; have hc := (boxed_belw HC2.out hb1).cell; have hf := (boxed_belw HC2.out hb1).frozen)
            have hko : KeepsOthers W W1 := ⟨hb1.size, fun k o hk _ => (hb1.block k (Array.getElem?_eq_some_iff.1 hk).1).trans hk⟩
            exact ⟨(hko.trans (KeepsOthers.setCell _ _ _)).from _, ⟨rfl, by rw [HS.out, ← HOK.out]; simp, World.cell?_setCell_same' _ _ _ (by rw [hc]; rfl)⟩, (blw_trans HBl.out hb1).setCell (p := ⟨B + 1, 0, none⟩) (by have := HBW.out; simp; omega) _⟩
          · gi_wp2_with (refine ⟨trivial, ?_⟩; gi_at_call 14; refine (CallsIn.inRound l (callsIn_wide.2 HV)).mono ?_; rintro e W1 ⟨rfl, hb1⟩; have L1 := (boxed_belw HC3.out hb1).cell; have f1 := (boxed_belw HC3.out hb1).frozen; have z1 := (boxed_belw HC3.out hb1).lt; have E10 : W1.cell? ⟨E, 0, none⟩ = some (.int .i64 y.now) := (hb1.cell (p := ⟨E, 0, none⟩) hEE).trans E0; have EE1 : E < W1.heap.size := Nat.lt_of_lt_of_le hEE hb1.size)
            have hko : KeepsOthers W W1 := ⟨hb1.size, fun k o hk _ => (hb1.block k (Array.getElem?_eq_some_iff.1 hk).1).trans hk⟩
            have hLB := HLB.out
            refine ⟨(hko.trans (KeepsOthers.setCell _ _ _)).from _, KptB.trans (KptB.of_below hb1) ⟨by simp [World.setCell], fun b hb _ => Below.heap_setCell W1 ⟨L, 0, none⟩ _ b hb.1⟩, ⟨by rw [HS.out, ← HOK.out, decide_eq_true (show y.now ≤ la by omega)]; rfl, (boxed_belw HC2.out hb1).other (by omega) _, by rw [HS.out]; exact (boxed_belw HC3.out hb1).set _⟩, (blw_trans HBl.out hb1).setCell (p := ⟨L, 0, none⟩) (by have := HBW.out; simp; omega) _⟩
        · have hgi : la < y.now := by omega
          gi_wp2_with (refine ⟨trivial, ?_⟩)
          exact ⟨(KeepsOthers.setCell _ _ _).from _, ⟨rfl, by rw [HS.out, decide_eq_false (show ¬ y.now ≤ la by omega)]; rfl, World.cell?_setCell_same' _ _ _ (by rw [hc]; rfl)⟩, HBl.out.setCell (p := ⟨B + 1, 0, none⟩) (by have := HBW.out; simp; omega) _⟩
      case done =>
        rintro D ys W hD rfl ⟨⟨hC1, hC2, hC3⟩, hBl⟩ hK
        have HRT : Hid (R = true) := by show R = true; rw [HE.out]; exact hC1
        have hc := hC2.cell
        have hf := hC2.frozen
        have HBl := hid hBl
        have HKD : Hid (W.heap[D]? = some (.deferred (some [])) ∧ w10.heap.size ≤ D) := ⟨hK, hD⟩
        clear hC1 hC2 hC3 hBl hK hD hfr
        go_wp2
        have hK' := (KeepsOthers.setCell W ⟨B + 1, 0, none⟩ (.bool true)).same D _ HKD.out.1 rfl
        refine ⟨by simp, .inl ⟨_, _, rfl, run_takeDeferred hK', ?_⟩⟩
        have hc5 := cell_kept (World.cell?_setCell_same' W ⟨B + 1, 0, none⟩ (.bool true) (by rw [hc]; rfl)) (grownBy_putObj' _ D (.deferred none)) (fun r e => by cases e; exact ⟨_, hK', rfl⟩)
        refine ⟨.bool true, by simp [results, Try.f7, go_sem, hc5], by rw [HRT.out], (HBl.out.setCell (p := ⟨B + 1, 0, none⟩) (by have := HBW.out; simp; omega) _).trans (belowK_b (w := w) (Nat.le_refl _) _ D _ _ (Nat.le_trans HB10.out.size HKD.out.2) hK' rfl rfl)⟩
      case stop =>
        rintro D c pre W hD hpre ⟨⟨rfl, hin, hcr⟩, hB⟩ hK
        have HRT : Hid (R = false) := by
          show R = false
          rw [HE.out]
          exact wst_pre X hpre hin
        refine wpIn_wide.2 ?_
        have HKD : Hid (W.heap[D]? = some (.deferred (some [])) ∧ w10.heap.size ≤ D) := ⟨hK, hD⟩
        have HBl : Hid (Below w.heap.size w W) := hB
        clear hK hD hB hin hpre hfr
        go_wp2
        refine ⟨by simp, .inl ⟨_, _, rfl, run_takeDeferred HKD.out.1, ?_⟩⟩
        have hc5 := cell_kept hcr (grownBy_putObj' _ D (.deferred none)) (fun r e => by cases e; exact ⟨_, HKD.out.1, rfl⟩)
        refine ⟨.bool false, by simp [results, Try.f7, go_sem, hc5], by rw [HRT.out], HBl.out.trans (belowK_b (w := w) (Nat.le_refl _) W D _ _ (Nat.le_trans HB10.out.size HKD.out.2) HKD.out.1 rfl rfl)⟩
  · have HE : Hid (R = false) := by show R = _; rw [HR.out, decide_eq_false h8]; rfl
    have h8i : (8 : Int) < (X.past.length : Int) := by omega
    have hc := Boxed.cell HX.out.2
    have hf := Boxed.frozen HX.out.2
    go_wp2
    obtain ⟨k1, k2⟩ := HEND.out wa (Below.refl _ _) HE.out
    exact retW rfl k1 k2

theorem stewWorldOkI (X : SW) (b0 b1 b2 b3 : Nat) (w : World) (h : SWIn w b0 b1 b2 b3 X) :
    Calls Try.prog 7 #[.agg #[.slice (some ⟨b3, 0, none⟩) X.past.length X.past.length, .int .i64 X.book.now, .slice (some ⟨b0, 0, none⟩) X.book.svcs.length X.book.svcs.length, .slice (some ⟨b1, 0, none⟩) X.book.cps.length X.book.cps.length, .slice (some ⟨b2, 0, none⟩) X.book.bts.length X.book.bts.length]] w fun e w' => e = .returned (.bool (swOk X)) ∧ Below w.heap.size w w' :=
  stewWorldOkV X _ _ _ _ _ _ _ _ w h.v

end Go.Proofs.Ytfmcdpgeplkcgaa
