/-
  The sea, by the program: StewSea, whole.
-/
import Derived.Test.YtclagbakddkjcaaGreatChJ
namespace Go.Proofs.YtclagbakddkjcaaGreat
open Go.RowKit Go.Deep

theorem behind_meth (k : Int) (hk : inB k 1 6 = true) (px : Nat) (W : World) : (method 278 (hapP k) (.pointer (some ⟨px, 0, none⟩)) "loop.example/wharfdesk/impl.behind").run Tryz.prog W = .ok (131, .pointer (some ⟨px, 0, none⟩)) W := by
  by_cases k1 : k = 1
  · rw [show hapP k = 93 from by rw [k1]; decide]; kernel_rfl
  by_cases k2 : k = 2
  · rw [show hapP k = 96 from by rw [k2]; decide]; kernel_rfl
  by_cases k3 : k = 3
  · rw [show hapP k = 99 from by rw [k3]; decide]; kernel_rfl
  by_cases k4 : k = 4
  · rw [show hapP k = 102 from by rw [k4]; decide]; kernel_rfl
  by_cases k5 : k = 5
  · rw [show hapP k = 105 from by rw [k5]; decide]; kernel_rfl
  by_cases k6 : k = 6
  · rw [show hapP k = 108 from by rw [k6]; decide]; kernel_rfl
  exfalso
  simp only [inB, Bool.and_eq_true, decide_eq_true_eq] at hk
  omega

set_option maxRecDepth 8000 in
set_option maxHeartbeats 8000000 in
theorem behindI {px : Nat} {W : World} {a b c d : Value} {p0 p1 p2 : Option Addr} {n0 n1 n2 q0 q1 q2 : Nat} {v : Int} (ha : a = .int .i64 v) (hb' : b = .slice p0 n0 q0) (hc : c = .slice p1 n1 q1) (hd : d = .slice p2 n2 q2) (hl : px < W.heap.size) (h0 : W.cell? ⟨px, 0, none⟩ = some a) (h1 : W.cell? ⟨px, 1, none⟩ = some b) (h2 : W.cell? ⟨px, 2, none⟩ = some c) (h3 : W.cell? ⟨px, 3, none⟩ = some d) :
    Calls Tryz.prog 131 #[.pointer (some ⟨px, 0, none⟩)] W fun e W' => e = .returned (.agg #[a, b, c, d]) ∧ Below W.heap.size W W' := by
  subst ha hb' hc hd
  obtain ⟨w1, hw1⟩ : ∃ w1, w1 = W.alloc (.cells #[.int .i64 0, .slice none 0 0, .slice none 0 0, .slice none 0 0] 37) := ⟨_, rfl⟩
  have hb : Below W.heap.size W w1 := by rw [hw1]; exact blw_alloc (Below.refl _ _) _
  have HO : Hid (w1.heap[W.heap.size]? = some (.cells #[.int .i64 0, .slice none 0 0, .slice none 0 0, .slice none 0 0] 37 (0, 0))) := by show _ = _; rw [hw1]; exact heap_alloc_new _ _
  have y0 := (hb.cell (p := ⟨px, 0, none⟩) hl).trans h0
  have y1 := (hb.cell (p := ⟨px, 1, none⟩) hl).trans h1
  have y2 := (hb.cell (p := ⟨px, 2, none⟩) hl).trans h2
  have y3 := (hb.cell (p := ⟨px, 3, none⟩) hl).trans h3
  have yz := Nat.lt_of_lt_of_le hl hb.size
  have HB := hid hb
  clear h0 h1 h2 h3 hl hb
  go_enter Tryz.func131, Tryz.ntmps131
  go_upto_region 1 with fail
  rw [← hw1]
  clear hw1
  have oz := lt_block HO.out
  have o0 := cellsOf_block HO.out 0
  have o1 := cellsOf_block HO.out 1
  have o2 := cellsOf_block HO.out 2
  have o3 := cellsOf_block HO.out 3
  simp only [List.getElem?_toArray, List.getElem?_cons_zero, List.getElem?_cons_succ] at o0 o1 o2 o3
  have of0 := frozen_block HO.out 0
  have of1 := frozen_block HO.out 1
  have of2 := frozen_block HO.out 2
  have of3 := frozen_block HO.out 3
  go_wp2
  have HOw : Hid (OwnBlk w1 W.heap.size 37 4) := ⟨_, HO.out, rfl⟩
  have p := fun i hi => puts_at 0 [.int .i64 v, .slice p0 n0 q0, .slice p1 n1 q1, .slice p2 n2 q2] w1 0 HOw.out (by simp) i hi
  have t0 := p 0 (by simp)
  have t1 := p 1 (by simp)
  have t2 := p 2 (by simp)
  have t3 := p 3 (by simp)
  simp only [puts, Nat.add_zero, Nat.zero_add, Nat.reduceAdd, List.getElem?_cons_zero, List.getElem?_cons_succ] at t0 t1 t2 t3
  refine bodyPost_ret (v := .agg #[.int .i64 v, .slice p0 n0 q0, .slice p1 n1 q1, .slice p2 n2 q2]) (by simp [results, Tryz.results131, go_sem, t0, t1, t2, t3]) rfl ⟨rfl, ?_⟩
  exact puts_below (a := W) 0 (B := W.heap.size) (by omega) [.int .i64 v, .slice p0 n0 q0, .slice p1 n1 q1, .slice p2 n2 q2] w1 0 HB.out

theorem sea_bad {K : SBk} {E : Ev} (hok : sbOk K = true) (hk : inB E.kind 1 6 = false) : stewSeaC K E = 4 := by
  unfold stewSeaC
  rw [if_pos hok]
  split
  · rw [hk]; rfl
  · have hn : ∀ j : Int, 1 ≤ j → j ≤ 6 → E.kind ≠ j := fun j h1 h2 e => by
      rw [e] at hk
      simp only [inB, decide_eq_true h1, decide_eq_true h2] at hk
      cases hk
    have : seaC K E = 4 := by
      unfold seaC
      rw [if_neg (hn 1 (by omega) (by omega)), if_neg (hn 2 (by omega) (by omega)), if_neg (hn 3 (by omega) (by omega)), if_neg (hn 4 (by omega) (by omega)), if_neg (hn 5 (by omega) (by omega)), if_neg (hn 6 (by omega) (by omega))]
    rw [this, if_neg (by decide)]
theorem sea_full {K : SBk} {E : Ev} (hok : sbOk K = true) (hk : inB E.kind 1 6 = true) (hn : K.now = 1000000) : stewSeaC K E = 7 := by
  unfold stewSeaC
  rw [if_pos hok, if_pos (by omega), hk]
  rfl
theorem sea_stays {K : SBk} {E : Ev} (hok : sbOk K = true) (hc : stewSeaC K E ≠ 0) : stewSeaK K E = K := by
  unfold stewSeaK
  rw [if_pos hok, if_neg hc]
theorem sea_done {K : SBk} {E : Ev} (hok : sbOk K = true) (hc : stewSeaC K E = 0) : stewSeaK K E = seaK K E := by
  unfold stewSeaK
  rw [if_pos hok, if_pos hc]

set_option maxRecDepth 8000 in
set_option maxHeartbeats 16000000 in
theorem stewSeaI (K : SBk) (E : Ev) (b0 b1 b2 : Nat) (w : World) (h : SBkIn w b0 b1 b2 K) (hsz : E.sv.nm.size ≤ maxLen ∧ E.nm.size ≤ maxLen) :
    Calls Tryz.prog 9 #[.agg #[.int .i64 K.now, .slice (some ⟨b0, 0, none⟩) K.svcs.length K.svcs.length, .slice (some ⟨b1, 0, none⟩) K.cps.length K.cps.length, .slice (some ⟨b2, 0, none⟩) K.bts.length K.bts.length], .agg #[.int .i64 E.kind, .string E.sv.nm, .int .i64 E.sv.ver, .bool E.sv.gone, .int .i64 E.sv.image, .int .i64 E.sv.want, .int .i64 E.sv.down, .int .i64 E.sv.over, .int .i64 E.sv.next, .int .i64 E.sv.per, .int .i64 E.sv.least, .int .i64 E.sv.most, .int .i64 E.sv.load, .int .i64 E.sv.cool, .string E.nm, .int .i64 E.num, .bool E.flag]] w fun e w' => (∃ s0 s1 s2, e = .returned (.tuple #[.agg #[.int .i64 (stewSeaK K E).now, s0, s1, s2], .int .i64 (stewSeaC K E)]) ∧ BkOwn w' w.heap.size (stewSeaK K E) s0 s1 s2) ∧ Below w.heap.size w w' := by
  have HH := hid h.v
  have HZ := hid hsz
  obtain ⟨c0, hc0⟩ : ∃ c0, c0 = K.svcs.length := ⟨_, rfl⟩
  obtain ⟨c1, hc1⟩ : ∃ c1, c1 = K.cps.length := ⟨_, rfl⟩
  obtain ⟨c2, hc2⟩ : ∃ c2, c2 = K.bts.length := ⟨_, rfl⟩
  rw [show (#[.agg #[.int .i64 K.now, .slice (some ⟨b0, 0, none⟩) K.svcs.length K.svcs.length, .slice (some ⟨b1, 0, none⟩) K.cps.length K.cps.length, .slice (some ⟨b2, 0, none⟩) K.bts.length K.bts.length], .agg #[.int .i64 E.kind, .string E.sv.nm, .int .i64 E.sv.ver, .bool E.sv.gone, .int .i64 E.sv.image, .int .i64 E.sv.want, .int .i64 E.sv.down, .int .i64 E.sv.over, .int .i64 E.sv.next, .int .i64 E.sv.per, .int .i64 E.sv.least, .int .i64 E.sv.most, .int .i64 E.sv.load, .int .i64 E.sv.cool, .string E.nm, .int .i64 E.num, .bool E.flag]] : Array Value) = #[.agg #[.int .i64 K.now, .slice (some ⟨b0, 0, none⟩) K.svcs.length c0, .slice (some ⟨b1, 0, none⟩) K.cps.length c1, .slice (some ⟨b2, 0, none⟩) K.bts.length c2], .agg #[.int .i64 E.kind, .string E.sv.nm, .int .i64 E.sv.ver, .bool E.sv.gone, .int .i64 E.sv.image, .int .i64 E.sv.want, .int .i64 E.sv.down, .int .i64 E.sv.over, .int .i64 E.sv.next, .int .i64 E.sv.per, .int .i64 E.sv.least, .int .i64 E.sv.most, .int .i64 E.sv.load, .int .i64 E.sv.cool, .string E.nm, .int .i64 E.num, .bool E.flag]] from by rw [hc0, hc1, hc2]]
  clear h hsz hc0 hc1 hc2
  obtain ⟨wa, hwa⟩ : ∃ wa, wa = ((w.alloc (.cells #[.int .i64 K.now, .slice (some ⟨b0, 0, none⟩) K.svcs.length c0, .slice (some ⟨b1, 0, none⟩) K.cps.length c1, .slice (some ⟨b2, 0, none⟩) K.bts.length c2] 37)).alloc (.cells #[.int .i64 E.kind, .string E.sv.nm, .int .i64 E.sv.ver, .bool E.sv.gone, .int .i64 E.sv.image, .int .i64 E.sv.want, .int .i64 E.sv.down, .int .i64 E.sv.over, .int .i64 E.sv.next, .int .i64 E.sv.per, .int .i64 E.sv.least, .int .i64 E.sv.most, .int .i64 E.sv.load, .int .i64 E.sv.cool, .string E.nm, .int .i64 E.num, .bool E.flag] 43)).alloc (.cells #[.int .i64 0, .slice none 0 0, .slice none 0 0, .slice none 0 0] 37) := ⟨_, rfl⟩
  have HBa : Hid (Below w.heap.size w wa) := by show Below _ _ _; rw [hwa]; exact blw_alloc (blw_alloc (blw_alloc (Below.refl _ _) _) _) _
  have HXa : Hid (LBox wa w.heap.size [.int .i64 K.now, .slice (some ⟨b0, 0, none⟩) K.svcs.length c0, .slice (some ⟨b1, 0, none⟩) K.cps.length c1, .slice (some ⟨b2, 0, none⟩) K.bts.length c2]) := by
    show LBox _ _ _
    rw [hwa]
    exact ((LBox.new _ _ _ _ rfl).later (blw_alloc (Below.refl _ _) _)).later (blw_alloc (Below.refl _ _) _)
  have HEa : Hid (LBox wa (w.heap.size + 1) [.int .i64 E.kind, .string E.sv.nm, .int .i64 E.sv.ver, .bool E.sv.gone, .int .i64 E.sv.image, .int .i64 E.sv.want, .int .i64 E.sv.down, .int .i64 E.sv.over, .int .i64 E.sv.next, .int .i64 E.sv.per, .int .i64 E.sv.least, .int .i64 E.sv.most, .int .i64 E.sv.load, .int .i64 E.sv.cool, .string E.nm, .int .i64 E.num, .bool E.flag]) := by show LBox _ _ _; rw [hwa]; exact (LBox.new _ _ _ _ (by simp)).later (blw_alloc (Below.refl _ _) _)
  have HOa : Hid (wa.heap[w.heap.size + 2]? = some (.cells #[.int .i64 0, .slice none 0 0, .slice none 0 0, .slice none 0 0] 37 (0, 0))) := by
    show _ = _
    rw [hwa]
    have e : ((w.alloc (.cells #[.int .i64 K.now, .slice (some ⟨b0, 0, none⟩) K.svcs.length c0, .slice (some ⟨b1, 0, none⟩) K.cps.length c1, .slice (some ⟨b2, 0, none⟩) K.bts.length c2] 37)).alloc (.cells #[.int .i64 E.kind, .string E.sv.nm, .int .i64 E.sv.ver, .bool E.sv.gone, .int .i64 E.sv.image, .int .i64 E.sv.want, .int .i64 E.sv.down, .int .i64 E.sv.over, .int .i64 E.sv.next, .int .i64 E.sv.per, .int .i64 E.sv.least, .int .i64 E.sv.most, .int .i64 E.sv.load, .int .i64 E.sv.cool, .string E.nm, .int .i64 E.num, .bool E.flag] 43)).heap.size = w.heap.size + 2 := by simp
    rw [← e]
    exact heap_alloc_new _ _
  go_enter Tryz.func9, Tryz.ntmps9
  go_upto_region 1 with fail
  rw [← hwa]
  clear hwa
  have y0 := HXa.out.get 0 _ rfl
  have y1 := HXa.out.get 1 _ rfl
  have y2 := HXa.out.get 2 _ rfl
  have y3 := HXa.out.get 3 _ rfl
  have yz := HXa.out.lt
  go_wp2_with fail
  refine (stewValidV K _ _ _ c0 c1 c2 wa (HH.out.later HBa.out)).mono ?_
  rintro e w1 ⟨rfl, hb1⟩
  have HB1 := hid (blw_trans HBa.out hb1)
  have HX1 := hid (HXa.out.later hb1)
  have HE1 := hid (HEa.out.later hb1)
  have HO1 : Hid (w1.heap[w.heap.size + 2]? = some (.cells #[.int .i64 0, .slice none 0 0, .slice none 0 0, .slice none 0 0] 37 (0, 0))) := (hb1.block _ (lt_block HOa.out)).trans HOa.out
  clear y0 y1 y2 y3 yz hb1 HBa HXa HEa HOa
  cases hok : sbOk K
  · have HK : Hid (stewSeaK K E = noK) := by show _ = _; unfold stewSeaK; rw [hok]; rfl
    have HC : Hid (stewSeaC K E = 1) := by show _ = _; unfold stewSeaC; rw [hok]; rfl
    have HO9 := HO1
    clear hok
    have oz := lt_block HO9.out
    have o0 := cellsOf_block HO9.out 0
    have o1 := cellsOf_block HO9.out 1
    have o2 := cellsOf_block HO9.out 2
    have o3 := cellsOf_block HO9.out 3
    simp only [List.getElem?_toArray, List.getElem?_cons_zero, List.getElem?_cons_succ] at o0 o1 o2 o3
    have of0 := frozen_block HO9.out 0
    have of1 := frozen_block HO9.out 1
    have of2 := frozen_block HO9.out 2
    have of3 := frozen_block HO9.out 3
    go_wp2
    have HOw : Hid (OwnBlk w1 (w.heap.size + 2) 37 4) := ⟨_, HO9.out, rfl⟩
    have p := fun i hi => puts_at 0 [.int .i64 0, .slice none 0 0, .slice none 0 0, .slice none 0 0] w1 0 HOw.out (by simp) i hi
    have t0 := p 0 (by simp)
    have t1 := p 1 (by simp)
    have t2 := p 2 (by simp)
    have t3 := p 3 (by simp)
    have r := BkOwn.puts 0 [.int .i64 0, .slice none 0 0, .slice none 0 0, .slice none 0 0] w1 0 (noOwn w1 w.heap.size) HOw.out
    have rb := puts_below (a := w) 0 (B := w.heap.size + 2) (by omega) [.int .i64 0, .slice none 0 0, .slice none 0 0, .slice none 0 0] w1 0 HB1.out
    simp only [puts, Nat.add_zero, Nat.zero_add, Nat.reduceAdd, List.getElem?_cons_zero, List.getElem?_cons_succ] at t0 t1 t2 t3 r rb
    refine bodyPost_ret (v := .tuple #[.agg #[.int .i64 0, .slice none 0 0, .slice none 0 0, .slice none 0 0], .int .i64 1]) (by simp [results, Tryz.results9, go_sem, t0, t1, t2, t3]) rfl ⟨⟨.slice none 0 0, .slice none 0 0, .slice none 0 0, ?_, ?_⟩, ?_⟩
    · rw [HK.out, HC.out]
      first | rfl | done
    · rw [HK.out]; exact r
    · exact rb
  have HOK := hid hok
  have HS : Hid K.small := small_of hok
  have HN : Hid (0 ≤ K.now ∧ K.now ≤ 1000000) := ((val_iff K).1 hok).now
  clear hok
  have y0 := HX1.out.get 0 _ rfl
  have y1 := HX1.out.get 1 _ rfl
  have y2 := HX1.out.get 2 _ rfl
  have y3 := HX1.out.get 3 _ rfl
  have yz := HX1.out.lt
  have ez := HE1.out.lt
  have E0 := HE1.out.get 0 _ rfl
  have E1 := HE1.out.get 1 _ rfl
  have E2 := HE1.out.get 2 _ rfl
  have E3 := HE1.out.get 3 _ rfl
  have E4 := HE1.out.get 4 _ rfl
  have E5 := HE1.out.get 5 _ rfl
  have E6 := HE1.out.get 6 _ rfl
  have E7 := HE1.out.get 7 _ rfl
  have E8 := HE1.out.get 8 _ rfl
  have E9 := HE1.out.get 9 _ rfl
  have E10 := HE1.out.get 10 _ rfl
  have E11 := HE1.out.get 11 _ rfl
  have E12 := HE1.out.get 12 _ rfl
  have E13 := HE1.out.get 13 _ rfl
  have E14 := HE1.out.get 14 _ rfl
  have E15 := HE1.out.get 15 _ rfl
  have E16 := HE1.out.get 16 _ rfl
  go_wp2_with fail
  refine (happeningI K E b0 b1 b2 c0 c1 c2 w1 (HH.out.later HB1.out) HS.out HN.out).mono ?_
  rintro e w2 ⟨hyes, hno, hb2⟩
  have HB2 := hid (blw_trans HB1.out hb2)
  have HX2 := hid (HX1.out.later hb2)
  have HO2 : Hid (w2.heap[w.heap.size + 2]? = some (.cells #[.int .i64 0, .slice none 0 0, .slice none 0 0, .slice none 0 0] 37 (0, 0))) := (hb2.block _ (lt_block HO1.out)).trans HO1.out
  have HLO := hid HB1.out.size
  have HL1 : Hid (w.heap.size < w1.heap.size ∧ w.heap.size + 2 < w1.heap.size) := ⟨HX1.out.lt, lt_block HO1.out⟩
  have HSZ := hid hb2.size
  clear y0 y1 y2 y3 yz ez E0 E1 E2 E3 E4 E5 E6 E7 E8 E9 E10 E11 E12 E13 E14 E15 E16 hb2 HB1 HX1 HE1
  cases hk : inB E.kind 1 6
  · obtain rfl := hno hk
    have HC : Hid (stewSeaC K E = 4) := sea_bad HOK.out hk
    have HK : Hid (stewSeaK K E = K) := sea_stays HOK.out (by rw [HC.out]; decide)
    clear hyes hno hk
    have y0 := HX2.out.get 0 _ rfl
    have y1 := HX2.out.get 1 _ rfl
    have y2 := HX2.out.get 2 _ rfl
    have y3 := HX2.out.get 3 _ rfl
    have yz := HX2.out.lt
    go_wp2_with fail
    refine (copyBookI K b0 b1 b2 c0 c1 c2 w2 (HH.out.later HB2.out) HS.out).mono ?_
    rintro e w9 ⟨⟨s0, s1, s2, rfl, hO⟩, hb9⟩
    obtain ⟨d0, e0, rfl⟩ := owns_is hO.o0
    obtain ⟨d1, e1, rfl⟩ := owns_is hO.o1
    obtain ⟨d2, e2, rfl⟩ := owns_is hO.o2
    have HW9 := hid (hO.lo (Nat.le_trans HB2.out.size (Nat.le_add_right _ _)))
    have HB9 := hid (blw_trans HB2.out hb9)
    have HO9 : Hid (w9.heap[w.heap.size + 2]? = some (.cells #[.int .i64 0, .slice none 0 0, .slice none 0 0, .slice none 0 0] 37 (0, 0))) := (hb9.block _ (lt_block HO2.out)).trans HO2.out
    clear y0 y1 y2 y3 yz hO hb9
    have oz := lt_block HO9.out
    have o0 := cellsOf_block HO9.out 0
    have o1 := cellsOf_block HO9.out 1
    have o2 := cellsOf_block HO9.out 2
    have o3 := cellsOf_block HO9.out 3
    simp only [List.getElem?_toArray, List.getElem?_cons_zero, List.getElem?_cons_succ] at o0 o1 o2 o3
    have of0 := frozen_block HO9.out 0
    have of1 := frozen_block HO9.out 1
    have of2 := frozen_block HO9.out 2
    have of3 := frozen_block HO9.out 3
    go_wp2
    have HOw : Hid (OwnBlk w9 (w.heap.size + 2) 37 4) := ⟨_, HO9.out, rfl⟩
    have p := fun i hi => puts_at 0 [.int .i64 K.now, .slice d0 K.svcs.length e0, .slice d1 K.cps.length e1, .slice d2 K.bts.length e2] w9 0 HOw.out (by simp) i hi
    have t0 := p 0 (by simp)
    have t1 := p 1 (by simp)
    have t2 := p 2 (by simp)
    have t3 := p 3 (by simp)
    have r := BkOwn.puts 0 [.int .i64 K.now, .slice d0 K.svcs.length e0, .slice d1 K.cps.length e1, .slice d2 K.bts.length e2] w9 0 HW9.out HOw.out
    have rb := puts_below (a := w) 0 (B := w.heap.size + 2) (by omega) [.int .i64 K.now, .slice d0 K.svcs.length e0, .slice d1 K.cps.length e1, .slice d2 K.bts.length e2] w9 0 HB9.out
    simp only [puts, Nat.add_zero, Nat.zero_add, Nat.reduceAdd, List.getElem?_cons_zero, List.getElem?_cons_succ] at t0 t1 t2 t3 r rb
    refine bodyPost_ret (v := .tuple #[.agg #[.int .i64 K.now, .slice d0 K.svcs.length e0, .slice d1 K.cps.length e1, .slice d2 K.bts.length e2], .int .i64 4]) (by simp [results, Tryz.results9, go_sem, t0, t1, t2, t3]) rfl ⟨⟨.slice d0 K.svcs.length e0, .slice d1 K.cps.length e1, .slice d2 K.bts.length e2, ?_, ?_⟩, ?_⟩
    · rw [HK.out, HC.out]
      first | rfl | done
    · rw [HK.out]; exact r
    · exact rb
  obtain ⟨px, p0, p1, p2, q0, q1, q2, rfl, hpx, hX⟩ := hyes hk
  have HK1 := hid hk
  have HPX := hid hpx
  have HG := hid hX
  clear hyes hno hk hpx hX
  by_cases hnow : K.now = 1000000
  · have HC : Hid (stewSeaC K E = 7) := sea_full HOK.out HK1.out hnow
    have HK : Hid (stewSeaK K E = K) := sea_stays HOK.out (by rw [HC.out]; decide)
    have hX2 := HX2.out.get 0 _ rfl
    rw [hnow] at hX2
    have hX2z := HX2.out.lt
    clear hnow
    go_upto_region 7 with fail
    clear hX2 hX2z
    have y0 := HX2.out.get 0 _ rfl
    have y1 := HX2.out.get 1 _ rfl
    have y2 := HX2.out.get 2 _ rfl
    have y3 := HX2.out.get 3 _ rfl
    have yz := HX2.out.lt
    go_wp2_with fail
    refine (copyBookI K b0 b1 b2 c0 c1 c2 w2 (HH.out.later HB2.out) HS.out).mono ?_
    rintro e w9 ⟨⟨s0, s1, s2, rfl, hO⟩, hb9⟩
    obtain ⟨d0, e0, rfl⟩ := owns_is hO.o0
    obtain ⟨d1, e1, rfl⟩ := owns_is hO.o1
    obtain ⟨d2, e2, rfl⟩ := owns_is hO.o2
    have HW9 := hid (hO.lo (Nat.le_trans HB2.out.size (Nat.le_add_right _ _)))
    have HB9 := hid (blw_trans HB2.out hb9)
    have HO9 : Hid (w9.heap[w.heap.size + 2]? = some (.cells #[.int .i64 0, .slice none 0 0, .slice none 0 0, .slice none 0 0] 37 (0, 0))) := (hb9.block _ (lt_block HO2.out)).trans HO2.out
    clear y0 y1 y2 y3 yz hO hb9
    have oz := lt_block HO9.out
    have o0 := cellsOf_block HO9.out 0
    have o1 := cellsOf_block HO9.out 1
    have o2 := cellsOf_block HO9.out 2
    have o3 := cellsOf_block HO9.out 3
    simp only [List.getElem?_toArray, List.getElem?_cons_zero, List.getElem?_cons_succ] at o0 o1 o2 o3
    have of0 := frozen_block HO9.out 0
    have of1 := frozen_block HO9.out 1
    have of2 := frozen_block HO9.out 2
    have of3 := frozen_block HO9.out 3
    go_wp2
    have HOw : Hid (OwnBlk w9 (w.heap.size + 2) 37 4) := ⟨_, HO9.out, rfl⟩
    have p := fun i hi => puts_at 0 [.int .i64 K.now, .slice d0 K.svcs.length e0, .slice d1 K.cps.length e1, .slice d2 K.bts.length e2] w9 0 HOw.out (by simp) i hi
    have t0 := p 0 (by simp)
    have t1 := p 1 (by simp)
    have t2 := p 2 (by simp)
    have t3 := p 3 (by simp)
    have r := BkOwn.puts 0 [.int .i64 K.now, .slice d0 K.svcs.length e0, .slice d1 K.cps.length e1, .slice d2 K.bts.length e2] w9 0 HW9.out HOw.out
    have rb := puts_below (a := w) 0 (B := w.heap.size + 2) (by omega) [.int .i64 K.now, .slice d0 K.svcs.length e0, .slice d1 K.cps.length e1, .slice d2 K.bts.length e2] w9 0 HB9.out
    simp only [puts, Nat.add_zero, Nat.zero_add, Nat.reduceAdd, List.getElem?_cons_zero, List.getElem?_cons_succ] at t0 t1 t2 t3 r rb
    refine bodyPost_ret (v := .tuple #[.agg #[.int .i64 K.now, .slice d0 K.svcs.length e0, .slice d1 K.cps.length e1, .slice d2 K.bts.length e2], .int .i64 7]) (by simp [results, Tryz.results9, go_sem, t0, t1, t2, t3]) rfl ⟨⟨.slice d0 K.svcs.length e0, .slice d1 K.cps.length e1, .slice d2 K.bts.length e2, ?_, ?_⟩, ?_⟩
    · rw [HK.out, HC.out]
      first | rfl | done
    · rw [HK.out]; exact r
    · exact rb
  have HNB : Hid ((K.now == 1000000) = false) := by show _ = _; simpa using hnow
  have HNL : Hid (K.now < 1000000) := by have := HN.out; show _ < _; omega
  have hX2 := HX2.out.get 0 _ rfl
  have hX2z := HX2.out.lt
  have hnb := HNB.out
  clear hnow
  go_upto_region 8 with fail
  clear hX2 hX2z hnb
  obtain ⟨c, hc⟩ : ∃ c, c = stewSeaC K E := ⟨_, rfl⟩
  go_wp2_with fail
  refine (happensI K E HG.out HOK.out HNL.out HK1.out HZ.out HSZ.out HPX.out).mono ?_
  rintro e w3 ⟨rfl, ⟨sv, cp, bt, p0', p1', p2', n0', n1', n2', q0', q1', q2', hX, hR⟩, hb3⟩
  rw [← hc]
  rw [← hc] at hR
  have HB3 : Hid (Below w.heap.size w w3) := HB2.out.trans (hb3.mono HLO.out)
  have HX3 : Hid (LBox w3 w.heap.size [.int .i64 K.now, .slice (some ⟨b0, 0, none⟩) K.svcs.length c0, .slice (some ⟨b1, 0, none⟩) K.cps.length c1, .slice (some ⟨b2, 0, none⟩) K.bts.length c2]) := ⟨Nat.lt_of_lt_of_le HX2.out.lt hb3.size, fun j u hu => (hb3.cell (p := ⟨w.heap.size, 0 + j, none⟩) HL1.out.1).trans (HX2.out.at_ j u hu)⟩
  have HO3 : Hid (w3.heap[w.heap.size + 2]? = some (.cells #[.int .i64 0, .slice none 0 0, .slice none 0 0, .slice none 0 0] 37 (0, 0))) := (hb3.block _ HL1.out.2).trans HO2.out
  have HG3 := hid hX
  have HR := hid hR
  have HCC := hid hc
  clear hX hR hc hb3 HB2 HX2 HO2 HG
  by_cases h0 : c = 0
  · have HC : Hid (stewSeaC K E = 0) := by show _ = _; rw [← HCC.out]; exact h0
    have HK : Hid (stewSeaK K E = ⟨K.now + 1, sv, cp, bt⟩) := (sea_done HOK.out HC.out).trans (HR.out h0)
    rw [h0]
    clear h0
    have hmeth := fun W => behind_meth E.kind HK1.out px W
    go_wp2_with fail
    refine (behindI rfl rfl rfl rfl (lt_heap HG3.out.bx) (HG3.out.cell 0 _ rfl) (HG3.out.cell 1 _ rfl) (HG3.out.cell 2 _ rfl) (HG3.out.cell 3 _ rfl)).mono ?_
    rintro e w9 ⟨rfl, hb9⟩
    have HW9 := hid ((HG3.out.later hb9).own.lo HLO.out)
    have HB9 := hid (blw_trans HB3.out hb9)
    have HO9 : Hid (w9.heap[w.heap.size + 2]? = some (.cells #[.int .i64 0, .slice none 0 0, .slice none 0 0, .slice none 0 0] 37 (0, 0))) := (hb9.block _ (lt_block HO3.out)).trans HO3.out
    clear hb9 hmeth
    have oz := lt_block HO9.out
    have o0 := cellsOf_block HO9.out 0
    have o1 := cellsOf_block HO9.out 1
    have o2 := cellsOf_block HO9.out 2
    have o3 := cellsOf_block HO9.out 3
    simp only [List.getElem?_toArray, List.getElem?_cons_zero, List.getElem?_cons_succ] at o0 o1 o2 o3
    have of0 := frozen_block HO9.out 0
    have of1 := frozen_block HO9.out 1
    have of2 := frozen_block HO9.out 2
    have of3 := frozen_block HO9.out 3
    go_wp2
    have HOw : Hid (OwnBlk w9 (w.heap.size + 2) 37 4) := ⟨_, HO9.out, rfl⟩
    have p := fun i hi => puts_at 0 [.int .i64 (K.now + 1), .slice p0' n0' q0', .slice p1' n1' q1', .slice p2' n2' q2'] w9 0 HOw.out (by simp) i hi
    have t0 := p 0 (by simp)
    have t1 := p 1 (by simp)
    have t2 := p 2 (by simp)
    have t3 := p 3 (by simp)
    have r := BkOwn.puts 0 [.int .i64 (K.now + 1), .slice p0' n0' q0', .slice p1' n1' q1', .slice p2' n2' q2'] w9 0 HW9.out HOw.out
    have rb := puts_below (a := w) 0 (B := w.heap.size + 2) (by omega) [.int .i64 (K.now + 1), .slice p0' n0' q0', .slice p1' n1' q1', .slice p2' n2' q2'] w9 0 HB9.out
    simp only [puts, Nat.add_zero, Nat.zero_add, Nat.reduceAdd, List.getElem?_cons_zero, List.getElem?_cons_succ] at t0 t1 t2 t3 r rb
    refine bodyPost_ret (v := .tuple #[.agg #[.int .i64 (K.now + 1), .slice p0' n0' q0', .slice p1' n1' q1', .slice p2' n2' q2'], .int .i64 0]) (by simp [results, Tryz.results9, go_sem, t0, t1, t2, t3]) rfl ⟨⟨.slice p0' n0' q0', .slice p1' n1' q1', .slice p2' n2' q2', ?_, ?_⟩, ?_⟩
    · rw [HK.out, HC.out]
      first | rfl | done
    · rw [HK.out]; exact r
    · exact rb
  · have HC : Hid (stewSeaC K E = c) := HCC.out.symm
    have HK : Hid (stewSeaK K E = K) := sea_stays HOK.out (by rw [HC.out]; exact h0)
    have hcb : (c != 0) = true := by simpa using h0
    clear h0
    go_upto_region 10 with fail
    clear hcb
    have y0 := HX3.out.get 0 _ rfl
    have y1 := HX3.out.get 1 _ rfl
    have y2 := HX3.out.get 2 _ rfl
    have y3 := HX3.out.get 3 _ rfl
    have yz := HX3.out.lt
    go_wp2_with fail
    refine (copyBookI K b0 b1 b2 c0 c1 c2 w3 (HH.out.later HB3.out) HS.out).mono ?_
    rintro e w9 ⟨⟨s0, s1, s2, rfl, hO⟩, hb9⟩
    obtain ⟨d0, e0, rfl⟩ := owns_is hO.o0
    obtain ⟨d1, e1, rfl⟩ := owns_is hO.o1
    obtain ⟨d2, e2, rfl⟩ := owns_is hO.o2
    have HW9 := hid (hO.lo (Nat.le_trans HB3.out.size (Nat.le_add_right _ _)))
    have HB9 := hid (blw_trans HB3.out hb9)
    have HO9 : Hid (w9.heap[w.heap.size + 2]? = some (.cells #[.int .i64 0, .slice none 0 0, .slice none 0 0, .slice none 0 0] 37 (0, 0))) := (hb9.block _ (lt_block HO3.out)).trans HO3.out
    clear y0 y1 y2 y3 yz hO hb9
    have oz := lt_block HO9.out
    have o0 := cellsOf_block HO9.out 0
    have o1 := cellsOf_block HO9.out 1
    have o2 := cellsOf_block HO9.out 2
    have o3 := cellsOf_block HO9.out 3
    simp only [List.getElem?_toArray, List.getElem?_cons_zero, List.getElem?_cons_succ] at o0 o1 o2 o3
    have of0 := frozen_block HO9.out 0
    have of1 := frozen_block HO9.out 1
    have of2 := frozen_block HO9.out 2
    have of3 := frozen_block HO9.out 3
    go_wp2
    have HOw : Hid (OwnBlk w9 (w.heap.size + 2) 37 4) := ⟨_, HO9.out, rfl⟩
    have p := fun i hi => puts_at 0 [.int .i64 K.now, .slice d0 K.svcs.length e0, .slice d1 K.cps.length e1, .slice d2 K.bts.length e2] w9 0 HOw.out (by simp) i hi
    have t0 := p 0 (by simp)
    have t1 := p 1 (by simp)
    have t2 := p 2 (by simp)
    have t3 := p 3 (by simp)
    have r := BkOwn.puts 0 [.int .i64 K.now, .slice d0 K.svcs.length e0, .slice d1 K.cps.length e1, .slice d2 K.bts.length e2] w9 0 HW9.out HOw.out
    have rb := puts_below (a := w) 0 (B := w.heap.size + 2) (by omega) [.int .i64 K.now, .slice d0 K.svcs.length e0, .slice d1 K.cps.length e1, .slice d2 K.bts.length e2] w9 0 HB9.out
    simp only [puts, Nat.add_zero, Nat.zero_add, Nat.reduceAdd, List.getElem?_cons_zero, List.getElem?_cons_succ] at t0 t1 t2 t3 r rb
    refine bodyPost_ret (v := .tuple #[.agg #[.int .i64 K.now, .slice d0 K.svcs.length e0, .slice d1 K.cps.length e1, .slice d2 K.bts.length e2], .int .i64 c]) (by simp [results, Tryz.results9, go_sem, t0, t1, t2, t3]) rfl ⟨⟨.slice d0 K.svcs.length e0, .slice d1 K.cps.length e1, .slice d2 K.bts.length e2, ?_, ?_⟩, ?_⟩
    · rw [HK.out, HC.out]
      first | rfl | done
    · rw [HK.out]; exact r
    · exact rb

end Go.Proofs.YtclagbakddkjcaaGreat
