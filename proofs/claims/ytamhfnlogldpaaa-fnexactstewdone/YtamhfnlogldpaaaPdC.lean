/-
  Stewards: the ranks, by the program.
-/
import Derived.Test.YtamhfnlogldpaaaPdB
import Derived.Test.YtamhfnlogldpaaaPdP
namespace Go.Proofs.Ytamhfnlogldpaaa
open Go.RowKit Go.Deep

theorem rP_le (K : SBk) (s : Sv) (n : Cn) (L : List Cp) (hn : n.le 200) (hl : L.length ≤ 200) (hw : 0 ≤ s.want ∧ s.want ≤ 10) (j : Nat) : -1000 ≤ rP K s n L j ∧ rP K s n L j ≤ 1000 := by
  obtain ⟨⟨g0, g1⟩, ⟨g2, g3⟩, _, _, ⟨g4, g5⟩⟩ := hn
  have hb := bit_le s.gone
  have hf := List.length_filter_le (goP K s) L
  match j with
  | 0 => show -1000 ≤ bit s.gone ∧ bit s.gone ≤ 1000; omega
  | 1 => unfold rP; split <;> omega
  | 2 => unfold rP; split <;> (try split) <;> omega
  | 3 => show -1000 ≤ ((L.filter (goP K s)).length : Int) ∧ ((L.filter (goP K s)).length : Int) ≤ 1000; omega
  | _ + 4 => show -1000 ≤ n.live - n.ready ∧ n.live - n.ready ≤ 1000; omega
theorem live_len (K : SBk) (nm : ByteArray) : (liveC K nm).length ≤ K.cps.length := by
  unfold liveC
  refine Nat.le_trans (List.length_filter_le _ _) ?_
  rw [List.length_map]
  exact row_len nm
theorem rOne_le {K : SBk} (hok : sbOk K = true) {k : Nat} (hk : k < K.svcs.length) (j : Nat) : -1000 ≤ rOne K (K.svcs.getD k Sv.none) j ∧ rOne K (K.svcs.getD k Sv.none) j ≤ 1000 := by
  obtain ⟨_, _, hlen, _⟩ := chk_all hok
  have b := sv_bounds ((svs_ok hok).2 k hk)
  refine rP_le K _ _ _ ?_ (Nat.le_trans (live_len K _) hlen) ⟨b.1.1, b.1.2.1⟩ j
  have := cnL_le K.cps (K.svcs.getD k Sv.none).image (rowCp K.cps (K.svcs.getD k Sv.none).nm)
  have hr : (rowCp K.cps (K.svcs.getD k Sv.none).nm).length ≤ 200 := Nat.le_trans (row_len _) hlen
  obtain ⟨⟨a1, a2⟩, ⟨a3, a4⟩, ⟨a5, a6⟩, ⟨a7, a8⟩, ⟨a9, a10⟩⟩ := this
  exact ⟨⟨a1, by omega⟩, ⟨a3, by omega⟩, ⟨a5, by omega⟩, ⟨a7, by omega⟩, ⟨a9, by omega⟩⟩
theorem rTo_le {K : SBk} (hok : sbOk K = true) (j : Nat) : ∀ k, k ≤ K.svcs.length → -(k * 1000 : Int) ≤ rTo K k j ∧ rTo K k j ≤ k * 1000
  | 0, _ => ⟨Int.le_refl _, Int.le_refl _⟩
  | k + 1, h => by
    have := rTo_le hok j k (by omega)
    have := rOne_le hok (k := k) (by omega) j
    rw [rTo]
    constructor <;> omega

/-- What is kept while the ranks are counted: the book's box, the result, the ranks. -/
structure RkI (K : SBk) (a0 a1 a2 : Option Addr) (c0 c1 c2 : Nat) (w W : World) (f : Nat → Int) : Prop where
  bel : Below w.heap.size w W
  bk : Box4 W w.heap.size (.int .i64 K.now) (.slice a0 K.svcs.length c0) (.slice a1 K.cps.length c1) (.slice a2 K.bts.length c2)
  res : OwnBlk W (w.heap.size + 1) 52 5
  own : OwnBlk W (w.heap.size + 2) 52 5
  at_ : ∀ i, i < 5 → W.cell? ⟨w.heap.size + 2, i, none⟩ = some (.int .i64 (f i))
theorem RkI.later {K : SBk} {a0 a1 a2 : Option Addr} {c0 c1 c2 : Nat} {w W W' : World} {f : Nat → Int} (h : RkI K a0 a1 a2 c0 c1 c2 w W f) (hb : Below W.heap.size W W') : RkI K a0 a1 a2 c0 c1 c2 w W' f :=
  ⟨blw_trans h.bel hb, h.bk.later hb, h.res.later hb, h.own.later hb, fun i hi => (hb.cell (p := ⟨w.heap.size + 2, i, none⟩) h.own.lt).trans (h.at_ i hi)⟩
theorem RkI.sc {K : SBk} {a0 a1 a2 : Option Addr} {c0 c1 c2 : Nat} {w W : World} {f : Nat → Int} (h : RkI K a0 a1 a2 c0 c1 c2 w W f) (j : Nat) (hj : j < 5) (x : Int) : RkI K a0 a1 a2 c0 c1 c2 w (W.setCell ⟨w.heap.size + 2, j, none⟩ (.int .i64 x)) (fun i => if i = j then x else f i) := by
  have c : ∀ b o, b ≠ w.heap.size + 2 → (W.setCell ⟨w.heap.size + 2, j, none⟩ (.int .i64 x)).cell? ⟨b, o, none⟩ = W.cell? ⟨b, o, none⟩ := fun b o hb => sc_ne _ _ _ _ _ _ (Or.inl hb)
  refine ⟨?_, ⟨by simpa [World.setCell] using h.bk.lt, (c _ _ (by omega)).trans h.bk.x0, (c _ _ (by omega)).trans h.bk.x1, (c _ _ (by omega)).trans h.bk.x2, (c _ _ (by omega)).trans h.bk.x3⟩, h.res.sc_other (by omega) _ _, h.own.setCell _ _, fun i hi => ?_⟩
  · show Below w.heap.size w (W.setCells (w.heap.size + 2) j [.int .i64 x])
    exact setCells_below h.bel (by omega) _ _
  · by_cases e : i = j
    · subst e; simp only [if_true]; exact sc_eq h.own i hi _
    · simp only [if_neg e]; exact (sc_ne _ _ _ _ _ _ (Or.inr e)).trans (h.at_ i hi)
theorem RkI.cps {K : SBk} {a0 a1 a2 : Option Addr} {c0 c1 c2 : Nat} {w W : World} {f : Nat → Int} (h : RkI K a0 a1 a2 c0 c1 c2 w W f) {al : Option Addr} {L : List Cp} (hL : CpsV W al L) (j : Nat) (x : Int) : CpsV (W.setCell ⟨w.heap.size + 2, j, none⟩ (.int .i64 x)) al L := by
  refine ⟨hL.len, fun i hi => ?_⟩
  obtain ⟨b, off, e, hl, hf⟩ := hL.at_ i hi
  have hb : b ≠ w.heap.size + 2 := by
    intro hb
    have h0 := hf.c0
    rw [hb] at h0
    obtain ⟨cs, hg, hs⟩ := h.own
    have hlt : off + i * 7 < 5 := by
      simp only [World.cell?, hg] at h0
      have := (Array.getElem?_eq_some_iff.1 (by simpa using h0)).1
      omega
    rw [h.at_ _ hlt] at h0
    cases h0
  have c : ∀ o, (W.setCell ⟨w.heap.size + 2, j, none⟩ (.int .i64 x)).cell? ⟨b, o, none⟩ = W.cell? ⟨b, o, none⟩ := fun o => sc_ne _ _ _ _ _ _ (Or.inl hb)
  exact ⟨b, off, e, by simpa [World.setCell] using hl, (c _).trans hf.c0, (c _).trans hf.c1, (c _).trans hf.c2, (c _).trans hf.c3, (c _).trans hf.c4, (c _).trans hf.c5, (c _).trans hf.c6, hf.sized⟩

set_option maxRecDepth 8000 in
set_option maxHeartbeats 40000000 in
theorem rankedI (K : SBk) (a0 a1 a2 : Option Addr) (c0 c1 c2 : Nat) (w : World) (h : SBkV w a0 a1 a2 K) (hok : sbOk K = true) :
    Calls Try.prog 25 #[.agg #[.int .i64 K.now, .slice a0 K.svcs.length c0, .slice a1 K.cps.length c1, .slice a2 K.bts.length c2]] w fun e w' => e = .returned (.agg #[.int .i64 (rTo K K.svcs.length 0), .int .i64 (rTo K K.svcs.length 1), .int .i64 (rTo K K.svcs.length 2), .int .i64 (rTo K K.svcs.length 3), .int .i64 (rTo K K.svcs.length 4)]) ∧ Below w.heap.size w w' := by
  have HH := hid h
  have HOK := hid hok
  have hl := h.s.len
  unfold maxLen at hl
  obtain ⟨_, has, hln, _⟩ := chk_all hok
  have HAS := hid has
  have HLN := hid hln
  clear h hok has hln
  obtain ⟨wx, hwx⟩ : ∃ wx, wx = w.alloc (.cells #[.int .i64 K.now, .slice a0 K.svcs.length c0, .slice a1 K.cps.length c1, .slice a2 K.bts.length c2] 33) := ⟨_, rfl⟩
  have hx : wx.heap.size = w.heap.size + 1 := by rw [hwx]; exact Array.size_push _
  obtain ⟨wy, hwy⟩ : ∃ wy, wy = wx.alloc (.cells #[.int .i64 0, .int .i64 0, .int .i64 0, .int .i64 0, .int .i64 0] 52) := ⟨_, rfl⟩
  have hy : wy.heap.size = w.heap.size + 2 := by rw [hwy]; exact (Array.size_push _).trans (by rw [hx])
  obtain ⟨wa, hwa⟩ : ∃ wa, wa = wy.alloc (.cells #[.int .i64 0, .int .i64 0, .int .i64 0, .int .i64 0, .int .i64 0] 52) := ⟨_, rfl⟩
  have hbx : Below w.heap.size w wx := by rw [hwx]; exact blw_alloc (Below.refl _ _) _
  have hbxy : Below wx.heap.size wx wy := by rw [hwy]; exact blw_alloc (Below.refl _ _) _
  have hbya : Below wy.heap.size wy wa := by rw [hwa]; exact blw_alloc (Below.refl _ _) _
  have HI0 : Hid (RkI K a0 a1 a2 c0 c1 c2 w wa (rTo K 0)) := by
    have hbk : Box4 wx w.heap.size (.int .i64 K.now) (.slice a0 K.svcs.length c0) (.slice a1 K.cps.length c1) (.slice a2 K.bts.length c2) := by rw [hwx]; exact Box4.new' w _ _ _ _ _ _ rfl
    have hre : OwnBlk wy (w.heap.size + 1) 52 5 := by rw [hwy, ← hx]; exact OwnBlk.alloc wx _ _ _ rfl
    have how : OwnBlk wa (w.heap.size + 2) 52 5 := by rw [hwa, ← hy]; exact OwnBlk.alloc wy _ _ _ rfl
    have hlb : LBox wa (w.heap.size + 2) [.int .i64 0, .int .i64 0, .int .i64 0, .int .i64 0, .int .i64 0] := by rw [hwa]; exact LBox.new wy _ _ _ hy.symm
    refine ⟨blw_trans hbx (blw_trans hbxy hbya), (hbk.later hbxy).later hbya, hre.later hbya, how, fun i hi => ?_⟩
    match i, hi with
    | 0, _ => exact hlb.get 0 _ rfl
    | 1, _ => exact hlb.get 1 _ rfl
    | 2, _ => exact hlb.get 2 _ rfl
    | 3, _ => exact hlb.get 3 _ rfl
    | 4, _ => exact hlb.get 4 _ rfl
    | n + 5, hi => omega
  go_enter Try.func25, Try.ntmps25
  go_upto_region 2 with fail
  rw [← hwx, ← hwy, ← hwa]
  rw [show w.heap.size + 1 + 1 = w.heap.size + 2 from rfl]
  clear hwx hwy hwa hbx hbxy hbya hx hy
  obtain ⟨yz, y0, y1, y2, y3⟩ := HI0.out.bk
  go_wp2
  clear yz y0 y1 y2 y3
  go_loopw [11] (fun i wr => ∃ k : Nat, k ≤ K.svcs.length ∧ i = .int .i64 k ∧ RkI K a0 a1 a2 c0 c1 c2 w wr (rTo K k)) (fun i _ => K.svcs.length - (intOf i).toNat)
  case atStart => exact ⟨0, Nat.zero_le _, rfl, HI0.out⟩
  case round =>
    obtain ⟨k, hk, rfl, hI⟩ := hrel
    have HI1 := hid hI
    clear hI
    by_cases hlt : k < K.svcs.length
    · obtain ⟨b, off, ha, hbl, hf⟩ := (HH.out.s.later HI1.out.bel).at_ k hlt
      subst ha
      obtain ⟨A, hA⟩ : ∃ A, A = rTo K k := ⟨_, rfl⟩
      have HAL := hid (fun j => rTo_le HOK.out j k hk)
      have HBL := hid (fun j => rOne_le HOK.out hlt j)
      have HVS := hid (sv_bounds ((svs_ok HOK.out).2 k hlt))
      have HNX : Hid (∀ j, rTo K (k + 1) j = rTo K k j + rOne K (K.svcs.getD k Sv.none) j) := fun j => rfl
      have hk8 := (svs_ok HOK.out).1
      obtain ⟨s, hs⟩ : ∃ s, s = K.svcs.getD k Sv.none := ⟨_, rfl⟩
      obtain ⟨B, hB⟩ : ∃ B, B = rOne K s := ⟨_, rfl⟩
      rw [← hs] at hf HBL HVS HNX
      rw [← hB] at HBL HNX
      rw [← hA] at HAL HNX HI1
      have HAB : Hid ((∀ j, -8000 ≤ A j ∧ A j ≤ 8000) ∧ ∀ j, -1000 ≤ B j ∧ B j ≤ 1000) := ⟨fun j => by have := HAL.out j; omega, HBL.out⟩
      have HB0 := hid hB
      obtain ⟨e0, e1, e2, e3, e4, e5, e6, e7, e8, e9, e10, e11, e12, _⟩ := hf
      clear hA hs hB HAL HBL hk8
      have hm0 : (0 : Int) ≤ (k : Int) := by omega
      have hm3 : (k : Int) < (K.svcs.length : Int) := by omega
      obtain ⟨w1, hw1⟩ : ∃ w1, w1 = wr.alloc (.cells #[.string s.nm, .int .i64 s.ver, .bool s.gone, .int .i64 s.image, .int .i64 s.want, .int .i64 s.down, .int .i64 s.over, .int .i64 s.next, .int .i64 s.per, .int .i64 s.least, .int .i64 s.most, .int .i64 s.load, .int .i64 s.cool] 46) := ⟨_, rfl⟩
      have hb1 : Below wr.heap.size wr w1 := by rw [hw1]; exact blw_alloc (Below.refl _ _) _
      obtain ⟨q1, hq1⟩ : ∃ q1, q1 = wr.heap.size := ⟨_, rfl⟩
      have HC1 : Hid (LBox w1 q1 [.string s.nm, .int .i64 s.ver, .bool s.gone, .int .i64 s.image, .int .i64 s.want, .int .i64 s.down, .int .i64 s.over, .int .i64 s.next, .int .i64 s.per, .int .i64 s.least, .int .i64 s.most, .int .i64 s.load, .int .i64 s.cool]) := by show LBox _ _ _; rw [hw1]; exact LBox.new _ _ _ _ hq1
      have HI2 := hid (HI1.out.later hb1)
      go_upto_region 5 with fail
      rw [← hw1, ← hq1]
      clear hw1 hq1 hb1 e0 e1 e2 e3 e4 e5 e6 e7 e8 e9 e10 e11 e12 hbl HI1
      have cz := HC1.out.lt
      have d0 := HC1.out.get 0 _ rfl
      have d1 := HC1.out.get 1 _ rfl
      have d2 := HC1.out.get 2 _ rfl
      have d3 := HC1.out.get 3 _ rfl
      have d4 := HC1.out.get 4 _ rfl
      have d5 := HC1.out.get 5 _ rfl
      have d6 := HC1.out.get 6 _ rfl
      have d7 := HC1.out.get 7 _ rfl
      have d8 := HC1.out.get 8 _ rfl
      have d9 := HC1.out.get 9 _ rfl
      have d10 := HC1.out.get 10 _ rfl
      have d11 := HC1.out.get 11 _ rfl
      have d12 := HC1.out.get 12 _ rfl
      obtain ⟨yz, y0, y1, y2, y3⟩ := HI2.out.bk
      go_wp2_with fail
      refine (sightOfI K (some ⟨b, off, none⟩) a1 a2 c0 c1 c2 s w1 (HH.out.later HI2.out.bel) HAS.out HLN.out).mono ?_
      rintro e w2 ⟨⟨n, al, cl, L, lv, hn, hL, hlv, rfl, hcp⟩, hb2⟩
      have HN : Hid (n.le 200) := by
        show n.le 200
        have hle := cnL_le K.cps s.image (rowCp K.cps s.nm)
        have hr : (rowCp K.cps s.nm).length ≤ 200 := Nat.le_trans (row_len _) HLN.out
        rw [← hn] at hle
        obtain ⟨⟨a1, a2⟩, ⟨a3, a4⟩, ⟨a5, a6⟩, ⟨a7, a8⟩, ⟨a9, a10⟩⟩ := hle
        exact ⟨⟨a1, by omega⟩, ⟨a3, by omega⟩, ⟨a5, by omega⟩, ⟨a7, by omega⟩, ⟨a9, by omega⟩⟩
      have HLL : Hid (L.length ≤ 200) := by show _ ≤ _; rw [hL]; exact Nat.le_trans (live_len K _) HLN.out
      have HBE : Hid (∀ j, B j = rP K s n L j) := by intro j; rw [HB0.out, rOne, hn, hL]
      have HW2 : Hid (0 ≤ s.want ∧ s.want ≤ 10) := ⟨HVS.out.1.1, HVS.out.1.2.1⟩
      have HI3 := hid (HI2.out.later hb2)
      have HCP := hid hcp
      have hq2 : w.heap.size + 2 < w2.heap.size := HI3.out.own.lt
      clear hn hL hlv hcp hb2 cz d0 d1 d2 d3 d4 d5 d6 d7 d8 d9 d10 d11 d12 yz y0 y1 y2 y3 HI2 HC1 HVS HB0
      go_wp2_with fail
      refine (rankersI K (some ⟨b, off, none⟩) a1 a2 c0 c1 c2 s n al cl L lv w2).mono ?_
      rintro e w3 ⟨⟨pv, ps, pc, pm, rfl, hbx, n1, n2, n3, n4⟩, hb3⟩
      have HNE : Hid (pv ≠ w.heap.size + 2 ∧ ps ≠ w.heap.size + 2 ∧ pc ≠ w.heap.size + 2 ∧ pm ≠ w.heap.size + 2) := ⟨by omega, by omega, by omega, by omega⟩
      have HI4 : Hid (RkI K (some ⟨b, off, none⟩) a1 a2 c0 c1 c2 w w3 (fun i => if i < 0 then A i + B i else A i) ∧ RkB K (some ⟨b, off, none⟩) a1 a2 c0 c1 c2 s n al cl L lv pv ps pc pm w3 ∧ CpsV w3 al L) := by
        have i1 := HI3.out.later hb3
        exact ⟨⟨i1.bel, i1.bk, i1.res, i1.own, fun i hi => by rw [if_neg (Nat.not_lt_zero i)]; exact i1.at_ i hi⟩, hbx, HCP.out.later hb3⟩
      clear hbx n1 n2 n3 n4 hb3 HI3 HCP hq2
      go_wp2
      go_loopw [19] (fun i wr => ∃ j : Nat, j ≤ 5 ∧ i = .int .i64 j ∧ RkI K (some ⟨b, off, none⟩) a1 a2 c0 c1 c2 w wr (fun i => if i < j then A i + B i else A i) ∧ RkB K (some ⟨b, off, none⟩) a1 a2 c0 c1 c2 s n al cl L lv pv ps pc pm wr ∧ CpsV wr al L) (fun i _ => 5 - (intOf i).toNat)
      case atStart => exact ⟨0, by omega, rfl, HI4.out⟩
      case round =>
        obtain ⟨j, hj, rfl, hinv⟩ := hrel
        have HI := hid hinv
        clear hinv
        by_cases hlt5 : j < 5
        · match j, hlt5 with
          | 0, _ =>
            clear hj
            obtain ⟨x, hx⟩ : ∃ x, x = A 0 := ⟨_, rfl⟩
            obtain ⟨y, hy⟩ : ∃ y, y = B 0 := ⟨_, rfl⟩
            have hxb := HAB.out.1 0
            have hyb := HAB.out.2 0
            rw [← hx] at hxb
            rw [← hy] at hyb
            obtain ⟨x0, x1⟩ := hxb
            obtain ⟨y0, y1⟩ := hyb
            have HC : Hid (∀ W, RkB K (some ⟨b, off, none⟩) a1 a2 c0 c1 c2 s n al cl L lv pv ps pc pm W → SBkV W (some ⟨b, off, none⟩) a1 a2 K → CpsV W al L → Calls Try.prog 75 #[.pointer (some ⟨ps, 0, none⟩)] W fun e w' => e = .returned (.int .i64 y) ∧ Below W.heap.size W w') := fun W h _ _ => by
              have := rk0I K s n L ps W h.s
              rw [hy, HBE.out 0]
              exact this
            have e0 : wr.cell? ⟨w.heap.size + 2, 0, none⟩ = some (.int .i64 x) := by have := HI.out.1.at_ 0 (by omega); rw [hx]; simpa using this
            have HF : Hid (∀ w2, Below wr.drew.heap.size wr.drew w2 → RkI K (some ⟨b, off, none⟩) a1 a2 c0 c1 c2 w (w2.setCell ⟨w.heap.size + 2, 0, none⟩ (.int .i64 (x + y))) (fun i => if i < (0 + 1) then A i + B i else A i) ∧ RkB K (some ⟨b, off, none⟩) a1 a2 c0 c1 c2 s n al cl L lv pv ps pc pm (w2.setCell ⟨w.heap.size + 2, 0, none⟩ (.int .i64 (x + y))) ∧ CpsV (w2.setCell ⟨w.heap.size + 2, 0, none⟩ (.int .i64 (x + y))) al L) := by
              intro w2 hb2
              have hb : Below wr.heap.size wr w2 := blw_trans (Below.drew (Below.refl _ _)) hb2
              have i1 := HI.out.1.later hb
              refine ⟨?_, (HI.out.2.1.later hb).sc (HNE.out.1) (HNE.out.2.1) (HNE.out.2.2.1) (HNE.out.2.2.2) _ _, i1.cps (HI.out.2.2.later hb) _ _⟩
              have i2 := i1.sc 0 (by omega) (x + y)
              refine ⟨i2.bel, i2.bk, i2.res, i2.own, fun i hi => (i2.at_ i hi).trans ?_⟩
              by_cases e : i = 0
              · subst e; rw [hx, hy]; simp
              · rw [if_neg e]
                by_cases e2 : i < 0
                · rw [if_pos e2, if_pos (by omega)]
                · rw [if_neg e2, if_neg (by omega)]
            have HR2 := hid (fun w2 (hb2 : Below wr.drew.heap.size wr.drew w2) => (HI.out.1.later (blw_trans (Below.drew (Below.refl _ _)) hb2)))
            have oz := HI.out.1.own.lt
            have of := HI.out.1.own.frozen
            have hix : ∀ W, (Instr.index 85 (.agg #[.func (.func 75) #[] #[.pointer (some ⟨ps, 0, none⟩)], .func (.func 76) #[] #[.pointer (some ⟨ps, 0, none⟩), .pointer (some ⟨pc, 0, none⟩)], .func (.func 77) #[] #[.pointer (some ⟨ps, 0, none⟩), .pointer (some ⟨pc, 0, none⟩)], .func (.func 78) #[] #[.pointer (some ⟨pv, 0, none⟩), .pointer (some ⟨pm, 0, none⟩)], .func (.func 80) #[] #[.pointer (some ⟨pc, 0, none⟩)]]) (.int .i64 0)).run Try.prog W = .ok (.func (.func 75) #[] #[.pointer (some ⟨ps, 0, none⟩)]) W := fun W => by kernel_rfl
            clear hx hy
            go_upto_region 8 with fail
            go_region_with (go_at_call 75; refine (HC.out _ (HI.out.2.1.later (Below.drew (Below.refl _ _))) (HH.out.later (blw_trans HI.out.1.bel (Below.drew (Below.refl _ _)))) (HI.out.2.2.later (Below.drew (Below.refl _ _)))).mono ?_; rintro e w2 ⟨rfl, hb2⟩; have hr2 := HR2.out w2 hb2; have oz2 := hr2.own.lt; have of2 := hr2.own.frozen; have e2 : w2.cell? ⟨w.heap.size + 2, 0, none⟩ = some (.int .i64 x) := (hb2.cell (p := ⟨w.heap.size + 2, 0, none⟩) (by show _ < wr.heap.size; exact oz)).trans e0; clear hr2)
            all_goals
              have hf := HF.out w2 hb2
              have HFF := hid hf
              clear hf
              go_wp2
              exact ⟨⟨0 + 1, by omega, rfl, HFF.out⟩, by decide⟩
          | 1, _ =>
            clear hj
            obtain ⟨x, hx⟩ : ∃ x, x = A 1 := ⟨_, rfl⟩
            obtain ⟨y, hy⟩ : ∃ y, y = B 1 := ⟨_, rfl⟩
            have hxb := HAB.out.1 1
            have hyb := HAB.out.2 1
            rw [← hx] at hxb
            rw [← hy] at hyb
            obtain ⟨x0, x1⟩ := hxb
            obtain ⟨y0, y1⟩ := hyb
            have HC : Hid (∀ W, RkB K (some ⟨b, off, none⟩) a1 a2 c0 c1 c2 s n al cl L lv pv ps pc pm W → SBkV W (some ⟨b, off, none⟩) a1 a2 K → CpsV W al L → Calls Try.prog 76 #[.pointer (some ⟨ps, 0, none⟩), .pointer (some ⟨pc, 0, none⟩)] W fun e w' => e = .returned (.int .i64 y) ∧ Below W.heap.size W w') := fun W h _ _ => by
              have := rk1I K s n L ps pc W h.s h.c HN.out
              rw [hy, HBE.out 1]
              exact this
            have e0 : wr.cell? ⟨w.heap.size + 2, 1, none⟩ = some (.int .i64 x) := by have := HI.out.1.at_ 1 (by omega); rw [hx]; simpa using this
            have HF : Hid (∀ w2, Below wr.drew.heap.size wr.drew w2 → RkI K (some ⟨b, off, none⟩) a1 a2 c0 c1 c2 w (w2.setCell ⟨w.heap.size + 2, 1, none⟩ (.int .i64 (x + y))) (fun i => if i < (1 + 1) then A i + B i else A i) ∧ RkB K (some ⟨b, off, none⟩) a1 a2 c0 c1 c2 s n al cl L lv pv ps pc pm (w2.setCell ⟨w.heap.size + 2, 1, none⟩ (.int .i64 (x + y))) ∧ CpsV (w2.setCell ⟨w.heap.size + 2, 1, none⟩ (.int .i64 (x + y))) al L) := by
              intro w2 hb2
              have hb : Below wr.heap.size wr w2 := blw_trans (Below.drew (Below.refl _ _)) hb2
              have i1 := HI.out.1.later hb
              refine ⟨?_, (HI.out.2.1.later hb).sc (HNE.out.1) (HNE.out.2.1) (HNE.out.2.2.1) (HNE.out.2.2.2) _ _, i1.cps (HI.out.2.2.later hb) _ _⟩
              have i2 := i1.sc 1 (by omega) (x + y)
              refine ⟨i2.bel, i2.bk, i2.res, i2.own, fun i hi => (i2.at_ i hi).trans ?_⟩
              by_cases e : i = 1
              · subst e; rw [hx, hy]; simp
              · rw [if_neg e]
                by_cases e2 : i < 1
                · rw [if_pos e2, if_pos (by omega)]
                · rw [if_neg e2, if_neg (by omega)]
            have HR2 := hid (fun w2 (hb2 : Below wr.drew.heap.size wr.drew w2) => (HI.out.1.later (blw_trans (Below.drew (Below.refl _ _)) hb2)))
            have oz := HI.out.1.own.lt
            have of := HI.out.1.own.frozen
            have hix : ∀ W, (Instr.index 85 (.agg #[.func (.func 75) #[] #[.pointer (some ⟨ps, 0, none⟩)], .func (.func 76) #[] #[.pointer (some ⟨ps, 0, none⟩), .pointer (some ⟨pc, 0, none⟩)], .func (.func 77) #[] #[.pointer (some ⟨ps, 0, none⟩), .pointer (some ⟨pc, 0, none⟩)], .func (.func 78) #[] #[.pointer (some ⟨pv, 0, none⟩), .pointer (some ⟨pm, 0, none⟩)], .func (.func 80) #[] #[.pointer (some ⟨pc, 0, none⟩)]]) (.int .i64 1)).run Try.prog W = .ok (.func (.func 76) #[] #[.pointer (some ⟨ps, 0, none⟩), .pointer (some ⟨pc, 0, none⟩)]) W := fun W => by kernel_rfl
            clear hx hy
            go_upto_region 8 with fail
            go_region_with (go_at_call 76; refine (HC.out _ (HI.out.2.1.later (Below.drew (Below.refl _ _))) (HH.out.later (blw_trans HI.out.1.bel (Below.drew (Below.refl _ _)))) (HI.out.2.2.later (Below.drew (Below.refl _ _)))).mono ?_; rintro e w2 ⟨rfl, hb2⟩; have hr2 := HR2.out w2 hb2; have oz2 := hr2.own.lt; have of2 := hr2.own.frozen; have e2 : w2.cell? ⟨w.heap.size + 2, 1, none⟩ = some (.int .i64 x) := (hb2.cell (p := ⟨w.heap.size + 2, 1, none⟩) (by show _ < wr.heap.size; exact oz)).trans e0; clear hr2)
            all_goals
              have hf := HF.out w2 hb2
              have HFF := hid hf
              clear hf
              go_wp2
              exact ⟨⟨1 + 1, by omega, rfl, HFF.out⟩, by decide⟩
          | 2, _ =>
            clear hj
            obtain ⟨x, hx⟩ : ∃ x, x = A 2 := ⟨_, rfl⟩
            obtain ⟨y, hy⟩ : ∃ y, y = B 2 := ⟨_, rfl⟩
            have hxb := HAB.out.1 2
            have hyb := HAB.out.2 2
            rw [← hx] at hxb
            rw [← hy] at hyb
            obtain ⟨x0, x1⟩ := hxb
            obtain ⟨y0, y1⟩ := hyb
            have HC : Hid (∀ W, RkB K (some ⟨b, off, none⟩) a1 a2 c0 c1 c2 s n al cl L lv pv ps pc pm W → SBkV W (some ⟨b, off, none⟩) a1 a2 K → CpsV W al L → Calls Try.prog 77 #[.pointer (some ⟨ps, 0, none⟩), .pointer (some ⟨pc, 0, none⟩)] W fun e w' => e = .returned (.int .i64 y) ∧ Below W.heap.size W w') := fun W h _ _ => by
              have := rk2I K s n L ps pc W h.s h.c HN.out HW2.out
              rw [hy, HBE.out 2]
              exact this
            have e0 : wr.cell? ⟨w.heap.size + 2, 2, none⟩ = some (.int .i64 x) := by have := HI.out.1.at_ 2 (by omega); rw [hx]; simpa using this
            have HF : Hid (∀ w2, Below wr.drew.heap.size wr.drew w2 → RkI K (some ⟨b, off, none⟩) a1 a2 c0 c1 c2 w (w2.setCell ⟨w.heap.size + 2, 2, none⟩ (.int .i64 (x + y))) (fun i => if i < (2 + 1) then A i + B i else A i) ∧ RkB K (some ⟨b, off, none⟩) a1 a2 c0 c1 c2 s n al cl L lv pv ps pc pm (w2.setCell ⟨w.heap.size + 2, 2, none⟩ (.int .i64 (x + y))) ∧ CpsV (w2.setCell ⟨w.heap.size + 2, 2, none⟩ (.int .i64 (x + y))) al L) := by
              intro w2 hb2
              have hb : Below wr.heap.size wr w2 := blw_trans (Below.drew (Below.refl _ _)) hb2
              have i1 := HI.out.1.later hb
              refine ⟨?_, (HI.out.2.1.later hb).sc (HNE.out.1) (HNE.out.2.1) (HNE.out.2.2.1) (HNE.out.2.2.2) _ _, i1.cps (HI.out.2.2.later hb) _ _⟩
              have i2 := i1.sc 2 (by omega) (x + y)
              refine ⟨i2.bel, i2.bk, i2.res, i2.own, fun i hi => (i2.at_ i hi).trans ?_⟩
              by_cases e : i = 2
              · subst e; rw [hx, hy]; simp
              · rw [if_neg e]
                by_cases e2 : i < 2
                · rw [if_pos e2, if_pos (by omega)]
                · rw [if_neg e2, if_neg (by omega)]
            have HR2 := hid (fun w2 (hb2 : Below wr.drew.heap.size wr.drew w2) => (HI.out.1.later (blw_trans (Below.drew (Below.refl _ _)) hb2)))
            have oz := HI.out.1.own.lt
            have of := HI.out.1.own.frozen
            have hix : ∀ W, (Instr.index 85 (.agg #[.func (.func 75) #[] #[.pointer (some ⟨ps, 0, none⟩)], .func (.func 76) #[] #[.pointer (some ⟨ps, 0, none⟩), .pointer (some ⟨pc, 0, none⟩)], .func (.func 77) #[] #[.pointer (some ⟨ps, 0, none⟩), .pointer (some ⟨pc, 0, none⟩)], .func (.func 78) #[] #[.pointer (some ⟨pv, 0, none⟩), .pointer (some ⟨pm, 0, none⟩)], .func (.func 80) #[] #[.pointer (some ⟨pc, 0, none⟩)]]) (.int .i64 2)).run Try.prog W = .ok (.func (.func 77) #[] #[.pointer (some ⟨ps, 0, none⟩), .pointer (some ⟨pc, 0, none⟩)]) W := fun W => by kernel_rfl
            clear hx hy
            go_upto_region 8 with fail
            go_region_with (go_at_call 77; refine (HC.out _ (HI.out.2.1.later (Below.drew (Below.refl _ _))) (HH.out.later (blw_trans HI.out.1.bel (Below.drew (Below.refl _ _)))) (HI.out.2.2.later (Below.drew (Below.refl _ _)))).mono ?_; rintro e w2 ⟨rfl, hb2⟩; have hr2 := HR2.out w2 hb2; have oz2 := hr2.own.lt; have of2 := hr2.own.frozen; have e2 : w2.cell? ⟨w.heap.size + 2, 2, none⟩ = some (.int .i64 x) := (hb2.cell (p := ⟨w.heap.size + 2, 2, none⟩) (by show _ < wr.heap.size; exact oz)).trans e0; clear hr2)
            all_goals
              have hf := HF.out w2 hb2
              have HFF := hid hf
              clear hf
              go_wp2
              exact ⟨⟨2 + 1, by omega, rfl, HFF.out⟩, by decide⟩
          | 3, _ =>
            clear hj
            obtain ⟨x, hx⟩ : ∃ x, x = A 3 := ⟨_, rfl⟩
            obtain ⟨y, hy⟩ : ∃ y, y = B 3 := ⟨_, rfl⟩
            have hxb := HAB.out.1 3
            have hyb := HAB.out.2 3
            rw [← hx] at hxb
            rw [← hy] at hyb
            obtain ⟨x0, x1⟩ := hxb
            obtain ⟨y0, y1⟩ := hyb
            have HC : Hid (∀ W, RkB K (some ⟨b, off, none⟩) a1 a2 c0 c1 c2 s n al cl L lv pv ps pc pm W → SBkV W (some ⟨b, off, none⟩) a1 a2 K → CpsV W al L → Calls Try.prog 78 #[.pointer (some ⟨pv, 0, none⟩), .pointer (some ⟨pm, 0, none⟩)] W fun e w' => e = .returned (.int .i64 y) ∧ Below W.heap.size W w') := fun W h hk hL => by
              have := rk3I K (some ⟨b, off, none⟩) a1 a2 c0 c1 c2 s n al cl L lv pv pm W hk hL HLL.out h.v h.m
              rw [hy, HBE.out 3]
              exact this
            have e0 : wr.cell? ⟨w.heap.size + 2, 3, none⟩ = some (.int .i64 x) := by have := HI.out.1.at_ 3 (by omega); rw [hx]; simpa using this
            have HF : Hid (∀ w2, Below wr.drew.heap.size wr.drew w2 → RkI K (some ⟨b, off, none⟩) a1 a2 c0 c1 c2 w (w2.setCell ⟨w.heap.size + 2, 3, none⟩ (.int .i64 (x + y))) (fun i => if i < (3 + 1) then A i + B i else A i) ∧ RkB K (some ⟨b, off, none⟩) a1 a2 c0 c1 c2 s n al cl L lv pv ps pc pm (w2.setCell ⟨w.heap.size + 2, 3, none⟩ (.int .i64 (x + y))) ∧ CpsV (w2.setCell ⟨w.heap.size + 2, 3, none⟩ (.int .i64 (x + y))) al L) := by
              intro w2 hb2
              have hb : Below wr.heap.size wr w2 := blw_trans (Below.drew (Below.refl _ _)) hb2
              have i1 := HI.out.1.later hb
              refine ⟨?_, (HI.out.2.1.later hb).sc (HNE.out.1) (HNE.out.2.1) (HNE.out.2.2.1) (HNE.out.2.2.2) _ _, i1.cps (HI.out.2.2.later hb) _ _⟩
              have i2 := i1.sc 3 (by omega) (x + y)
              refine ⟨i2.bel, i2.bk, i2.res, i2.own, fun i hi => (i2.at_ i hi).trans ?_⟩
              by_cases e : i = 3
              · subst e; rw [hx, hy]; simp
              · rw [if_neg e]
                by_cases e2 : i < 3
                · rw [if_pos e2, if_pos (by omega)]
                · rw [if_neg e2, if_neg (by omega)]
            have HR2 := hid (fun w2 (hb2 : Below wr.drew.heap.size wr.drew w2) => (HI.out.1.later (blw_trans (Below.drew (Below.refl _ _)) hb2)))
            have oz := HI.out.1.own.lt
            have of := HI.out.1.own.frozen
            have hix : ∀ W, (Instr.index 85 (.agg #[.func (.func 75) #[] #[.pointer (some ⟨ps, 0, none⟩)], .func (.func 76) #[] #[.pointer (some ⟨ps, 0, none⟩), .pointer (some ⟨pc, 0, none⟩)], .func (.func 77) #[] #[.pointer (some ⟨ps, 0, none⟩), .pointer (some ⟨pc, 0, none⟩)], .func (.func 78) #[] #[.pointer (some ⟨pv, 0, none⟩), .pointer (some ⟨pm, 0, none⟩)], .func (.func 80) #[] #[.pointer (some ⟨pc, 0, none⟩)]]) (.int .i64 3)).run Try.prog W = .ok (.func (.func 78) #[] #[.pointer (some ⟨pv, 0, none⟩), .pointer (some ⟨pm, 0, none⟩)]) W := fun W => by kernel_rfl
            clear hx hy
            go_upto_region 8 with fail
            go_region_with (go_at_call 78; refine (HC.out _ (HI.out.2.1.later (Below.drew (Below.refl _ _))) (HH.out.later (blw_trans HI.out.1.bel (Below.drew (Below.refl _ _)))) (HI.out.2.2.later (Below.drew (Below.refl _ _)))).mono ?_; rintro e w2 ⟨rfl, hb2⟩; have hr2 := HR2.out w2 hb2; have oz2 := hr2.own.lt; have of2 := hr2.own.frozen; have e2 : w2.cell? ⟨w.heap.size + 2, 3, none⟩ = some (.int .i64 x) := (hb2.cell (p := ⟨w.heap.size + 2, 3, none⟩) (by show _ < wr.heap.size; exact oz)).trans e0; clear hr2)
            all_goals
              have hf := HF.out w2 hb2
              have HFF := hid hf
              clear hf
              go_wp2
              exact ⟨⟨3 + 1, by omega, rfl, HFF.out⟩, by decide⟩
          | 4, _ =>
            clear hj
            obtain ⟨x, hx⟩ : ∃ x, x = A 4 := ⟨_, rfl⟩
            obtain ⟨y, hy⟩ : ∃ y, y = B 4 := ⟨_, rfl⟩
            have hxb := HAB.out.1 4
            have hyb := HAB.out.2 4
            rw [← hx] at hxb
            rw [← hy] at hyb
            obtain ⟨x0, x1⟩ := hxb
            obtain ⟨y0, y1⟩ := hyb
            have HC : Hid (∀ W, RkB K (some ⟨b, off, none⟩) a1 a2 c0 c1 c2 s n al cl L lv pv ps pc pm W → SBkV W (some ⟨b, off, none⟩) a1 a2 K → CpsV W al L → Calls Try.prog 80 #[.pointer (some ⟨pc, 0, none⟩)] W fun e w' => e = .returned (.int .i64 y) ∧ Below W.heap.size W w') := fun W h _ _ => by
              have := rk4I K s n L pc W h.c HN.out
              rw [hy, HBE.out 4]
              exact this
            have e0 : wr.cell? ⟨w.heap.size + 2, 4, none⟩ = some (.int .i64 x) := by have := HI.out.1.at_ 4 (by omega); rw [hx]; simpa using this
            have HF : Hid (∀ w2, Below wr.drew.heap.size wr.drew w2 → RkI K (some ⟨b, off, none⟩) a1 a2 c0 c1 c2 w (w2.setCell ⟨w.heap.size + 2, 4, none⟩ (.int .i64 (x + y))) (fun i => if i < (4 + 1) then A i + B i else A i) ∧ RkB K (some ⟨b, off, none⟩) a1 a2 c0 c1 c2 s n al cl L lv pv ps pc pm (w2.setCell ⟨w.heap.size + 2, 4, none⟩ (.int .i64 (x + y))) ∧ CpsV (w2.setCell ⟨w.heap.size + 2, 4, none⟩ (.int .i64 (x + y))) al L) := by
              intro w2 hb2
              have hb : Below wr.heap.size wr w2 := blw_trans (Below.drew (Below.refl _ _)) hb2
              have i1 := HI.out.1.later hb
              refine ⟨?_, (HI.out.2.1.later hb).sc (HNE.out.1) (HNE.out.2.1) (HNE.out.2.2.1) (HNE.out.2.2.2) _ _, i1.cps (HI.out.2.2.later hb) _ _⟩
              have i2 := i1.sc 4 (by omega) (x + y)
              refine ⟨i2.bel, i2.bk, i2.res, i2.own, fun i hi => (i2.at_ i hi).trans ?_⟩
              by_cases e : i = 4
              · subst e; rw [hx, hy]; simp
              · rw [if_neg e]
                by_cases e2 : i < 4
                · rw [if_pos e2, if_pos (by omega)]
                · rw [if_neg e2, if_neg (by omega)]
            have HR2 := hid (fun w2 (hb2 : Below wr.drew.heap.size wr.drew w2) => (HI.out.1.later (blw_trans (Below.drew (Below.refl _ _)) hb2)))
            have oz := HI.out.1.own.lt
            have of := HI.out.1.own.frozen
            have hix : ∀ W, (Instr.index 85 (.agg #[.func (.func 75) #[] #[.pointer (some ⟨ps, 0, none⟩)], .func (.func 76) #[] #[.pointer (some ⟨ps, 0, none⟩), .pointer (some ⟨pc, 0, none⟩)], .func (.func 77) #[] #[.pointer (some ⟨ps, 0, none⟩), .pointer (some ⟨pc, 0, none⟩)], .func (.func 78) #[] #[.pointer (some ⟨pv, 0, none⟩), .pointer (some ⟨pm, 0, none⟩)], .func (.func 80) #[] #[.pointer (some ⟨pc, 0, none⟩)]]) (.int .i64 4)).run Try.prog W = .ok (.func (.func 80) #[] #[.pointer (some ⟨pc, 0, none⟩)]) W := fun W => by kernel_rfl
            clear hx hy
            go_upto_region 8 with fail
            go_region_with (go_at_call 80; refine (HC.out _ (HI.out.2.1.later (Below.drew (Below.refl _ _))) (HH.out.later (blw_trans HI.out.1.bel (Below.drew (Below.refl _ _)))) (HI.out.2.2.later (Below.drew (Below.refl _ _)))).mono ?_; rintro e w2 ⟨rfl, hb2⟩; have hr2 := HR2.out w2 hb2; have oz2 := hr2.own.lt; have of2 := hr2.own.frozen; have e2 : w2.cell? ⟨w.heap.size + 2, 4, none⟩ = some (.int .i64 x) := (hb2.cell (p := ⟨w.heap.size + 2, 4, none⟩) (by show _ < wr.heap.size; exact oz)).trans e0; clear hr2)
            all_goals
              have hf := HF.out w2 hb2
              have HFF := hid hf
              clear hf
              go_wp2
              exact ⟨⟨4 + 1, by omega, rfl, HFF.out⟩, by decide⟩
        · obtain rfl : j = 5 := by omega
          have HI5 : Hid (RkI K (some ⟨b, off, none⟩) a1 a2 c0 c1 c2 w wr (rTo K (k + 1))) := by
            have i1 := HI.out.1
            refine ⟨i1.bel, i1.bk, i1.res, i1.own, fun i hi => (i1.at_ i hi).trans ?_⟩
            rw [if_pos hi, HNX.out i]
          go_wp2
          go_roundw
          case rel => exact ⟨k + 1, by omega, by go_num, HI5.out⟩
          case measure => simp [intOf]; omega
    · obtain rfl : k = K.svcs.length := by omega
      have HT := hid HI1.out.bel
      have hu : Try.prog.underlying 52 = some (.array 5 3) := by kernel_rfl
      have hrg : wr.rangeAt (w.heap.size + 2) 0 [.int .i64 (rTo K K.svcs.length 0), .int .i64 (rTo K K.svcs.length 1), .int .i64 (rTo K K.svcs.length 2), .int .i64 (rTo K K.svcs.length 3), .int .i64 (rTo K K.svcs.length 4)] := by
        intro i v hv
        have hi : i < 5 := (List.getElem?_eq_some_iff.1 hv).1
        rw [Nat.zero_add, HI1.out.at_ i hi]
        match i, hi, hv with
        | 0, _, hv => exact hv
        | 1, _, hv => exact hv
        | 2, _, hv => exact hv
        | 3, _, hv => exact hv
        | 4, _, hv => exact hv
        | n + 5, hi, _ => omega
      have hth := RY.own_there HI1.out.res
      have hrt : World.rangeAt (wr.setCells (w.heap.size + 1) 0 [.int .i64 (rTo K K.svcs.length 0), .int .i64 (rTo K K.svcs.length 1), .int .i64 (rTo K K.svcs.length 2), .int .i64 (rTo K K.svcs.length 3), .int .i64 (rTo K K.svcs.length 4)]) (w.heap.size + 1) 0 [.int .i64 (rTo K K.svcs.length 0), .int .i64 (rTo K K.svcs.length 1), .int .i64 (rTo K K.svcs.length 2), .int .i64 (rTo K K.svcs.length 3), .int .i64 (rTo K K.svcs.length 4)] := World.rangeAt_setCells_same _ _ _ _ hth
      have HF : Hid (Below w.heap.size w (wr.setCells (w.heap.size + 1) 0 [.int .i64 (rTo K K.svcs.length 0), .int .i64 (rTo K K.svcs.length 1), .int .i64 (rTo K K.svcs.length 2), .int .i64 (rTo K K.svcs.length 3), .int .i64 (rTo K K.svcs.length 4)])) := setCells_below HI1.out.bel (by omega) _ _
      go_wp2_with (first | refine wpList_load_mid rfl 52 _ rfl (w.heap.size + 2) 0 rfl [.int .i64 (rTo K K.svcs.length 0), .int .i64 (rTo K K.svcs.length 1), .int .i64 (rTo K K.svcs.length 2), .int .i64 (rTo K K.svcs.length 3), .int .i64 (rTo K K.svcs.length 4)] _ hrg hu rfl (by kernel_rfl) ?_ | refine wpList_store_mid rfl 52 _ _ rfl (w.heap.size + 1) 0 #[.int .i64 (rTo K K.svcs.length 0), .int .i64 (rTo K K.svcs.length 1), .int .i64 (rTo K K.svcs.length 2), .int .i64 (rTo K K.svcs.length 3), .int .i64 (rTo K K.svcs.length 4)] rfl rfl hth (by kernel_rfl) (by simp [Value.oneCell']) ?_)
      simp only [Act.put]
      refine bodyPost_ret (v := .agg #[.int .i64 (rTo K K.svcs.length 0), .int .i64 (rTo K K.svcs.length 1), .int .i64 (rTo K K.svcs.length 2), .int .i64 (rTo K K.svcs.length 3), .int .i64 (rTo K K.svcs.length 4)]) (by simp [results, Try.results25, asAddr, run_loadVar_mid (P := Try.prog) _ _ _ 52 [.int .i64 (rTo K K.svcs.length 0), .int .i64 (rTo K K.svcs.length 1), .int .i64 (rTo K K.svcs.length 2), .int .i64 (rTo K K.svcs.length 3), .int .i64 (rTo K K.svcs.length 4)] _ hrt hu rfl (by kernel_rfl)]) rfl ?_
      exact ⟨rfl, HF.out⟩

end Go.Proofs.Ytamhfnlogldpaaa
