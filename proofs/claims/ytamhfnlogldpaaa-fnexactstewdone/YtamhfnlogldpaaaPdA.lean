/-
  Stewards: what the ranks count, by the program.
-/
import Derived.Test.YtamhfnlogldpaaaPsF
import Derived.Test.YtamhfnlogldpaaaPsJ
import Derived.Test.YtamhfnlogldpaaaStCI
namespace Go.Proofs.Ytamhfnlogldpaaa
open Go.RowKit Go.Deep

/-- A copy that is old or on a berth that is to be drained. -/
def goP (K : SBk) (s : Sv) (c : Cp) : Bool := (c.image != s.image) || leaves K c
/-- What one service adds to each rank. -/
def rP (K : SBk) (s : Sv) (n : Cn) (L : List Cp) : Nat → Int
  | 0 => bit s.gone
  | 1 => if s.gone then n.ending + n.live else n.ending
  | 2 => if s.gone then 0 else (if n.live - s.want < s.want - n.live then s.want - n.live else n.live - s.want)
  | 3 => ((L.filter (goP K s)).length : Int)
  | _ => n.live - n.ready

set_option maxRecDepth 8000 in
set_option maxHeartbeats 16000000 in
theorem mustGoI (K : SBk) (a0 a1 a2 : Option Addr) (c0 c1 c2 : Nat) (s : Sv) (n : Cn) (al : Option Addr) (cl : Nat) (L : List Cp) (lv : Int) (c : Cp) (pv : Nat) (w : World) (h : SBkV w a0 a1 a2 K) (hX : LBox w pv [.int .i64 K.now, .slice a0 K.svcs.length c0, .slice a1 K.cps.length c1, .slice a2 K.bts.length c2, .string s.nm, .int .i64 s.ver, .bool s.gone, .int .i64 s.image, .int .i64 s.want, .int .i64 s.down, .int .i64 s.over, .int .i64 s.next, .int .i64 s.per, .int .i64 s.least, .int .i64 s.most, .int .i64 s.load, .int .i64 s.cool, .int .i64 n.live, .int .i64 n.ready, .int .i64 n.old, .int .i64 n.failed, .int .i64 n.ending, .slice al L.length cl, .int .i64 lv]) :
    Calls Try.prog 72 #[.agg #[.string c.svc, .int .i64 c.num, .int .i64 c.ver, .int .i64 c.image, .int .i64 c.state, .bool c.ending, .string c.berth], .pointer (some ⟨pv, 0, none⟩)] w fun e w' => e = .returned (.bool (goP K s c)) ∧ Below w.heap.size w w' := by
  have HH := hid h
  clear h
  obtain ⟨R, hR⟩ : ∃ R, R = goP K s c := ⟨_, rfl⟩
  have HRR := hid hR
  rw [← hR]
  clear hR
  have HX := hid hX
  clear hX
  obtain ⟨wa, hwa⟩ : ∃ wa, wa = w.alloc (.cells #[.string c.svc, .int .i64 c.num, .int .i64 c.ver, .int .i64 c.image, .int .i64 c.state, .bool c.ending, .string c.berth] 63) := ⟨_, rfl⟩
  have hba : Below w.heap.size w wa := by rw [hwa]; exact blw_alloc (Below.refl _ _) _
  have HB := hid hba
  have HC : Hid (LBox wa w.heap.size [.string c.svc, .int .i64 c.num, .int .i64 c.ver, .int .i64 c.image, .int .i64 c.state, .bool c.ending, .string c.berth]) := by show LBox _ _ _; rw [hwa]; exact LBox.new w _ _ _ rfl
  have HX2 := hid (HX.out.later hba)
  go_enter Try.func72, Try.ntmps72
  go_upto_region 1 with fail
  rw [← hwa]
  clear hwa hba HX
  have cz := HC.out.lt
  have d0 := HC.out.get 0 _ rfl
  have d1 := HC.out.get 1 _ rfl
  have d2 := HC.out.get 2 _ rfl
  have d3 := HC.out.get 3 _ rfl
  have d4 := HC.out.get 4 _ rfl
  have d5 := HC.out.get 5 _ rfl
  have d6 := HC.out.get 6 _ rfl
  have hrg := HX2.out.at_
  go_wp2_with (refine wpList_load_mid rfl 88 _ rfl pv 0 rfl [.int .i64 K.now, .slice a0 K.svcs.length c0, .slice a1 K.cps.length c1, .slice a2 K.bts.length c2, .string s.nm, .int .i64 s.ver, .bool s.gone, .int .i64 s.image, .int .i64 s.want, .int .i64 s.down, .int .i64 s.over, .int .i64 s.next, .int .i64 s.per, .int .i64 s.least, .int .i64 s.most, .int .i64 s.load, .int .i64 s.cool, .int .i64 n.live, .int .i64 n.ready, .int .i64 n.old, .int .i64 n.failed, .int .i64 n.ending, .slice al L.length cl, .int .i64 lv] _ hrg Try.underlying88 rfl (by kernel_rfl) ?_)
  refine (isOldI K a0 a1 a2 c0 c1 c2 s n al cl L lv c wa).mono ?_
  rintro e w1 ⟨rfl, hb1⟩
  have HB1 := hid (blw_trans HB.out hb1)
  have HC1 := hid (HC.out.later hb1)
  have HX1 := hid (HX2.out.later hb1)
  clear hb1 cz d0 d1 d2 d3 d4 d5 d6 hrg HB HC HX2
  cases hq : ((c.image != s.image))
  · have HE : Hid (R = leaves K c) := by show R = _; rw [HRR.out, goP, hq]; rfl
    clear HRR
    have cz := HC1.out.lt
    have d0 := HC1.out.get 0 _ rfl
    have d1 := HC1.out.get 1 _ rfl
    have d2 := HC1.out.get 2 _ rfl
    have d3 := HC1.out.get 3 _ rfl
    have d4 := HC1.out.get 4 _ rfl
    have d5 := HC1.out.get 5 _ rfl
    have d6 := HC1.out.get 6 _ rfl
    have hrg := HX1.out.at_
    go_wp2_with (refine load_mid_g (by kernel_rfl) 88 _ rfl pv 0 rfl [.int .i64 K.now, .slice a0 K.svcs.length c0, .slice a1 K.cps.length c1, .slice a2 K.bts.length c2, .string s.nm, .int .i64 s.ver, .bool s.gone, .int .i64 s.image, .int .i64 s.want, .int .i64 s.down, .int .i64 s.over, .int .i64 s.next, .int .i64 s.per, .int .i64 s.least, .int .i64 s.most, .int .i64 s.load, .int .i64 s.cool, .int .i64 n.live, .int .i64 n.ready, .int .i64 n.old, .int .i64 n.failed, .int .i64 n.ending, .slice al L.length cl, .int .i64 lv] _ hrg Try.underlying88 rfl (by kernel_rfl) ?_)
    refine (mustLeaveI K a0 a1 a2 c0 c1 c2 s n al cl L lv c w1 (HH.out.later HB1.out)).mono ?_
    rintro e w2 ⟨rfl, hb2⟩
    have HB2 := hid (blw_trans HB1.out hb2)
    clear hb2 cz d0 d1 d2 d3 d4 d5 d6 hrg
    go_wp2
    go_ret
    exact ⟨by rw [HE.out]; rfl, HB2.out⟩
  · have HE : Hid (R = true) := by show R = _; rw [HRR.out, goP, hq]; rfl
    clear HRR
    go_wp2
    go_ret
    exact ⟨by rw [HE.out]; rfl, HB1.out⟩

set_option maxRecDepth 8000 in
set_option maxHeartbeats 8000000 in
theorem liveThatGo (K : SBk) (a0 a1 a2 : Option Addr) (c0 c1 c2 : Nat) (s : Sv) (n : Cn) (al : Option Addr) (cl : Nat) (L : List Cp) (lv : Int) (p : Cp → Bool) (pv : Nat) (w : World) (hL : CpsV w al L) (hll : L.length ≤ 1048576)
    (hF : ∀ c W, Below w.heap.size w W → Calls Try.prog 72 #[.agg #[.string c.svc, .int .i64 c.num, .int .i64 c.ver, .int .i64 c.image, .int .i64 c.state, .bool c.ending, .string c.berth], .pointer (some ⟨pv, 0, none⟩)] W fun e w' => e = .returned (.bool (p c)) ∧ Below W.heap.size W w') :
    Calls Try.prog 79 #[.agg #[.int .i64 K.now, .slice a0 K.svcs.length c0, .slice a1 K.cps.length c1, .slice a2 K.bts.length c2, .string s.nm, .int .i64 s.ver, .bool s.gone, .int .i64 s.image, .int .i64 s.want, .int .i64 s.down, .int .i64 s.over, .int .i64 s.next, .int .i64 s.per, .int .i64 s.least, .int .i64 s.most, .int .i64 s.load, .int .i64 s.cool, .int .i64 n.live, .int .i64 n.ready, .int .i64 n.old, .int .i64 n.failed, .int .i64 n.ending, .slice al L.length cl, .int .i64 lv], .func (.func 72) #[] #[.pointer (some ⟨pv, 0, none⟩)]] w fun e w' => (∃ v, e = .returned v ∧ w'.ownsRow w.heap.size 63 7 v (L.filter p).length ((L.filter p).flatMap CpC)) ∧ Below w.heap.size w w' := by
  have HL := hid hL
  have HF := hid hF
  obtain ⟨i0, hi, hz0, hz1, hz2⟩ := info_parts Try.infCp
  clear hL hF
  obtain ⟨wa, hwa⟩ : ∃ wa, wa = w.alloc (.cells #[.int .i64 K.now, .slice a0 K.svcs.length c0, .slice a1 K.cps.length c1, .slice a2 K.bts.length c2, .string s.nm, .int .i64 s.ver, .bool s.gone, .int .i64 s.image, .int .i64 s.want, .int .i64 s.down, .int .i64 s.over, .int .i64 s.next, .int .i64 s.per, .int .i64 s.least, .int .i64 s.most, .int .i64 s.load, .int .i64 s.cool, .int .i64 n.live, .int .i64 n.ready, .int .i64 n.old, .int .i64 n.failed, .int .i64 n.ending, .slice al L.length cl, .int .i64 lv] 88) := ⟨_, rfl⟩
  have HB : Hid (Below w.heap.size w wa) := by show Below _ _ _; rw [hwa]; exact blw_alloc (Below.refl _ _) _
  have HX : Hid (LBox wa w.heap.size [.int .i64 K.now, .slice a0 K.svcs.length c0, .slice a1 K.cps.length c1, .slice a2 K.bts.length c2, .string s.nm, .int .i64 s.ver, .bool s.gone, .int .i64 s.image, .int .i64 s.want, .int .i64 s.down, .int .i64 s.over, .int .i64 s.next, .int .i64 s.per, .int .i64 s.least, .int .i64 s.most, .int .i64 s.load, .int .i64 s.cool, .int .i64 n.live, .int .i64 n.ready, .int .i64 n.old, .int .i64 n.failed, .int .i64 n.ending, .slice al L.length cl, .int .i64 lv]) := by show LBox _ _ _; rw [hwa]; exact LBox.new w _ _ _ rfl
  go_enter Try.func79, Try.ntmps79
  go_upto_region 1 with fail
  rw [← hwa]
  clear hwa
  have yz := HX.out.lt
  have y22 := HX.out.get 22 _ rfl
  go_wp2
  clear yz y22
  go_loopw [5, 11] (fun v i wr => ∃ (k : Nat), k ≤ L.length ∧ i = .int .i64 k ∧ wr.ownsRow wa.heap.size 63 7 v ((L.take k).filter p).length (((L.take k).filter p).flatMap CpC) ∧ Below wa.heap.size wa wr) (fun _ i _ => L.length - (intOf i).toNat)
  case atStart => exact ⟨0, Nat.zero_le _, rfl, owns_nil _ _ _ _, Below.refl _ _⟩
  case round =>
    rename_i v _ _
    obtain ⟨k, hk, rfl, hO, hW⟩ := hrel
    have HO := hid hO
    have HW := hid hW
    obtain ⟨a, c, hv⟩ := owns_slice hO
    subst hv
    clear hO hW
    by_cases hlt : k < L.length
    · obtain ⟨b1, off1, ha1, hbl1, hf1⟩ := (HL.out.later (blw_trans HB.out HW.out)).at_ k hlt
      subst ha1
      obtain ⟨x, hx⟩ : ∃ x, x = L.getD k Cp.none := ⟨_, rfl⟩
      rw [← hx] at hf1
      obtain ⟨e0, e1, e2, e3, e4, e5, e6, _⟩ := hf1
      have HS : Hid ((L.take (k + 1)).filter p = (L.take k).filter p ++ (if p x then [x] else [])) := by
        show _ = _
        have hk1 : L[k]? = some x := by rw [hx]; simp [hlt]
        rw [List.take_add_one, hk1, List.filter_append]
        congr 1
        simp [List.filter_cons]
      clear hx
      have hm0 : (0 : Int) ≤ (k : Int) := by omega
      have hm3 : (k : Int) < (L.length : Int) := by omega
      obtain ⟨M, hM⟩ : ∃ M, M = (L.take k).filter p := ⟨_, rfl⟩
      have hle : M.length ≤ L.length := by rw [hM]; exact Nat.le_trans (List.length_filter_le _ _) (by simp; omega)
      rw [← hM] at HO HS ⊢
      clear hM
      obtain ⟨w1, hw1⟩ : ∃ w1, w1 = wr.alloc (.cells #[.string x.svc, .int .i64 x.num, .int .i64 x.ver, .int .i64 x.image, .int .i64 x.state, .bool x.ending, .string x.berth] 63) := ⟨_, rfl⟩
      have HB1 : Hid (Below wa.heap.size wa w1) := by show Below _ _ _; rw [hw1]; exact blw_alloc HW.out _
      have HO1 : Hid (w1.ownsRow wa.heap.size 63 7 (.slice a M.length c) M.length (M.flatMap CpC)) := by show World.ownsRow _ _ _ _ _ _ _; rw [hw1]; exact owns_later HO.out (blw_alloc (Below.refl _ _) _)
      obtain ⟨q1, hq1⟩ : ∃ q1, q1 = wr.heap.size := ⟨_, rfl⟩
      have HC1 : Hid (LBox w1 q1 [.string x.svc, .int .i64 x.num, .int .i64 x.ver, .int .i64 x.image, .int .i64 x.state, .bool x.ending, .string x.berth]) := by show LBox _ _ _; rw [hw1]; exact LBox.new _ _ _ _ hq1
      go_upto_region 5 with fail
      rw [← hw1, ← hq1]
      clear hw1 hq1 e0 e1 e2 e3 e4 e5 e6 hbl1 HO HW
      have cz := HC1.out.lt
      have d0 := HC1.out.get 0 _ rfl
      have d1 := HC1.out.get 1 _ rfl
      have d2 := HC1.out.get 2 _ rfl
      have d3 := HC1.out.get 3 _ rfl
      have d4 := HC1.out.get 4 _ rfl
      have d5 := HC1.out.get 5 _ rfl
      have d6 := HC1.out.get 6 _ rfl
      go_wp2_with fail
      refine (HF.out x w1 (blw_trans HB.out HB1.out)).mono ?_
      rintro e w2 ⟨rfl, hb2⟩
      have HB2 := hid (blw_trans HB1.out hb2)
      have HO2 := hid (owns_later HO1.out hb2)
      have HC2 := hid (HC1.out.later hb2)
      have hs2 : wa.heap.size ≤ w2.heap.size := HB2.out.size
      clear hb2 HB1 HO1 HC1 cz d0 d1 d2 d3 d4 d5 d6
      have cz := HC2.out.lt
      have d0 := HC2.out.get 0 _ rfl
      have d1 := HC2.out.get 1 _ rfl
      have d2 := HC2.out.get 2 _ rfl
      have d3 := HC2.out.get 3 _ rfl
      have d4 := HC2.out.get 4 _ rfl
      have d5 := HC2.out.get 5 _ rfl
      have d6 := HC2.out.get 6 _ rfl
      cases hp : p x
      · have HN : Hid ((L.take (k + 1)).filter p = M) := by show _ = _; rw [HS.out, hp]; simp
        clear HS hp
        go_wp2
        go_roundw
        case rel => exact ⟨k + 1, by omega, by go_num, by rw [HN.out]; exact HO2.out, HB2.out⟩
        case measure => simp [intOf]; omega
      · have HN : Hid ((L.take (k + 1)).filter p = M ++ [x]) := by show _ = _; rw [HS.out, hp]; simp
        clear HS hp
        go_wp2_with (at_builtin; refine wpList_append_own _ rfl _ _ 30 rfl wa.heap.size 63 i0 _ 7 72 Try.undCp hi hz0 hz1 hz2 rfl (by decide) (.slice a M.length c) M.length (M.flatMap CpC) rfl ?c0 ⟨w2.heap.size, 0, none⟩ 1 1 (CpC x) rfl ?c1 ?c2 ?c3 ?c4 ?c5 ?c6 ?_)
        case c0 => exact owns_later HO2.out (blw_alloc (Below.refl _ _) _)
        case c1 => rfl
        case c2 => exact World.news_of_block (World.alloc_heap_new _ _)
        case c3 => intro u hu; exact CpC_one [x] u (by simpa using hu)
        case c4 => unfold maxLen; omega
        case c5 => omega
        case c6 => simp; omega
        intro v' w3 hown hgrow _
        have hbt : Below w2.heap.size w2 (w2.alloc (.cells #[.string x.svc, .int .i64 x.num, .int .i64 x.ver, .int .i64 x.image, .int .i64 x.state, .bool x.ending, .string x.berth] 63)) := blw_alloc (Below.refl _ _) _
        have HN2 : Hid (w3.ownsRow wa.heap.size 63 7 v' (M ++ [x]).length ((M ++ [x]).flatMap CpC)) := by
          show World.ownsRow _ _ _ _ _ _ _
          simpa using hown
        have HB3 : Hid (Below wa.heap.size wa w3) := by
          refine Below.grown (blw_trans HB2.out hbt) hgrow (blw_trans HB2.out hbt).size (fun q hq => ?_)
          exact (World.ownsRow.lt HO2.out q hq).1
        clear hown hgrow hbt HO2
        go_wp2
        go_roundw
        case rel => exact ⟨k + 1, by omega, by go_num, by rw [HN.out]; exact HN2.out, HB3.out⟩
        case measure => simp [intOf]; omega
    · obtain rfl : k = L.length := by omega
      rw [List.take_length] at HO ⊢
      go_wp2
      go_ret
      exact ⟨⟨_, rfl, owns_base HO.out HB.out.size⟩, blw_trans HB.out HW.out⟩


set_option maxRecDepth 8000 in
set_option maxHeartbeats 8000000 in
theorem rk0I (K : SBk) (s : Sv) (n : Cn) (L : List Cp) (ps : Nat) (w : World) (hs : LBox w ps [.string s.nm, .int .i64 s.ver, .bool s.gone, .int .i64 s.image, .int .i64 s.want, .int .i64 s.down, .int .i64 s.over, .int .i64 s.next, .int .i64 s.per, .int .i64 s.least, .int .i64 s.most, .int .i64 s.load, .int .i64 s.cool]) :
    Calls Try.prog 75 #[.pointer (some ⟨ps, 0, none⟩)] w fun e w' => e = .returned (.int .i64 (rP K s n L 0)) ∧ Below w.heap.size w w' := by
  go_enter Try.func75, Try.ntmps75
  have sz := hs.lt
  have s2 := hs.get 2 _ rfl
  clear hs
  cases hg : s.gone
  · have HE : Hid (rP K s n L 0 = 0) := by show _ = _; simp [rP, hg, bit]
    rw [hg] at s2
    go_wp2
    go_ret
    exact ⟨by rw [HE.out]; rfl, Below.refl _ _⟩
  · have HE : Hid (rP K s n L 0 = 1) := by show _ = _; simp [rP, hg, bit]
    rw [hg] at s2
    go_wp2
    go_ret
    exact ⟨by rw [HE.out]; rfl, Below.refl _ _⟩

set_option maxRecDepth 8000 in
set_option maxHeartbeats 8000000 in
theorem rk1I (K : SBk) (s : Sv) (n : Cn) (L : List Cp) (ps pc : Nat) (w : World) (hs : LBox w ps [.string s.nm, .int .i64 s.ver, .bool s.gone, .int .i64 s.image, .int .i64 s.want, .int .i64 s.down, .int .i64 s.over, .int .i64 s.next, .int .i64 s.per, .int .i64 s.least, .int .i64 s.most, .int .i64 s.load, .int .i64 s.cool]) (hc : LBox w pc [.int .i64 n.live, .int .i64 n.ready, .int .i64 n.old, .int .i64 n.failed, .int .i64 n.ending]) (hn : n.le 200) :
    Calls Try.prog 76 #[.pointer (some ⟨ps, 0, none⟩), .pointer (some ⟨pc, 0, none⟩)] w fun e w' => e = .returned (.int .i64 (rP K s n L 1)) ∧ Below w.heap.size w w' := by
  obtain ⟨⟨g0, g1⟩, _, _, _, ⟨g2, g3⟩⟩ := hn
  go_enter Try.func76, Try.ntmps76
  have sz := hs.lt
  have s2 := hs.get 2 _ rfl
  have cz := hc.lt
  have c0 := hc.get 0 _ rfl
  have c4 := hc.get 4 _ rfl
  clear hs hc
  cases hg : s.gone
  · have HE : Hid (rP K s n L 1 = n.ending) := by show _ = _; simp [rP, hg]
    rw [hg] at s2
    go_wp2
    go_ret
    exact ⟨by rw [HE.out]; rfl, Below.refl _ _⟩
  · have HE : Hid (rP K s n L 1 = n.ending + n.live) := by show _ = _; simp [rP, hg]
    rw [hg] at s2
    go_wp2
    go_ret
    exact ⟨by rw [HE.out]; rfl, Below.refl _ _⟩

set_option maxRecDepth 8000 in
set_option maxHeartbeats 8000000 in
theorem rk2I (K : SBk) (s : Sv) (n : Cn) (L : List Cp) (ps pc : Nat) (w : World) (hs : LBox w ps [.string s.nm, .int .i64 s.ver, .bool s.gone, .int .i64 s.image, .int .i64 s.want, .int .i64 s.down, .int .i64 s.over, .int .i64 s.next, .int .i64 s.per, .int .i64 s.least, .int .i64 s.most, .int .i64 s.load, .int .i64 s.cool]) (hc : LBox w pc [.int .i64 n.live, .int .i64 n.ready, .int .i64 n.old, .int .i64 n.failed, .int .i64 n.ending]) (hn : n.le 200) (hw : 0 ≤ s.want ∧ s.want ≤ 10) :
    Calls Try.prog 77 #[.pointer (some ⟨ps, 0, none⟩), .pointer (some ⟨pc, 0, none⟩)] w fun e w' => e = .returned (.int .i64 (rP K s n L 2)) ∧ Below w.heap.size w w' := by
  obtain ⟨⟨g0, g1⟩, _, _, _, _⟩ := hn
  obtain ⟨w0, w1⟩ := hw
  go_enter Try.func77, Try.ntmps77
  have sz := hs.lt
  have s2 := hs.get 2 _ rfl
  have s4 := hs.get 4 _ rfl
  have cz := hc.lt
  have c0 := hc.get 0 _ rfl
  clear hs hc
  cases hg : s.gone
  · rw [hg] at s2
    by_cases hlt : n.live - s.want < s.want - n.live
    · have HE : Hid (rP K s n L 2 = s.want - n.live) := by show _ = _; simp [rP, hg, hlt]
      go_wp2
      go_ret
      exact ⟨by rw [HE.out]; rfl, Below.refl _ _⟩
    · have HE : Hid (rP K s n L 2 = n.live - s.want) := by show _ = _; simp [rP, hg, hlt]
      go_wp2
      go_ret
      exact ⟨by rw [HE.out]; rfl, Below.refl _ _⟩
  · have HE : Hid (rP K s n L 2 = 0) := by show _ = _; simp [rP, hg]
    rw [hg] at s2
    go_wp2
    go_ret
    exact ⟨by rw [HE.out]; rfl, Below.refl _ _⟩

set_option maxRecDepth 8000 in
set_option maxHeartbeats 8000000 in
theorem rk4I (K : SBk) (s : Sv) (n : Cn) (L : List Cp) (pc : Nat) (w : World) (hc : LBox w pc [.int .i64 n.live, .int .i64 n.ready, .int .i64 n.old, .int .i64 n.failed, .int .i64 n.ending]) (hn : n.le 200) :
    Calls Try.prog 80 #[.pointer (some ⟨pc, 0, none⟩)] w fun e w' => e = .returned (.int .i64 (rP K s n L 4)) ∧ Below w.heap.size w w' := by
  obtain ⟨⟨g0, g1⟩, ⟨g2, g3⟩, _, _, _⟩ := hn
  go_enter Try.func80, Try.ntmps80
  have cz := hc.lt
  have c0 := hc.get 0 _ rfl
  have c1 := hc.get 1 _ rfl
  clear hc
  have HE : Hid (rP K s n L 4 = n.live - n.ready) := rfl
  go_wp2
  go_ret
  exact ⟨by rw [HE.out]; rfl, Below.refl _ _⟩

set_option maxRecDepth 8000 in
set_option maxHeartbeats 8000000 in
theorem rk3I (K : SBk) (a0 a1 a2 : Option Addr) (c0 c1 c2 : Nat) (s : Sv) (n : Cn) (al : Option Addr) (cl : Nat) (L : List Cp) (lv : Int) (pv pm : Nat) (w : World) (h : SBkV w a0 a1 a2 K) (hL : CpsV w al L) (hll : L.length ≤ 200) (hX : LBox w pv [.int .i64 K.now, .slice a0 K.svcs.length c0, .slice a1 K.cps.length c1, .slice a2 K.bts.length c2, .string s.nm, .int .i64 s.ver, .bool s.gone, .int .i64 s.image, .int .i64 s.want, .int .i64 s.down, .int .i64 s.over, .int .i64 s.next, .int .i64 s.per, .int .i64 s.least, .int .i64 s.most, .int .i64 s.load, .int .i64 s.cool, .int .i64 n.live, .int .i64 n.ready, .int .i64 n.old, .int .i64 n.failed, .int .i64 n.ending, .slice al L.length cl, .int .i64 lv]) (hm : LBox w pm [.func (.func 72) #[] #[.pointer (some ⟨pv, 0, none⟩)]]) :
    Calls Try.prog 78 #[.pointer (some ⟨pv, 0, none⟩), .pointer (some ⟨pm, 0, none⟩)] w fun e w' => e = .returned (.int .i64 (rP K s n L 3)) ∧ Below w.heap.size w w' := by
  have HH := hid h
  have HL := hid hL
  have HX := hid hX
  have HE : Hid (rP K s n L 3 = ((L.filter (goP K s)).length : Int)) := rfl
  have mz := hm.lt
  have m0 := hm.get 0 _ rfl
  have xz := hX.lt
  have hrg := hX.at_
  clear h hL hX hm
  go_enter Try.func78, Try.ntmps78
  go_wp2_with (refine wpList_load_mid rfl 88 _ rfl pv 0 rfl [.int .i64 K.now, .slice a0 K.svcs.length c0, .slice a1 K.cps.length c1, .slice a2 K.bts.length c2, .string s.nm, .int .i64 s.ver, .bool s.gone, .int .i64 s.image, .int .i64 s.want, .int .i64 s.down, .int .i64 s.over, .int .i64 s.next, .int .i64 s.per, .int .i64 s.least, .int .i64 s.most, .int .i64 s.load, .int .i64 s.cool, .int .i64 n.live, .int .i64 n.ready, .int .i64 n.old, .int .i64 n.failed, .int .i64 n.ending, .slice al L.length cl, .int .i64 lv] _ hrg Try.underlying88 rfl (by kernel_rfl) ?_)
  refine (liveThatGo K a0 a1 a2 c0 c1 c2 s n al cl L lv (goP K s) pv w HL.out (by omega) (fun c W hW => mustGoI K a0 a1 a2 c0 c1 c2 s n al cl L lv c pv W (HH.out.later hW) (HX.out.later hW))).mono ?_
  rintro e w1 ⟨⟨v, rfl, ho⟩, hb1⟩
  obtain ⟨va, vc, rfl⟩ := owns_is ho
  have HB1 := hid hb1
  clear ho hb1 mz m0 xz hrg
  go_wp2
  go_ret
  exact ⟨by rw [HE.out]; rfl, HB1.out⟩


end Go.Proofs.Ytamhfnlogldpaaa
