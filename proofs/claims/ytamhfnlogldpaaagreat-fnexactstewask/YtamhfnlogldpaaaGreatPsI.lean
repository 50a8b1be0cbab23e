/-
  Stewards: the counter, by the program.
-/
import Derived.Test.YtamhfnlogldpaaaGreatPsF
import Derived.Test.YtamhfnlogldpaaaGreatStF
namespace Go.Proofs.YtamhfnlogldpaaaGreat
open Go.RowKit Go.Deep

/-- What a counter asks: how many are made, ends, whether it is asked for. -/
def couP (K : SBk) (s : Sv) (n : Cn) (L : List Cp) (lv : Int) : Int × List En × Bool :=
  if s.gone = true then (0, [], false)
  else if n.live < s.want then (s.want - n.live, [], true)
  else if n.live ≤ (if (decide (0 < n.old) || decide (0 < lv)) = true then s.want + s.over else s.want) then (0, [], false)
  else (0, efE K s L, decide (0 < (efE K s L).length))
def VCo (B : Nat) (s : Sv) (x : Int) (i : Nat) (u : Value) : Prop :=
  match i with
  | 0 => u = .pointer (some ⟨B, 4, none⟩)
  | 1 => u = .agg #[.string s.nm, .int .i64 s.ver, .bool s.gone, .int .i64 s.image, .int .i64 s.want, .int .i64 s.down, .int .i64 s.over, .int .i64 s.next, .int .i64 s.per, .int .i64 s.least, .int .i64 s.most, .int .i64 s.load, .int .i64 s.cool]
  | 2 => u = .pointer (some ⟨B, 17, none⟩)
  | 3 => u = .pointer (some ⟨B, 17, none⟩)
  | 4 => u = .int .i64 x
  | 7 => u = .int .i64 x
  | _ => True
set_option maxRecDepth 8000 in
set_option maxHeartbeats 16000000 in
theorem counterI (K : SBk) (a0 a1 a2 : Option Addr) (c0 c1 c2 : Nat) (s : Sv) (n : Cn) (al : Option Addr) (cl : Nat) (L : List Cp) (lv : Int) (w : World) (h : SBkV w a0 a1 a2 K) (hasc : ascCp K.cps = true) (hlen : K.cps.length ≤ 200) (hs : 0 ≤ s.want ∧ s.want ≤ 10 ∧ 0 ≤ s.down ∧ s.down ≤ 10) (hov : 0 ≤ s.over ∧ s.over ≤ 10) (hnl : 0 ≤ n.live ∧ n.live ≤ 200) (hL : CpsV w al L) (hll : L.length ≤ 200) :
    Calls Tryz.prog 24 #[.agg #[.int .i64 K.now, .slice a0 K.svcs.length c0, .slice a1 K.cps.length c1, .slice a2 K.bts.length c2, .string s.nm, .int .i64 s.ver, .bool s.gone, .int .i64 s.image, .int .i64 s.want, .int .i64 s.down, .int .i64 s.over, .int .i64 s.next, .int .i64 s.per, .int .i64 s.least, .int .i64 s.most, .int .i64 s.load, .int .i64 s.cool, .int .i64 n.live, .int .i64 n.ready, .int .i64 n.old, .int .i64 n.failed, .int .i64 n.ending, .slice al L.length cl, .int .i64 lv]] w fun e w' => (∃ va vc, e = .returned (.tuple #[.agg #[.string ByteArray.empty, .int .i64 0, .int .i64 (couP K s n L lv).1, .int .i64 0, .int .i64 0, .bool false, (.slice va (couP K s n L lv).2.1.length vc), .bool false], .bool (couP K s n L lv).2.2]) ∧ w'.ownsRow w.heap.size 114 2 (.slice va ((couP K s n L lv).2.1).length vc) ((couP K s n L lv).2.1).length (((couP K s n L lv).2.1).flatMap EnC)) ∧ Below w.heap.size w w' := by
  have HH := hid h
  have HAS := hid hasc
  have HLN := hid hlen
  have HS := hid hs
  clear h hasc hlen hs
  obtain ⟨ho0, ho1⟩ := hov
  obtain ⟨hn0, hn1⟩ := hnl
  have hw0 := HS.out.1
  have hw1 := HS.out.2.1
  have HL := hid hL
  have HLL := hid hll
  clear hL hll
  obtain ⟨R, hR⟩ : ∃ R, R = couP K s n L lv := ⟨_, rfl⟩
  rw [← hR]
  have HE := hid hR
  clear hR
  obtain ⟨wa, hwa⟩ : ∃ wa, wa = (w.alloc (.cells #[.int .i64 K.now, .slice a0 K.svcs.length c0, .slice a1 K.cps.length c1, .slice a2 K.bts.length c2, .string s.nm, .int .i64 s.ver, .bool s.gone, .int .i64 s.image, .int .i64 s.want, .int .i64 s.down, .int .i64 s.over, .int .i64 s.next, .int .i64 s.per, .int .i64 s.least, .int .i64 s.most, .int .i64 s.load, .int .i64 s.cool, .int .i64 n.live, .int .i64 n.ready, .int .i64 n.old, .int .i64 n.failed, .int .i64 n.ending, .slice al L.length cl, .int .i64 lv] 58)).alloc (.cells #[.string { data := #[] }, .int .i64 0, .int .i64 0, .int .i64 0, .int .i64 0, .bool false, .slice none 0 0, .bool false] 47) := ⟨_, rfl⟩
  have HB : Hid (Below w.heap.size w wa) := by show Below _ _ _; rw [hwa]; exact blw_alloc (blw_alloc (Below.refl _ _) _) _
  have HX : Hid (LBox wa w.heap.size [.int .i64 K.now, .slice a0 K.svcs.length c0, .slice a1 K.cps.length c1, .slice a2 K.bts.length c2, .string s.nm, .int .i64 s.ver, .bool s.gone, .int .i64 s.image, .int .i64 s.want, .int .i64 s.down, .int .i64 s.over, .int .i64 s.next, .int .i64 s.per, .int .i64 s.least, .int .i64 s.most, .int .i64 s.load, .int .i64 s.cool, .int .i64 n.live, .int .i64 n.ready, .int .i64 n.old, .int .i64 n.failed, .int .i64 n.ending, .slice al L.length cl, .int .i64 lv]) := by show LBox _ _ _; rw [hwa]; exact (LBox.new w _ _ _ rfl).past _
  have HR : Hid (OwnBlk wa (w.heap.size + 1) 47 8) := by show OwnBlk _ _ _ _; rw [hwa]; exact OwnBlk.alloc_at2 _ _ _ _ _ rfl (by simp)
  have hz1 : w.heap.size + 1 < wa.heap.size := HR.out.lt
  go_enter Tryz.func24, Tryz.ntmps24
  go_upto_region 1 with fail
  rw [← hwa]
  clear hwa
  refine RY.region_let wa (Below.refl _ _) (VCo w.heap.size s n.live) 5 1 6 4 8 50 13 [.string s.nm, .int .i64 s.ver, .bool s.gone, .int .i64 s.image, .int .i64 s.want, .int .i64 s.down, .int .i64 s.over, .int .i64 s.next, .int .i64 s.per, .int .i64 s.least, .int .i64 s.most, .int .i64 s.load, .int .i64 s.cool] [.string ByteArray.empty, .int .i64 0, .bool false, .int .i64 0, .int .i64 0, .int .i64 0, .int .i64 0, .int .i64 0, .int .i64 0, .int .i64 0, .int .i64 0, .int .i64 0, .int .i64 0] (by kernel_rfl) (by kernel_rfl) (by kernel_rfl) (by kernel_rfl) _ _ _ rfl rfl rfl rfl rfl rfl rfl (by decide) (by decide) (by decide) (by kernel_rfl) (by kernel_rfl) rfl ?_ rfl ?_ (by kernel_rfl) (fun u hu => hu) ?_ ?_
  · intro a W
    kernel_rfl
  · intro x hx
    simp only [List.mem_cons, List.not_mem_nil, or_false] at hx
    rcases hx with rfl | rfl | rfl | rfl | rfl | rfl | rfl | rfl | rfl | rfl | rfl | rfl | rfl <;> rfl
  · intro i o ho nA nS a W hW hk hd
    have x1 : a.tmps[1]?.getD undef = .pointer (some ⟨w.heap.size, 0, none⟩) := (RY.ev_tmp a 1).trans ((hk 1 (by kernel_rfl)).trans rfl)
    have hX := HX.out.later hW
    match i, ho with
    | 0, ho =>
      injection ho with ho; subst ho
      exact Or.inl ⟨_, W, by simp [execOp, go_sem, x1], Below.refl _ _, rfl⟩
    | 1, ho =>
      injection ho with ho; subst ho
      have e0 : a.eval (.tmp 7) = .pointer (some ⟨w.heap.size, 4, none⟩) := hd 0 _ 7 rfl rfl (by decide) ⟨⟨0, .data⟩, by simp, rfl, rfl⟩
      exact Or.inl ⟨_, W, exec_loadM 50 _ rfl w.heap.size 4 e0 _ _ (hX.mid (xs := [.int .i64 K.now, .slice a0 K.svcs.length c0, .slice a1 K.cps.length c1, .slice a2 K.bts.length c2]) (bs := [.string s.nm, .int .i64 s.ver, .bool s.gone, .int .i64 s.image, .int .i64 s.want, .int .i64 s.down, .int .i64 s.over, .int .i64 s.next, .int .i64 s.per, .int .i64 s.least, .int .i64 s.most, .int .i64 s.load, .int .i64 s.cool]) (ds := [.int .i64 n.live, .int .i64 n.ready, .int .i64 n.old, .int .i64 n.failed, .int .i64 n.ending, .slice al L.length cl, .int .i64 lv]) rfl) Tryz.underlying50 rfl (by kernel_rfl), Below.refl _ _, rfl⟩
    | 2, ho =>
      injection ho with ho; subst ho
      exact Or.inl ⟨_, W, by simp [execOp, go_sem, x1], Below.refl _ _, rfl⟩
    | 3, ho =>
      injection ho with ho; subst ho
      have e0 : a.tmps[9]?.getD undef = _ := (RY.ev_tmp a 9).trans (hd 2 _ 9 rfl rfl (by decide) ⟨⟨2, .data⟩, by simp, rfl, rfl⟩)
      exact Or.inl ⟨_, W, by simp [execOp, go_sem, e0], Below.refl _ _, rfl⟩
    | 4, ho =>
      injection ho with ho; subst ho
      have e0 : a.tmps[10]?.getD undef = _ := (RY.ev_tmp a 10).trans (hd 3 _ 10 rfl rfl (by decide) ⟨⟨3, .data⟩, by simp, rfl, rfl⟩)
      have y17 := hX.get 17 _ rfl
      exact Or.inl ⟨_, W, by simp [execOp, go_sem, e0, y17], Below.refl _ _, rfl⟩
    | 5, ho => exact absurd rfl nA
    | 6, ho => exact absurd rfl nS
    | 7, ho =>
      injection ho with ho; subst ho
      have e0 : a.tmps[11]?.getD undef = _ := (RY.ev_tmp a 11).trans (hd 4 _ 11 rfl rfl (by decide) ⟨⟨4, .data⟩, by simp, rfl, rfl⟩)
      exact Or.inl ⟨_, W, by simp [execOp, go_sem, e0], Below.refl _ _, rfl⟩
    | n + 8, ho => simp at ho
  intro wb vs p hW hvs hp hpv hpo hpr
  have e5 : vs 5 = .int .i64 n.live := hvs 7 _ 5 rfl rfl (by decide)
  simp only [RY.putAll, Act.put, List.setIfInBounds_toArray, List.set_cons_zero, List.set_cons_succ]
  obtain ⟨G, hG⟩ : ∃ G : Value, G = .agg #[.int .i64 K.now, .slice a0 K.svcs.length c0, .slice a1 K.cps.length c1, .slice a2 K.bts.length c2, .string s.nm, .int .i64 s.ver, .bool s.gone, .int .i64 s.image, .int .i64 s.want, .int .i64 s.down, .int .i64 s.over, .int .i64 s.next, .int .i64 s.per, .int .i64 s.least, .int .i64 s.most, .int .i64 s.load, .int .i64 s.cool, .int .i64 n.live, .int .i64 n.ready, .int .i64 n.old, .int .i64 n.failed, .int .i64 n.ending, .slice al L.length cl, .int .i64 lv] := ⟨_, rfl⟩
  rw [hp, e5, ← hG]
  generalize vs 7 = z7
  generalize vs 8 = z8
  generalize vs 9 = z9
  generalize vs 10 = z10
  generalize vs 11 = z11
  have HBb := hid (blw_trans HB.out hW)
  have HRb := hid (HR.out.later hW)
  have HXb := hid (HX.out.later hW)
  have HPb : Hid (LBox wb p [.string s.nm, .int .i64 s.ver, .bool s.gone, .int .i64 s.image, .int .i64 s.want, .int .i64 s.down, .int .i64 s.over, .int .i64 s.next, .int .i64 s.per, .int .i64 s.least, .int .i64 s.most, .int .i64 s.load, .int .i64 s.cool]) := ⟨hpo.lt, hpr⟩
  clear hvs hp e5 hW hpv hpo hpr HB HR HX hG
  have tz := HPb.out.lt
  have t2 := HPb.out.get 2 _ rfl
  have t4 := HPb.out.get 4 _ rfl
  have t6 := HPb.out.get 6 _ rfl
  have yz := HXb.out.lt
  have y19 := HXb.out.get 19 _ rfl
  have y22 := HXb.out.get 22 _ rfl
  have y23 := HXb.out.get 23 _ rfl
  rcases (Bool.eq_false_or_eq_true s.gone) with hg | hg
  · rw [hg] at t2
    have HN : Hid (R = (0, [], false)) := by show R = _; rw [HE.out, couP, if_pos hg]
    clear HE hg
    have hth := RY.own_there HRb.out
    have hrt : World.rangeAt (wb.setCells (w.heap.size + 1) 0 [.string ByteArray.empty, .int .i64 0, .int .i64 0, .int .i64 0, .int .i64 0, .bool false, .slice none 0 0, .bool false]) (w.heap.size + 1) 0 [.string ByteArray.empty, .int .i64 0, .int .i64 0, .int .i64 0, .int .i64 0, .bool false, .slice none 0 0, .bool false] := World.rangeAt_setCells_same _ _ _ _ hth
    go_wp2_with (refine wpList_store_mid rfl 47 _ _ rfl (w.heap.size + 1) 0 #[.string ByteArray.empty, .int .i64 0, .int .i64 0, .int .i64 0, .int .i64 0, .bool false, .slice none 0 0, .bool false] rfl rfl hth (by kernel_rfl) (by simp [Value.oneCell']) ?_)
    refine bodyPost_ret (v := .tuple #[.agg #[.string ByteArray.empty, .int .i64 0, .int .i64 0, .int .i64 0, .int .i64 0, .bool false, .slice none 0 0, .bool false], .bool false]) (by simp [results, Tryz.results24, asAddr, run_loadVar_mid (P := Tryz.prog) _ _ _ 47 [.string ByteArray.empty, .int .i64 0, .int .i64 0, .int .i64 0, .int .i64 0, .bool false, .slice none 0 0, .bool false] _ hrt Tryz.underlying47 rfl (by kernel_rfl)]) rfl ?_
    rw [HN.out]
    exact ⟨⟨none, 0, rfl, owns_nil _ _ _ _⟩, setCells_below HBb.out (by omega) _ _⟩
  rw [hg] at t2
  have HE2 : Hid (R = if n.live < s.want then (s.want - n.live, [], true) else if n.live ≤ (if (decide (0 < n.old) || decide (0 < lv)) = true then s.want + s.over else s.want) then (0, [], false) else (0, efE K s L, decide (0 < (efE K s L).length))) := by show R = _; rw [HE.out, couP, if_neg (by rw [hg]; decide)]
  clear HE hg
  by_cases q1 : n.live < s.want
  · have HN : Hid (R = (s.want - n.live, [], true)) := by show R = _; rw [HE2.out, if_pos q1]
    clear HE2
    have hth := RY.own_there HRb.out
    have hrt : World.rangeAt (wb.setCells (w.heap.size + 1) 0 [.string ByteArray.empty, .int .i64 0, .int .i64 (s.want - n.live), .int .i64 0, .int .i64 0, .bool false, .slice none 0 0, .bool false]) (w.heap.size + 1) 0 [.string ByteArray.empty, .int .i64 0, .int .i64 (s.want - n.live), .int .i64 0, .int .i64 0, .bool false, .slice none 0 0, .bool false] := World.rangeAt_setCells_same _ _ _ _ hth
    go_wp2_with (refine wpList_store_mid rfl 47 _ _ rfl (w.heap.size + 1) 0 #[.string ByteArray.empty, .int .i64 0, .int .i64 (s.want - n.live), .int .i64 0, .int .i64 0, .bool false, .slice none 0 0, .bool false] rfl rfl hth (by kernel_rfl) (by simp [Value.oneCell']) ?_)
    refine bodyPost_ret (v := .tuple #[.agg #[.string ByteArray.empty, .int .i64 0, .int .i64 (s.want - n.live), .int .i64 0, .int .i64 0, .bool false, .slice none 0 0, .bool false], .bool true]) (by simp [results, Tryz.results24, asAddr, run_loadVar_mid (P := Tryz.prog) _ _ _ 47 [.string ByteArray.empty, .int .i64 0, .int .i64 (s.want - n.live), .int .i64 0, .int .i64 0, .bool false, .slice none 0 0, .bool false] _ hrt Tryz.underlying47 rfl (by kernel_rfl)]) rfl ?_
    rw [HN.out]
    exact ⟨⟨none, 0, rfl, owns_nil _ _ _ _⟩, setCells_below HBb.out (by omega) _ _⟩
  rw [if_neg q1] at HE2

  by_cases q2 : 0 < n.old
  · have hmo : (if (decide (0 < n.old) || decide (0 < lv)) = true then s.want + s.over else s.want) = (s.want + s.over) := by simp [q2]
    rw [hmo] at HE2
    clear hmo
    by_cases q3 : n.live ≤ (s.want + s.over)
    · have HN : Hid (R = (0, [], false)) := by show R = _; rw [HE2.out, if_pos q3]
      clear HE2
      have hth := RY.own_there HRb.out
      have hrt : World.rangeAt (wb.setCells (w.heap.size + 1) 0 [.string ByteArray.empty, .int .i64 0, .int .i64 0, .int .i64 0, .int .i64 0, .bool false, .slice none 0 0, .bool false]) (w.heap.size + 1) 0 [.string ByteArray.empty, .int .i64 0, .int .i64 0, .int .i64 0, .int .i64 0, .bool false, .slice none 0 0, .bool false] := World.rangeAt_setCells_same _ _ _ _ hth
      go_wp2_with (refine wpList_store_mid rfl 47 _ _ rfl (w.heap.size + 1) 0 #[.string ByteArray.empty, .int .i64 0, .int .i64 0, .int .i64 0, .int .i64 0, .bool false, .slice none 0 0, .bool false] rfl rfl hth (by kernel_rfl) (by simp [Value.oneCell']) ?_)
      refine bodyPost_ret (v := .tuple #[.agg #[.string ByteArray.empty, .int .i64 0, .int .i64 0, .int .i64 0, .int .i64 0, .bool false, .slice none 0 0, .bool false], .bool false]) (by simp [results, Tryz.results24, asAddr, run_loadVar_mid (P := Tryz.prog) _ _ _ 47 [.string ByteArray.empty, .int .i64 0, .int .i64 0, .int .i64 0, .int .i64 0, .bool false, .slice none 0 0, .bool false] _ hrt Tryz.underlying47 rfl (by kernel_rfl)]) rfl ?_
      rw [HN.out]
      exact ⟨⟨none, 0, rfl, owns_nil _ _ _ _⟩, setCells_below HBb.out (by omega) _ _⟩
    have HN : Hid (R = (0, efE K s L, decide (0 < (efE K s L).length))) := by show R = _; rw [HE2.out, if_neg q3]
    clear HE2
    have hrg := HXb.out.at_
    go_wp2_with (refine wpList_load_mid rfl 58 _ rfl w.heap.size 0 rfl [.int .i64 K.now, .slice a0 K.svcs.length c0, .slice a1 K.cps.length c1, .slice a2 K.bts.length c2, .string s.nm, .int .i64 s.ver, .bool s.gone, .int .i64 s.image, .int .i64 s.want, .int .i64 s.down, .int .i64 s.over, .int .i64 s.next, .int .i64 s.per, .int .i64 s.least, .int .i64 s.most, .int .i64 s.load, .int .i64 s.cool, .int .i64 n.live, .int .i64 n.ready, .int .i64 n.old, .int .i64 n.failed, .int .i64 n.ending, .slice al L.length cl, .int .i64 lv] _ hrg Tryz.underlying58 rfl (by kernel_rfl) ?_)
    refine (endFirstI K a0 a1 a2 c0 c1 c2 s n al cl L lv L al cl wb (HH.out.later HBb.out) HAS.out HLN.out HS.out (HL.out.later HBb.out) (by have := HLL.out; omega)).mono ?_
    rintro e w1 ⟨⟨va, vc, rfl, ho⟩, hb⟩
    obtain ⟨T, hT⟩ : ∃ T, T = efE K s L := ⟨_, rfl⟩
    rw [← hT] at HN ho ⊢
    have HB1 := hid (blw_trans HBb.out hb)
    have HR1 := hid (HRb.out.later hb)
    have HO1 := hid (owns_base ho (Nat.succ_le_of_lt HRb.out.lt))
    clear hT ho hb yz hrg y19 y22 y23 tz t2 t4 t6
    have hth := RY.own_there HR1.out
    have hrt : World.rangeAt (w1.setCells (w.heap.size + 1) 0 [.string ByteArray.empty, .int .i64 0, .int .i64 0, .int .i64 0, .int .i64 0, .bool false, (.slice va T.length vc), .bool false]) (w.heap.size + 1) 0 [.string ByteArray.empty, .int .i64 0, .int .i64 0, .int .i64 0, .int .i64 0, .bool false, (.slice va T.length vc), .bool false] := World.rangeAt_setCells_same _ _ _ _ hth
    go_wp2_with (refine wpList_store_mid rfl 47 _ _ rfl (w.heap.size + 1) 0 #[.string ByteArray.empty, .int .i64 0, .int .i64 0, .int .i64 0, .int .i64 0, .bool false, (.slice va T.length vc), .bool false] rfl rfl hth (by kernel_rfl) (by simp [Value.oneCell']) ?_)
    refine bodyPost_ret (v := .tuple #[.agg #[.string ByteArray.empty, .int .i64 0, .int .i64 0, .int .i64 0, .int .i64 0, .bool false, (.slice va T.length vc), .bool false], .bool (decide (0 < T.length))]) (by simp [results, Tryz.results24, asAddr, run_loadVar_mid (P := Tryz.prog) _ _ _ 47 [.string ByteArray.empty, .int .i64 0, .int .i64 0, .int .i64 0, .int .i64 0, .bool false, (.slice va T.length vc), .bool false] _ hrt Tryz.underlying47 rfl (by kernel_rfl)]) rfl ?_
    rw [HN.out]
    exact ⟨⟨va, vc, rfl, owns_base (owns_scs (by omega) _ _ _ HO1.out) (by omega)⟩, setCells_below HB1.out (by omega) _ _⟩
  by_cases q4 : 0 < lv
  · have hmo : (if (decide (0 < n.old) || decide (0 < lv)) = true then s.want + s.over else s.want) = (s.want + s.over) := by simp [q4]
    rw [hmo] at HE2
    clear hmo
    by_cases q3 : n.live ≤ (s.want + s.over)
    · have HN : Hid (R = (0, [], false)) := by show R = _; rw [HE2.out, if_pos q3]
      clear HE2
      have hth := RY.own_there HRb.out
      have hrt : World.rangeAt (wb.setCells (w.heap.size + 1) 0 [.string ByteArray.empty, .int .i64 0, .int .i64 0, .int .i64 0, .int .i64 0, .bool false, .slice none 0 0, .bool false]) (w.heap.size + 1) 0 [.string ByteArray.empty, .int .i64 0, .int .i64 0, .int .i64 0, .int .i64 0, .bool false, .slice none 0 0, .bool false] := World.rangeAt_setCells_same _ _ _ _ hth
      go_wp2_with (refine wpList_store_mid rfl 47 _ _ rfl (w.heap.size + 1) 0 #[.string ByteArray.empty, .int .i64 0, .int .i64 0, .int .i64 0, .int .i64 0, .bool false, .slice none 0 0, .bool false] rfl rfl hth (by kernel_rfl) (by simp [Value.oneCell']) ?_)
      refine bodyPost_ret (v := .tuple #[.agg #[.string ByteArray.empty, .int .i64 0, .int .i64 0, .int .i64 0, .int .i64 0, .bool false, .slice none 0 0, .bool false], .bool false]) (by simp [results, Tryz.results24, asAddr, run_loadVar_mid (P := Tryz.prog) _ _ _ 47 [.string ByteArray.empty, .int .i64 0, .int .i64 0, .int .i64 0, .int .i64 0, .bool false, .slice none 0 0, .bool false] _ hrt Tryz.underlying47 rfl (by kernel_rfl)]) rfl ?_
      rw [HN.out]
      exact ⟨⟨none, 0, rfl, owns_nil _ _ _ _⟩, setCells_below HBb.out (by omega) _ _⟩
    have HN : Hid (R = (0, efE K s L, decide (0 < (efE K s L).length))) := by show R = _; rw [HE2.out, if_neg q3]
    clear HE2
    have hrg := HXb.out.at_
    go_wp2_with (refine wpList_load_mid rfl 58 _ rfl w.heap.size 0 rfl [.int .i64 K.now, .slice a0 K.svcs.length c0, .slice a1 K.cps.length c1, .slice a2 K.bts.length c2, .string s.nm, .int .i64 s.ver, .bool s.gone, .int .i64 s.image, .int .i64 s.want, .int .i64 s.down, .int .i64 s.over, .int .i64 s.next, .int .i64 s.per, .int .i64 s.least, .int .i64 s.most, .int .i64 s.load, .int .i64 s.cool, .int .i64 n.live, .int .i64 n.ready, .int .i64 n.old, .int .i64 n.failed, .int .i64 n.ending, .slice al L.length cl, .int .i64 lv] _ hrg Tryz.underlying58 rfl (by kernel_rfl) ?_)
    refine (endFirstI K a0 a1 a2 c0 c1 c2 s n al cl L lv L al cl wb (HH.out.later HBb.out) HAS.out HLN.out HS.out (HL.out.later HBb.out) (by have := HLL.out; omega)).mono ?_
    rintro e w1 ⟨⟨va, vc, rfl, ho⟩, hb⟩
    obtain ⟨T, hT⟩ : ∃ T, T = efE K s L := ⟨_, rfl⟩
    rw [← hT] at HN ho ⊢
    have HB1 := hid (blw_trans HBb.out hb)
    have HR1 := hid (HRb.out.later hb)
    have HO1 := hid (owns_base ho (Nat.succ_le_of_lt HRb.out.lt))
    clear hT ho hb yz hrg y19 y22 y23 tz t2 t4 t6
    have hth := RY.own_there HR1.out
    have hrt : World.rangeAt (w1.setCells (w.heap.size + 1) 0 [.string ByteArray.empty, .int .i64 0, .int .i64 0, .int .i64 0, .int .i64 0, .bool false, (.slice va T.length vc), .bool false]) (w.heap.size + 1) 0 [.string ByteArray.empty, .int .i64 0, .int .i64 0, .int .i64 0, .int .i64 0, .bool false, (.slice va T.length vc), .bool false] := World.rangeAt_setCells_same _ _ _ _ hth
    go_wp2_with (refine wpList_store_mid rfl 47 _ _ rfl (w.heap.size + 1) 0 #[.string ByteArray.empty, .int .i64 0, .int .i64 0, .int .i64 0, .int .i64 0, .bool false, (.slice va T.length vc), .bool false] rfl rfl hth (by kernel_rfl) (by simp [Value.oneCell']) ?_)
    refine bodyPost_ret (v := .tuple #[.agg #[.string ByteArray.empty, .int .i64 0, .int .i64 0, .int .i64 0, .int .i64 0, .bool false, (.slice va T.length vc), .bool false], .bool (decide (0 < T.length))]) (by simp [results, Tryz.results24, asAddr, run_loadVar_mid (P := Tryz.prog) _ _ _ 47 [.string ByteArray.empty, .int .i64 0, .int .i64 0, .int .i64 0, .int .i64 0, .bool false, (.slice va T.length vc), .bool false] _ hrt Tryz.underlying47 rfl (by kernel_rfl)]) rfl ?_
    rw [HN.out]
    exact ⟨⟨va, vc, rfl, owns_base (owns_scs (by omega) _ _ _ HO1.out) (by omega)⟩, setCells_below HB1.out (by omega) _ _⟩
  have hmo : (if (decide (0 < n.old) || decide (0 < lv)) = true then s.want + s.over else s.want) = s.want := by simp [q2, q4]
  rw [hmo] at HE2
  clear hmo
  by_cases q3 : n.live ≤ s.want
  · have HN : Hid (R = (0, [], false)) := by show R = _; rw [HE2.out, if_pos q3]
    clear HE2
    have hth := RY.own_there HRb.out
    have hrt : World.rangeAt (wb.setCells (w.heap.size + 1) 0 [.string ByteArray.empty, .int .i64 0, .int .i64 0, .int .i64 0, .int .i64 0, .bool false, .slice none 0 0, .bool false]) (w.heap.size + 1) 0 [.string ByteArray.empty, .int .i64 0, .int .i64 0, .int .i64 0, .int .i64 0, .bool false, .slice none 0 0, .bool false] := World.rangeAt_setCells_same _ _ _ _ hth
    go_wp2_with (refine wpList_store_mid rfl 47 _ _ rfl (w.heap.size + 1) 0 #[.string ByteArray.empty, .int .i64 0, .int .i64 0, .int .i64 0, .int .i64 0, .bool false, .slice none 0 0, .bool false] rfl rfl hth (by kernel_rfl) (by simp [Value.oneCell']) ?_)
    refine bodyPost_ret (v := .tuple #[.agg #[.string ByteArray.empty, .int .i64 0, .int .i64 0, .int .i64 0, .int .i64 0, .bool false, .slice none 0 0, .bool false], .bool false]) (by simp [results, Tryz.results24, asAddr, run_loadVar_mid (P := Tryz.prog) _ _ _ 47 [.string ByteArray.empty, .int .i64 0, .int .i64 0, .int .i64 0, .int .i64 0, .bool false, .slice none 0 0, .bool false] _ hrt Tryz.underlying47 rfl (by kernel_rfl)]) rfl ?_
    rw [HN.out]
    exact ⟨⟨none, 0, rfl, owns_nil _ _ _ _⟩, setCells_below HBb.out (by omega) _ _⟩
  have HN : Hid (R = (0, efE K s L, decide (0 < (efE K s L).length))) := by show R = _; rw [HE2.out, if_neg q3]
  clear HE2
  have hrg := HXb.out.at_
  go_wp2_with (refine wpList_load_mid rfl 58 _ rfl w.heap.size 0 rfl [.int .i64 K.now, .slice a0 K.svcs.length c0, .slice a1 K.cps.length c1, .slice a2 K.bts.length c2, .string s.nm, .int .i64 s.ver, .bool s.gone, .int .i64 s.image, .int .i64 s.want, .int .i64 s.down, .int .i64 s.over, .int .i64 s.next, .int .i64 s.per, .int .i64 s.least, .int .i64 s.most, .int .i64 s.load, .int .i64 s.cool, .int .i64 n.live, .int .i64 n.ready, .int .i64 n.old, .int .i64 n.failed, .int .i64 n.ending, .slice al L.length cl, .int .i64 lv] _ hrg Tryz.underlying58 rfl (by kernel_rfl) ?_)
  refine (endFirstI K a0 a1 a2 c0 c1 c2 s n al cl L lv L al cl wb (HH.out.later HBb.out) HAS.out HLN.out HS.out (HL.out.later HBb.out) (by have := HLL.out; omega)).mono ?_
  rintro e w1 ⟨⟨va, vc, rfl, ho⟩, hb⟩
  obtain ⟨T, hT⟩ : ∃ T, T = efE K s L := ⟨_, rfl⟩
  rw [← hT] at HN ho ⊢
  have HB1 := hid (blw_trans HBb.out hb)
  have HR1 := hid (HRb.out.later hb)
  have HO1 := hid (owns_base ho (Nat.succ_le_of_lt HRb.out.lt))
  clear hT ho hb yz hrg y19 y22 y23 tz t2 t4 t6
  have hth := RY.own_there HR1.out
  have hrt : World.rangeAt (w1.setCells (w.heap.size + 1) 0 [.string ByteArray.empty, .int .i64 0, .int .i64 0, .int .i64 0, .int .i64 0, .bool false, (.slice va T.length vc), .bool false]) (w.heap.size + 1) 0 [.string ByteArray.empty, .int .i64 0, .int .i64 0, .int .i64 0, .int .i64 0, .bool false, (.slice va T.length vc), .bool false] := World.rangeAt_setCells_same _ _ _ _ hth
  go_wp2_with (refine wpList_store_mid rfl 47 _ _ rfl (w.heap.size + 1) 0 #[.string ByteArray.empty, .int .i64 0, .int .i64 0, .int .i64 0, .int .i64 0, .bool false, (.slice va T.length vc), .bool false] rfl rfl hth (by kernel_rfl) (by simp [Value.oneCell']) ?_)
  refine bodyPost_ret (v := .tuple #[.agg #[.string ByteArray.empty, .int .i64 0, .int .i64 0, .int .i64 0, .int .i64 0, .bool false, (.slice va T.length vc), .bool false], .bool (decide (0 < T.length))]) (by simp [results, Tryz.results24, asAddr, run_loadVar_mid (P := Tryz.prog) _ _ _ 47 [.string ByteArray.empty, .int .i64 0, .int .i64 0, .int .i64 0, .int .i64 0, .bool false, (.slice va T.length vc), .bool false] _ hrt Tryz.underlying47 rfl (by kernel_rfl)]) rfl ?_
  rw [HN.out]
  exact ⟨⟨va, vc, rfl, owns_base (owns_scs (by omega) _ _ _ HO1.out) (by omega)⟩, setCells_below HB1.out (by omega) _ _⟩

end Go.Proofs.YtamhfnlogldpaaaGreat
