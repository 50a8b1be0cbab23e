/-
  Stewards: the waver, the drainer, the mender and the sweeper, by the program.
-/
import Derived.Test.YtamhfnlogldpaaaGreatPsF
namespace Go.Proofs.YtamhfnlogldpaaaGreat
open Go.RowKit Go.Deep

def wavP (K : SBk) (s : Sv) (n : Cn) (L : List Cp) : Int × List En × Bool := if (s.gone || (n.old == 0)) = true then (0, [], false) else rpl K s n L (fun c => (c.image != s.image))
def draP (K : SBk) (s : Sv) (n : Cn) (L : List Cp) (lv : Int) : Int × List En × Bool := if (s.gone || decide (0 < n.old) || (lv == 0)) = true then (0, [], false) else rpl K s n L (fun c => leaves K c)

set_option maxRecDepth 8000 in
set_option maxHeartbeats 16000000 in
theorem waverI (K : SBk) (a0 a1 a2 : Option Addr) (c0 c1 c2 : Nat) (s : Sv) (n : Cn) (al : Option Addr) (cl : Nat) (L : List Cp) (lv : Int) (w : World) (h : SBkV w a0 a1 a2 K) (hasc : ascCp K.cps = true) (hlen : K.cps.length ≤ 200) (hs : 0 ≤ s.want ∧ s.want ≤ 10 ∧ 0 ≤ s.down ∧ s.down ≤ 10) (hov : 0 ≤ s.over ∧ s.over ≤ 10) (hnl : 0 ≤ n.live ∧ n.live ≤ 200) (hL : CpsV w al L) (hll : L.length ≤ 200) :
    Calls Tryz.prog 25 #[.agg #[.int .i64 K.now, .slice a0 K.svcs.length c0, .slice a1 K.cps.length c1, .slice a2 K.bts.length c2, .string s.nm, .int .i64 s.ver, .bool s.gone, .int .i64 s.image, .int .i64 s.want, .int .i64 s.down, .int .i64 s.over, .int .i64 s.next, .int .i64 s.per, .int .i64 s.least, .int .i64 s.most, .int .i64 s.load, .int .i64 s.cool, .int .i64 n.live, .int .i64 n.ready, .int .i64 n.old, .int .i64 n.failed, .int .i64 n.ending, .slice al L.length cl, .int .i64 lv]] w fun e w' => (∃ va vc, e = .returned (.tuple #[.agg #[.string ByteArray.empty, .int .i64 0, .int .i64 (wavP K s n L).1, .int .i64 0, .int .i64 0, .bool false, (.slice va (wavP K s n L).2.1.length vc), .bool false], .bool (wavP K s n L).2.2]) ∧ w'.ownsRow w.heap.size 114 2 (.slice va ((wavP K s n L).2.1).length vc) ((wavP K s n L).2.1).length (((wavP K s n L).2.1).flatMap EnC)) ∧ Below w.heap.size w w' := by
  have HH := hid h
  have HAS := hid hasc
  have HLN := hid hlen
  have HS := hid hs
  clear h hasc hlen hs
  have HOV := hid hov
  have HNL := hid hnl
  have HL := hid hL
  have HLL := hid hll
  clear hov hnl hL hll
  obtain ⟨R, hR⟩ : ∃ R, R = wavP K s n L := ⟨_, rfl⟩
  rw [← hR]
  have HE := hid hR
  clear hR
  obtain ⟨wa, hwa⟩ : ∃ wa, wa = (w.alloc (.cells #[.int .i64 K.now, .slice a0 K.svcs.length c0, .slice a1 K.cps.length c1, .slice a2 K.bts.length c2, .string s.nm, .int .i64 s.ver, .bool s.gone, .int .i64 s.image, .int .i64 s.want, .int .i64 s.down, .int .i64 s.over, .int .i64 s.next, .int .i64 s.per, .int .i64 s.least, .int .i64 s.most, .int .i64 s.load, .int .i64 s.cool, .int .i64 n.live, .int .i64 n.ready, .int .i64 n.old, .int .i64 n.failed, .int .i64 n.ending, .slice al L.length cl, .int .i64 lv] 58)).alloc (.cells #[.string { data := #[] }, .int .i64 0, .int .i64 0, .int .i64 0, .int .i64 0, .bool false, .slice none 0 0, .bool false] 47) := ⟨_, rfl⟩
  have HB : Hid (Below w.heap.size w wa) := by show Below _ _ _; rw [hwa]; exact blw_alloc (blw_alloc (Below.refl _ _) _) _
  have HX : Hid (LBox wa w.heap.size [.int .i64 K.now, .slice a0 K.svcs.length c0, .slice a1 K.cps.length c1, .slice a2 K.bts.length c2, .string s.nm, .int .i64 s.ver, .bool s.gone, .int .i64 s.image, .int .i64 s.want, .int .i64 s.down, .int .i64 s.over, .int .i64 s.next, .int .i64 s.per, .int .i64 s.least, .int .i64 s.most, .int .i64 s.load, .int .i64 s.cool, .int .i64 n.live, .int .i64 n.ready, .int .i64 n.old, .int .i64 n.failed, .int .i64 n.ending, .slice al L.length cl, .int .i64 lv]) := by show LBox _ _ _; rw [hwa]; exact (LBox.new w _ _ _ rfl).past _
  have HR : Hid (OwnBlk wa (w.heap.size + 1) 47 8) := by show OwnBlk _ _ _ _; rw [hwa]; exact OwnBlk.alloc_at2 _ _ _ _ _ rfl (by simp)
  have hz1 : w.heap.size + 1 < wa.heap.size := HR.out.lt
  go_enter Tryz.func25, Tryz.ntmps25
  go_upto_region 1 with fail
  rw [← hwa]
  clear hwa
  have yz := HX.out.lt
  have y6 := HX.out.get 6 _ rfl
  have y19 := HX.out.get 19 _ rfl

  rcases (Bool.eq_false_or_eq_true s.gone) with hg | hg
  · rw [hg] at y6
    have HN : Hid (R = (0, [], false)) := by show R = _; rw [HE.out]; simp [wavP, hg]
    clear HE
    have hth := RY.own_there HR.out
    have hrt : World.rangeAt (wa.setCells (w.heap.size + 1) 0 [.string ByteArray.empty, .int .i64 0, .int .i64 0, .int .i64 0, .int .i64 0, .bool false, .slice none 0 0, .bool false]) (w.heap.size + 1) 0 [.string ByteArray.empty, .int .i64 0, .int .i64 0, .int .i64 0, .int .i64 0, .bool false, .slice none 0 0, .bool false] := World.rangeAt_setCells_same _ _ _ _ hth
    go_wp2_with (refine wpList_store_mid rfl 47 _ _ rfl (w.heap.size + 1) 0 #[.string ByteArray.empty, .int .i64 0, .int .i64 0, .int .i64 0, .int .i64 0, .bool false, .slice none 0 0, .bool false] rfl rfl hth (by kernel_rfl) (by simp [Value.oneCell']) ?_)
    refine bodyPost_ret (v := .tuple #[.agg #[.string ByteArray.empty, .int .i64 0, .int .i64 0, .int .i64 0, .int .i64 0, .bool false, .slice none 0 0, .bool false], .bool false]) (by simp [results, Tryz.results25, asAddr, run_loadVar_mid (P := Tryz.prog) _ _ _ 47 [.string ByteArray.empty, .int .i64 0, .int .i64 0, .int .i64 0, .int .i64 0, .bool false, .slice none 0 0, .bool false] _ hrt Tryz.underlying47 rfl (by kernel_rfl)]) rfl ?_
    rw [HN.out]
    exact ⟨⟨none, 0, rfl, owns_nil _ _ _ _⟩, setCells_below HB.out (by omega) _ _⟩
  rw [hg] at y6
  by_cases h0 : n.old = 0
  · have h0' : (n.old == 0) = true := by simp [h0]
    have HN : Hid (R = (0, [], false)) := by show R = _; rw [HE.out]; simp [wavP, h0]
    clear HE
    have hth := RY.own_there HR.out
    have hrt : World.rangeAt (wa.setCells (w.heap.size + 1) 0 [.string ByteArray.empty, .int .i64 0, .int .i64 0, .int .i64 0, .int .i64 0, .bool false, .slice none 0 0, .bool false]) (w.heap.size + 1) 0 [.string ByteArray.empty, .int .i64 0, .int .i64 0, .int .i64 0, .int .i64 0, .bool false, .slice none 0 0, .bool false] := World.rangeAt_setCells_same _ _ _ _ hth
    go_wp2_with (refine wpList_store_mid rfl 47 _ _ rfl (w.heap.size + 1) 0 #[.string ByteArray.empty, .int .i64 0, .int .i64 0, .int .i64 0, .int .i64 0, .bool false, .slice none 0 0, .bool false] rfl rfl hth (by kernel_rfl) (by simp [Value.oneCell']) ?_)
    refine bodyPost_ret (v := .tuple #[.agg #[.string ByteArray.empty, .int .i64 0, .int .i64 0, .int .i64 0, .int .i64 0, .bool false, .slice none 0 0, .bool false], .bool false]) (by simp [results, Tryz.results25, asAddr, run_loadVar_mid (P := Tryz.prog) _ _ _ 47 [.string ByteArray.empty, .int .i64 0, .int .i64 0, .int .i64 0, .int .i64 0, .bool false, .slice none 0 0, .bool false] _ hrt Tryz.underlying47 rfl (by kernel_rfl)]) rfl ?_
    rw [HN.out]
    exact ⟨⟨none, 0, rfl, owns_nil _ _ _ _⟩, setCells_below HB.out (by omega) _ _⟩
  have h0' : (n.old == 0) = false := by simp [h0]
  have HN : Hid (R = rpl K s n L (fun c => (c.image != s.image))) := by show R = _; rw [HE.out, wavP, hg, h0']; rfl
  clear HE h0
  have HGn := hid hg
  clear hg
  have hrg := HX.out.at_
  go_wp2_with (refine wpList_load_mid rfl 58 _ rfl w.heap.size 0 rfl [.int .i64 K.now, .slice a0 K.svcs.length c0, .slice a1 K.cps.length c1, .slice a2 K.bts.length c2, .string s.nm, .int .i64 s.ver, .bool s.gone, .int .i64 s.image, .int .i64 s.want, .int .i64 s.down, .int .i64 s.over, .int .i64 s.next, .int .i64 s.per, .int .i64 s.least, .int .i64 s.most, .int .i64 s.load, .int .i64 s.cool, .int .i64 n.live, .int .i64 n.ready, .int .i64 n.old, .int .i64 n.failed, .int .i64 n.ending, .slice al L.length cl, .int .i64 lv] _ hrg Tryz.underlying58 rfl (by kernel_rfl) ?_)
  refine (replaceOld K a0 a1 a2 c0 c1 c2 s n al cl L lv wa (HH.out.later HB.out) HAS.out HLN.out HS.out HOV.out HNL.out (HL.out.later HB.out) HLL.out).mono ?_
  rintro e w1 ⟨⟨va, vc, rfl, ho⟩, hb⟩
  obtain ⟨T, hT⟩ : ∃ T, T = rpl K s n L (fun c => (c.image != s.image)) := ⟨_, rfl⟩
  rw [← hT] at HN ho ⊢
  have HB1 := hid (blw_trans HB.out hb)
  have HR1 := hid (HR.out.later hb)
  have HO1 := hid (owns_base ho (Nat.succ_le_of_lt hz1))
  clear hT ho hb yz hrg y6 y19
  have hth := RY.own_there HR1.out
  have hrt : World.rangeAt (w1.setCells (w.heap.size + 1) 0 [.string ByteArray.empty, .int .i64 0, .int .i64 T.1, .int .i64 0, .int .i64 0, .bool false, (.slice va T.2.1.length vc), .bool false]) (w.heap.size + 1) 0 [.string ByteArray.empty, .int .i64 0, .int .i64 T.1, .int .i64 0, .int .i64 0, .bool false, (.slice va T.2.1.length vc), .bool false] := World.rangeAt_setCells_same _ _ _ _ hth
  go_wp2_with (refine wpList_store_mid rfl 47 _ _ rfl (w.heap.size + 1) 0 #[.string ByteArray.empty, .int .i64 0, .int .i64 T.1, .int .i64 0, .int .i64 0, .bool false, (.slice va T.2.1.length vc), .bool false] rfl rfl hth (by kernel_rfl) (by simp [Value.oneCell']) ?_)
  refine bodyPost_ret (v := .tuple #[.agg #[.string ByteArray.empty, .int .i64 0, .int .i64 T.1, .int .i64 0, .int .i64 0, .bool false, (.slice va T.2.1.length vc), .bool false], .bool T.2.2]) (by simp [results, Tryz.results25, asAddr, run_loadVar_mid (P := Tryz.prog) _ _ _ 47 [.string ByteArray.empty, .int .i64 0, .int .i64 T.1, .int .i64 0, .int .i64 0, .bool false, (.slice va T.2.1.length vc), .bool false] _ hrt Tryz.underlying47 rfl (by kernel_rfl)]) rfl ?_
  rw [HN.out]
  exact ⟨⟨va, vc, rfl, owns_base (owns_scs (by omega) _ _ _ HO1.out) (by omega)⟩, setCells_below HB1.out (by omega) _ _⟩

set_option maxRecDepth 8000 in
set_option maxHeartbeats 16000000 in
theorem drainerI (K : SBk) (a0 a1 a2 : Option Addr) (c0 c1 c2 : Nat) (s : Sv) (n : Cn) (al : Option Addr) (cl : Nat) (L : List Cp) (lv : Int) (w : World) (h : SBkV w a0 a1 a2 K) (hasc : ascCp K.cps = true) (hlen : K.cps.length ≤ 200) (hs : 0 ≤ s.want ∧ s.want ≤ 10 ∧ 0 ≤ s.down ∧ s.down ≤ 10) (hov : 0 ≤ s.over ∧ s.over ≤ 10) (hnl : 0 ≤ n.live ∧ n.live ≤ 200) (hL : CpsV w al L) (hll : L.length ≤ 200) :
    Calls Tryz.prog 29 #[.agg #[.int .i64 K.now, .slice a0 K.svcs.length c0, .slice a1 K.cps.length c1, .slice a2 K.bts.length c2, .string s.nm, .int .i64 s.ver, .bool s.gone, .int .i64 s.image, .int .i64 s.want, .int .i64 s.down, .int .i64 s.over, .int .i64 s.next, .int .i64 s.per, .int .i64 s.least, .int .i64 s.most, .int .i64 s.load, .int .i64 s.cool, .int .i64 n.live, .int .i64 n.ready, .int .i64 n.old, .int .i64 n.failed, .int .i64 n.ending, .slice al L.length cl, .int .i64 lv]] w fun e w' => (∃ va vc, e = .returned (.tuple #[.agg #[.string ByteArray.empty, .int .i64 0, .int .i64 (draP K s n L lv).1, .int .i64 0, .int .i64 0, .bool false, (.slice va (draP K s n L lv).2.1.length vc), .bool false], .bool (draP K s n L lv).2.2]) ∧ w'.ownsRow w.heap.size 114 2 (.slice va ((draP K s n L lv).2.1).length vc) ((draP K s n L lv).2.1).length (((draP K s n L lv).2.1).flatMap EnC)) ∧ Below w.heap.size w w' := by
  have HH := hid h
  have HAS := hid hasc
  have HLN := hid hlen
  have HS := hid hs
  clear h hasc hlen hs
  have HOV := hid hov
  have HNL := hid hnl
  have HL := hid hL
  have HLL := hid hll
  clear hov hnl hL hll
  obtain ⟨R, hR⟩ : ∃ R, R = draP K s n L lv := ⟨_, rfl⟩
  rw [← hR]
  have HE := hid hR
  clear hR
  obtain ⟨wa, hwa⟩ : ∃ wa, wa = (w.alloc (.cells #[.int .i64 K.now, .slice a0 K.svcs.length c0, .slice a1 K.cps.length c1, .slice a2 K.bts.length c2, .string s.nm, .int .i64 s.ver, .bool s.gone, .int .i64 s.image, .int .i64 s.want, .int .i64 s.down, .int .i64 s.over, .int .i64 s.next, .int .i64 s.per, .int .i64 s.least, .int .i64 s.most, .int .i64 s.load, .int .i64 s.cool, .int .i64 n.live, .int .i64 n.ready, .int .i64 n.old, .int .i64 n.failed, .int .i64 n.ending, .slice al L.length cl, .int .i64 lv] 58)).alloc (.cells #[.string { data := #[] }, .int .i64 0, .int .i64 0, .int .i64 0, .int .i64 0, .bool false, .slice none 0 0, .bool false] 47) := ⟨_, rfl⟩
  have HB : Hid (Below w.heap.size w wa) := by show Below _ _ _; rw [hwa]; exact blw_alloc (blw_alloc (Below.refl _ _) _) _
  have HX : Hid (LBox wa w.heap.size [.int .i64 K.now, .slice a0 K.svcs.length c0, .slice a1 K.cps.length c1, .slice a2 K.bts.length c2, .string s.nm, .int .i64 s.ver, .bool s.gone, .int .i64 s.image, .int .i64 s.want, .int .i64 s.down, .int .i64 s.over, .int .i64 s.next, .int .i64 s.per, .int .i64 s.least, .int .i64 s.most, .int .i64 s.load, .int .i64 s.cool, .int .i64 n.live, .int .i64 n.ready, .int .i64 n.old, .int .i64 n.failed, .int .i64 n.ending, .slice al L.length cl, .int .i64 lv]) := by show LBox _ _ _; rw [hwa]; exact (LBox.new w _ _ _ rfl).past _
  have HR : Hid (OwnBlk wa (w.heap.size + 1) 47 8) := by show OwnBlk _ _ _ _; rw [hwa]; exact OwnBlk.alloc_at2 _ _ _ _ _ rfl (by simp)
  have hz1 : w.heap.size + 1 < wa.heap.size := HR.out.lt
  go_enter Tryz.func29, Tryz.ntmps29
  go_upto_region 1 with fail
  rw [← hwa]
  clear hwa
  have yz := HX.out.lt
  have y6 := HX.out.get 6 _ rfl
  have y19 := HX.out.get 19 _ rfl
  have y23 := HX.out.get 23 _ rfl

  rcases (Bool.eq_false_or_eq_true s.gone) with hg | hg
  · rw [hg] at y6
    have HN : Hid (R = (0, [], false)) := by show R = _; rw [HE.out]; simp [draP, hg]
    clear HE
    have hth := RY.own_there HR.out
    have hrt : World.rangeAt (wa.setCells (w.heap.size + 1) 0 [.string ByteArray.empty, .int .i64 0, .int .i64 0, .int .i64 0, .int .i64 0, .bool false, .slice none 0 0, .bool false]) (w.heap.size + 1) 0 [.string ByteArray.empty, .int .i64 0, .int .i64 0, .int .i64 0, .int .i64 0, .bool false, .slice none 0 0, .bool false] := World.rangeAt_setCells_same _ _ _ _ hth
    go_wp2_with (refine wpList_store_mid rfl 47 _ _ rfl (w.heap.size + 1) 0 #[.string ByteArray.empty, .int .i64 0, .int .i64 0, .int .i64 0, .int .i64 0, .bool false, .slice none 0 0, .bool false] rfl rfl hth (by kernel_rfl) (by simp [Value.oneCell']) ?_)
    refine bodyPost_ret (v := .tuple #[.agg #[.string ByteArray.empty, .int .i64 0, .int .i64 0, .int .i64 0, .int .i64 0, .bool false, .slice none 0 0, .bool false], .bool false]) (by simp [results, Tryz.results29, asAddr, run_loadVar_mid (P := Tryz.prog) _ _ _ 47 [.string ByteArray.empty, .int .i64 0, .int .i64 0, .int .i64 0, .int .i64 0, .bool false, .slice none 0 0, .bool false] _ hrt Tryz.underlying47 rfl (by kernel_rfl)]) rfl ?_
    rw [HN.out]
    exact ⟨⟨none, 0, rfl, owns_nil _ _ _ _⟩, setCells_below HB.out (by omega) _ _⟩
  rw [hg] at y6
  by_cases h0 : 0 < n.old
  · have HN : Hid (R = (0, [], false)) := by show R = _; rw [HE.out]; simp [draP, h0]
    clear HE
    have hth := RY.own_there HR.out
    have hrt : World.rangeAt (wa.setCells (w.heap.size + 1) 0 [.string ByteArray.empty, .int .i64 0, .int .i64 0, .int .i64 0, .int .i64 0, .bool false, .slice none 0 0, .bool false]) (w.heap.size + 1) 0 [.string ByteArray.empty, .int .i64 0, .int .i64 0, .int .i64 0, .int .i64 0, .bool false, .slice none 0 0, .bool false] := World.rangeAt_setCells_same _ _ _ _ hth
    go_wp2_with (refine wpList_store_mid rfl 47 _ _ rfl (w.heap.size + 1) 0 #[.string ByteArray.empty, .int .i64 0, .int .i64 0, .int .i64 0, .int .i64 0, .bool false, .slice none 0 0, .bool false] rfl rfl hth (by kernel_rfl) (by simp [Value.oneCell']) ?_)
    refine bodyPost_ret (v := .tuple #[.agg #[.string ByteArray.empty, .int .i64 0, .int .i64 0, .int .i64 0, .int .i64 0, .bool false, .slice none 0 0, .bool false], .bool false]) (by simp [results, Tryz.results29, asAddr, run_loadVar_mid (P := Tryz.prog) _ _ _ 47 [.string ByteArray.empty, .int .i64 0, .int .i64 0, .int .i64 0, .int .i64 0, .bool false, .slice none 0 0, .bool false] _ hrt Tryz.underlying47 rfl (by kernel_rfl)]) rfl ?_
    rw [HN.out]
    exact ⟨⟨none, 0, rfl, owns_nil _ _ _ _⟩, setCells_below HB.out (by omega) _ _⟩
  by_cases h1 : lv = 0
  · have h1' : (lv == 0) = true := by simp [h1]
    have HN : Hid (R = (0, [], false)) := by show R = _; rw [HE.out]; simp [draP, h1]
    clear HE
    have hth := RY.own_there HR.out
    have hrt : World.rangeAt (wa.setCells (w.heap.size + 1) 0 [.string ByteArray.empty, .int .i64 0, .int .i64 0, .int .i64 0, .int .i64 0, .bool false, .slice none 0 0, .bool false]) (w.heap.size + 1) 0 [.string ByteArray.empty, .int .i64 0, .int .i64 0, .int .i64 0, .int .i64 0, .bool false, .slice none 0 0, .bool false] := World.rangeAt_setCells_same _ _ _ _ hth
    go_wp2_with (refine wpList_store_mid rfl 47 _ _ rfl (w.heap.size + 1) 0 #[.string ByteArray.empty, .int .i64 0, .int .i64 0, .int .i64 0, .int .i64 0, .bool false, .slice none 0 0, .bool false] rfl rfl hth (by kernel_rfl) (by simp [Value.oneCell']) ?_)
    refine bodyPost_ret (v := .tuple #[.agg #[.string ByteArray.empty, .int .i64 0, .int .i64 0, .int .i64 0, .int .i64 0, .bool false, .slice none 0 0, .bool false], .bool false]) (by simp [results, Tryz.results29, asAddr, run_loadVar_mid (P := Tryz.prog) _ _ _ 47 [.string ByteArray.empty, .int .i64 0, .int .i64 0, .int .i64 0, .int .i64 0, .bool false, .slice none 0 0, .bool false] _ hrt Tryz.underlying47 rfl (by kernel_rfl)]) rfl ?_
    rw [HN.out]
    exact ⟨⟨none, 0, rfl, owns_nil _ _ _ _⟩, setCells_below HB.out (by omega) _ _⟩
  have h1' : (lv == 0) = false := by simp [h1]
  have HN : Hid (R = rpl K s n L (fun c => leaves K c)) := by show R = _; rw [HE.out, draP, hg, h1', decide_eq_false h0]; rfl
  clear HE h1
  have HGn := hid hg
  clear hg
  have hrg := HX.out.at_
  go_wp2_with (refine wpList_load_mid rfl 58 _ rfl w.heap.size 0 rfl [.int .i64 K.now, .slice a0 K.svcs.length c0, .slice a1 K.cps.length c1, .slice a2 K.bts.length c2, .string s.nm, .int .i64 s.ver, .bool s.gone, .int .i64 s.image, .int .i64 s.want, .int .i64 s.down, .int .i64 s.over, .int .i64 s.next, .int .i64 s.per, .int .i64 s.least, .int .i64 s.most, .int .i64 s.load, .int .i64 s.cool, .int .i64 n.live, .int .i64 n.ready, .int .i64 n.old, .int .i64 n.failed, .int .i64 n.ending, .slice al L.length cl, .int .i64 lv] _ hrg Tryz.underlying58 rfl (by kernel_rfl) ?_)
  refine (replaceLv K a0 a1 a2 c0 c1 c2 s n al cl L lv wa (HH.out.later HB.out) HAS.out HLN.out HS.out HOV.out HNL.out (HL.out.later HB.out) HLL.out).mono ?_
  rintro e w1 ⟨⟨va, vc, rfl, ho⟩, hb⟩
  obtain ⟨T, hT⟩ : ∃ T, T = rpl K s n L (fun c => leaves K c) := ⟨_, rfl⟩
  rw [← hT] at HN ho ⊢
  have HB1 := hid (blw_trans HB.out hb)
  have HR1 := hid (HR.out.later hb)
  have HO1 := hid (owns_base ho (Nat.succ_le_of_lt hz1))
  clear hT ho hb yz hrg y6 y19 y23
  have hth := RY.own_there HR1.out
  have hrt : World.rangeAt (w1.setCells (w.heap.size + 1) 0 [.string ByteArray.empty, .int .i64 0, .int .i64 T.1, .int .i64 0, .int .i64 0, .bool false, (.slice va T.2.1.length vc), .bool false]) (w.heap.size + 1) 0 [.string ByteArray.empty, .int .i64 0, .int .i64 T.1, .int .i64 0, .int .i64 0, .bool false, (.slice va T.2.1.length vc), .bool false] := World.rangeAt_setCells_same _ _ _ _ hth
  go_wp2_with (refine wpList_store_mid rfl 47 _ _ rfl (w.heap.size + 1) 0 #[.string ByteArray.empty, .int .i64 0, .int .i64 T.1, .int .i64 0, .int .i64 0, .bool false, (.slice va T.2.1.length vc), .bool false] rfl rfl hth (by kernel_rfl) (by simp [Value.oneCell']) ?_)
  refine bodyPost_ret (v := .tuple #[.agg #[.string ByteArray.empty, .int .i64 0, .int .i64 T.1, .int .i64 0, .int .i64 0, .bool false, (.slice va T.2.1.length vc), .bool false], .bool T.2.2]) (by simp [results, Tryz.results29, asAddr, run_loadVar_mid (P := Tryz.prog) _ _ _ 47 [.string ByteArray.empty, .int .i64 0, .int .i64 T.1, .int .i64 0, .int .i64 0, .bool false, (.slice va T.2.1.length vc), .bool false] _ hrt Tryz.underlying47 rfl (by kernel_rfl)]) rfl ?_
  rw [HN.out]
  exact ⟨⟨va, vc, rfl, owns_base (owns_scs (by omega) _ _ _ HO1.out) (by omega)⟩, setCells_below HB1.out (by omega) _ _⟩

/-- Those that have failed, as ends. -/
def menP (L : List Cp) : List En := (L.filter fun c => c.state == 4).map endOf
set_option maxRecDepth 8000 in
set_option maxHeartbeats 16000000 in
theorem menderI (K : SBk) (a0 a1 a2 : Option Addr) (c0 c1 c2 : Nat) (s : Sv) (n : Cn) (al : Option Addr) (cl : Nat) (L : List Cp) (lv : Int) (w : World) (hL : CpsV w al L) (hll : L.length ≤ 200) :
    Calls Tryz.prog 26 #[.agg #[.int .i64 K.now, .slice a0 K.svcs.length c0, .slice a1 K.cps.length c1, .slice a2 K.bts.length c2, .string s.nm, .int .i64 s.ver, .bool s.gone, .int .i64 s.image, .int .i64 s.want, .int .i64 s.down, .int .i64 s.over, .int .i64 s.next, .int .i64 s.per, .int .i64 s.least, .int .i64 s.most, .int .i64 s.load, .int .i64 s.cool, .int .i64 n.live, .int .i64 n.ready, .int .i64 n.old, .int .i64 n.failed, .int .i64 n.ending, .slice al L.length cl, .int .i64 lv]] w fun e w' => (∃ va vc, e = .returned (.tuple #[.agg #[.string ByteArray.empty, .int .i64 0, .int .i64 0, .int .i64 0, .int .i64 0, .bool false, (.slice va (menP L).length vc), .bool false], .bool (decide (0 < (menP L).length))]) ∧ w'.ownsRow w.heap.size 114 2 (.slice va (menP L).length vc) (menP L).length ((menP L).flatMap EnC)) ∧ Below w.heap.size w w' := by
  have HL := hid hL
  clear hL
  obtain ⟨M, hM⟩ : ∃ M, M = L.filter fun c => c.state == 4 := ⟨_, rfl⟩
  have e1 : (menP L).length = M.length := by rw [menP, hM]; simp
  have e2 : (menP L).flatMap EnC = (M.map endOf).flatMap EnC := by rw [menP, hM]
  rw [e1, e2]
  have HML : Hid (M.length ≤ 200) := by show _ ≤ _; rw [hM]; exact Nat.le_trans (List.length_filter_le _ _) hll
  have HMS : Hid (∀ c ∈ M, c.sized) := by intro c hc; rw [hM] at hc; exact HL.out.mem c (List.mem_filter.1 hc).1
  have HM := hid hM
  clear e1 e2 hM
  obtain ⟨wa, hwa⟩ : ∃ wa, wa = (w.alloc (.cells #[.int .i64 K.now, .slice a0 K.svcs.length c0, .slice a1 K.cps.length c1, .slice a2 K.bts.length c2, .string s.nm, .int .i64 s.ver, .bool s.gone, .int .i64 s.image, .int .i64 s.want, .int .i64 s.down, .int .i64 s.over, .int .i64 s.next, .int .i64 s.per, .int .i64 s.least, .int .i64 s.most, .int .i64 s.load, .int .i64 s.cool, .int .i64 n.live, .int .i64 n.ready, .int .i64 n.old, .int .i64 n.failed, .int .i64 n.ending, .slice al L.length cl, .int .i64 lv] 58)).alloc (.cells #[.string { data := #[] }, .int .i64 0, .int .i64 0, .int .i64 0, .int .i64 0, .bool false, .slice none 0 0, .bool false] 47) := ⟨_, rfl⟩
  have HB : Hid (Below w.heap.size w wa) := by show Below _ _ _; rw [hwa]; exact blw_alloc (blw_alloc (Below.refl _ _) _) _
  have HX : Hid (LBox wa w.heap.size [.int .i64 K.now, .slice a0 K.svcs.length c0, .slice a1 K.cps.length c1, .slice a2 K.bts.length c2, .string s.nm, .int .i64 s.ver, .bool s.gone, .int .i64 s.image, .int .i64 s.want, .int .i64 s.down, .int .i64 s.over, .int .i64 s.next, .int .i64 s.per, .int .i64 s.least, .int .i64 s.most, .int .i64 s.load, .int .i64 s.cool, .int .i64 n.live, .int .i64 n.ready, .int .i64 n.old, .int .i64 n.failed, .int .i64 n.ending, .slice al L.length cl, .int .i64 lv]) := by show LBox _ _ _; rw [hwa]; exact (LBox.new w _ _ _ rfl).past _
  have HR : Hid (OwnBlk wa (w.heap.size + 1) 47 8) := by show OwnBlk _ _ _ _; rw [hwa]; exact OwnBlk.alloc_at2 _ _ _ _ _ rfl (by simp)
  have hz1 : w.heap.size + 1 < wa.heap.size := HR.out.lt
  go_enter Tryz.func26, Tryz.ntmps26
  go_upto_region 1 with fail
  rw [← hwa]
  clear hwa
  have yz := HX.out.lt
  have hrg := HX.out.at_
  go_wp2_with (refine wpList_load_mid rfl 58 _ rfl w.heap.size 0 rfl [.int .i64 K.now, .slice a0 K.svcs.length c0, .slice a1 K.cps.length c1, .slice a2 K.bts.length c2, .string s.nm, .int .i64 s.ver, .bool s.gone, .int .i64 s.image, .int .i64 s.want, .int .i64 s.down, .int .i64 s.over, .int .i64 s.next, .int .i64 s.per, .int .i64 s.least, .int .i64 s.most, .int .i64 s.load, .int .i64 s.cool, .int .i64 n.live, .int .i64 n.ready, .int .i64 n.old, .int .i64 n.failed, .int .i64 n.ending, .slice al L.length cl, .int .i64 lv] _ hrg Tryz.underlying58 rfl (by kernel_rfl) ?_)
  refine (liveThatFailed K a0 a1 a2 c0 c1 c2 s n al cl L lv (fun c => c.state == 4) wa (HL.out.later HB.out) (by omega) (fun c W _ => hasFailedI c W)).mono ?_
  rintro e w1 ⟨⟨v, rfl, ho⟩, hb⟩
  rw [← HM.out] at ho
  obtain ⟨am, cm, rfl, hCM⟩ := owns_Cps ho (fun i hi => HMS.out _ (by have e : M.getD i Cp.none = M[i] := by simp [hi]
                                                                      rw [e]; exact List.getElem_mem _)) (by have := HML.out; unfold maxLen; omega)
  have HB1 := hid (blw_trans HB.out hb)
  have HR1 := hid (HR.out.later hb)
  have hz2 : w.heap.size + 1 < w1.heap.size := HR1.out.lt
  have HC1 := hid hCM
  clear ho hb hCM yz hrg HB HR HX
  go_wp2_with fail
  refine (endAllI M am cm w1 HC1.out (by have := HML.out; omega)).mono ?_
  rintro e w2 ⟨⟨va, vc, rfl, ho⟩, hb⟩
  have HB2 := hid (blw_trans HB1.out hb)
  have HR2 := hid (HR1.out.later hb)
  have HO2 := hid (owns_base ho (Nat.succ_le_of_lt hz2))
  clear ho hb HB1 HR1 HC1
  have hth := RY.own_there HR2.out
  have hrt : World.rangeAt (w2.setCells (w.heap.size + 1) 0 [.string ByteArray.empty, .int .i64 0, .int .i64 0, .int .i64 0, .int .i64 0, .bool false, (.slice va M.length vc), .bool false]) (w.heap.size + 1) 0 [.string ByteArray.empty, .int .i64 0, .int .i64 0, .int .i64 0, .int .i64 0, .bool false, (.slice va M.length vc), .bool false] := World.rangeAt_setCells_same _ _ _ _ hth
  go_wp2_with (refine wpList_store_mid rfl 47 _ _ rfl (w.heap.size + 1) 0 #[.string ByteArray.empty, .int .i64 0, .int .i64 0, .int .i64 0, .int .i64 0, .bool false, (.slice va M.length vc), .bool false] rfl rfl hth (by kernel_rfl) (by simp [Value.oneCell']) ?_)
  refine bodyPost_ret (v := .tuple #[.agg #[.string ByteArray.empty, .int .i64 0, .int .i64 0, .int .i64 0, .int .i64 0, .bool false, (.slice va M.length vc), .bool false], .bool (decide (0 < M.length))]) (by simp [results, Tryz.results26, asAddr, run_loadVar_mid (P := Tryz.prog) _ _ _ 47 [.string ByteArray.empty, .int .i64 0, .int .i64 0, .int .i64 0, .int .i64 0, .bool false, (.slice va M.length vc), .bool false] _ hrt Tryz.underlying47 rfl (by kernel_rfl)]) rfl ?_
  exact ⟨⟨va, vc, rfl, owns_base (owns_scs (by omega) _ _ _ HO2.out) (by omega)⟩, setCells_below HB2.out (by omega) _ _⟩

/-- What a sweeper asks: ends, whether the service is dropped, whether it is asked for. -/
def sweP (s : Sv) (n : Cn) (L : List Cp) : List En × Bool × Bool :=
  if s.gone = false then ([], false, false) else if n.live + n.ending = 0 then ([], true, true) else (L.map endOf, false, decide (0 < L.length))
set_option maxRecDepth 8000 in
set_option maxHeartbeats 16000000 in
theorem sweeperI (K : SBk) (a0 a1 a2 : Option Addr) (c0 c1 c2 : Nat) (s : Sv) (n : Cn) (al : Option Addr) (cl : Nat) (L : List Cp) (lv : Int) (w : World) (hL : CpsV w al L) (hll : L.length ≤ 200) (hnl : 0 ≤ n.live ∧ n.live ≤ 200) (hne : 0 ≤ n.ending ∧ n.ending ≤ 200) :
    Calls Tryz.prog 28 #[.agg #[.int .i64 K.now, .slice a0 K.svcs.length c0, .slice a1 K.cps.length c1, .slice a2 K.bts.length c2, .string s.nm, .int .i64 s.ver, .bool s.gone, .int .i64 s.image, .int .i64 s.want, .int .i64 s.down, .int .i64 s.over, .int .i64 s.next, .int .i64 s.per, .int .i64 s.least, .int .i64 s.most, .int .i64 s.load, .int .i64 s.cool, .int .i64 n.live, .int .i64 n.ready, .int .i64 n.old, .int .i64 n.failed, .int .i64 n.ending, .slice al L.length cl, .int .i64 lv]] w fun e w' => (∃ va vc, e = .returned (.tuple #[.agg #[.string ByteArray.empty, .int .i64 0, .int .i64 0, .int .i64 0, .int .i64 0, .bool false, (.slice va (sweP s n L).1.length vc), .bool (sweP s n L).2.1], .bool (sweP s n L).2.2]) ∧ w'.ownsRow w.heap.size 114 2 (.slice va ((sweP s n L).1).length vc) ((sweP s n L).1).length (((sweP s n L).1).flatMap EnC)) ∧ Below w.heap.size w w' := by
  have HL := hid hL
  obtain ⟨m1, m2⟩ := hnl
  obtain ⟨m3, m4⟩ := hne
  clear hL
  obtain ⟨R, hR⟩ : ∃ R, R = sweP s n L := ⟨_, rfl⟩
  rw [← hR]
  have HE := hid hR
  clear hR
  obtain ⟨wa, hwa⟩ : ∃ wa, wa = (w.alloc (.cells #[.int .i64 K.now, .slice a0 K.svcs.length c0, .slice a1 K.cps.length c1, .slice a2 K.bts.length c2, .string s.nm, .int .i64 s.ver, .bool s.gone, .int .i64 s.image, .int .i64 s.want, .int .i64 s.down, .int .i64 s.over, .int .i64 s.next, .int .i64 s.per, .int .i64 s.least, .int .i64 s.most, .int .i64 s.load, .int .i64 s.cool, .int .i64 n.live, .int .i64 n.ready, .int .i64 n.old, .int .i64 n.failed, .int .i64 n.ending, .slice al L.length cl, .int .i64 lv] 58)).alloc (.cells #[.string { data := #[] }, .int .i64 0, .int .i64 0, .int .i64 0, .int .i64 0, .bool false, .slice none 0 0, .bool false] 47) := ⟨_, rfl⟩
  have HB : Hid (Below w.heap.size w wa) := by show Below _ _ _; rw [hwa]; exact blw_alloc (blw_alloc (Below.refl _ _) _) _
  have HX : Hid (LBox wa w.heap.size [.int .i64 K.now, .slice a0 K.svcs.length c0, .slice a1 K.cps.length c1, .slice a2 K.bts.length c2, .string s.nm, .int .i64 s.ver, .bool s.gone, .int .i64 s.image, .int .i64 s.want, .int .i64 s.down, .int .i64 s.over, .int .i64 s.next, .int .i64 s.per, .int .i64 s.least, .int .i64 s.most, .int .i64 s.load, .int .i64 s.cool, .int .i64 n.live, .int .i64 n.ready, .int .i64 n.old, .int .i64 n.failed, .int .i64 n.ending, .slice al L.length cl, .int .i64 lv]) := by show LBox _ _ _; rw [hwa]; exact (LBox.new w _ _ _ rfl).past _
  have HR : Hid (OwnBlk wa (w.heap.size + 1) 47 8) := by show OwnBlk _ _ _ _; rw [hwa]; exact OwnBlk.alloc_at2 _ _ _ _ _ rfl (by simp)
  have hz1 : w.heap.size + 1 < wa.heap.size := HR.out.lt
  go_enter Tryz.func28, Tryz.ntmps28
  go_upto_region 1 with fail
  rw [← hwa]
  clear hwa
  have yz := HX.out.lt
  have y6 := HX.out.get 6 _ rfl
  have y17 := HX.out.get 17 _ rfl
  have y21 := HX.out.get 21 _ rfl
  have y22 := HX.out.get 22 _ rfl
  rcases (Bool.eq_false_or_eq_true s.gone) with hg | hg
  · rw [hg] at y6
    by_cases h0 : n.live + n.ending = 0
    · have h0' : (n.live + n.ending == 0) = true := by simp [h0]
      have HN : Hid (R = ([], true, true)) := by show R = _; rw [HE.out]; simp [sweP, hg, h0]
      clear HE h0
      have hth := RY.own_there HR.out
      have hrt : World.rangeAt (wa.setCells (w.heap.size + 1) 0 [.string ByteArray.empty, .int .i64 0, .int .i64 0, .int .i64 0, .int .i64 0, .bool false, .slice none 0 0, .bool true]) (w.heap.size + 1) 0 [.string ByteArray.empty, .int .i64 0, .int .i64 0, .int .i64 0, .int .i64 0, .bool false, .slice none 0 0, .bool true] := World.rangeAt_setCells_same _ _ _ _ hth
      go_wp2_with (refine wpList_store_mid rfl 47 _ _ rfl (w.heap.size + 1) 0 #[.string ByteArray.empty, .int .i64 0, .int .i64 0, .int .i64 0, .int .i64 0, .bool false, .slice none 0 0, .bool true] rfl rfl hth (by kernel_rfl) (by simp [Value.oneCell']) ?_)
      refine bodyPost_ret (v := .tuple #[.agg #[.string ByteArray.empty, .int .i64 0, .int .i64 0, .int .i64 0, .int .i64 0, .bool false, .slice none 0 0, .bool true], .bool true]) (by simp [results, Tryz.results28, asAddr, run_loadVar_mid (P := Tryz.prog) _ _ _ 47 [.string ByteArray.empty, .int .i64 0, .int .i64 0, .int .i64 0, .int .i64 0, .bool false, .slice none 0 0, .bool true] _ hrt Tryz.underlying47 rfl (by kernel_rfl)]) rfl ?_
      rw [HN.out]
      exact ⟨⟨none, 0, rfl, owns_nil _ _ _ _⟩, setCells_below HB.out (by omega) _ _⟩
    · have h0' : (n.live + n.ending == 0) = false := by simp [h0]
      have HN : Hid (R = (L.map endOf, false, decide (0 < L.length))) := by show R = _; rw [HE.out]; simp [sweP, hg, h0]
      clear HE h0
      have HGn := hid hg
      clear hg
      go_wp2_with fail
      refine (endAllI L al cl wa (HL.out.later HB.out) (by omega)).mono ?_
      rintro e w2 ⟨⟨va, vc, rfl, ho⟩, hb⟩
      have HB2 := hid (blw_trans HB.out hb)
      have HR2 := hid (HR.out.later hb)
      have HO2 := hid (owns_base ho (Nat.succ_le_of_lt hz1))
      clear ho hb yz y6 y17 y21 y22
      have hth := RY.own_there HR2.out
      have hrt : World.rangeAt (w2.setCells (w.heap.size + 1) 0 [.string ByteArray.empty, .int .i64 0, .int .i64 0, .int .i64 0, .int .i64 0, .bool false, (.slice va L.length vc), .bool false]) (w.heap.size + 1) 0 [.string ByteArray.empty, .int .i64 0, .int .i64 0, .int .i64 0, .int .i64 0, .bool false, (.slice va L.length vc), .bool false] := World.rangeAt_setCells_same _ _ _ _ hth
      go_wp2_with (refine wpList_store_mid rfl 47 _ _ rfl (w.heap.size + 1) 0 #[.string ByteArray.empty, .int .i64 0, .int .i64 0, .int .i64 0, .int .i64 0, .bool false, (.slice va L.length vc), .bool false] rfl rfl hth (by kernel_rfl) (by simp [Value.oneCell']) ?_)
      refine bodyPost_ret (v := .tuple #[.agg #[.string ByteArray.empty, .int .i64 0, .int .i64 0, .int .i64 0, .int .i64 0, .bool false, (.slice va L.length vc), .bool false], .bool (decide (0 < L.length))]) (by simp [results, Tryz.results28, asAddr, run_loadVar_mid (P := Tryz.prog) _ _ _ 47 [.string ByteArray.empty, .int .i64 0, .int .i64 0, .int .i64 0, .int .i64 0, .bool false, (.slice va L.length vc), .bool false] _ hrt Tryz.underlying47 rfl (by kernel_rfl)]) rfl ?_
      rw [HN.out]
      simp only [List.length_map]
      exact ⟨⟨va, vc, rfl, owns_base (owns_scs (by omega) _ _ _ HO2.out) (by omega)⟩, setCells_below HB2.out (by omega) _ _⟩
  · rw [hg] at y6
    have HN : Hid (R = ([], false, false)) := by show R = _; rw [HE.out]; simp [sweP, hg]
    clear HE
    have hth := RY.own_there HR.out
    have hrt : World.rangeAt (wa.setCells (w.heap.size + 1) 0 [.string ByteArray.empty, .int .i64 0, .int .i64 0, .int .i64 0, .int .i64 0, .bool false, .slice none 0 0, .bool false]) (w.heap.size + 1) 0 [.string ByteArray.empty, .int .i64 0, .int .i64 0, .int .i64 0, .int .i64 0, .bool false, .slice none 0 0, .bool false] := World.rangeAt_setCells_same _ _ _ _ hth
    go_wp2_with (refine wpList_store_mid rfl 47 _ _ rfl (w.heap.size + 1) 0 #[.string ByteArray.empty, .int .i64 0, .int .i64 0, .int .i64 0, .int .i64 0, .bool false, .slice none 0 0, .bool false] rfl rfl hth (by kernel_rfl) (by simp [Value.oneCell']) ?_)
    refine bodyPost_ret (v := .tuple #[.agg #[.string ByteArray.empty, .int .i64 0, .int .i64 0, .int .i64 0, .int .i64 0, .bool false, .slice none 0 0, .bool false], .bool false]) (by simp [results, Tryz.results28, asAddr, run_loadVar_mid (P := Tryz.prog) _ _ _ 47 [.string ByteArray.empty, .int .i64 0, .int .i64 0, .int .i64 0, .int .i64 0, .bool false, .slice none 0 0, .bool false] _ hrt Tryz.underlying47 rfl (by kernel_rfl)]) rfl ?_
    rw [HN.out]
    exact ⟨⟨none, 0, rfl, owns_nil _ _ _ _⟩, setCells_below HB.out (by omega) _ _⟩

end Go.Proofs.YtamhfnlogldpaaaGreat
