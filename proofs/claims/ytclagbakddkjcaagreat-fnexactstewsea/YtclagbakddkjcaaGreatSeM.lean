/-
  The sea: the arm of l17Sea that sinks a berth.
-/
import Derived.Test.YtclagbakddkjcaaGreatSeL
namespace Go.Proofs.YtclagbakddkjcaaGreat
open Go.RowKit Go.Deep

def awayTo (l : List Cp) (nm : ByteArray) (k : Nat) : List Cp := (l.take k).filter fun c => !same c.berth nm
theorem awayTo_succ (l : List Cp) (nm : ByteArray) {k : Nat} (hk : k < l.length) : awayTo l nm (k + 1) = awayTo l nm k ++ (if same (l.getD k Cp.none).berth nm then [] else [l.getD k Cp.none]) := by
  have e : l[k]? = some (l.getD k Cp.none) := by simp [hk]
  unfold awayTo
  rw [List.take_add_one, e, List.filter_append]
  congr 1
  obtain ⟨c, hc⟩ : ∃ c, c = l.getD k Cp.none := ⟨_, rfl⟩
  rw [← hc]
  clear hc e
  cases h : same c.berth nm <;> simp [h]
theorem awayTo_len (l : List Cp) (nm : ByteArray) (k : Nat) : (awayTo l nm k).length ≤ l.length := by
  unfold awayTo
  exact Nat.le_trans (List.length_filter_le _ _) (by simp; omega)
theorem awayTo_all (l : List Cp) (nm : ByteArray) : awayTo l nm l.length = awayFrom l nm := by
  unfold awayTo awayFrom
  rw [List.take_length]
theorem away_sized {l : List Cp} (h : ∀ i, i < l.length → (l.getD i Cp.none).sized) (nm : ByteArray) (k : Nat) : ∀ i, i < (awayTo l nm k).length → ((awayTo l nm k).getD i Cp.none).sized := by
  refine getD_all _ (p := Cp.sized) _ ?_
  intro x hx
  exact all_getD _ (p := Cp.sized) _ h x (List.mem_of_mem_take (List.mem_filter.1 hx).1)
theorem out_sized {l : List Bt} (h : ∀ i, i < l.length → (l.getD i Bt.none).sized) (k : Nat) : ∀ i, i < (l.take k ++ l.drop (k + 1)).length → ((l.take k ++ l.drop (k + 1)).getD i Bt.none).sized := by
  refine getD_all _ (p := Bt.sized) _ ?_
  intro x hx
  rw [List.mem_append] at hx
  rcases hx with hx | hx
  · exact all_getD _ (p := Bt.sized) _ h x (List.mem_of_mem_take hx)
  · exact all_getD _ (p := Bt.sized) _ h x (List.mem_of_mem_drop hx)

set_option maxRecDepth 8000 in
set_option maxHeartbeats 8000000 in
theorem seaSink (K : SBk) (E : Ev) (lo : Nat) (w : World) (hlo : lo ≤ w.heap.size) (v : Int) (HV : Hid (v = K.now + 1)) (p0 p1 p2 : Option Addr) (q0 q1 q2 : Nat) (W : World) (HEW : Hid (EI lo w W E)) (HX : Hid (XI lo w.heap.size W K.now K.svcs K.cps K.bts p0 p1 p2 K.svcs.length K.cps.length K.bts.length q0 q1 q2)) (HL : Hid (K.svcs.length ≤ 100000 ∧ K.bts.length ≤ 100000)) (HZ : Hid (E.sv.nm.size ≤ maxLen ∧ E.nm.size ≤ maxLen)) (hk : E.kind = 4) (u0 u1 u5 u7 u8 u9 u10 u11 u12 u13 u14 u15 u16 u17 u18 u19 u20 u21 u22 u23 u24 u25 u26 u27 u28 u29 u30 u31 u32 u33 u34 u35 u36 u37 u38 u39 u40 u41 u42 u43 u44 u45 u46 u47 u48 u49 u50 u51 u52 u53 u54 u55 u56 u57 u58 u59 u60 u61 u62 u63 u64 u65 u66 u67 u68 u69 u70 u71 u72 u73 u74 u75 u76 u77 u78 u79 u80 u81 u82 u83 u84 u85 u86 u87 u88 u89 u90 u91 u92 u93 u94 u95 u96 u97 u98 u99 u100 u101 u102 u103 u104 u105 u106 u107 u108 u109 u110 u111 u112 u113 u114 u115 u116 u117 u118 u119 u120 u121 u122 u123 u124 u125 u126 u127 u128 u129 u130 u131 u132 u133 u134 u135 u136 u137 u138 u139 u140 u141 u142 u143 u144 u145 u146 u147 u148 u149 u150 u151 u152 u153 u154 u155 u156 u157 u158 u159 u160 : Value) :
    Code.wp Tryz.prog sa2 (SeaQ K E lo w) { tmps := #[u0, u1, .pointer (some ⟨w.heap.size, 0, none⟩), .pointer (some ⟨w.heap.size + 1, 0, none⟩), .pointer (some ⟨w.heap.size + 1 + 1, 0, none⟩), u5, .int .i64 v, u7, u8, u9, u10, u11, u12, u13, u14, u15, u16, u17, u18, u19, u20, u21, u22, u23, u24, u25, u26, u27, u28, u29, u30, u31, u32, u33, u34, u35, u36, u37, u38, u39, u40, u41, u42, u43, u44, u45, u46, u47, u48, u49, u50, u51, u52, u53, u54, u55, u56, u57, u58, u59, u60, u61, u62, u63, u64, u65, u66, u67, u68, u69, u70, u71, u72, u73, u74, u75, u76, u77, u78, u79, u80, u81, u82, u83, u84, u85, u86, u87, u88, u89, u90, u91, u92, u93, u94, u95, u96, u97, u98, u99, u100, u101, u102, u103, u104, u105, u106, u107, u108, u109, u110, u111, u112, u113, u114, u115, u116, u117, u118, u119, u120, u121, u122, u123, u124, u125, u126, u127, u128, u129, u130, u131, u132, u133, u134, u135, u136, u137, u138, u139, u140, u141, u142, u143, u144, u145, u146, u147, u148, u149, u150, u151, u152, u153, u154, u155, u156, u157, u158, u159, u160], defers := [] } W := by
  have hun := And.intro HV (And.intro HL HZ)
  clear hun
  unfold SeaQ
  rw [sa2_3]
  simp only [sa2, sa1, sa0, Tryz.f20, Option.getD_some, sfst_seq, ssnd_seq]
  have ez : w.heap.size + 1 < W.heap.size := lt_heap HEW.out.ev
  have e0 : W.cell? ⟨w.heap.size + 1, 0, none⟩ = some (.int .i64 E.kind) := HEW.out.at_ 0 _ rfl
  have e14 : W.cell? ⟨w.heap.size + 1, 14, none⟩ = some (.string E.nm) := HEW.out.at_ 14 _ rfl
  obtain ⟨yz, y0, y1, y2, y3⟩ := HX.out.at_
  rw [hk] at e0
  obtain ⟨i0, hi, hz0, hz1, hz2⟩ := info_parts Tryz.infCp'
  go_wp2_with fail
  refine (l12BerthIx K p0 p1 p2 q0 q1 q2 E.nm W HX.out.v).mono ?_
  rintro e W1 ⟨rfl, hb⟩
  clear ez e0 e14
  have HXW1 : Hid (XI lo w.heap.size W1 K.now K.svcs K.cps K.bts p0 p1 p2 K.svcs.length K.cps.length K.bts.length q0 q1 q2) := HX.out.later hb
  have HEW1 : Hid (EI lo w W1 E) := HEW.out.later hlo hb
  clear hb HX HEW yz y0 y1 y2 y3
  obtain ⟨ix, hix⟩ : ∃ ix, ix = btIx K.bts E.nm := ⟨_, rfl⟩
  rw [← hix]
  have HIX := hid hix
  clear hix
  by_cases hneg : ix < 0
  · have HC : Hid (seaC K E = 3) := by show _ = _; unfold seaC; rw [hk, ← HIX.out]; simp [hneg]
    obtain ⟨yz, y0, y1, y2, y3⟩ := HXW1.out.at_
    have hfz := HEW1.out.own.frozen
    have hz := HEW1.out.own.lt
    obtain ⟨r0, k0⟩ := HEW1.out.own.cell 0 (by omega)
    obtain ⟨r1, k1⟩ := HEW1.out.own.cell 1 (by omega)
    obtain ⟨r2, k2⟩ := HEW1.out.own.cell 2 (by omega)
    obtain ⟨r3, k3⟩ := HEW1.out.own.cell 3 (by omega)
    go_wp2
    have p := fun i hi => puts_at 0 [.int .i64 K.now, .slice p0 K.svcs.length q0, .slice p1 K.cps.length q1, .slice p2 K.bts.length q2] W1 0 HEW1.out.own (by simp) i hi
    have t0 := p 0 (by simp)
    have t1 := p 1 (by simp)
    have t2 := p 2 (by simp)
    have t3 := p 3 (by simp)
    simp only [puts, Nat.add_zero, Nat.zero_add, Nat.reduceAdd, List.getElem?_cons_zero, List.getElem?_cons_succ] at t0 t1 t2 t3
    have hbl := puts_lo 0 (B := w.heap.size + 2) (Nat.le_trans hlo (Nat.le_add_right _ 2)) [.int .i64 K.now, .slice p0 K.svcs.length q0, .slice p1 K.cps.length q1, .slice p2 K.bts.length q2] W1 0 HEW1.out.bel
    have hkp := puts_keep 0 (B := w.heap.size + 2) (Nat.le_add_right _ 2) [.int .i64 K.now, .slice p0 K.svcs.length q0, .slice p1 K.cps.length q1, .slice p2 K.bts.length q2] W1 0 HEW1.out.keep
    refine bodyPost_ret (v := .tuple #[.agg #[.int .i64 K.now, .slice p0 K.svcs.length q0, .slice p1 K.cps.length q1, .slice p2 K.bts.length q2], .int .i64 3]) (by simp [results, go_sem, t0, t1, t2, t3]) rfl ⟨?_, hbl, hkp⟩
    have HXF : XI lo w.heap.size (puts W1 (w.heap.size + 2) 0 0 [.int .i64 K.now, .slice p0 K.svcs.length q0, .slice p1 K.cps.length q1, .slice p2 K.bts.length q2]) K.now K.svcs K.cps K.bts p0 p1 p2 K.svcs.length K.cps.length K.bts.length q0 q1 q2 := by
      have s1 := HXW1.out
      have g1 := HEW1.out
      have s2 := s1.res g1 0 (.int .i64 K.now)
      have g2 : EI lo w (W1.setCell ⟨w.heap.size + 2, 0, none⟩ (.int .i64 K.now)) E := g1.res hlo _ _
      have s3 := s2.res g2 1 (.slice p0 K.svcs.length q0)
      have g3 := g2.res hlo 1 (.slice p0 K.svcs.length q0)
      have s4 := s3.res g3 2 (.slice p1 K.cps.length q1)
      have g4 := g3.res hlo 2 (.slice p1 K.cps.length q1)
      exact s4.res g4 3 (.slice p2 K.bts.length q2)
    have hR : seaR K E = K := by unfold seaR; rw [HC.out, if_neg (by decide)]
    rw [hR, HC.out]
    exact ⟨_, _, _, rfl, HXF.own⟩
  obtain ⟨m, hkk, hlt⟩ : ∃ m : Nat, ix = m ∧ m < K.bts.length := by
    rcases firstTo_cases (fun i => same (K.bts.getD i Bt.none).nm E.nm) K.bts.length with ⟨q, _⟩ | ⟨k, q1, q2, _⟩
    · exfalso
      have : ix = -1 := by rw [HIX.out]; exact q
      omega
    · exact ⟨k, by rw [HIX.out]; exact q2, q1⟩
  subst hkk
  clear hneg
  have hm4 : ¬ (m : Int) < 0 := by omega
  have HR0 : Hid (seaC K E = 0 ∧ seaK K E = ⟨v, K.svcs, awayFrom K.cps E.nm, K.bts.take m ++ K.bts.drop (m + 1)⟩) := by
    refine ⟨?_, ?_⟩
    · unfold seaC
      rw [← HIX.out, hk]
      simp [hm4]
    · unfold seaK
      rw [← HIX.out, hk, HV.out]
      simp
  have HLT := hid hlt
  clear hk HIX hlt
  go_upto_region 18 with fail
  have m2 := HXW1.out.m2
  have HLE : Hid ((K.bts.take m).length = m ∧ (K.bts.drop (m + 1)).length = K.bts.length - (m + 1)) := by
    have := HLT.out
    exact ⟨by rw [List.length_take]; omega, by rw [List.length_drop]⟩
  obtain ⟨A1, _, _, hs4, _, hn1, _, hA1, _⟩ := cut_bts (px := w.heap.size) HXW1.out.o2 HXW1.out.l2 HXW1.out.bx m (Nat.le_of_lt HLT.out) HXW1.out.m2
  obtain ⟨_, A2, cc2, _, hs10, _, hn2, _, hA2⟩ := cut_bts (px := w.heap.size) HXW1.out.o2 HXW1.out.l2 HXW1.out.bx (m + 1) HLT.out HXW1.out.m2
  rw [show (((m + 1 : Nat)) : Int) = (m : Int) + 1 from by omega] at hs10
  show Code.wp Tryz.prog r18 _ _ _
  refine region18 _ _ W1 w.heap.size p2 A1 A2 K.bts.length q2 m (K.bts.length - (m + 1)) cc2 K.now (.slice p0 K.svcs.length q0) (.slice p1 K.cps.length q1) ((K.bts.take m).flatMap BtC) ((K.bts.drop (m + 1)).flatMap BtC) rfl rfl rfl HXW1.out.bx hs4 hs10 (by rw [flat_len BtC 2 BtC_len, HLE.out.1]) (by rw [flat_len BtC 2 BtC_len, HLE.out.2]) (BtC_one _) (BtC_one _) (by have := HLT.out; omega) hn1 hn2 hA1 hA2 ?_
  intro W4 vs4 g4 cap4 hX4 hg4 hpx4 hO4
  clear hs4 hs10 hn1 hn2 hA1 hA2 m2 hm4
  obtain ⟨nb, hnb⟩ : ∃ nb, nb = m + (K.bts.length - (m + 1)) := ⟨_, rfl⟩
  rw [← hnb] at hpx4 hO4
  obtain ⟨LB, hLB⟩ : ∃ LB, LB = K.bts.take m ++ K.bts.drop (m + 1) := ⟨_, rfl⟩
  rw [← hLB] at HR0
  have HX4 : Hid (XI lo w.heap.size W4 K.now K.svcs K.cps LB p0 p1 (some ⟨g4, 0, none⟩) K.svcs.length K.cps.length nb q0 q1 cap4) := by
    refine ⟨hpx4, owns_belx HXW1.out.o0 hX4 HXW1.out.bx t_sk, owns_belx HXW1.out.o1 hX4 HXW1.out.bx (fun e => t_kc e.symm), ?_, rfl, rfl, ?_, HXW1.out.z0, HXW1.out.z1, ?_, HXW1.out.m0, HXW1.out.m1, ?_⟩
    · rw [hLB, List.flatMap_append]
      exact owns_lo hO4 (Nat.le_trans hlo (Nat.le_of_lt (lt_heap HXW1.out.bx)))
    · rw [hLB, List.length_append, HLE.out.1, HLE.out.2, hnb]
    · rw [hLB]; exact out_sized HXW1.out.z2 m
    · have := HXW1.out.m2
      have := HLT.out
      omega
  have HE4 := hid (HEW1.out.belx hlo hX4)
  clear hX4 hg4 hpx4 hO4 hLB hnb HLE HLT HXW1 HEW1
  simp only [ops18, r18, arm4, sw4, sw3, sw2, sw1, sa2, sa1, sa0, Tryz.f20, Option.getD_some, sfst_seq, ssnd_seq, sthen_cond, selse_cond, sblk_block, rops_region, RY.putAll, Act.put, List.setIfInBounds_toArray, List.set_cons_zero, List.set_cons_succ]
  generalize vs4 79 = z79
  generalize vs4 80 = z80
  generalize vs4 81 = z81
  generalize vs4 82 = z82
  generalize vs4 83 = z83
  generalize vs4 84 = z84
  generalize vs4 85 = z85
  generalize vs4 86 = z86
  generalize vs4 87 = z87
  generalize vs4 88 = z88
  generalize vs4 89 = z89
  generalize vs4 90 = z90
  generalize vs4 91 = z91
  obtain ⟨wb, hwb⟩ : ∃ wb, wb = W4.alloc (.cells #[] 81) := ⟨_, rfl⟩
  have HO0 : Hid (wb.ownsRow W4.heap.size 81 7 (.slice (some ⟨W4.heap.size, 0, none⟩) 0 0) 0 []) := by
    refine ⟨by simp, Or.inr ⟨W4.heap.size, 0, #[], rfl, Nat.le_refl _, ?_, Nat.le_refl _, by simp, by simp, by simp⟩⟩
    rw [hwb]
    exact World.alloc_heap_new _ _
  have HBb : Hid (Below W4.heap.size W4 wb) := by show Below _ _ _; rw [hwb]; exact blw_alloc (Below.refl _ _) _
  go_upto_region 20 with fail
  rw [← hwb]
  clear hwb
  go_wp2
  go_loopw [9, 10] (fun u i wr => ∃ k : Nat, k ≤ K.cps.length ∧ i = .int .i64 k ∧ wr.ownsRow W4.heap.size 81 7 u (awayTo K.cps E.nm k).length ((awayTo K.cps E.nm k).flatMap CpC) ∧ Below W4.heap.size W4 wr) (fun _ i _ => K.cps.length - (intOf i).toNat)
  case atStart => exact ⟨0, Nat.zero_le _, rfl, HO0.out, HBb.out⟩
  case round =>
    rename_i uv _ _
    obtain ⟨k, hk, rfl, hO, hW⟩ := hrel
    have HO := hid hO
    have HW := hid hW
    obtain ⟨a, c, hv⟩ := owns_is hO
    subst hv
    clear hO hW
    have hmx := HX4.out.m1
    have hxr := HX4.out.later HW.out
    have her := HE4.out.later hlo HW.out
    obtain ⟨yz, y0, y1, y2, y3⟩ := hxr.at_
    by_cases hlt : k < K.cps.length
    · obtain ⟨g, cur, hp1, hgl, hgh, hcs, hcell⟩ := owns_blk hxr.o1 (by omega)
      rw [hp1] at y2
      obtain ⟨x, hx⟩ : ∃ x, x = K.cps.getD k Cp.none := ⟨_, rfl⟩
      have cell := fun j (hj : j < 7) u (hu : (CpC x)[j]? = some u) => hcell (k * 7 + j) u ((flat_at Cp.none CpC 7 CpC_len K.cps k j hlt hj).trans (by rw [← hx]; exact hu))
      have gzr : g < wr.heap.size := lt_heap hgh
      have HS := hid (awayTo_succ K.cps E.nm hlt)
      have hle := awayTo_len K.cps E.nm k
      obtain ⟨M, hM⟩ : ∃ M, M = awayTo K.cps E.nm k := ⟨_, rfl⟩
      rw [← hM] at HO HS hle ⊢
      rw [← hx] at HS
      have HC7 : Hid (∀ j u, j < 7 → (CpC x)[j]? = some u → wr.cell? ⟨g, k * 7 + j, none⟩ = some u) := fun j u hj hu => cell j hj u hu
      have e6 := cell 6 (by omega) _ rfl
      have ez := lt_heap her.ev
      have e14 := her.at_ 14 _ rfl
      have hNE := pst_some wr
      have hyz : ∀ px : Pst wr, w.heap.size < px.W.heap.size := fun px => px.size yz
      have hez : ∀ px : Pst wr, w.heap.size + 1 < px.W.heap.size := fun px => px.size ez
      have gz : ∀ px : Pst wr, g < px.W.heap.size := fun px => px.size gzr
      have Y2 : ∀ px : Pst wr, px.W.cell? ⟨w.heap.size, 2, none⟩ = some (.slice (some ⟨g, 0, none⟩) K.cps.length q1) := fun px => px.cell y2 yz
      have E14 : ∀ px : Pst wr, px.W.cell? ⟨w.heap.size + 1, 14, none⟩ = some (.string E.nm) := fun px => px.cell e14 ez
      have E6 : ∀ px : Pst wr, px.W.cell? ⟨g, k * 7 + 6, none⟩ = some (.string x.berth) := fun px => px.cell e6 gzr
      have hm0 : (0 : Int) ≤ (k : Int) := by omega
      have hm3 : (k : Int) < (K.cps.length : Int) := by omega
      have HXR := hid hxr
      have HYZ := hid (And.intro yz (And.intro y2 gzr))
      clear hcell cell hx hM hgl hgh hcs hxr her e6 e14 hp1
      cases hs : (x.berth.toList == E.nm.toList)
      · have hsn : (x.berth.toList != E.nm.toList) = true := by rw [bne, hs]; rfl
        have HN : Hid (awayTo K.cps E.nm (k + 1) = M ++ [x]) := by show _ = _; rw [HS.out, show same x.berth E.nm = false from hs]; rfl
        go_wp2_with fail
        clear yz ez gzr y0 y1 y2 y3
        refine region_class wr (Below.refl _ _) (by kernel_rfl) (by kernel_rfl) ?_
        repeat (first
          | go_big_quiet_skip
          | (go_big_quiet_want; go_big_quiet_op; go_big_quiet_on))
        refine wpQuiet_nil ?_
        intro _ hw'
        obtain ⟨x6, hw''⟩ := hw'
        subst hw''
        have hbx := x6.ok
        have yz := hyz x6
        have y2 := Y2 x6
        have gzx := gz x6
        have d := fun j u hj hu => (hbx.cell (p := ⟨g, k * 7 + j, none⟩) HYZ.out.2.2).trans (HC7.out j u hj hu)
        have d0 : x6.W.cell? ⟨g, k * 7, none⟩ = some (.string x.svc) := d 0 _ (by omega) rfl
        have d1 := d 1 _ (by omega) rfl
        have d2 := d 2 _ (by omega) rfl
        have d3 := d 3 _ (by omega) rfl
        have d4 := d 4 _ (by omega) rfl
        have d5 := d 5 _ (by omega) rfl
        have d6 := d 6 _ (by omega) rfl
        have HO2 := hid (owns_on HO.out hbx)
        have HB2 := hid (HW.out.trans (hbx.mono HW.out.size))
        obtain ⟨w2, hw2⟩ : ∃ w2, w2 = x6.W := ⟨_, rfl⟩
        rw [← hw2] at yz y2 gzx d0 d1 d2 d3 d4 d5 d6 HO2 HB2 ⊢
        have hs2 : W4.heap.size ≤ w2.heap.size := HB2.out.size
        clear hw2 d hbx hyz hez gz Y2 E14 E6 hNE HYZ HC7 HXR
        go_wp2_with (at_builtin; refine wpList_append_own _ rfl _ _ 34 rfl W4.heap.size 81 i0 _ 7 72 Tryz.undCp' hi hz0 hz1 hz2 rfl (by decide) (.slice a M.length c) M.length (M.flatMap CpC) rfl ?c10 ⟨w2.heap.size, 0, none⟩ 1 1 (CpC x) rfl ?c11 ?c12 ?c13 ?c14 ?c15 ?c16 ?_)
        case c10 => exact owns_on HO2.out (blw_alloc (Below.refl _ _) _)
        case c11 => rfl
        case c12 => exact World.news_of_block (World.alloc_heap_new _ _)
        case c13 => intro u hu; exact CpC_one [x] u (by simpa using hu)
        case c14 => unfold maxLen; omega
        case c15 => omega
        case c16 => simp; omega
        intro v' w3 hown hgrow _
        have hbt : Below w2.heap.size w2 (w2.alloc (.cells #[.string x.svc, .int .i64 x.num, .int .i64 x.ver, .int .i64 x.image, .int .i64 x.state, .bool x.ending, .string x.berth] 81)) := blw_alloc (Below.refl _ _) _
        have HN2 : Hid (w3.ownsRow W4.heap.size 81 7 v' (M ++ [x]).length ((M ++ [x]).flatMap CpC)) := by
          show World.ownsRow _ _ _ _ _ _ _
          simpa using hown
        have HB3 : Hid (Below W4.heap.size W4 w3) := by
          refine Below.grown (blw_trans HB2.out hbt) hgrow (blw_trans HB2.out hbt).size (fun q hq => ?_)
          exact (World.ownsRow.lt HO2.out q hq).1
        clear hown hgrow hbt HO2 d0 d1 d2 d3 d4 d5 d6 yz y2 gzx
        go_wp2
        go_roundw
        case rel => exact ⟨k + 1, by omega, by go_num, by rw [HN.out]; exact HN2.out, HB3.out⟩
        case measure => simp [intOf]; omega
      · have hsn : (x.berth.toList != E.nm.toList) = false := by rw [bne, hs]; rfl
        have HN : Hid (awayTo K.cps E.nm (k + 1) = M) := by show _ = _; rw [HS.out, show same x.berth E.nm = true from hs, if_pos rfl, List.append_nil]
        go_wp2_with fail
        clear yz ez gzr y0 y1 y2 y3
        refine region_class wr (Below.refl _ _) (by kernel_rfl) (by kernel_rfl) ?_
        repeat (first
          | go_big_quiet_skip
          | (go_big_quiet_want; go_big_quiet_op; go_big_quiet_on))
        refine wpQuiet_nil ?_
        intro _ hw'
        obtain ⟨x6, hw''⟩ := hw'
        subst hw''
        go_wp2
        go_roundw
        case rel => exact ⟨k + 1, by omega, by go_num, by rw [HN.out]; exact owns_on HO.out x6.ok, HW.out.trans (x6.ok.mono HW.out.size)⟩
        case measure => simp [intOf]; omega
    · obtain rfl : k = K.cps.length := by omega
      rw [awayTo_all] at HO ⊢
      obtain ⟨M, hM⟩ : ∃ M, M = awayFrom K.cps E.nm := ⟨_, rfl⟩
      have HML : Hid (M.length ≤ 1048576) := by
        show _ ≤ _
        rw [hM, ← awayTo_all]
        exact Nat.le_trans (awayTo_len _ _ _) HX4.out.m1
      have HMZ : Hid (∀ i, i < M.length → (M.getD i Cp.none).sized) := by
        rw [hM, ← awayTo_all]
        exact away_sized HX4.out.z1 _ _
      rw [← hM] at HO HR0 ⊢
      obtain ⟨W5, hW5⟩ : ∃ W5, W5 = wr.setCell ⟨w.heap.size, 2, none⟩ (.slice a M.length c) := ⟨_, rfl⟩
      have hb := hxr.bx
      have H1 : Hid (EI lo w W5 E) := by show EI _ _ _ _; rw [hW5]; exact her.bk hlo _ _
      have H2 : Hid (XI lo w.heap.size W5 K.now K.svcs M LB p0 a (some ⟨g4, 0, none⟩) K.svcs.length M.length nb q0 c cap4) := by
        refine ⟨?_, ?_, ?_, ?_, rfl, rfl, hxr.l2, hxr.z0, HMZ.out, hxr.z2, hxr.m0, HML.out, hxr.m2⟩
        · rw [hW5, heap_setCell_same wr w.heap.size 2 _ _ _ hb]; rfl
        · rw [hW5]; exact owns_else hxr.o0 hb t_sk _ _
        · rw [hW5]; exact owns_else (owns_lo HO.out (Nat.le_trans hlo (Nat.le_of_lt (lt_heap HX4.out.bx)))) hb (fun e => t_kc e.symm) _ _
        · rw [hW5]; exact owns_else hxr.o2 hb t_bk _ _
      have OB : OwnBlk wr w.heap.size 37 4 := ⟨_, hb, rfl⟩
      have hfz := OB.frozen
      clear hM hb OB her hxr
      go_wp2
      rw [← hW5]
      clear hW5
      exact sea3 K E lo w hlo v _ _ _ _ _ _ _ _ _ _ _ _ _ W5 H1 H2 HR0 _ _ _ _ _ _ _ _ _ _ _ _ _ _ _ _ _ _ _ _ _ _ _ _ _ _ _ _ _ _ _ _ _ _ _ _ _ _ _ _ _ _ _ _ _ _ _ _ _ _ _ _ _ _ _ _ _ _ _ _ _ _ _ _ _ _ _ _ _ _ _ _ _ _ _ _ _ _ _ _ _ _ _ _ _ _ _ _ _ _ _ _ _ _ _ _ _ _ _ _ _ _ _ _ _ _ _ _ _ _ _ _ _ _ _ _ _ _ _ _ _ _ _ _ _ _ _ _ _ _ _ _ _ _ _ _ _ _ _ _ _ _ _ _ _ _ _ _ _ _ _ _ _ _ _ _ _ 

end Go.Proofs.YtclagbakddkjcaaGreat
