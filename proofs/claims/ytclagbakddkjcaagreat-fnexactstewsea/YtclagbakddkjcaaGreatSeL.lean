/-
  The sea: the arms of l17Sea that store in place.
-/
import Derived.Test.YtclagbakddkjcaaGreatSeK
namespace Go.Proofs.YtclagbakddkjcaaGreat
open Go.RowKit Go.Deep

theorem t_ec : (43 : TypeId) ≠ 81 := by decide
theorem t_es : (43 : TypeId) ≠ 41 := by decide

set_option maxRecDepth 8000 in
set_option maxHeartbeats 8000000 in
theorem seaFail (K : SBk) (E : Ev) (lo : Nat) (w : World) (hlo : lo ≤ w.heap.size) (v : Int) (HV : Hid (v = K.now + 1)) (p0 p1 p2 : Option Addr) (q0 q1 q2 : Nat) (W : World) (HEW : Hid (EI lo w W E)) (HX : Hid (XI lo w.heap.size W K.now K.svcs K.cps K.bts p0 p1 p2 K.svcs.length K.cps.length K.bts.length q0 q1 q2)) (HL : Hid (K.svcs.length ≤ 100000 ∧ K.bts.length ≤ 100000)) (HZ : Hid (E.sv.nm.size ≤ maxLen ∧ E.nm.size ≤ maxLen)) (hk : E.kind = 3) (u0 u1 u5 u7 u8 u9 u10 u11 u12 u13 u14 u15 u16 u17 u18 u19 u20 u21 u22 u23 u24 u25 u26 u27 u28 u29 u30 u31 u32 u33 u34 u35 u36 u37 u38 u39 u40 u41 u42 u43 u44 u45 u46 u47 u48 u49 u50 u51 u52 u53 u54 u55 u56 u57 u58 u59 u60 u61 u62 u63 u64 u65 u66 u67 u68 u69 u70 u71 u72 u73 u74 u75 u76 u77 u78 u79 u80 u81 u82 u83 u84 u85 u86 u87 u88 u89 u90 u91 u92 u93 u94 u95 u96 u97 u98 u99 u100 u101 u102 u103 u104 u105 u106 u107 u108 u109 u110 u111 u112 u113 u114 u115 u116 u117 u118 u119 u120 u121 u122 u123 u124 u125 u126 u127 u128 u129 u130 u131 u132 u133 u134 u135 u136 u137 u138 u139 u140 u141 u142 u143 u144 u145 u146 u147 u148 u149 u150 u151 u152 u153 u154 u155 u156 u157 u158 u159 u160 : Value) :
    Code.wp Tryz.prog sa2 (SeaQ K E lo w) { tmps := #[u0, u1, .pointer (some ⟨w.heap.size, 0, none⟩), .pointer (some ⟨w.heap.size + 1, 0, none⟩), .pointer (some ⟨w.heap.size + 1 + 1, 0, none⟩), u5, .int .i64 v, u7, u8, u9, u10, u11, u12, u13, u14, u15, u16, u17, u18, u19, u20, u21, u22, u23, u24, u25, u26, u27, u28, u29, u30, u31, u32, u33, u34, u35, u36, u37, u38, u39, u40, u41, u42, u43, u44, u45, u46, u47, u48, u49, u50, u51, u52, u53, u54, u55, u56, u57, u58, u59, u60, u61, u62, u63, u64, u65, u66, u67, u68, u69, u70, u71, u72, u73, u74, u75, u76, u77, u78, u79, u80, u81, u82, u83, u84, u85, u86, u87, u88, u89, u90, u91, u92, u93, u94, u95, u96, u97, u98, u99, u100, u101, u102, u103, u104, u105, u106, u107, u108, u109, u110, u111, u112, u113, u114, u115, u116, u117, u118, u119, u120, u121, u122, u123, u124, u125, u126, u127, u128, u129, u130, u131, u132, u133, u134, u135, u136, u137, u138, u139, u140, u141, u142, u143, u144, u145, u146, u147, u148, u149, u150, u151, u152, u153, u154, u155, u156, u157, u158, u159, u160], defers := [] } W := by
  have hun := And.intro HV (And.intro HL HZ)
  clear hun
  unfold SeaQ
  rw [sa2_3]
  simp only [sa2, sa1, sa0, Tryz.f20, Option.getD_some, sfst_seq, ssnd_seq]
  have ez : w.heap.size + 1 < W.heap.size := lt_heap HEW.out.ev
  have e0 : W.cell? ⟨w.heap.size + 1, 0, none⟩ = some (.int .i64 E.kind) := HEW.out.at_ 0 _ rfl
  have e14 : W.cell? ⟨w.heap.size + 1, 14, none⟩ = some (.string E.nm) := HEW.out.at_ 14 _ rfl
  have e15 : W.cell? ⟨w.heap.size + 1, 15, none⟩ = some (.int .i64 E.num) := HEW.out.at_ 15 _ rfl
  obtain ⟨yz, y0, y1, y2, y3⟩ := HX.out.at_
  rw [hk] at e0
  go_wp2_with fail
  refine (l12CopyIx K p0 p1 p2 q0 q1 q2 E.nm E.num W HX.out.v).mono ?_
  rintro e W1 ⟨rfl, hb⟩
  clear ez e0 e14 e15
  have HXW1 : Hid (XI lo w.heap.size W1 K.now K.svcs K.cps K.bts p0 p1 p2 K.svcs.length K.cps.length K.bts.length q0 q1 q2) := HX.out.later hb
  have HEW1 : Hid (EI lo w W1 E) := HEW.out.later hlo hb
  clear hb HX HEW yz y0 y1 y2 y3
  obtain ⟨ix, hix⟩ : ∃ ix, ix = cpIx K.cps E.nm E.num := ⟨_, rfl⟩
  rw [← hix]
  have HIX := hid hix
  clear hix
  by_cases hneg : ix < 0
  · have HC : Hid (seaC K E = 3) := by show _ = _; unfold seaC; rw [hk, ← HIX.out]; simp [hneg]
    obtain ⟨yz, y0, y1, y2, y3⟩ := HXW1.out.at_
    have hfz := HEW1.out.own.frozen
    have hz := HEW1.out.own.lt
    obtain ⟨r0, k0⟩ := HEW1.out.own.cell 0 (by omega)
    obtain ⟨r1, k1⟩ := HEW1.out.own.cell 1 (by omega)
    obtain ⟨r2, k2⟩ := HEW1.out.own.cell 2 (by omega)
    obtain ⟨r3, k3⟩ := HEW1.out.own.cell 3 (by omega)
    go_wp2
    have p := fun i hi => puts_at 0 [.int .i64 K.now, .slice p0 K.svcs.length q0, .slice p1 K.cps.length q1, .slice p2 K.bts.length q2] W1 0 HEW1.out.own (by simp) i hi
    have t0 := p 0 (by simp)
    have t1 := p 1 (by simp)
    have t2 := p 2 (by simp)
    have t3 := p 3 (by simp)
    simp only [puts, Nat.add_zero, Nat.zero_add, Nat.reduceAdd, List.getElem?_cons_zero, List.getElem?_cons_succ] at t0 t1 t2 t3
    have hbl := puts_lo 0 (B := w.heap.size + 2) (Nat.le_trans hlo (Nat.le_add_right _ 2)) [.int .i64 K.now, .slice p0 K.svcs.length q0, .slice p1 K.cps.length q1, .slice p2 K.bts.length q2] W1 0 HEW1.out.bel
    have hkp := puts_keep 0 (B := w.heap.size + 2) (Nat.le_add_right _ 2) [.int .i64 K.now, .slice p0 K.svcs.length q0, .slice p1 K.cps.length q1, .slice p2 K.bts.length q2] W1 0 HEW1.out.keep
    refine bodyPost_ret (v := .tuple #[.agg #[.int .i64 K.now, .slice p0 K.svcs.length q0, .slice p1 K.cps.length q1, .slice p2 K.bts.length q2], .int .i64 3]) (by simp [results, go_sem, t0, t1, t2, t3]) rfl ⟨?_, hbl, hkp⟩
    have HXF : XI lo w.heap.size (puts W1 (w.heap.size + 2) 0 0 [.int .i64 K.now, .slice p0 K.svcs.length q0, .slice p1 K.cps.length q1, .slice p2 K.bts.length q2]) K.now K.svcs K.cps K.bts p0 p1 p2 K.svcs.length K.cps.length K.bts.length q0 q1 q2 := by
      have s1 := HXW1.out
      have g1 := HEW1.out
      have s2 := s1.res g1 0 (.int .i64 K.now)
      have g2 : EI lo w (W1.setCell ⟨w.heap.size + 2, 0, none⟩ (.int .i64 K.now)) E := g1.res hlo _ _
      have s3 := s2.res g2 1 (.slice p0 K.svcs.length q0)
      have g3 := g2.res hlo 1 (.slice p0 K.svcs.length q0)
      have s4 := s3.res g3 2 (.slice p1 K.cps.length q1)
      have g4 := g3.res hlo 2 (.slice p1 K.cps.length q1)
      exact s4.res g4 3 (.slice p2 K.bts.length q2)
    have hR : seaR K E = K := by unfold seaR; rw [HC.out, if_neg (by decide)]
    rw [hR, HC.out]
    exact ⟨_, _, _, rfl, HXF.own⟩
  obtain ⟨k, hkk, hlt⟩ : ∃ k : Nat, ix = k ∧ k < K.cps.length := by
    rcases firstTo_cases (fun i => same (K.cps.getD i Cp.none).svc E.nm && ((K.cps.getD i Cp.none).num == E.num)) K.cps.length with ⟨q, _⟩ | ⟨k, q1, q2, _⟩
    · exfalso
      have : ix = -1 := by rw [HIX.out]; exact q
      omega
    · exact ⟨k, by rw [HIX.out]; exact q2, q1⟩
  subst hkk
  clear hneg
  obtain ⟨g, cur, rfl, hgl, hgh, hcs, hcell⟩ := owns_blk HXW1.out.o1 (by omega)
  obtain ⟨x, hx⟩ : ∃ x, x = K.cps.getD k Cp.none := ⟨_, rfl⟩
  have cell := fun j (hj : j < 7) u (hu : (CpC x)[j]? = some u) => hcell (k * 7 + j) u ((flat_at Cp.none CpC 7 CpC_len K.cps k j hlt hj).trans (by rw [← hx]; exact hu))
  have z4 := cell 4 (by omega) _ rfl
  have z2 := cell 2 (by omega) _ rfl
  have gz : g < W1.heap.size := lt_heap hgh
  have gfz : ∀ j, W1.frozen? ⟨g, j, none⟩ = false := fun j => by simp [World.frozen?, hgh]
  have HXE := hid hx
  have HG := hid (And.intro hgl hgh)
  have HGET : Hid (cpGet K.cps (cpIx K.cps E.nm E.num) = x) := by show _ = _; rw [← HIX.out]; unfold cpGet; rw [Int.toNat_natCast, hx]
  clear hcell cell hx hgl hgh hcs
  have hm0 : (0 : Int) ≤ (k : Int) := by omega
  have hm3 : (k : Int) < (K.cps.length : Int) := by omega
  have hm4 : ¬ (k : Int) < 0 := by omega
  have yne : w.heap.size ≠ g := fun e => by
    have h1 := HXW1.out.bx
    have h2 := HG.out.2
    rw [← e, h1] at h2
    injection h2 with h2
    injection h2 with _ h2 _
    exact t_kc h2
  have HGO : Hid ((x.state = 3 ∨ x.state = 2) → ∀ W2, W2 = (W1.setCell ⟨g, k * 7 + 4, none⟩ (.int .i64 4)).setCell ⟨g, k * 7 + 2, none⟩ (.int .i64 v) → EI lo w W2 E ∧ XI lo w.heap.size W2 K.now K.svcs (K.cps.set k (failC x v)) K.bts p0 (some ⟨g, 0, none⟩) p2 K.svcs.length K.cps.length K.bts.length q0 q1 q2 ∧ seaC K E = 0 ∧ seaK K E = ⟨v, K.svcs, K.cps.set k (failC x v), K.bts⟩) := by
    intro hst W2 hW2
    have hxz : x.sized := by rw [HXE.out]; exact HXW1.out.z1 k hlt
    have t1 := HXW1.out.setCp HG.out.2 k 4 hlt (by omega) (.int .i64 4) ⟨x.svc, x.num, x.ver, x.image, 4, x.ending, x.berth⟩ (by rw [← HXE.out]; rfl) hxz
    have h1 := heap_setCell_same W1 g (k * 7 + 4) _ _ (.int .i64 4) HG.out.2
    have g1 : (K.cps.set k ⟨x.svc, x.num, x.ver, x.image, 4, x.ending, x.berth⟩).getD k Cp.none = ⟨x.svc, x.num, x.ver, x.image, 4, x.ending, x.berth⟩ := by simp [hlt]
    have t2 := t1.setCp h1 k 2 (by rw [List.length_set]; exact hlt) (by omega) (.int .i64 v) (failC x v) (by rw [g1]; rfl) hxz
    rw [List.set_set] at t2
    refine ⟨?_, by rw [hW2]; exact t2, ?_, ?_⟩
    · rw [hW2]
      exact (HEW1.out.row HG.out.1 HG.out.2 t_ec t_kc _ _).row HG.out.1 h1 t_ec t_kc _ _
    · unfold seaC
      rw [HGET.out, ← HIX.out, hk]
      simp [hst, hm4]
    · unfold seaK
      rw [HGET.out, ← HIX.out, hk, HV.out]
      simp
  obtain ⟨yz, y0, y1, y2, y3⟩ := HXW1.out.at_
  by_cases s3 : x.state = 3
  · rw [s3] at z4
    obtain ⟨W2, hW2⟩ : ∃ W2, W2 = (W1.setCell ⟨g, k * 7 + 4, none⟩ (.int .i64 4)).setCell ⟨g, k * 7 + 2, none⟩ (.int .i64 v) := ⟨_, rfl⟩
    obtain ⟨f1, f2, f3⟩ := HGO.out (Or.inl s3) W2 hW2
    have H1 := hid f1
    have H2 := hid f2
    have H3 := hid f3
    clear f1 f2 f3 HGO s3 HGET HXE hk HIX
    go_wp2
    rw [← hW2]
    clear hW2
    exact sea3 K E lo w hlo v _ _ _ _ _ _ _ _ _ _ _ _ _ W2 H1 H2 H3 _ _ _ _ _ _ _ _ _ _ _ _ _ _ _ _ _ _ _ _ _ _ _ _ _ _ _ _ _ _ _ _ _ _ _ _ _ _ _ _ _ _ _ _ _ _ _ _ _ _ _ _ _ _ _ _ _ _ _ _ _ _ _ _ _ _ _ _ _ _ _ _ _ _ _ _ _ _ _ _ _ _ _ _ _ _ _ _ _ _ _ _ _ _ _ _ _ _ _ _ _ _ _ _ _ _ _ _ _ _ _ _ _ _ _ _ _ _ _ _ _ _ _ _ _ _ _ _ _ _ _ _ _ _ _ _ _ _ _ _ _ _ _ _ _ _ _ _ _ _ _ _ _ _ _ _ _ 
  by_cases s2 : x.state = 2
  · rw [s2] at z4
    obtain ⟨W2, hW2⟩ : ∃ W2, W2 = (W1.setCell ⟨g, k * 7 + 4, none⟩ (.int .i64 4)).setCell ⟨g, k * 7 + 2, none⟩ (.int .i64 v) := ⟨_, rfl⟩
    obtain ⟨f1, f2, f3⟩ := HGO.out (Or.inr s2) W2 hW2
    have H1 := hid f1
    have H2 := hid f2
    have H3 := hid f3
    clear f1 f2 f3 HGO s2 s3 HGET HXE hk HIX
    go_wp2
    rw [← hW2]
    clear hW2
    exact sea3 K E lo w hlo v _ _ _ _ _ _ _ _ _ _ _ _ _ W2 H1 H2 H3 _ _ _ _ _ _ _ _ _ _ _ _ _ _ _ _ _ _ _ _ _ _ _ _ _ _ _ _ _ _ _ _ _ _ _ _ _ _ _ _ _ _ _ _ _ _ _ _ _ _ _ _ _ _ _ _ _ _ _ _ _ _ _ _ _ _ _ _ _ _ _ _ _ _ _ _ _ _ _ _ _ _ _ _ _ _ _ _ _ _ _ _ _ _ _ _ _ _ _ _ _ _ _ _ _ _ _ _ _ _ _ _ _ _ _ _ _ _ _ _ _ _ _ _ _ _ _ _ _ _ _ _ _ _ _ _ _ _ _ _ _ _ _ _ _ _ _ _ _ _ _ _ _ _ _ _ _ 
  have n3 : (x.state != 3) = true := by simpa using s3
  have n2 : (x.state != 2) = true := by simpa using s2
  have HC : Hid (seaC K E = 3) := by show _ = _; unfold seaC; rw [HGET.out, ← HIX.out, hk]; simp [s3, s2, hm4]
  clear s3 s2 HGO HGET HXE hk HIX
  have hfz := HEW1.out.own.frozen
  have hz := HEW1.out.own.lt
  obtain ⟨r0, k0⟩ := HEW1.out.own.cell 0 (by omega)
  obtain ⟨r1, k1⟩ := HEW1.out.own.cell 1 (by omega)
  obtain ⟨r2, k2⟩ := HEW1.out.own.cell 2 (by omega)
  obtain ⟨r3, k3⟩ := HEW1.out.own.cell 3 (by omega)
  go_wp2
  have p := fun i hi => puts_at 0 [.int .i64 K.now, .slice p0 K.svcs.length q0, .slice (some ⟨g, 0, none⟩) K.cps.length q1, .slice p2 K.bts.length q2] W1 0 HEW1.out.own (by simp) i hi
  have t0 := p 0 (by simp)
  have t1 := p 1 (by simp)
  have t2 := p 2 (by simp)
  have t3 := p 3 (by simp)
  simp only [puts, Nat.add_zero, Nat.zero_add, Nat.reduceAdd, List.getElem?_cons_zero, List.getElem?_cons_succ] at t0 t1 t2 t3
  have hbl := puts_lo 0 (B := w.heap.size + 2) (Nat.le_trans hlo (Nat.le_add_right _ 2)) [.int .i64 K.now, .slice p0 K.svcs.length q0, .slice (some ⟨g, 0, none⟩) K.cps.length q1, .slice p2 K.bts.length q2] W1 0 HEW1.out.bel
  have hkp := puts_keep 0 (B := w.heap.size + 2) (Nat.le_add_right _ 2) [.int .i64 K.now, .slice p0 K.svcs.length q0, .slice (some ⟨g, 0, none⟩) K.cps.length q1, .slice p2 K.bts.length q2] W1 0 HEW1.out.keep
  refine bodyPost_ret (v := .tuple #[.agg #[.int .i64 K.now, .slice p0 K.svcs.length q0, .slice (some ⟨g, 0, none⟩) K.cps.length q1, .slice p2 K.bts.length q2], .int .i64 3]) (by simp [results, go_sem, t0, t1, t2, t3]) rfl ⟨?_, hbl, hkp⟩
  have HXF : XI lo w.heap.size (puts W1 (w.heap.size + 2) 0 0 [.int .i64 K.now, .slice p0 K.svcs.length q0, .slice (some ⟨g, 0, none⟩) K.cps.length q1, .slice p2 K.bts.length q2]) K.now K.svcs K.cps K.bts p0 (some ⟨g, 0, none⟩) p2 K.svcs.length K.cps.length K.bts.length q0 q1 q2 := by
    have s1 := HXW1.out
    have g1 := HEW1.out
    have s2 := s1.res g1 0 (.int .i64 K.now)
    have g2 : EI lo w (W1.setCell ⟨w.heap.size + 2, 0, none⟩ (.int .i64 K.now)) E := g1.res hlo _ _
    have s3 := s2.res g2 1 (.slice p0 K.svcs.length q0)
    have g3 := g2.res hlo 1 (.slice p0 K.svcs.length q0)
    have s4 := s3.res g3 2 (.slice (some ⟨g, 0, none⟩) K.cps.length q1)
    have g4 := g3.res hlo 2 (.slice (some ⟨g, 0, none⟩) K.cps.length q1)
    exact s4.res g4 3 (.slice p2 K.bts.length q2)
  have hR : seaR K E = K := by unfold seaR; rw [HC.out, if_neg (by decide)]
  rw [hR, HC.out]
  exact ⟨_, _, _, rfl, HXF.own⟩
set_option maxRecDepth 8000 in
set_option maxHeartbeats 8000000 in
theorem seaLoad (K : SBk) (E : Ev) (lo : Nat) (w : World) (hlo : lo ≤ w.heap.size) (v : Int) (HV : Hid (v = K.now + 1)) (p0 p1 p2 : Option Addr) (q0 q1 q2 : Nat) (W : World) (HEW : Hid (EI lo w W E)) (HX : Hid (XI lo w.heap.size W K.now K.svcs K.cps K.bts p0 p1 p2 K.svcs.length K.cps.length K.bts.length q0 q1 q2)) (HL : Hid (K.svcs.length ≤ 100000 ∧ K.bts.length ≤ 100000)) (HZ : Hid (E.sv.nm.size ≤ maxLen ∧ E.nm.size ≤ maxLen)) (hk : E.kind = 6) (u0 u1 u5 u7 u8 u9 u10 u11 u12 u13 u14 u15 u16 u17 u18 u19 u20 u21 u22 u23 u24 u25 u26 u27 u28 u29 u30 u31 u32 u33 u34 u35 u36 u37 u38 u39 u40 u41 u42 u43 u44 u45 u46 u47 u48 u49 u50 u51 u52 u53 u54 u55 u56 u57 u58 u59 u60 u61 u62 u63 u64 u65 u66 u67 u68 u69 u70 u71 u72 u73 u74 u75 u76 u77 u78 u79 u80 u81 u82 u83 u84 u85 u86 u87 u88 u89 u90 u91 u92 u93 u94 u95 u96 u97 u98 u99 u100 u101 u102 u103 u104 u105 u106 u107 u108 u109 u110 u111 u112 u113 u114 u115 u116 u117 u118 u119 u120 u121 u122 u123 u124 u125 u126 u127 u128 u129 u130 u131 u132 u133 u134 u135 u136 u137 u138 u139 u140 u141 u142 u143 u144 u145 u146 u147 u148 u149 u150 u151 u152 u153 u154 u155 u156 u157 u158 u159 u160 : Value) :
    Code.wp Tryz.prog sa2 (SeaQ K E lo w) { tmps := #[u0, u1, .pointer (some ⟨w.heap.size, 0, none⟩), .pointer (some ⟨w.heap.size + 1, 0, none⟩), .pointer (some ⟨w.heap.size + 1 + 1, 0, none⟩), u5, .int .i64 v, u7, u8, u9, u10, u11, u12, u13, u14, u15, u16, u17, u18, u19, u20, u21, u22, u23, u24, u25, u26, u27, u28, u29, u30, u31, u32, u33, u34, u35, u36, u37, u38, u39, u40, u41, u42, u43, u44, u45, u46, u47, u48, u49, u50, u51, u52, u53, u54, u55, u56, u57, u58, u59, u60, u61, u62, u63, u64, u65, u66, u67, u68, u69, u70, u71, u72, u73, u74, u75, u76, u77, u78, u79, u80, u81, u82, u83, u84, u85, u86, u87, u88, u89, u90, u91, u92, u93, u94, u95, u96, u97, u98, u99, u100, u101, u102, u103, u104, u105, u106, u107, u108, u109, u110, u111, u112, u113, u114, u115, u116, u117, u118, u119, u120, u121, u122, u123, u124, u125, u126, u127, u128, u129, u130, u131, u132, u133, u134, u135, u136, u137, u138, u139, u140, u141, u142, u143, u144, u145, u146, u147, u148, u149, u150, u151, u152, u153, u154, u155, u156, u157, u158, u159, u160], defers := [] } W := by
  have hun := And.intro HV (And.intro HL HZ)
  clear hun
  unfold SeaQ
  rw [sa2_3]
  simp only [sa2, sa1, sa0, Tryz.f20, Option.getD_some, sfst_seq, ssnd_seq]
  have ez : w.heap.size + 1 < W.heap.size := lt_heap HEW.out.ev
  have e0 : W.cell? ⟨w.heap.size + 1, 0, none⟩ = some (.int .i64 E.kind) := HEW.out.at_ 0 _ rfl
  have e14 : W.cell? ⟨w.heap.size + 1, 14, none⟩ = some (.string E.nm) := HEW.out.at_ 14 _ rfl
  obtain ⟨yz, y0, y1, y2, y3⟩ := HX.out.at_
  rw [hk] at e0
  go_wp2_with fail
  refine (l12ServiceIx K p0 p1 p2 q0 q1 q2 E.nm W HX.out.v).mono ?_
  rintro e W1 ⟨rfl, hb⟩
  clear ez e0 e14
  have HXW1 : Hid (XI lo w.heap.size W1 K.now K.svcs K.cps K.bts p0 p1 p2 K.svcs.length K.cps.length K.bts.length q0 q1 q2) := HX.out.later hb
  have HEW1 : Hid (EI lo w W1 E) := HEW.out.later hlo hb
  clear hb HX HEW yz y0 y1 y2 y3
  have ez : w.heap.size + 1 < W1.heap.size := lt_heap HEW1.out.ev
  have e15 : W1.cell? ⟨w.heap.size + 1, 15, none⟩ = some (.int .i64 E.num) := HEW1.out.at_ 15 _ rfl
  obtain ⟨ix, hix⟩ : ∃ ix, ix = svIx K.svcs E.nm := ⟨_, rfl⟩
  rw [← hix]
  have HIX := hid hix
  clear hix
  by_cases hneg : ix < 0
  · have HC : Hid (seaC K E = 3) := by show _ = _; unfold seaC; rw [hk, ← HIX.out]; simp [hneg]
    obtain ⟨yz, y0, y1, y2, y3⟩ := HXW1.out.at_
    have hfz := HEW1.out.own.frozen
    have hz := HEW1.out.own.lt
    obtain ⟨r0, k0⟩ := HEW1.out.own.cell 0 (by omega)
    obtain ⟨r1, k1⟩ := HEW1.out.own.cell 1 (by omega)
    obtain ⟨r2, k2⟩ := HEW1.out.own.cell 2 (by omega)
    obtain ⟨r3, k3⟩ := HEW1.out.own.cell 3 (by omega)
    go_wp2
    have p := fun i hi => puts_at 0 [.int .i64 K.now, .slice p0 K.svcs.length q0, .slice p1 K.cps.length q1, .slice p2 K.bts.length q2] W1 0 HEW1.out.own (by simp) i hi
    have t0 := p 0 (by simp)
    have t1 := p 1 (by simp)
    have t2 := p 2 (by simp)
    have t3 := p 3 (by simp)
    simp only [puts, Nat.add_zero, Nat.zero_add, Nat.reduceAdd, List.getElem?_cons_zero, List.getElem?_cons_succ] at t0 t1 t2 t3
    have hbl := puts_lo 0 (B := w.heap.size + 2) (Nat.le_trans hlo (Nat.le_add_right _ 2)) [.int .i64 K.now, .slice p0 K.svcs.length q0, .slice p1 K.cps.length q1, .slice p2 K.bts.length q2] W1 0 HEW1.out.bel
    have hkp := puts_keep 0 (B := w.heap.size + 2) (Nat.le_add_right _ 2) [.int .i64 K.now, .slice p0 K.svcs.length q0, .slice p1 K.cps.length q1, .slice p2 K.bts.length q2] W1 0 HEW1.out.keep
    refine bodyPost_ret (v := .tuple #[.agg #[.int .i64 K.now, .slice p0 K.svcs.length q0, .slice p1 K.cps.length q1, .slice p2 K.bts.length q2], .int .i64 3]) (by simp [results, go_sem, t0, t1, t2, t3]) rfl ⟨?_, hbl, hkp⟩
    have HXF : XI lo w.heap.size (puts W1 (w.heap.size + 2) 0 0 [.int .i64 K.now, .slice p0 K.svcs.length q0, .slice p1 K.cps.length q1, .slice p2 K.bts.length q2]) K.now K.svcs K.cps K.bts p0 p1 p2 K.svcs.length K.cps.length K.bts.length q0 q1 q2 := by
      have s1 := HXW1.out
      have g1 := HEW1.out
      have s2 := s1.res g1 0 (.int .i64 K.now)
      have g2 : EI lo w (W1.setCell ⟨w.heap.size + 2, 0, none⟩ (.int .i64 K.now)) E := g1.res hlo _ _
      have s3 := s2.res g2 1 (.slice p0 K.svcs.length q0)
      have g3 := g2.res hlo 1 (.slice p0 K.svcs.length q0)
      have s4 := s3.res g3 2 (.slice p1 K.cps.length q1)
      have g4 := g3.res hlo 2 (.slice p1 K.cps.length q1)
      exact s4.res g4 3 (.slice p2 K.bts.length q2)
    have hR : seaR K E = K := by unfold seaR; rw [HC.out, if_neg (by decide)]
    rw [hR, HC.out]
    exact ⟨_, _, _, rfl, HXF.own⟩
  obtain ⟨k, hkk, hlt⟩ : ∃ k : Nat, ix = k ∧ k < K.svcs.length := by
    rcases firstTo_cases (fun i => same (K.svcs.getD i Sv.none).nm E.nm) K.svcs.length with ⟨q, _⟩ | ⟨k, q1, q2, _⟩
    · exfalso
      have : ix = -1 := by rw [HIX.out]; exact q
      omega
    · exact ⟨k, by rw [HIX.out]; exact q2, q1⟩
  subst hkk
  clear hneg
  obtain ⟨g, cur, rfl, hgl, hgh, hcs, hcell⟩ := owns_blk HXW1.out.o0 (by omega)
  obtain ⟨x, hx⟩ : ∃ x, x = K.svcs.getD k Sv.none := ⟨_, rfl⟩
  have cell := fun j (hj : j < 13) u (hu : (SvC x)[j]? = some u) => hcell (k * 13 + j) u ((flat_at Sv.none SvC 13 SvC_len K.svcs k j hlt hj).trans (by rw [← hx]; exact hu))
  have z8 := cell 8 (by omega) _ rfl
  have z11 := cell 11 (by omega) _ rfl
  have z1 := cell 1 (by omega) _ rfl
  have gz : g < W1.heap.size := lt_heap hgh
  have gfz : ∀ j, W1.frozen? ⟨g, j, none⟩ = false := fun j => by simp [World.frozen?, hgh]
  have HXE := hid hx
  have HG := hid (And.intro hgl hgh)
  have HGET : Hid (svGet K.svcs (svIx K.svcs E.nm) = x) := by show _ = _; rw [← HIX.out]; unfold svGet; rw [Int.toNat_natCast, hx]
  clear hcell cell hx hgl hgh hcs
  have hm0 : (0 : Int) ≤ (k : Int) := by omega
  have hm3 : (k : Int) < (K.svcs.length : Int) := by omega
  have hm4 : ¬ (k : Int) < 0 := by omega
  have yne : w.heap.size ≠ g := fun e => by
    have h1 := HXW1.out.bx
    have h2 := HG.out.2
    rw [← e, h1] at h2
    injection h2 with h2
    injection h2 with _ h2 _
    exact t_ks2 h2
  obtain ⟨yz, y0, y1, y2, y3⟩ := HXW1.out.at_
  by_cases s0 : x.per = 0
  · rw [s0] at z8
    have HC : Hid (seaC K E = 3) := by show _ = _; unfold seaC; rw [HGET.out, ← HIX.out, hk]; simp [s0, hm4]
    clear s0 HGET HXE hk HIX
    have hfz := HEW1.out.own.frozen
    have hz := HEW1.out.own.lt
    obtain ⟨r0, k0⟩ := HEW1.out.own.cell 0 (by omega)
    obtain ⟨r1, k1⟩ := HEW1.out.own.cell 1 (by omega)
    obtain ⟨r2, k2⟩ := HEW1.out.own.cell 2 (by omega)
    obtain ⟨r3, k3⟩ := HEW1.out.own.cell 3 (by omega)
    go_wp2
    have p := fun i hi => puts_at 0 [.int .i64 K.now, .slice (some ⟨g, 0, none⟩) K.svcs.length q0, .slice p1 K.cps.length q1, .slice p2 K.bts.length q2] W1 0 HEW1.out.own (by simp) i hi
    have t0 := p 0 (by simp)
    have t1 := p 1 (by simp)
    have t2 := p 2 (by simp)
    have t3 := p 3 (by simp)
    simp only [puts, Nat.add_zero, Nat.zero_add, Nat.reduceAdd, List.getElem?_cons_zero, List.getElem?_cons_succ] at t0 t1 t2 t3
    have hbl := puts_lo 0 (B := w.heap.size + 2) (Nat.le_trans hlo (Nat.le_add_right _ 2)) [.int .i64 K.now, .slice (some ⟨g, 0, none⟩) K.svcs.length q0, .slice p1 K.cps.length q1, .slice p2 K.bts.length q2] W1 0 HEW1.out.bel
    have hkp := puts_keep 0 (B := w.heap.size + 2) (Nat.le_add_right _ 2) [.int .i64 K.now, .slice (some ⟨g, 0, none⟩) K.svcs.length q0, .slice p1 K.cps.length q1, .slice p2 K.bts.length q2] W1 0 HEW1.out.keep
    refine bodyPost_ret (v := .tuple #[.agg #[.int .i64 K.now, .slice (some ⟨g, 0, none⟩) K.svcs.length q0, .slice p1 K.cps.length q1, .slice p2 K.bts.length q2], .int .i64 3]) (by simp [results, go_sem, t0, t1, t2, t3]) rfl ⟨?_, hbl, hkp⟩
    have HXF : XI lo w.heap.size (puts W1 (w.heap.size + 2) 0 0 [.int .i64 K.now, .slice (some ⟨g, 0, none⟩) K.svcs.length q0, .slice p1 K.cps.length q1, .slice p2 K.bts.length q2]) K.now K.svcs K.cps K.bts (some ⟨g, 0, none⟩) p1 p2 K.svcs.length K.cps.length K.bts.length q0 q1 q2 := by
      have s1 := HXW1.out
      have g1 := HEW1.out
      have s2 := s1.res g1 0 (.int .i64 K.now)
      have g2 : EI lo w (W1.setCell ⟨w.heap.size + 2, 0, none⟩ (.int .i64 K.now)) E := g1.res hlo _ _
      have s3 := s2.res g2 1 (.slice (some ⟨g, 0, none⟩) K.svcs.length q0)
      have g3 := g2.res hlo 1 (.slice (some ⟨g, 0, none⟩) K.svcs.length q0)
      have s4 := s3.res g3 2 (.slice p1 K.cps.length q1)
      have g4 := g3.res hlo 2 (.slice p1 K.cps.length q1)
      exact s4.res g4 3 (.slice p2 K.bts.length q2)
    have hR : seaR K E = K := by unfold seaR; rw [HC.out, if_neg (by decide)]
    rw [hR, HC.out]
    exact ⟨_, _, _, rfl, HXF.own⟩
  have n0 : (x.per == 0) = false := by simpa using s0
  obtain ⟨W2, hW2⟩ : ∃ W2, W2 = (W1.setCell ⟨g, k * 13 + 11, none⟩ (.int .i64 E.num)).setCell ⟨g, k * 13 + 1, none⟩ (.int .i64 v) := ⟨_, rfl⟩
  have hxz : x.sized := by rw [HXE.out]; exact HXW1.out.z0 k hlt
  have t1 := HXW1.out.setSv HG.out.2 k 11 hlt (by omega) (.int .i64 E.num) ⟨x.nm, x.ver, x.gone, x.image, x.want, x.down, x.over, x.next, x.per, x.least, x.most, E.num, x.cool⟩ (by rw [← HXE.out]; rfl) hxz
  have h1 := heap_setCell_same W1 g (k * 13 + 11) _ _ (.int .i64 E.num) HG.out.2
  have g1 : (K.svcs.set k ⟨x.nm, x.ver, x.gone, x.image, x.want, x.down, x.over, x.next, x.per, x.least, x.most, E.num, x.cool⟩).getD k Sv.none = ⟨x.nm, x.ver, x.gone, x.image, x.want, x.down, x.over, x.next, x.per, x.least, x.most, E.num, x.cool⟩ := by simp [hlt]
  have t2 := t1.setSv h1 k 1 (by rw [List.length_set]; exact hlt) (by omega) (.int .i64 v) (loadS x v E.num) (by rw [g1]; rfl) hxz
  rw [List.set_set] at t2
  have H2 : Hid (XI lo w.heap.size W2 K.now (K.svcs.set k (loadS x v E.num)) K.cps K.bts (some ⟨g, 0, none⟩) p1 p2 K.svcs.length K.cps.length K.bts.length q0 q1 q2) := by rw [hW2]; exact t2
  have H1 : Hid (EI lo w W2 E) := by
    show EI _ _ _ _
    rw [hW2]
    exact (HEW1.out.row HG.out.1 HG.out.2 t_es t_ks2 _ _).row HG.out.1 h1 t_es t_ks2 _ _
  have H3 : Hid (seaC K E = 0 ∧ seaK K E = ⟨v, K.svcs.set k (loadS x v E.num), K.cps, K.bts⟩) := by
    refine ⟨?_, ?_⟩
    · unfold seaC
      rw [HGET.out, ← HIX.out, hk]
      simp [s0, hm4]
    · unfold seaK
      rw [HGET.out, ← HIX.out, hk, HV.out]
      simp
  clear t1 t2 g1 h1 hxz s0 HGET HXE hk HIX
  go_wp2
  rw [← hW2]
  clear hW2
  exact sea3 K E lo w hlo v _ _ _ _ _ _ _ _ _ _ _ _ _ W2 H1 H2 H3 _ _ _ _ _ _ _ _ _ _ _ _ _ _ _ _ _ _ _ _ _ _ _ _ _ _ _ _ _ _ _ _ _ _ _ _ _ _ _ _ _ _ _ _ _ _ _ _ _ _ _ _ _ _ _ _ _ _ _ _ _ _ _ _ _ _ _ _ _ _ _ _ _ _ _ _ _ _ _ _ _ _ _ _ _ _ _ _ _ _ _ _ _ _ _ _ _ _ _ _ _ _ _ _ _ _ _ _ _ _ _ _ _ _ _ _ _ _ _ _ _ _ _ _ _ _ _ _ _ _ _ _ _ _ _ _ _ _ _ _ _ _ _ _ _ _ _ _ _ _ _ _ _ _ _ _ _ 

end Go.Proofs.YtclagbakddkjcaaGreat
