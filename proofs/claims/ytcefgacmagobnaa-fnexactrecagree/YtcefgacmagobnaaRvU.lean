/-
  Recorders: RecValid by the specification: a segment.
-/
import Derived.Test.YtcefgacmagobnaaRvS
namespace Go.Proofs.Ytcefgacmagobnaa
open Go.RowKit Go.Deep

set_option maxRecDepth 8000 in
set_option maxHeartbeats 40000000 in
theorem rvSeg4 (K : Rr) (a0 a1 a2 a3 a4 a5 a6 : Option Addr) (c0 c1 c2 c3 c4 c5 c6 : Nat) (w W : World) (R : Bool) (HB6 : Hid (Below w.heap.size w W)) (HX6 : Hid (LBox W w.heap.size [.int .i64 K.num, .int .i64 K.of_, .bool K.up, .int .i64 K.safe.prom, .int .i64 K.safe.known, .slice a0 K.safe.slots.length c0, .int .i64 K.disk.prom, .int .i64 K.disk.known, .slice a1 K.disk.slots.length c1, .slice a2 K.held.length c2, .slice a3 K.wish.length c3, .bool K.lead, .bool K.try_, .int .i64 K.bal, .slice a4 K.yes.length c4, .slice a5 K.best.length c5, .slice a6 K.acks.length c6, .int .i64 K.heard])) (HV6 : Hid (RrV W a0 a1 a2 a3 a4 a5 a6 K)) (HHD : Hid (0 ≤ K.heard ∧ K.heard ≤ 1000000)) (HNT : Hid ((K.lead && K.try_) = false)) (HR : Hid (R = (roleOk K && (K.up || (quietB K && decide ((K.held.length : Int) + K.wish.length + K.heard = 0)))))) (u0 u2 u3 u4 u5 u6 u7 u8 u9 u10 u11 u12 u13 u14 u15 u16 u17 u18 u19 u20 u21 u22 u23 u24 u25 u26 u27 u28 u29 u30 u31 u32 u33 u34 u35 u36 u37 u38 u39 u40 u41 u42 u43 u44 u45 u46 u47 u48 u49 u50 u51 u52 u53 u54 u55 u56 u57 u58 u59 u60 u61 u62 u63 u64 u65 u66 u67 u68 u69 u70 u71 u72 u73 u74 u75 u76 u77 u78 u79 u80 u81 u82 u83 u84 u85 u86 u87 u88 u89 u90 u91 u92 u93 u94 u95 u96 u97 u98 u99 u100 u101 u102 u103 u104 u105 u106 u107 u108 u109 u110 u111 u112 u113 u114 u115 u116 u117 u118 u119 u120 u121 u122 u123 u124 u125 u126 u127 u128 u129 u130 u131 u132 u133 u134 u135 u136 u137 u138 u139 u140 u141 u142 u143 u144 u145 u146 u147 u148 u149 u150 u151 u152 u153 u154 u155 u156 u157 u158 u159 : Value) :
    Code.wp Try.prog rv4 (bodyPost Try.prog Try.f19 (fun e w' => e = .returned (.bool R) ∧ Below w.heap.size w w')) { tmps := #[u0, .pointer (some ⟨w.heap.size, 0, none⟩), u2, u3, u4, u5, u6, u7, u8, u9, u10, u11, u12, u13, u14, u15, u16, u17, u18, u19, u20, u21, u22, u23, u24, u25, u26, u27, u28, u29, u30, u31, u32, u33, u34, u35, u36, u37, u38, u39, u40, u41, u42, u43, u44, u45, u46, u47, u48, u49, u50, u51, u52, u53, u54, u55, u56, u57, u58, u59, u60, u61, u62, u63, u64, u65, u66, u67, u68, u69, u70, u71, u72, u73, u74, u75, u76, u77, u78, u79, u80, u81, u82, u83, u84, u85, u86, u87, u88, u89, u90, u91, u92, u93, u94, u95, u96, u97, u98, u99, u100, u101, u102, u103, u104, u105, u106, u107, u108, u109, u110, u111, u112, u113, u114, u115, u116, u117, u118, u119, u120, u121, u122, u123, u124, u125, u126, u127, u128, u129, u130, u131, u132, u133, u134, u135, u136, u137, u138, u139, u140, u141, u142, u143, u144, u145, u146, u147, u148, u149, u150, u151, u152, u153, u154, u155, u156, u157, u158, u159], defers := [] } W := by
  have z2 := HV6.out.l2.len
  have z3 := HV6.out.l3.len
  have z4 := HV6.out.l4.len
  have z5 := HV6.out.s5
  have z6 := HV6.out.l6.len
  have y0 := HX6.out.get 0 (.int .i64 K.num) rfl
  have y1 := HX6.out.get 1 (.int .i64 K.of_) rfl
  have y2 := HX6.out.get 2 (.bool K.up) rfl
  have y3 := HX6.out.get 3 (.int .i64 K.safe.prom) rfl
  have y4 := HX6.out.get 4 (.int .i64 K.safe.known) rfl
  have y5 := HX6.out.get 5 (.slice a0 K.safe.slots.length c0) rfl
  have y6 := HX6.out.get 6 (.int .i64 K.disk.prom) rfl
  have y7 := HX6.out.get 7 (.int .i64 K.disk.known) rfl
  have y8 := HX6.out.get 8 (.slice a1 K.disk.slots.length c1) rfl
  have y9 := HX6.out.get 9 (.slice a2 K.held.length c2) rfl
  have y10 := HX6.out.get 10 (.slice a3 K.wish.length c3) rfl
  have y11 := HX6.out.get 11 (.bool K.lead) rfl
  have y12 := HX6.out.get 12 (.bool K.try_) rfl
  have y13 := HX6.out.get 13 (.int .i64 K.bal) rfl
  have y14 := HX6.out.get 14 (.slice a4 K.yes.length c4) rfl
  have y15 := HX6.out.get 15 (.slice a5 K.best.length c5) rfl
  have y16 := HX6.out.get 16 (.slice a6 K.acks.length c6) rfl
  have y17 := HX6.out.get 17 (.int .i64 K.heard) rfl
  have yz := HX6.out.lt
  rw [rv4_5]
  simp only [rv4, rv3, rv2, rv1, rv0, Try.f19, Option.getD_some, sfst_seq, ssnd_seq]
  cases hl : K.lead <;> cases ht : K.try_
  · rw [hl] at y11
    rw [ht] at y12
    have hro : roleOk K = quietB K := by unfold roleOk; rw [hl, ht]; rfl
    have HQC := l22QuietS K a0 a1 a2 a3 a4 a5 a6 c0 c1 c2 c3 c4 c5 c6 W HV6.out
    rw [hl, ht] at HQC
    go_wp2_with fail
    refine HQC.mono ?_
    rintro e w7 ⟨rfl, hb⟩
    have HB7 := hid (blw_trans HB6.out hb)
    have HX7 := hid (HX6.out.later hb)
    have HV7 := hid (HV6.out.later hb)
    clear hb HQC yz y0 y1 y2 y3 y4 y5 y6 y7 y8 y9 y10 y11 y12 y13 y14 y15 y16 y17
    cases hq : quietB K
    · have HE : Hid (R = false) := by show R = _; rw [HR.out, hro, hq]; simp
      clear HR
      go_wp2
      go_ret
      exact ⟨Pl.ret_bool HE.out.symm, HB7.out⟩
    have HR5 : Hid (R = (K.up || (quietB K && decide ((K.held.length : Int) + K.wish.length + K.heard = 0)))) := by show R = _; rw [HR.out, hro, hq]; simp
    clear HR hq
    go_wp2
    exact rvSeg5 K a0 a1 a2 a3 a4 a5 a6 c0 c1 c2 c3 c4 c5 c6 w w7 R HB7 HX7 HV7 HHD HR5 _ _ _ _ _ _ _ _ _ _ _ _ _ _ _ _ _ _ _ _ _ _ _ _ _ _ _ _ _ _ _ _ _ _ _ _ _ _ _ _ _ _ _ _ _ _ _ _ _ _ _ _ _ _ _ _ _ _ _ _ _ _ _ _ _ _ _ _ _ _ _ _ _ _ _ _ _ _ _ _ _ _ _ _ _ _ _ _ _ _ _ _ _ _ _ _ _ _ _ _ _ _ _ _ _ _ _ _ _ _ _ _ _ _ _ _ _ _ _ _ _ _ _ _ _ _ _ _ _ _ _ _ _ _ _ _ _ _ _ _ _ _ _ _ _ _ _ _ _ _ _ _ _ _ _ _ _ _ _
  · rw [hl] at y11
    rw [ht] at y12
    have hro : roleOk K = (inB K.bal 1 K.disk.prom && !decide (0 < K.acks.length)) := by unfold roleOk; rw [hl, ht]; simp
    obtain ⟨na, hna⟩ : ∃ na : Nat, na = K.acks.length := ⟨_, rfl⟩
    rw [← hna] at y16 z6 hro
    clear hna
    cases hb1 : inB K.bal 1 K.disk.prom
    · have HE : Hid (R = false) := by show R = _; rw [HR.out, hro, hb1]; simp
      clear HR
      go_wp2_with (go_at_call 18; refine (l21InS _ _ _ _).mono ?_; rintro e w' ⟨rfl, rfl⟩)
      go_ret
      exact ⟨Pl.ret_bool HE.out.symm, HB6.out⟩
    rcases Decidable.em (0 < na) with g | g
    · have gi : (0 : Int) < (na : Int) := by omega
      have gdd : decide ((0 : Int) < (na : Int)) = true := decide_eq_true gi
      have HE : Hid (R = false) := by show R = _; rw [HR.out, hro, hb1, decide_eq_true g]; simp
      clear HR
      clear g
      go_wp2_with (go_at_call 18; refine (l21InS _ _ _ _).mono ?_; rintro e w' ⟨rfl, rfl⟩)
      go_ret
      exact ⟨Pl.ret_bool HE.out.symm, HB6.out⟩
    have gi : ¬ ((0 : Int) < (na : Int)) := by omega
    have gd : decide (0 < na) = false := decide_eq_false g
    have HR5 : Hid (R = (K.up || (quietB K && decide ((K.held.length : Int) + K.wish.length + K.heard = 0)))) := by show R = _; rw [HR.out, hro, hb1, gd]; simp
    clear g gd HR
    go_wp2_with (go_at_call 18; refine (l21InS _ _ _ _).mono ?_; rintro e w' ⟨rfl, rfl⟩)
    exact rvSeg5 K a0 a1 a2 a3 a4 a5 a6 c0 c1 c2 c3 c4 c5 c6 w W R HB6 HX6 HV6 HHD HR5 _ _ _ _ _ _ _ _ _ _ _ _ _ _ _ _ _ _ _ _ _ _ _ _ _ _ _ _ _ _ _ _ _ _ _ _ _ _ _ _ _ _ _ _ _ _ _ _ _ _ _ _ _ _ _ _ _ _ _ _ _ _ _ _ _ _ _ _ _ _ _ _ _ _ _ _ _ _ _ _ _ _ _ _ _ _ _ _ _ _ _ _ _ _ _ _ _ _ _ _ _ _ _ _ _ _ _ _ _ _ _ _ _ _ _ _ _ _ _ _ _ _ _ _ _ _ _ _ _ _ _ _ _ _ _ _ _ _ _ _ _ _ _ _ _ _ _ _ _ _ _ _ _ _ _ _ _ _ _
  · rw [hl] at y11
    rw [ht] at y12
    have hro : roleOk K = (inB K.bal 1 K.disk.prom && !decide (0 < K.yes.length + K.best.length)) := by unfold roleOk; rw [hl, ht]; simp
    cases hb1 : inB K.bal 1 K.disk.prom
    · have HE : Hid (R = false) := by show R = _; rw [HR.out, hro, hb1]; simp
      clear HR
      go_wp2_with (go_at_call 18; refine (l21InS _ _ _ _).mono ?_; rintro e w' ⟨rfl, rfl⟩)
      go_ret
      exact ⟨Pl.ret_bool HE.out.symm, HB6.out⟩
    rcases Decidable.em (0 < K.yes.length + K.best.length) with g | g
    · have gi : (0 : Int) < (K.yes.length : Int) + (K.best.length : Int) := by omega
      have gdd : decide ((0 : Int) < (K.yes.length : Int) + (K.best.length : Int)) = true := decide_eq_true gi
      have HE : Hid (R = false) := by show R = _; rw [HR.out, hro, hb1, decide_eq_true g]; simp
      clear HR
      clear g
      go_wp2_with (go_at_call 18; refine (l21InS _ _ _ _).mono ?_; rintro e w' ⟨rfl, rfl⟩)
      go_ret
      exact ⟨Pl.ret_bool HE.out.symm, HB6.out⟩
    have gi : ¬ ((0 : Int) < (K.yes.length : Int) + (K.best.length : Int)) := by omega
    have gd : decide (0 < K.yes.length + K.best.length) = false := decide_eq_false g
    have HR5 : Hid (R = (K.up || (quietB K && decide ((K.held.length : Int) + K.wish.length + K.heard = 0)))) := by show R = _; rw [HR.out, hro, hb1, gd]; simp
    clear g gd HR
    go_wp2_with (go_at_call 18; refine (l21InS _ _ _ _).mono ?_; rintro e w' ⟨rfl, rfl⟩)
    exact rvSeg5 K a0 a1 a2 a3 a4 a5 a6 c0 c1 c2 c3 c4 c5 c6 w W R HB6 HX6 HV6 HHD HR5 _ _ _ _ _ _ _ _ _ _ _ _ _ _ _ _ _ _ _ _ _ _ _ _ _ _ _ _ _ _ _ _ _ _ _ _ _ _ _ _ _ _ _ _ _ _ _ _ _ _ _ _ _ _ _ _ _ _ _ _ _ _ _ _ _ _ _ _ _ _ _ _ _ _ _ _ _ _ _ _ _ _ _ _ _ _ _ _ _ _ _ _ _ _ _ _ _ _ _ _ _ _ _ _ _ _ _ _ _ _ _ _ _ _ _ _ _ _ _ _ _ _ _ _ _ _ _ _ _ _ _ _ _ _ _ _ _ _ _ _ _ _ _ _ _ _ _ _ _ _ _ _ _ _ _ _ _ _ _
  · exact absurd HNT.out (by rw [hl, ht]; decide)

end Go.Proofs.Ytcefgacmagobnaa

namespace Go.Proofs.Ytcefgacmagobnaa
open Go.RowKit Go.Deep

set_option maxRecDepth 8000 in
set_option maxHeartbeats 40000000 in
theorem rvSeg3 (K : Rr) (a0 a1 a2 a3 a4 a5 a6 : Option Addr) (c0 c1 c2 c3 c4 c5 c6 : Nat) (w W : World) (R : Bool) (HB6 : Hid (Below w.heap.size w W)) (HX6 : Hid (LBox W w.heap.size [.int .i64 K.num, .int .i64 K.of_, .bool K.up, .int .i64 K.safe.prom, .int .i64 K.safe.known, .slice a0 K.safe.slots.length c0, .int .i64 K.disk.prom, .int .i64 K.disk.known, .slice a1 K.disk.slots.length c1, .slice a2 K.held.length c2, .slice a3 K.wish.length c3, .bool K.lead, .bool K.try_, .int .i64 K.bal, .slice a4 K.yes.length c4, .slice a5 K.best.length c5, .slice a6 K.acks.length c6, .int .i64 K.heard])) (HV6 : Hid (RrV W a0 a1 a2 a3 a4 a5 a6 K)) (HHD : Hid (0 ≤ K.heard ∧ K.heard ≤ 1000000)) (HR : Hid (R = (numsOk K.yes K.of_ && slotsOk K.best && acksOk K.acks K.of_ && !(K.lead && K.try_) && roleOk K && (K.up || (quietB K && decide ((K.held.length : Int) + K.wish.length + K.heard = 0)))))) (u0 u2 u3 u4 u5 u6 u7 u8 u9 u10 u11 u12 u13 u14 u15 u16 u17 u18 u19 u20 u21 u22 u23 u24 u25 u26 u27 u28 u29 u30 u31 u32 u33 u34 u35 u36 u37 u38 u39 u40 u41 u42 u43 u44 u45 u46 u47 u48 u49 u50 u51 u52 u53 u54 u55 u56 u57 u58 u59 u60 u61 u62 u63 u64 u65 u66 u67 u68 u69 u70 u71 u72 u73 u74 u75 u76 u77 u78 u79 u80 u81 u82 u83 u84 u85 u86 u87 u88 u89 u90 u91 u92 u93 u94 u95 u96 u97 u98 u99 u100 u101 u102 u103 u104 u105 u106 u107 u108 u109 u110 u111 u112 u113 u114 u115 u116 u117 u118 u119 u120 u121 u122 u123 u124 u125 u126 u127 u128 u129 u130 u131 u132 u133 u134 u135 u136 u137 u138 u139 u140 u141 u142 u143 u144 u145 u146 u147 u148 u149 u150 u151 u152 u153 u154 u155 u156 u157 u158 u159 : Value) :
    Code.wp Try.prog rv3 (bodyPost Try.prog Try.f19 (fun e w' => e = .returned (.bool R) ∧ Below w.heap.size w w')) { tmps := #[u0, .pointer (some ⟨w.heap.size, 0, none⟩), u2, u3, u4, u5, u6, u7, u8, u9, u10, u11, u12, u13, u14, u15, u16, u17, u18, u19, u20, u21, u22, u23, u24, u25, u26, u27, u28, u29, u30, u31, u32, u33, u34, u35, u36, u37, u38, u39, u40, u41, u42, u43, u44, u45, u46, u47, u48, u49, u50, u51, u52, u53, u54, u55, u56, u57, u58, u59, u60, u61, u62, u63, u64, u65, u66, u67, u68, u69, u70, u71, u72, u73, u74, u75, u76, u77, u78, u79, u80, u81, u82, u83, u84, u85, u86, u87, u88, u89, u90, u91, u92, u93, u94, u95, u96, u97, u98, u99, u100, u101, u102, u103, u104, u105, u106, u107, u108, u109, u110, u111, u112, u113, u114, u115, u116, u117, u118, u119, u120, u121, u122, u123, u124, u125, u126, u127, u128, u129, u130, u131, u132, u133, u134, u135, u136, u137, u138, u139, u140, u141, u142, u143, u144, u145, u146, u147, u148, u149, u150, u151, u152, u153, u154, u155, u156, u157, u158, u159], defers := [] } W := by
  have y0 := HX6.out.get 0 (.int .i64 K.num) rfl
  have y1 := HX6.out.get 1 (.int .i64 K.of_) rfl
  have y2 := HX6.out.get 2 (.bool K.up) rfl
  have y3 := HX6.out.get 3 (.int .i64 K.safe.prom) rfl
  have y4 := HX6.out.get 4 (.int .i64 K.safe.known) rfl
  have y5 := HX6.out.get 5 (.slice a0 K.safe.slots.length c0) rfl
  have y6 := HX6.out.get 6 (.int .i64 K.disk.prom) rfl
  have y7 := HX6.out.get 7 (.int .i64 K.disk.known) rfl
  have y8 := HX6.out.get 8 (.slice a1 K.disk.slots.length c1) rfl
  have y9 := HX6.out.get 9 (.slice a2 K.held.length c2) rfl
  have y10 := HX6.out.get 10 (.slice a3 K.wish.length c3) rfl
  have y11 := HX6.out.get 11 (.bool K.lead) rfl
  have y12 := HX6.out.get 12 (.bool K.try_) rfl
  have y13 := HX6.out.get 13 (.int .i64 K.bal) rfl
  have y14 := HX6.out.get 14 (.slice a4 K.yes.length c4) rfl
  have y15 := HX6.out.get 15 (.slice a5 K.best.length c5) rfl
  have y16 := HX6.out.get 16 (.slice a6 K.acks.length c6) rfl
  have y17 := HX6.out.get 17 (.int .i64 K.heard) rfl
  have yz := HX6.out.lt
  rw [rv3_4]
  simp only [rv3, rv2, rv1, rv0, Try.f19, Option.getD_some, sfst_seq, ssnd_seq]
  go_wp2_with fail
  refine (l22NumbersS K.yes K.of_ a4 c4 W HV6.out.l4).mono ?_
  rintro e w7 ⟨rfl, hb⟩
  have HB7 := hid (blw_trans HB6.out hb)
  have HX7 := hid (HX6.out.later hb)
  have HV7 := hid (HV6.out.later hb)
  clear hb yz y0 y1 y2 y3 y4 y5 y6 y7 y8 y9 y10 y11 y12 y13 y14 y15 y16 y17 HB6 HX6 HV6
  have y0 := HX7.out.get 0 (.int .i64 K.num) rfl
  have y1 := HX7.out.get 1 (.int .i64 K.of_) rfl
  have y2 := HX7.out.get 2 (.bool K.up) rfl
  have y3 := HX7.out.get 3 (.int .i64 K.safe.prom) rfl
  have y4 := HX7.out.get 4 (.int .i64 K.safe.known) rfl
  have y5 := HX7.out.get 5 (.slice a0 K.safe.slots.length c0) rfl
  have y6 := HX7.out.get 6 (.int .i64 K.disk.prom) rfl
  have y7 := HX7.out.get 7 (.int .i64 K.disk.known) rfl
  have y8 := HX7.out.get 8 (.slice a1 K.disk.slots.length c1) rfl
  have y9 := HX7.out.get 9 (.slice a2 K.held.length c2) rfl
  have y10 := HX7.out.get 10 (.slice a3 K.wish.length c3) rfl
  have y11 := HX7.out.get 11 (.bool K.lead) rfl
  have y12 := HX7.out.get 12 (.bool K.try_) rfl
  have y13 := HX7.out.get 13 (.int .i64 K.bal) rfl
  have y14 := HX7.out.get 14 (.slice a4 K.yes.length c4) rfl
  have y15 := HX7.out.get 15 (.slice a5 K.best.length c5) rfl
  have y16 := HX7.out.get 16 (.slice a6 K.acks.length c6) rfl
  have y17 := HX7.out.get 17 (.int .i64 K.heard) rfl
  have yz := HX7.out.lt
  cases h1 : numsOk K.yes K.of_
  · have HE : Hid (R = false) := by show R = _; rw [HR.out, h1]; simp
    clear HR
    go_wp2
    go_ret
    exact ⟨Pl.ret_bool HE.out.symm, HB7.out⟩
  have HSL := l21SlotsS K.best a5 c5 w7 HV7.out.l5
  cases h2 : slotsOk K.best
  · rw [h2] at HSL
    have HE : Hid (R = false) := by show R = _; rw [HR.out, h1, h2]; simp
    clear HR
    go_wp2_with (go_at_call 46; refine HSL.mono ?_; rintro e w' ⟨rfl, rfl⟩)
    go_ret
    exact ⟨Pl.ret_bool HE.out.symm, HB7.out⟩
  rw [h2] at HSL
  go_wp2_with (go_at_call 46; refine HSL.mono ?_; rintro e w' ⟨rfl, rfl⟩)
  refine (l22AcksS K.acks K.of_ a6 c6 w7 HV7.out.l6).mono ?_
  rintro e w8 ⟨rfl, hb⟩
  have HB8 := hid (blw_trans HB7.out hb)
  have HX8 := hid (HX7.out.later hb)
  have HV8 := hid (HV7.out.later hb)
  clear hb HSL yz y0 y1 y2 y3 y4 y5 y6 y7 y8 y9 y10 y11 y12 y13 y14 y15 y16 y17 HB7 HX7 HV7
  have y0 := HX8.out.get 0 (.int .i64 K.num) rfl
  have y1 := HX8.out.get 1 (.int .i64 K.of_) rfl
  have y2 := HX8.out.get 2 (.bool K.up) rfl
  have y3 := HX8.out.get 3 (.int .i64 K.safe.prom) rfl
  have y4 := HX8.out.get 4 (.int .i64 K.safe.known) rfl
  have y5 := HX8.out.get 5 (.slice a0 K.safe.slots.length c0) rfl
  have y6 := HX8.out.get 6 (.int .i64 K.disk.prom) rfl
  have y7 := HX8.out.get 7 (.int .i64 K.disk.known) rfl
  have y8 := HX8.out.get 8 (.slice a1 K.disk.slots.length c1) rfl
  have y9 := HX8.out.get 9 (.slice a2 K.held.length c2) rfl
  have y10 := HX8.out.get 10 (.slice a3 K.wish.length c3) rfl
  have y11 := HX8.out.get 11 (.bool K.lead) rfl
  have y12 := HX8.out.get 12 (.bool K.try_) rfl
  have y13 := HX8.out.get 13 (.int .i64 K.bal) rfl
  have y14 := HX8.out.get 14 (.slice a4 K.yes.length c4) rfl
  have y15 := HX8.out.get 15 (.slice a5 K.best.length c5) rfl
  have y16 := HX8.out.get 16 (.slice a6 K.acks.length c6) rfl
  have y17 := HX8.out.get 17 (.int .i64 K.heard) rfl
  have yz := HX8.out.lt
  cases h3 : acksOk K.acks K.of_
  · have HE : Hid (R = false) := by show R = _; rw [HR.out, h1, h2, h3]; simp
    clear HR
    go_wp2
    go_ret
    exact ⟨Pl.ret_bool HE.out.symm, HB8.out⟩
  cases h4 : (K.lead && K.try_)
  · have HR4 : Hid (R = (roleOk K && (K.up || (quietB K && decide ((K.held.length : Int) + K.wish.length + K.heard = 0))))) := by show R = _; rw [HR.out, h1, h2, h3, h4]; simp
    have HNT := hid h4
    clear HR
    cases hl : K.lead <;> cases ht : K.try_
    all_goals (first | (exfalso; rw [hl, ht] at h4; exact absurd h4 (by decide)) | (rw [hl] at y11; rw [ht] at y12; clear h4 hl ht; go_wp2; exact rvSeg4 K a0 a1 a2 a3 a4 a5 a6 c0 c1 c2 c3 c4 c5 c6 w w8 R HB8 HX8 HV8 HHD HNT HR4 _ _ _ _ _ _ _ _ _ _ _ _ _ _ _ _ _ _ _ _ _ _ _ _ _ _ _ _ _ _ _ _ _ _ _ _ _ _ _ _ _ _ _ _ _ _ _ _ _ _ _ _ _ _ _ _ _ _ _ _ _ _ _ _ _ _ _ _ _ _ _ _ _ _ _ _ _ _ _ _ _ _ _ _ _ _ _ _ _ _ _ _ _ _ _ _ _ _ _ _ _ _ _ _ _ _ _ _ _ _ _ _ _ _ _ _ _ _ _ _ _ _ _ _ _ _ _ _ _ _ _ _ _ _ _ _ _ _ _ _ _ _ _ _ _ _ _ _ _ _ _ _ _ _ _ _ _ _ _))
  have hl : K.lead = true := by cases hh : K.lead; rw [hh] at h4; cases h4; rfl
  have ht : K.try_ = true := by cases hh : K.try_; rw [hl, hh] at h4; cases h4; rfl
  rw [hl] at y11
  rw [ht] at y12
  have HE : Hid (R = false) := by show R = _; rw [HR.out, h1, h2, h3, h4]; simp
  clear HR
  go_wp2
  go_ret
  exact ⟨Pl.ret_bool HE.out.symm, HB8.out⟩

end Go.Proofs.Ytcefgacmagobnaa
