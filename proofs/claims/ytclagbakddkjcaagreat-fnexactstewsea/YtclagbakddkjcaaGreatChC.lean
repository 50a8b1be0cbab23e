/-
  The sea, by the program: a copy fails; a load.
-/
import Derived.Test.YtclagbakddkjcaaGreatChB
namespace Go.Proofs.YtclagbakddkjcaaGreat
open Go.RowKit Go.Deep

/-- Whether a copy may fail; the copies behind it. -/
def failOk (cp : List Cp) (nm : ByteArray) (num : Int) : Bool := decide (0 ≤ cpIx cp nm num) && ((cp.getD (placeAt cp nm num) Cp.none).state == 2 || (cp.getD (placeAt cp nm num) Cp.none).state == 3)
def failTo (cp : List Cp) (now : Int) (nm : ByteArray) (num : Int) : List Cp := if failOk cp nm num then cp.set (placeAt cp nm num) (turnC (cp.getD (placeAt cp nm num) Cp.none) now 4) else cp
def V58 (px : Nat) (now : Int) (sv : List Sv) (cp : List Cp) (bt : List Bt) (p0 p1 p2 : Option Addr) (q0 q1 q2 : Nat) (nm : ByteArray) (num : Int) (i : Nat) (u : Value) (_ : World) : Prop := match i with
  | 0 => u = .pointer (some ⟨px, 0, none⟩)
  | 1 => u = .pointer (some ⟨px, 0, none⟩)
  | 2 => u = .pointer (some ⟨px, 0, none⟩)
  | 3 => u = .pointer (some ⟨px, 0, none⟩)
  | 4 => u = .agg #[.int .i64 now, .slice p0 sv.length q0, .slice p1 cp.length q1, .slice p2 bt.length q2]
  | 5 => u = .pointer (some ⟨px, 0, none⟩)
  | 6 => u = .pointer (some ⟨px, 0, none⟩)
  | 7 => u = .pointer (some ⟨px, 4, none⟩)
  | 8 => u = .string nm
  | 9 => u = .pointer (some ⟨px, 0, none⟩)
  | 10 => u = .pointer (some ⟨px, 0, none⟩)
  | 11 => u = .pointer (some ⟨px, 5, none⟩)
  | 12 => u = .int .i64 num
  | 13 => u = .tuple #[.int .i64 (placeAt cp nm num : Nat), .bool (decide (0 ≤ cpIx cp nm num))]
  | 14 => u = .tuple #[.int .i64 (placeAt cp nm num : Nat), .bool (decide (0 ≤ cpIx cp nm num))]
  | 15 => u = .int .i64 (placeAt cp nm num : Nat)
  | 16 => u = .bool (decide (0 ≤ cpIx cp nm num))
  | 17 => u = .int .i64 (placeAt cp nm num : Nat)
  | 18 => u = .bool (decide (0 ≤ cpIx cp nm num))
  | _ => True

theorem place_lt {l : List Cp} (h : ascCp l = true) {nm : ByteArray} {num : Int} (h0 : 0 ≤ cpIx l nm num) : placeAt l nm num < l.length := by
  exact ((cpIx_place h nm num).2 h0).2
set_option maxRecDepth 8000 in
set_option maxHeartbeats 8000000 in
theorem failI {lo px : Nat} {t : TypeId} {nm : ByteArray} {num : Int} {R : World} {now : Int} {sv : List Sv} {cp : List Cp} {bt : List Bt} {p0 p1 p2 : Option Addr} {q0 q1 q2 : Nat} (h : XG lo px t [.string nm, .int .i64 num] R now sv cp bt p0 p1 p2 sv.length cp.length bt.length q0 q1 q2) (hasc : ascCp cp = true) (hlo : lo ≤ R.heap.size) :
    Calls Tryz.prog 58 #[.pointer (some ⟨px, 0, none⟩)] R fun e W' => e = .returned (.int .i64 (if failOk cp nm num then 0 else 3)) ∧ XG lo px t [.string nm, .int .i64 num] W' now sv (failTo cp now nm num) bt p0 p1 p2 sv.length cp.length bt.length q0 q1 q2 ∧ Below lo R W' := by
  obtain ⟨r, hr⟩ : ∃ r : Int, r = (if failOk cp nm num then 0 else 3) := ⟨_, rfl⟩
  rw [← hr]
  have HRE := hid hr
  clear hr
  have HXG := hid h
  have HV := hid h.v
  have HM := hid h.m1
  have HLO := hid hlo
  have X0 := h.cell 0 _ rfl
  have X1 := h.cell 1 _ rfl
  have X2 := h.cell 2 _ rfl
  have X3 := h.cell 3 _ rfl
  have X4 := h.cell 4 _ rfl
  have X5 := h.cell 5 _ rfl
  have HXL := lt_heap h.bx
  clear h hlo
  go_enter Tryz.func58, Tryz.ntmps58
  go_upto_region 1 with fail
  refine RY.region_past R (Below.refl _ _) (V58 px now sv cp bt p0 p1 p2 q0 q1 q2 nm num) (fun j u W W' _ h => h) (by kernel_rfl) (by kernel_rfl) (by kernel_rfl) (by kernel_rfl) ?_ ?_
  · intro i o ho a W hW hk hd
    have x0 := (hW.cell (p := ⟨px, 0, none⟩) HXL).trans X0
    have x1 := (hW.cell (p := ⟨px, 1, none⟩) HXL).trans X1
    have x2 := (hW.cell (p := ⟨px, 2, none⟩) HXL).trans X2
    have x3 := (hW.cell (p := ⟨px, 3, none⟩) HXL).trans X3
    have x4 := (hW.cell (p := ⟨px, 4, none⟩) HXL).trans X4
    have x5 := (hW.cell (p := ⟨px, 5, none⟩) HXL).trans X5
    match i, ho with
    | 0, ho =>
      injection ho with ho; subst ho
      have e0 : a.tmps[0]?.getD undef = .pointer (some ⟨px, 0, none⟩) := (RY.ev_tmp a 0).trans ((hk 0 (by kernel_rfl)).trans rfl)
      exact Or.inl ⟨.pointer (some ⟨px, 0, none⟩), W, by simp [execOp, go_sem, e0], Below.refl _ _, rfl⟩
    | 1, ho =>
      injection ho with ho; subst ho
      have d0 := hd 0 _ 6 rfl rfl ⟨⟨0, .data⟩, by simp, rfl, rfl⟩
      have e0 : a.tmps[6]?.getD undef = .pointer (some ⟨px, 0, none⟩) := (RY.ev_tmp a 6).trans d0
      exact Or.inl ⟨.pointer (some ⟨px, 0, none⟩), W, by simp [execOp, go_sem, e0], Below.refl _ _, rfl⟩
    | 2, ho =>
      injection ho with ho; subst ho
      have d0 := hd 1 _ 7 rfl rfl ⟨⟨1, .data⟩, by simp, rfl, rfl⟩
      have e0 : a.tmps[7]?.getD undef = .pointer (some ⟨px, 0, none⟩) := (RY.ev_tmp a 7).trans d0
      exact Or.inl ⟨.pointer (some ⟨px, 0, none⟩), W, by simp [execOp, go_sem, e0], Below.refl _ _, rfl⟩
    | 3, ho =>
      injection ho with ho; subst ho
      have d0 := hd 2 _ 8 rfl rfl ⟨⟨2, .data⟩, by simp, rfl, rfl⟩
      have e0 : a.tmps[8]?.getD undef = .pointer (some ⟨px, 0, none⟩) := (RY.ev_tmp a 8).trans d0
      exact Or.inl ⟨.pointer (some ⟨px, 0, none⟩), W, by simp [execOp, go_sem, e0], Below.refl _ _, rfl⟩
    | 4, ho =>
      injection ho with ho; subst ho
      have d0 := hd 3 _ 9 rfl rfl ⟨⟨3, .data⟩, by simp, rfl, rfl⟩
      have e0 : a.tmps[9]?.getD undef = .pointer (some ⟨px, 0, none⟩) := (RY.ev_tmp a 9).trans d0
      exact Or.inl ⟨.agg #[.int .i64 now, .slice p0 sv.length q0, .slice p1 cp.length q1, .slice p2 bt.length q2], W, by simp [execOp, go_sem, e0, x0, x1, x2, x3], Below.refl _ _, rfl⟩
    | 5, ho =>
      injection ho with ho; subst ho
      have e0 : a.tmps[0]?.getD undef = .pointer (some ⟨px, 0, none⟩) := (RY.ev_tmp a 0).trans ((hk 0 (by kernel_rfl)).trans rfl)
      exact Or.inl ⟨.pointer (some ⟨px, 0, none⟩), W, by simp [execOp, go_sem, e0], Below.refl _ _, rfl⟩
    | 6, ho =>
      injection ho with ho; subst ho
      have d0 := hd 5 _ 11 rfl rfl ⟨⟨5, .data⟩, by simp, rfl, rfl⟩
      have e0 : a.tmps[11]?.getD undef = .pointer (some ⟨px, 0, none⟩) := (RY.ev_tmp a 11).trans d0
      exact Or.inl ⟨.pointer (some ⟨px, 0, none⟩), W, by simp [execOp, go_sem, e0], Below.refl _ _, rfl⟩
    | 7, ho =>
      injection ho with ho; subst ho
      have d0 := hd 6 _ 12 rfl rfl ⟨⟨6, .data⟩, by simp, rfl, rfl⟩
      have e0 : a.tmps[12]?.getD undef = .pointer (some ⟨px, 0, none⟩) := (RY.ev_tmp a 12).trans d0
      exact Or.inl ⟨.pointer (some ⟨px, 4, none⟩), W, by simp [execOp, go_sem, e0], Below.refl _ _, rfl⟩
    | 8, ho =>
      injection ho with ho; subst ho
      have d0 := hd 7 _ 13 rfl rfl ⟨⟨7, .data⟩, by simp, rfl, rfl⟩
      have e0 : a.tmps[13]?.getD undef = .pointer (some ⟨px, 4, none⟩) := (RY.ev_tmp a 13).trans d0
      exact Or.inl ⟨.string nm, W, by simp [execOp, go_sem, e0, x4], Below.refl _ _, rfl⟩
    | 9, ho =>
      injection ho with ho; subst ho
      have e0 : a.tmps[0]?.getD undef = .pointer (some ⟨px, 0, none⟩) := (RY.ev_tmp a 0).trans ((hk 0 (by kernel_rfl)).trans rfl)
      exact Or.inl ⟨.pointer (some ⟨px, 0, none⟩), W, by simp [execOp, go_sem, e0], Below.refl _ _, rfl⟩
    | 10, ho =>
      injection ho with ho; subst ho
      have d0 := hd 9 _ 15 rfl rfl ⟨⟨9, .data⟩, by simp, rfl, rfl⟩
      have e0 : a.tmps[15]?.getD undef = .pointer (some ⟨px, 0, none⟩) := (RY.ev_tmp a 15).trans d0
      exact Or.inl ⟨.pointer (some ⟨px, 0, none⟩), W, by simp [execOp, go_sem, e0], Below.refl _ _, rfl⟩
    | 11, ho =>
      injection ho with ho; subst ho
      have d0 := hd 10 _ 16 rfl rfl ⟨⟨10, .data⟩, by simp, rfl, rfl⟩
      have e0 : a.tmps[16]?.getD undef = .pointer (some ⟨px, 0, none⟩) := (RY.ev_tmp a 16).trans d0
      exact Or.inl ⟨.pointer (some ⟨px, 5, none⟩), W, by simp [execOp, go_sem, e0], Below.refl _ _, rfl⟩
    | 12, ho =>
      injection ho with ho; subst ho
      have d0 := hd 11 _ 17 rfl rfl ⟨⟨11, .data⟩, by simp, rfl, rfl⟩
      have e0 : a.tmps[17]?.getD undef = .pointer (some ⟨px, 5, none⟩) := (RY.ev_tmp a 17).trans d0
      exact Or.inl ⟨.int .i64 num, W, by simp [execOp, go_sem, e0, x5], Below.refl _ _, rfl⟩
    | 13, ho =>
      injection ho with ho; subst ho
      have d0 := hd 4 _ 10 rfl rfl ⟨⟨4, .data⟩, by simp, rfl, rfl⟩
      have e0 : a.tmps[10]?.getD undef = .agg #[.int .i64 now, .slice p0 sv.length q0, .slice p1 cp.length q1, .slice p2 bt.length q2] := (RY.ev_tmp a 10).trans d0
      have d1 := hd 8 _ 14 rfl rfl ⟨⟨8, .data⟩, by simp, rfl, rfl⟩
      have e1 : a.tmps[14]?.getD undef = .string nm := (RY.ev_tmp a 14).trans d1
      have d2 := hd 12 _ 18 rfl rfl ⟨⟨12, .data⟩, by simp, rfl, rfl⟩
      have e2 : a.tmps[18]?.getD undef = .int .i64 num := (RY.ev_tmp a 18).trans d2
      refine Or.inr ⟨86, #[.agg #[.int .i64 now, .slice p0 sv.length q0, .slice p1 cp.length q1, .slice p2 bt.length q2], .string nm, .int .i64 num], by simp [go_sem, e0, e1, e2], (copyPlaceI ⟨now, sv, cp, bt⟩ p0 p1 p2 q0 q1 q2 nm num W (HV.out.later hW).c hasc HM.out).mono ?_⟩
      rintro e W' ⟨rfl, hb⟩
      exact ⟨_, rfl, hb, rfl⟩
    | 14, ho =>
      injection ho with ho; subst ho
      have d0 := hd 13 _ 19 rfl rfl ⟨⟨13, .data⟩, by simp, rfl, rfl⟩
      have e0 : a.tmps[19]?.getD undef = .tuple #[.int .i64 (placeAt cp nm num : Nat), .bool (decide (0 ≤ cpIx cp nm num))] := (RY.ev_tmp a 19).trans d0
      exact Or.inl ⟨.tuple #[.int .i64 (placeAt cp nm num : Nat), .bool (decide (0 ≤ cpIx cp nm num))], W, by simp [execOp, go_sem, e0], Below.refl _ _, rfl⟩
    | 15, ho =>
      injection ho with ho; subst ho
      have d0 := hd 14 _ 5 rfl rfl ⟨⟨14, .data⟩, by simp, rfl, rfl⟩
      have e0 : a.tmps[5]?.getD undef = .tuple #[.int .i64 (placeAt cp nm num : Nat), .bool (decide (0 ≤ cpIx cp nm num))] := (RY.ev_tmp a 5).trans d0
      exact Or.inl ⟨.int .i64 (placeAt cp nm num : Nat), W, by simp [execOp, go_sem, e0], Below.refl _ _, rfl⟩
    | 16, ho =>
      injection ho with ho; subst ho
      have d0 := hd 14 _ 5 rfl rfl ⟨⟨14, .data⟩, by simp, rfl, rfl⟩
      have e0 : a.tmps[5]?.getD undef = .tuple #[.int .i64 (placeAt cp nm num : Nat), .bool (decide (0 ≤ cpIx cp nm num))] := (RY.ev_tmp a 5).trans d0
      exact Or.inl ⟨.bool (decide (0 ≤ cpIx cp nm num)), W, by simp [execOp, go_sem, e0], Below.refl _ _, rfl⟩
    | 17, ho =>
      injection ho with ho; subst ho
      have d0 := hd 15 _ 20 rfl rfl ⟨⟨15, .data⟩, by simp, rfl, rfl⟩
      have e0 : a.tmps[20]?.getD undef = .int .i64 (placeAt cp nm num : Nat) := (RY.ev_tmp a 20).trans d0
      exact Or.inl ⟨.int .i64 (placeAt cp nm num : Nat), W, by simp [execOp, go_sem, e0], Below.refl _ _, rfl⟩
    | 18, ho =>
      injection ho with ho; subst ho
      have d0 := hd 16 _ 21 rfl rfl ⟨⟨16, .data⟩, by simp, rfl, rfl⟩
      have e0 : a.tmps[21]?.getD undef = .bool (decide (0 ≤ cpIx cp nm num)) := (RY.ev_tmp a 21).trans d0
      exact Or.inl ⟨.bool (decide (0 ≤ cpIx cp nm num)), W, by simp [execOp, go_sem, e0], Below.refl _ _, rfl⟩
    | n + 19, ho => simp at ho
  intro W1 vs hb hvs
  have e3 : vs 3 = _ := hvs 17 _ 3 rfl rfl
  have e4 : vs 4 = _ := hvs 18 _ 4 rfl rfl
  simp only [RY.putAll, Act.put, List.setIfInBounds_toArray, List.set_cons_zero, List.set_cons_succ]
  rw [e3, e4]
  generalize vs 5 = s5
  generalize vs 6 = s6
  generalize vs 7 = s7
  generalize vs 8 = s8
  generalize vs 9 = s9
  generalize vs 10 = s10
  generalize vs 11 = s11
  generalize vs 12 = s12
  generalize vs 13 = s13
  generalize vs 14 = s14
  generalize vs 15 = s15
  generalize vs 16 = s16
  generalize vs 17 = s17
  generalize vs 18 = s18
  generalize vs 19 = s19
  generalize vs 20 = s20
  generalize vs 21 = s21
  clear hvs e3 e4 X0 X1 X2 X3 X4 X5 HXL
  have HX1 := hid (HXG.out.later hb)
  have HB1 : Hid (Below lo R W1) := hb.mono HLO.out
  have HLO1 : Hid (lo ≤ W1.heap.size) := Nat.le_trans HLO.out hb.size
  clear hb HXG
  obtain ⟨k, hkk⟩ : ∃ k, k = placeAt cp nm num := ⟨_, rfl⟩
  rw [← hkk]
  have HKK := hid hkk
  by_cases h0 : 0 ≤ cpIx cp nm num
  · have hlt : k < cp.length := by rw [hkk]; exact place_lt hasc h0
    have hd0 : decide (0 ≤ cpIx cp nm num) = true := decide_eq_true h0
    rw [hd0]
    obtain ⟨x, hx⟩ : ∃ x, x = cp.getD k Cp.none := ⟨_, rfl⟩
    have HOK : Hid (failOk cp nm num = (x.state == 2 || x.state == 3)) := by show _ = _; unfold failOk; rw [hd0, ← hkk, ← hx]; rfl
    obtain ⟨g, cur, rfl, hgl, hgh, hcs, hcell⟩ := owns_blk HX1.out.o1 (by omega)
    have cell := fun j (hj : j < 7) u (hu : (CpC x)[j]? = some u) => hcell (k * 7 + j) u ((flat_at Cp.none CpC 7 CpC_len cp k j hlt hj).trans (by rw [← hx]; exact hu))
    have z0 : W1.cell? ⟨g, k * 7, none⟩ = some (.string x.svc) := cell 0 (by omega) _ rfl
    have z1 := cell 1 (by omega) _ rfl
    have z2 := cell 2 (by omega) _ rfl
    have z3 := cell 3 (by omega) _ rfl
    have z4 := cell 4 (by omega) _ rfl
    have z5 := cell 5 (by omega) _ rfl
    have z6 := cell 6 (by omega) _ rfl
    have gz := lt_heap hgh
    have HXE := hid hx
    have HGL := hid hgl
    have x2 := HX1.out.cell 2 _ rfl
    have xz := lt_heap HX1.out.bx
    have hm0 : (0 : Int) ≤ (k : Int) := by omega
    have hm3 : (k : Int) < (cp.length : Int) := by omega
    clear hcell cell hx hgl hgh hcs h0 hd0 hkk
    go_wp2_with fail
    refine (isUpI x W1).mono ?_
    rintro e W2 ⟨rfl, hb2⟩
    clear z0 z1 z2 z3 z4 z5 z6 gz x2 xz
    have HX2 := hid (HX1.out.later hb2)
    have HB2 : Hid (Below lo R W2) := HB1.out.trans (hb2.mono HLO1.out)
    have HLO2 : Hid (lo ≤ W2.heap.size) := Nat.le_trans HLO1.out hb2.size
    clear hb2 HX1 HB1
    cases hup : (x.state == 2 || x.state == 3)
    · have HC : Hid (r = 3) := by show _ = _; rw [HRE.out, HOK.out, hup]; rfl
      have HT : Hid (failTo cp now nm num = cp) := by show _ = _; unfold failTo; rw [HOK.out, hup]; rfl
      go_wp2
      go_ret
      exact ⟨by rw [HC.out]; rfl, by rw [HT.out]; exact HX2.out, HB2.out⟩
    · have HC : Hid (r = 0) := by show _ = _; rw [HRE.out, HOK.out, hup]; rfl
      have HT : Hid (failTo cp now nm num = cp.set k (turnC (cp.getD k Cp.none) now 4)) := by show _ = _; unfold failTo; rw [HOK.out, hup, ← HKK.out]; rfl
      have xz := lt_heap HX2.out.bx
      go_wp2_with fail
      refine (turnI HX2.out k hlt 4).mono ?_
      rintro e W3 ⟨rfl, hX3, g', hg', hBX⟩
      cases hg'
      have HX3 := hid hX3
      have HB3 : Hid (Below lo R W3) := HB2.out.trans (hBX.lo HGL.out HLO2.out)
      clear hX3 hBX xz
      go_wp2
      go_ret
      exact ⟨by rw [HC.out]; rfl, by rw [HT.out]; exact HX3.out, HB3.out⟩
  · have hd0 : decide (0 ≤ cpIx cp nm num) = false := decide_eq_false h0
    rw [hd0]
    have HOK : Hid (failOk cp nm num = false) := by show _ = _; unfold failOk; rw [hd0]; rfl
    have HC : Hid (r = 3) := by show _ = _; rw [HRE.out, HOK.out]; rfl
    have HT : Hid (failTo cp now nm num = cp) := by show _ = _; unfold failTo; rw [HOK.out]; rfl
    clear h0 hd0 hkk
    go_wp2
    go_ret
    exact ⟨by rw [HC.out]; rfl, by rw [HT.out]; exact HX1.out, HB1.out⟩

end Go.Proofs.YtclagbakddkjcaaGreat
