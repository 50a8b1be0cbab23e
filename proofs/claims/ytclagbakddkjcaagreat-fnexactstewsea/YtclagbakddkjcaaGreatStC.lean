/-
  Stewards: a copy that is ok, by the specification.
-/
import Derived.Test.YtclagbakddkjcaaGreatCls
import Derived.Test.YtclagbakddkjcaaGreatStB
namespace Go.Proofs.YtclagbakddkjcaaGreat
open Go.RowKit Go.Deep

theorem same_empty (s : ByteArray) : same s ByteArray.empty = s.toList.isEmpty := by
  have e : ByteArray.empty.toList = [] := by simp [ByteArray.toList, ByteArray.toList.loop]
  unfold same
  rw [e]
  cases s.toList <;> rfl

set_option maxHeartbeats 8000000 in
theorem l12CopyS (K : SBk) (a0 a1 a2 : Option Addr) (c0 c1 c2 : Nat) (c : Cp) (w : World) (h : SBkV w a0 a1 a2 K) (hN : ∀ i, i < K.svcs.length → 1 ≤ (K.svcs.getD i Sv.none).next ∧ (K.svcs.getD i Sv.none).next ≤ 1000000) :
    Calls Tryz.prog 42 #[.agg #[.int .i64 K.now, .slice a0 K.svcs.length c0, .slice a1 K.cps.length c1, .slice a2 K.bts.length c2], .agg #[.string c.svc, .int .i64 c.num, .int .i64 c.ver, .int .i64 c.image, .int .i64 c.state, .bool c.ending, .string c.berth]] w fun e w' => e = .returned (.bool (cpOk K c)) ∧ Below w.heap.size w w' := by
  have hl := h.s.len
  unfold maxLen at hl
  have HH : Hid (SBkV w a0 a1 a2 K) := h
  have HN := hid hN
  clear h hN
  obtain ⟨R, hR⟩ : ∃ R, R = cpOk K c := ⟨_, rfl⟩
  have HR := hid hR
  rw [← hR]
  clear hR
  obtain ⟨wa, hwa⟩ : ∃ wa, wa = (w.alloc (.cells #[.int .i64 K.now, .slice a0 K.svcs.length c0, .slice a1 K.cps.length c1, .slice a2 K.bts.length c2] 37)).alloc (.cells #[.string c.svc, .int .i64 c.num, .int .i64 c.ver, .int .i64 c.image, .int .i64 c.state, .bool c.ending, .string c.berth] 81) := ⟨_, rfl⟩
  have HB : Hid (Below w.heap.size w wa) := by show Below _ _ _; rw [hwa]; exact blw_alloc (blw_alloc (Below.refl _ _) _) _
  have HX : Hid (Box4 wa w.heap.size (.int .i64 K.now) (.slice a0 K.svcs.length c0) (.slice a1 K.cps.length c1) (.slice a2 K.bts.length c2)) := by show Box4 _ _ _ _ _ _; rw [hwa]; exact (Box4.new' w _ _ _ _ _ _ rfl).past _
  have HY : Hid (Box7 wa (w.heap.size + 1) (.string c.svc) (.int .i64 c.num) (.int .i64 c.ver) (.int .i64 c.image) (.int .i64 c.state) (.bool c.ending) (.string c.berth)) := by show Box7 _ _ _ _ _ _ _ _ _; rw [hwa]; exact Box7.new' _ _ _ _ _ _ _ _ _ _ (by simp)
  go_enter Tryz.func42, Tryz.ntmps42
  go_upto_region 1 with fail
  rw [← hwa]
  clear hwa
  obtain ⟨yz, y0, y1, y2, y3⟩ := HX.out
  obtain ⟨xz, x0, x1, x2, x3, x4, x5, x6⟩ := HY.out
  go_wp2_with fail
  refine (l12ServiceIx K a0 a1 a2 c0 c1 c2 c.svc wa (HH.out.later HB.out)).mono ?_
  rintro e w1 ⟨rfl, hb⟩
  have HB1 : Hid (Below w.heap.size w w1) := blw_trans HB.out hb
  have HX1 := hid (HX.out.later hb)
  have HY1 := hid (HY.out.later hb)
  clear yz y0 y1 y2 y3 xz x0 x1 x2 x3 x4 x5 x6 HX HY HB hb
  obtain ⟨yz, y0, y1, y2, y3⟩ := HX1.out
  obtain ⟨xz, x0, x1, x2, x3, x4, x5, x6⟩ := HY1.out
  rcases firstTo_cases (fun i => same (K.svcs.getD i Sv.none).nm c.svc) K.svcs.length with ⟨he, _⟩ | ⟨k, hk, he, _, _⟩
  · have he' : svIx K.svcs c.svc = -1 := he
    have HF : Hid (R = false) := by show R = false; rw [HR.out, cpOk, he']; rfl
    rw [he']
    clear he he' HR HN
    have hNE := pst_some w1
    go_wp2_with fail
    refine region_class w1 (Below.refl _ _) (by kernel_rfl) (by kernel_rfl) ?_
    repeat (first
      | go_big_quiet_skip
      | (go_big_quiet_want; go_big_quiet_op; first | go_big_quiet_on | (apply Exists.intro; refine ⟨fun px => ?_, ?_⟩; (focus (fail)); go_big_quiet_on)))
    refine wpQuiet_nil ?_
    intro _ hw'
    obtain ⟨x6, hw''⟩ := hw'
    subst hw''
    go_wp2
    go_ret
    exact ⟨Pl.ret_bool HF.out.symm, blw_trans HB1.out x6.ok⟩
  · have he' : svIx K.svcs c.svc = k := he
    obtain ⟨b, off, ha, hbl, hf⟩ := (HH.out.later HB1.out).s.at_ k hk
    subst ha
    have hn := HN.out k hk
    obtain ⟨m, hm⟩ : ∃ m, m = K.svcs.getD k Sv.none := ⟨_, rfl⟩
    rw [← hm] at hf hn
    have z7 := hf.c7
    obtain ⟨n1, n2⟩ := hn
    have HD : Hid (R = (inB c.num 1 (m.next - 1) && inB c.ver 1 K.now && inB c.image 1 1000000 && inB c.state 1 4 && (if c.state = 1 then same c.berth ByteArray.empty else decide (0 ≤ btIx K.bts c.berth)))) := by
      show R = _
      rw [HR.out, cpOk, he', show svGet K.svcs (k : Int) = m by rw [hm]; rfl]
      simp
    have HZ : Hid (∀ W, Calls Tryz.prog 18 #[.int .i64 c.num, .int .i64 1, .int .i64 (m.next - 1)] W fun e w' => e = .returned (.bool (inB c.num 1 (m.next - 1))) ∧ W = w') := fun W => l12InS _ _ _ W
    rw [he']
    clear he he' HR HN hm hf
    have hm0 : (0 : Int) ≤ (k : Int) := by omega
    have hm3 : (k : Int) < (K.svcs.length : Int) := by omega
    have hm4 : ¬ (k : Int) < 0 := by omega
    have hm5 : decide ((k : Int) < 0) = false := decide_eq_false hm4
    have hNE := pst_some w1
    have hyz : ∀ px : Pst w1, w.heap.size < px.W.heap.size := fun px => px.size yz
    have hxz : ∀ px : Pst w1, w.heap.size + 1 < px.W.heap.size := fun px => px.size xz
    have hbz : ∀ px : Pst w1, b < px.W.heap.size := fun px => px.size hbl
    have Y0 : ∀ px : Pst w1, px.W.cell? ⟨w.heap.size, 0, none⟩ = some (.int .i64 K.now) := fun px => px.cell y0 yz
    have Y1 : ∀ px : Pst w1, px.W.cell? ⟨w.heap.size, 1, none⟩ = some (.slice (some ⟨b, off, none⟩) K.svcs.length c0) := fun px => px.cell y1 yz
    have X1 : ∀ px : Pst w1, px.W.cell? ⟨w.heap.size + 1, 1, none⟩ = some (.int .i64 c.num) := fun px => px.cell x1 xz
    have X2 : ∀ px : Pst w1, px.W.cell? ⟨w.heap.size + 1, 2, none⟩ = some (.int .i64 c.ver) := fun px => px.cell x2 xz
    have X3 : ∀ px : Pst w1, px.W.cell? ⟨w.heap.size + 1, 3, none⟩ = some (.int .i64 c.image) := fun px => px.cell x3 xz
    have X4 : ∀ px : Pst w1, px.W.cell? ⟨w.heap.size + 1, 4, none⟩ = some (.int .i64 c.state) := fun px => px.cell x4 xz
    have X6 : ∀ px : Pst w1, px.W.cell? ⟨w.heap.size + 1, 6, none⟩ = some (.string c.berth) := fun px => px.cell x6 xz
    have Z7 : ∀ px : Pst w1, px.W.cell? ⟨b, off + k * 13 + 7, none⟩ = some (.int .i64 m.next) := fun px => px.cell z7 hbl
    clear y0 y1 y2 y3 x0 x1 x2 x3 x4 x5 x6 z7 yz xz hbl
    cases h0 : inB c.num 1 (m.next - 1)
    · have HF : Hid (R = false) := by show R = false; rw [HD.out]; simp [h0]
      clear HD
      go_wp2_with fail
      refine region_class w1 (Below.refl _ _) (by kernel_rfl) (by kernel_rfl) ?_
      repeat (first
        | go_big_quiet_skip
        | (go_big_quiet_want; go_big_quiet_op; first | go_big_quiet_on | (apply Exists.intro; refine ⟨fun px => ?_, ?_⟩; (focus ((go_at_call 18; refine (l12InS _ _ _ _).mono ?_; rintro e w' ⟨he, hb⟩; exact ⟨he, px, hb.symm⟩))); go_big_quiet_on)))
      refine wpQuiet_nil ?_
      intro _ hw'
      obtain ⟨x6, hw''⟩ := hw'
      subst hw''
      go_wp2
      go_ret
      exact ⟨Pl.ret_bool HF.out.symm, blw_trans HB1.out x6.ok⟩
    cases h1 : inB c.ver 1 K.now
    · have HF : Hid (R = false) := by show R = false; rw [HD.out]; simp [h0, h1]
      clear HD
      go_wp2_with fail
      refine region_class w1 (Below.refl _ _) (by kernel_rfl) (by kernel_rfl) ?_
      repeat (first
        | go_big_quiet_skip
        | (go_big_quiet_want; go_big_quiet_op; first | go_big_quiet_on | (apply Exists.intro; refine ⟨fun px => ?_, ?_⟩; (focus ((go_at_call 18; refine (l12InS _ _ _ _).mono ?_; rintro e w' ⟨he, hb⟩; exact ⟨he, px, hb.symm⟩))); go_big_quiet_on)))
      refine wpQuiet_nil ?_
      intro _ hw'
      obtain ⟨x6, hw''⟩ := hw'
      subst hw''
      go_wp2
      go_ret
      exact ⟨Pl.ret_bool HF.out.symm, blw_trans HB1.out x6.ok⟩
    cases h2 : inB c.image 1 1000000
    · have HF : Hid (R = false) := by show R = false; rw [HD.out]; simp [h0, h1, h2]
      clear HD
      go_wp2_with fail
      refine region_class w1 (Below.refl _ _) (by kernel_rfl) (by kernel_rfl) ?_
      repeat (first
        | go_big_quiet_skip
        | (go_big_quiet_want; go_big_quiet_op; first | go_big_quiet_on | (apply Exists.intro; refine ⟨fun px => ?_, ?_⟩; (focus ((go_at_call 18; refine (l12InS _ _ _ _).mono ?_; rintro e w' ⟨he, hb⟩; exact ⟨he, px, hb.symm⟩))); go_big_quiet_on)))
      refine wpQuiet_nil ?_
      intro _ hw'
      obtain ⟨x6, hw''⟩ := hw'
      subst hw''
      go_wp2
      go_ret
      exact ⟨Pl.ret_bool HF.out.symm, blw_trans HB1.out x6.ok⟩
    cases h3 : inB c.state 1 4
    · have HF : Hid (R = false) := by show R = false; rw [HD.out]; simp [h0, h1, h2, h3]
      clear HD
      go_wp2_with fail
      refine region_class w1 (Below.refl _ _) (by kernel_rfl) (by kernel_rfl) ?_
      repeat (first
        | go_big_quiet_skip
        | (go_big_quiet_want; go_big_quiet_op; first | go_big_quiet_on | (apply Exists.intro; refine ⟨fun px => ?_, ?_⟩; (focus ((go_at_call 18; refine (l12InS _ _ _ _).mono ?_; rintro e w' ⟨he, hb⟩; exact ⟨he, px, hb.symm⟩))); go_big_quiet_on)))
      refine wpQuiet_nil ?_
      intro _ hw'
      obtain ⟨x6, hw''⟩ := hw'
      subst hw''
      go_wp2
      go_ret
      exact ⟨Pl.ret_bool HF.out.symm, blw_trans HB1.out x6.ok⟩
    have HF : Hid (R = (if c.state = 1 then same c.berth ByteArray.empty else decide (0 ≤ btIx K.bts c.berth))) := by show R = _; rw [HD.out]; simp [h0, h1, h2, h3]
    clear HD
    by_cases hst : c.state = 1
    · have HG : Hid (R = c.berth.toList.isEmpty) := by show R = _; rw [HF.out, if_pos hst]; exact same_empty _
      clear HF
      go_wp2_with fail
      refine region_class w1 (Below.refl _ _) (by kernel_rfl) (by kernel_rfl) ?_
      repeat (first
        | go_big_quiet_skip
        | (go_big_quiet_want; go_big_quiet_op; first | go_big_quiet_on | (apply Exists.intro; refine ⟨fun px => ?_, ?_⟩; (focus ((go_at_call 18; refine (l12InS _ _ _ _).mono ?_; rintro e w' ⟨he, hb⟩; exact ⟨he, px, hb.symm⟩))); go_big_quiet_on)))
      refine wpQuiet_nil ?_
      intro _ hw'
      obtain ⟨x6, hw''⟩ := hw'
      subst hw''
      have X4' := X4 x6
      have X6' := X6 x6
      have xz' := hxz x6
      clear X1 X2 X3 X4 X6 Y0 Y1 Z7 hyz hxz hbz
      go_wp2
      go_ret
      exact ⟨Pl.ret_bool HG.out.symm, blw_trans HB1.out x6.ok⟩
    · have HG : Hid (R = decide (0 ≤ btIx K.bts c.berth)) := by show R = _; rw [HF.out, if_neg hst]
      clear HF
      have HV : Hid (∀ x : Pst w1, SBkV x.W (some ⟨b, off, none⟩) a1 a2 K) := fun x => HH.out.later (blw_trans HB1.out x.ok)
      have HX2 : Hid (∀ x : Pst w1, Box4 x.W w.heap.size (.int .i64 K.now) (.slice (some ⟨b, off, none⟩) K.svcs.length c0) (.slice a1 K.cps.length c1) (.slice a2 K.bts.length c2)) := fun x => HX1.out.later x.ok
      go_wp2_with fail
      refine region_class w1 (Below.refl _ _) (by kernel_rfl) (by kernel_rfl) ?_
      repeat (first
        | go_big_quiet_skip
        | (go_big_quiet_want; go_big_quiet_op; first | go_big_quiet_on | (apply Exists.intro; refine ⟨fun px => ?_, ?_⟩; (focus ((go_at_call 18; refine (l12InS _ _ _ _).mono ?_; rintro e w' ⟨he, hb⟩; exact ⟨he, px, hb.symm⟩))); go_big_quiet_on)))
      refine wpQuiet_nil ?_
      intro _ hw'
      obtain ⟨x6, hw''⟩ := hw'
      subst hw''
      have X4' := X4 x6
      have X6' := X6 x6
      have xz' := hxz x6
      obtain ⟨yz', y0', y1', y2', y3'⟩ := HX2.out x6
      clear X1 X2 X3 X4 X6 Y0 Y1 Z7 hyz hxz hbz
      go_wp2_with fail
      refine (l12BerthIx K (some ⟨b, off, none⟩) a1 a2 c0 c1 c2 c.berth x6.W (HV.out x6)).mono ?_
      rintro e w2 ⟨rfl, hb2⟩
      go_wp2
      go_ret
      exact ⟨Pl.ret_bool HG.out.symm, blw_trans (blw_trans HB1.out x6.ok) hb2⟩

end Go.Proofs.YtclagbakddkjcaaGreat
