/-
  Worlds of the hall that are alike.
-/
import Derived.Test.YtfkkohfjkofgnaaGreatKShw
import Derived.Test.YtfkkohfjkofgnaaGreatKEc
import Derived.Test.YtfkkohfjkofgnaaGreatHNSh
import Derived.Test.YtfkkohfjkofgnaaGreatHEq
namespace Go.Proofs.YtfkkohfjkofgnaaGreat
open Go.RowKit Go.Deep

set_option maxRecDepth 8000 in
set_option maxHeartbeats 8000000 in
theorem eqRecFix (ds : List Dt) (cs cs' : List Value) (w : World) (h : Raw w shRecFix ds cs) (h' : Raw w shRecFix ds cs') :
    Calls Tryz.prog 81 #[.agg cs.toArray, .agg cs'.toArray] w fun e w' => e = .returned (.bool true) ∧ Below w.heap.size w w' := by
  obtain ⟨a0, a1, rfl⟩ := segTypRecFix h.typ
  obtain ⟨cp0, hcp0⟩ : ∃ x, x = cs := ⟨_, rfl⟩
  obtain ⟨xp0, hxp0, hp1⟩ := h.c_i
  obtain ⟨xp1, hxp1, hp2⟩ := hp1.c_s
  have hxpn := hp2.c_n
  have Hp : Hid (cs = .int .i64 a0 :: .string a1 :: []) := by show _ = _; rw [hxp0, hxp1, hxpn]
  clear hxp0 hxp1 hxpn
  obtain ⟨cq0, hcq0⟩ : ∃ x, x = cs' := ⟨_, rfl⟩
  obtain ⟨xq0, hxq0, hq1⟩ := h'.c_i
  obtain ⟨xq1, hxq1, hq2⟩ := hq1.c_s
  have hxqn := hq2.c_n
  have Hq : Hid (cs' = .int .i64 a0 :: .string a1 :: []) := by show _ = _; rw [hxq0, hxq1, hxqn]
  clear hxq0 hxq1 hxqn
  obtain ⟨wa, hwa⟩ : ∃ wa, wa = (w.alloc (.cells cs.toArray 123)).alloc (.cells cs'.toArray 123) := ⟨_, rfl⟩
  have HB : Hid (Below w.heap.size w wa) := by show Below _ _ _; rw [hwa]; exact blw_alloc (blw_alloc (Below.refl _ _) _) _
  have HX : Hid (LBox wa w.heap.size cs) := by show LBox _ _ _; rw [hwa]; exact (LBox.new w cs.toArray _ _ rfl).past _
  have HY : Hid (LBox wa (w.heap.size + 1) cs') := by show LBox _ _ _; rw [hwa]; exact LBox.new _ cs'.toArray _ _ (by simp)
  clear h h' hp1 hq1 hp2 hq2 hcp0 hcq0 cp0 cq0
  go_enter Tryz.func81, Tryz.ntmps81
  go_upto_region 1 with fail
  rw [← hwa]
  clear hwa
  have yz := HX.out.lt
  have xz := HY.out.lt
  have bp := boxRecFix  (by have := HX.out.at_; rw [Hp.out] at this; exact this)
  have bq := boxRecFix  (by have := HY.out.at_; rw [Hq.out] at this; exact this)
  obtain ⟨gp0, gp1⟩ := bp
  obtain ⟨gq0, gq1⟩ := bq
  go_wp2
  go_ret
  exact ⟨rfl, HB.out⟩
set_option maxRecDepth 8000 in
set_option maxHeartbeats 8000000 in
theorem eqRecFixS (n : Nat) (es : List Dt) (v v' : Value) (w : World) (h : Raw w [.row 123 shRecFix] [.row n es] [v]) (h' : Raw w [.row 123 shRecFix] [.row n es] [v']) :
    Calls Tryz.prog 54 #[v, v'] w fun e w' => e = .returned (.bool true) ∧ Below w.heap.size w w' := by
  by_cases h0 : n = 0
  · subst h0
    obtain ⟨a, c, rfl⟩ := h.len0
    obtain ⟨a', c', rfl⟩ := h'.len0
    go_enter Tryz.func54, Tryz.ntmps54
    go_wp2
    refine wp_loop_rounds 1 ?_
    rw [rounds_succ]
    go_wp2
    go_ret
    exact ⟨rfl, Below.refl _ _⟩
  rcases h.slice with ⟨e0, _⟩ | ⟨p, o, c, rfl, hp, hn, vs, hr, hR⟩
  · exact absurd e0 h0
  rcases h'.slice with ⟨e0, _⟩ | ⟨p', o', c', rfl, hp', _, vs', hr', hR'⟩
  · exact absurd e0 h0
  have HR := uh (And.intro hR (And.intro hr hp))
  have HR' := uh (And.intro hR' (And.intro hr' hp'))
  have hn1 : n ≤ 9223372036854775807 := hn.1
  clear h h' hr hR hp hr' hR' hp' hn
  go_enter Tryz.func54, Tryz.ntmps54
  go_wp2
  go_loopw [5] (fun i wr => ∃ q : Nat, q ≤ n ∧ i = .int .i64 q ∧ Below w.heap.size w wr) (fun i _ => n - (intOf i).toNat)
  case atStart => exact ⟨0, Nat.zero_le _, rfl, Below.refl _ _⟩
  case round =>
    obtain ⟨q, hq, rfl, hW⟩ := hrel
    have HB := uh hW
    clear hW
    by_cases hlt : q < n
    · obtain ⟨ve, hE, hg⟩ := (HR.out.1.later HB.out).el hlt (rA_later HR.out.2.1 HR.out.2.2 HB.out)
      obtain ⟨ve', hE', hg'⟩ := (HR'.out.1.later HB.out).el hlt (rA_later HR'.out.2.1 HR'.out.2.2 HB.out)
      have hbp : p < wr.heap.size := Nat.lt_of_lt_of_le HR.out.2.2 HB.out.size
      have hbq : p' < wr.heap.size := Nat.lt_of_lt_of_le HR'.out.2.2 HB.out.size
      have hm0 : (0 : Int) ≤ (q : Int) := by omega
      have hm3 : (q : Int) < (n : Int) := by omega
      have hNE := upst_some wr
      have z1 : ∀ px : UPst wr, p < px.W.heap.size := fun px => px.size hbp
      have z2 : ∀ px : UPst wr, p' < px.W.heap.size := fun px => px.size hbq
      have H1 := uh (And.intro hE.len (And.intro (show wr.rangeAt p (o + q * 2) ve from hg) hbp))
      have H2 := uh (And.intro hE'.len (And.intro (show wr.rangeAt p' (o' + q * 2) ve' from hg') hbq))
      have HX : Hid (∀ px : UPst wr, Calls Tryz.prog 81 #[.agg ve.toArray, .agg ve'.toArray] px.W fun e w' => e = .returned (.bool true) ∧ Below px.W.heap.size px.W w') := fun px => eqRecFix _ ve ve' px.W (hE.later px.ok) (hE'.later px.ok)
      clear hE hE' hg hg' hbp hbq HR HR'
      go_upto_region 6 with fail
      refine uregion wr (Below.refl _ _) (by kernel_rfl) (by kernel_rfl) ?_
      repeat (first
        | go_big_quiet_skip
        | (go_big_quiet_want; (first | refine uq_load 123 _ rfl p (o + q * 2) rfl ve _ H1.out.2.1 H1.out.2.2 Tryz.underlying123 rfl (by rw [H1.out.1]; kernel_rfl) ?_ | refine uq_load 123 _ rfl p' (o' + q * 2) rfl ve' _ H2.out.2.1 H2.out.2.2 Tryz.underlying123 rfl (by rw [H2.out.1]; kernel_rfl) ?_); (simp only [Act.put, List.setIfInBounds_toArray, List.set_cons_zero, List.set_cons_succ]); go_big_quiet_on)
        | (go_big_quiet_want; go_big_quiet_op; first | go_big_quiet_on | (apply Exists.intro; refine ⟨fun px => ?_, ?_⟩; (focus ((go_at_call 81; refine (HX.out px).mono ?_; rintro e w' ⟨he, hb⟩; exact ⟨he, ⟨w', blw_trans px.ok hb⟩, rfl⟩))); go_big_quiet_on)))
      refine wpQuiet_nil ?_
      intro _ hw'
      obtain ⟨z, hw''⟩ := hw'
      subst hw''
      replace HB := uh (blw_trans HB.out z.ok)
      go_wp2
      go_roundw
      case rel => exact ⟨q + 1, by omega, by go_num, HB.out⟩
      case measure => simp [intOf]; omega
    · go_wp2
      go_ret
      exact ⟨rfl, HB.out⟩
set_option maxRecDepth 8000 in
set_option maxHeartbeats 8000000 in
theorem eqRecorderS (n : Nat) (es : List Dt) (v v' : Value) (w : World) (h : Raw w [.row 84 shRecorder] [.row n es] [v]) (h' : Raw w [.row 84 shRecorder] [.row n es] [v']) :
    Calls Tryz.prog 52 #[v, v'] w fun e w' => e = .returned (.bool true) ∧ Below w.heap.size w w' := by
  by_cases h0 : n = 0
  · subst h0
    obtain ⟨a, c, rfl⟩ := h.len0
    obtain ⟨a', c', rfl⟩ := h'.len0
    go_enter Tryz.func52, Tryz.ntmps52
    go_wp2
    refine wp_loop_rounds 1 ?_
    rw [rounds_succ]
    go_wp2
    go_ret
    exact ⟨rfl, Below.refl _ _⟩
  rcases h.slice with ⟨e0, _⟩ | ⟨p, o, c, rfl, hp, hn, vs, hr, hR⟩
  · exact absurd e0 h0
  rcases h'.slice with ⟨e0, _⟩ | ⟨p', o', c', rfl, hp', _, vs', hr', hR'⟩
  · exact absurd e0 h0
  have HR := uh (And.intro hR (And.intro hr hp))
  have HR' := uh (And.intro hR' (And.intro hr' hp'))
  have hn1 : n ≤ 9223372036854775807 := hn.1
  clear h h' hr hR hp hr' hR' hp' hn
  go_enter Tryz.func52, Tryz.ntmps52
  go_wp2
  go_loopw [5] (fun i wr => ∃ q : Nat, q ≤ n ∧ i = .int .i64 q ∧ Below w.heap.size w wr) (fun i _ => n - (intOf i).toNat)
  case atStart => exact ⟨0, Nat.zero_le _, rfl, Below.refl _ _⟩
  case round =>
    obtain ⟨q, hq, rfl, hW⟩ := hrel
    have HB := uh hW
    clear hW
    by_cases hlt : q < n
    · obtain ⟨ve, hE, hg⟩ := (HR.out.1.later HB.out).el hlt (rA_later HR.out.2.1 HR.out.2.2 HB.out)
      obtain ⟨ve', hE', hg'⟩ := (HR'.out.1.later HB.out).el hlt (rA_later HR'.out.2.1 HR'.out.2.2 HB.out)
      have hbp : p < wr.heap.size := Nat.lt_of_lt_of_le HR.out.2.2 HB.out.size
      have hbq : p' < wr.heap.size := Nat.lt_of_lt_of_le HR'.out.2.2 HB.out.size
      have hm0 : (0 : Int) ≤ (q : Int) := by omega
      have hm3 : (q : Int) < (n : Int) := by omega
      have hNE := upst_some wr
      have z1 : ∀ px : UPst wr, p < px.W.heap.size := fun px => px.size hbp
      have z2 : ∀ px : UPst wr, p' < px.W.heap.size := fun px => px.size hbq
      have H1 := uh (And.intro hE.len (And.intro (show wr.rangeAt p (o + q * 18) ve from hg) hbp))
      have H2 := uh (And.intro hE'.len (And.intro (show wr.rangeAt p' (o' + q * 18) ve' from hg') hbq))
      have HX : Hid (∀ px : UPst wr, Calls Tryz.prog 79 #[.agg ve.toArray, .agg ve'.toArray] px.W fun e w' => e = .returned (.bool true) ∧ Below px.W.heap.size px.W w') := fun px => eqRecorder _ ve ve' px.W (hE.later px.ok) (hE'.later px.ok)
      clear hE hE' hg hg' hbp hbq HR HR'
      go_upto_region 6 with fail
      refine uregion wr (Below.refl _ _) (by kernel_rfl) (by kernel_rfl) ?_
      repeat (first
        | go_big_quiet_skip
        | (go_big_quiet_want; (first | refine uq_load 84 _ rfl p (o + q * 18) rfl ve _ H1.out.2.1 H1.out.2.2 Tryz.underlying84 rfl (by rw [H1.out.1]; kernel_rfl) ?_ | refine uq_load 84 _ rfl p' (o' + q * 18) rfl ve' _ H2.out.2.1 H2.out.2.2 Tryz.underlying84 rfl (by rw [H2.out.1]; kernel_rfl) ?_); (simp only [Act.put, List.setIfInBounds_toArray, List.set_cons_zero, List.set_cons_succ]); go_big_quiet_on)
        | (go_big_quiet_want; go_big_quiet_op; first | go_big_quiet_on | (apply Exists.intro; refine ⟨fun px => ?_, ?_⟩; (focus ((go_at_call 79; refine (HX.out px).mono ?_; rintro e w' ⟨he, hb⟩; exact ⟨he, ⟨w', blw_trans px.ok hb⟩, rfl⟩))); go_big_quiet_on)))
      refine wpQuiet_nil ?_
      intro _ hw'
      obtain ⟨z, hw''⟩ := hw'
      subst hw''
      replace HB := uh (blw_trans HB.out z.ok)
      go_wp2
      go_roundw
      case rel => exact ⟨q + 1, by omega, by go_num, HB.out⟩
      case measure => simp [intOf]; omega
    · go_wp2
      go_ret
      exact ⟨rfl, HB.out⟩
set_option maxRecDepth 8000 in
set_option maxHeartbeats 8000000 in
theorem eqRecWorld (ds : List Dt) (cs cs' : List Value) (w : World) (h : Raw w shRecWorld ds cs) (h' : Raw w shRecWorld ds cs') :
    Calls Tryz.prog 24 #[.agg cs.toArray, .agg cs'.toArray] w fun e w' => e = .returned (.bool true) ∧ Below w.heap.size w w' := by
  obtain ⟨n0, e0, n1, e1, n2, e2, rfl, t0, t1, t2⟩ := segTypRecWorld h.typ
  obtain ⟨cp0, hcp0⟩ : ∃ x, x = cs := ⟨_, rfl⟩
  obtain ⟨vp0, xp0, hxp0, rp0, hp1⟩ := h.c_r
  obtain ⟨vp1, xp1, hxp1, rp1, hp2⟩ := hp1.c_r
  obtain ⟨vp2, xp2, hxp2, rp2, hp3⟩ := hp2.c_r
  have hxpn := hp3.c_n
  have Hp : Hid (cs = vp0 :: vp1 :: vp2 :: []) := by show _ = _; rw [hxp0, hxp1, hxp2, hxpn]
  clear hxp0 hxp1 hxp2 hxpn
  obtain ⟨cq0, hcq0⟩ : ∃ x, x = cs' := ⟨_, rfl⟩
  obtain ⟨vq0, xq0, hxq0, rq0, hq1⟩ := h'.c_r
  obtain ⟨vq1, xq1, hxq1, rq1, hq2⟩ := hq1.c_r
  obtain ⟨vq2, xq2, hxq2, rq2, hq3⟩ := hq2.c_r
  have hxqn := hq3.c_n
  have Hq : Hid (cs' = vq0 :: vq1 :: vq2 :: []) := by show _ = _; rw [hxq0, hxq1, hxq2, hxqn]
  clear hxq0 hxq1 hxq2 hxqn
  obtain ⟨wa, hwa⟩ : ∃ wa, wa = (w.alloc (.cells cs.toArray 35)).alloc (.cells cs'.toArray 35) := ⟨_, rfl⟩
  have HB : Hid (Below w.heap.size w wa) := by show Below _ _ _; rw [hwa]; exact blw_alloc (blw_alloc (Below.refl _ _) _) _
  have HX : Hid (LBox wa w.heap.size cs) := by show LBox _ _ _; rw [hwa]; exact (LBox.new w cs.toArray _ _ rfl).past _
  have HY : Hid (LBox wa (w.heap.size + 1) cs') := by show LBox _ _ _; rw [hwa]; exact LBox.new _ cs'.toArray _ _ (by simp)
  have Rp0 := uh (rp0.later HB.out)
  have Rq0 := uh (rq0.later HB.out)
  have Rp1 := uh (rp1.later HB.out)
  have Rq1 := uh (rq1.later HB.out)
  have Rp2 := uh (rp2.later HB.out)
  have Rq2 := uh (rq2.later HB.out)
  clear h h' rp0 rq0 rp1 rq1 rp2 rq2 hp1 hq1 hp2 hq2 hp3 hq3 hcp0 hcq0 cp0 cq0
  go_enter Tryz.func24, Tryz.ntmps24
  go_upto_region 1 with fail
  rw [← hwa]
  clear hwa
  have yz := HX.out.lt
  have xz := HY.out.lt
  have bp := boxRecWorld  (by have := HX.out.at_; rw [Hp.out] at this; exact this)
  have bq := boxRecWorld  (by have := HY.out.at_; rw [Hq.out] at this; exact this)
  obtain ⟨gp0, gp1, gp2⟩ := bp
  obtain ⟨gq0, gq1, gq2⟩ := bq
  obtain ⟨vap0, vcp0, hva⟩ := Rp0.out.len0
  subst hva
  obtain ⟨vaq0, vcq0, hva⟩ := Rq0.out.len0
  subst hva
  go_wp2_with fail
  refine (eqRecorderS n0 e0 _ _ wa Rp0.out Rq0.out).mono ?_
  rintro e x0 ⟨rfl, hb0⟩
  replace HB := uh (blw_trans HB.out hb0)
  replace HX := uh (HX.out.later hb0)
  replace HY := uh (HY.out.later hb0)
  replace Rp1 := uh (Rp1.out.later hb0)
  replace Rq1 := uh (Rq1.out.later hb0)
  replace Rp2 := uh (Rp2.out.later hb0)
  replace Rq2 := uh (Rq2.out.later hb0)
  clear hb0 yz xz gp0 gq0 gp1 gq1 gp2 gq2
  have yz := HX.out.lt
  have xz := HY.out.lt
  have bp := boxRecWorld  (by have := HX.out.at_; rw [Hp.out] at this; exact this)
  have bq := boxRecWorld  (by have := HY.out.at_; rw [Hq.out] at this; exact this)
  obtain ⟨gp0, gp1, gp2⟩ := bp
  obtain ⟨gq0, gq1, gq2⟩ := bq
  obtain ⟨vap1, vcp1, hva⟩ := Rp1.out.len0
  subst hva
  obtain ⟨vaq1, vcq1, hva⟩ := Rq1.out.len0
  subst hva
  go_wp2_with fail
  refine (eqRecMessageS n1 e1 _ _ x0 Rp1.out Rq1.out).mono ?_
  rintro e x1 ⟨rfl, hb1⟩
  replace HB := uh (blw_trans HB.out hb1)
  replace HX := uh (HX.out.later hb1)
  replace HY := uh (HY.out.later hb1)
  replace Rp2 := uh (Rp2.out.later hb1)
  replace Rq2 := uh (Rq2.out.later hb1)
  clear hb1 yz xz gp0 gq0 gp1 gq1 gp2 gq2
  have yz := HX.out.lt
  have xz := HY.out.lt
  have bp := boxRecWorld  (by have := HX.out.at_; rw [Hp.out] at this; exact this)
  have bq := boxRecWorld  (by have := HY.out.at_; rw [Hq.out] at this; exact this)
  obtain ⟨gp0, gp1, gp2⟩ := bp
  obtain ⟨gq0, gq1, gq2⟩ := bq
  obtain ⟨vap2, vcp2, hva⟩ := Rp2.out.len0
  subst hva
  obtain ⟨vaq2, vcq2, hva⟩ := Rq2.out.len0
  subst hva
  go_wp2_with fail
  refine (eqRecFixS n2 e2 _ _ x1 Rp2.out Rq2.out).mono ?_
  rintro e x2 ⟨rfl, hb2⟩
  replace HB := uh (blw_trans HB.out hb2)
  replace HX := uh (HX.out.later hb2)
  replace HY := uh (HY.out.later hb2)
  clear hb2 yz xz gp0 gq0 gp1 gq1 gp2 gq2
  have yz := HX.out.lt
  have xz := HY.out.lt
  have bp := boxRecWorld  (by have := HX.out.at_; rw [Hp.out] at this; exact this)
  have bq := boxRecWorld  (by have := HY.out.at_; rw [Hq.out] at this; exact this)
  obtain ⟨gp0, gp1, gp2⟩ := bp
  obtain ⟨gq0, gq1, gq2⟩ := bq
  go_wp2
  go_ret
  exact ⟨rfl, HB.out⟩
end Go.Proofs.YtfkkohfjkofgnaaGreat

namespace Go.Proofs.YtfkkohfjkofgnaaGreat
open Go.RowKit Go.Deep

set_option maxRecDepth 8000 in
set_option maxHeartbeats 8000000 in
theorem eqGateSaid (ds : List Dt) (cs cs' : List Value) (w : World) (h : Raw w shGateSaid ds cs) (h' : Raw w shGateSaid ds cs') :
    Calls Tryz.prog 82 #[.agg cs.toArray, .agg cs'.toArray] w fun e w' => e = .returned (.bool true) ∧ Below w.heap.size w w' := by
  obtain ⟨a0, a1, a2, rfl⟩ := segTypGateSaid h.typ
  obtain ⟨zpp, hzpp⟩ : ∃ x, x = cs := ⟨_, rfl⟩
  obtain ⟨xp0, hxp0, hp1⟩ := h.c_i
  obtain ⟨xp1, hxp1, hp2⟩ := hp1.c_i
  obtain ⟨xp2, hxp2, hp3⟩ := hp2.c_i
  have hxpn := hp3.c_n
  have Hp : Hid (cs = .int .i64 a0 :: .int .i64 a1 :: .int .i64 a2 :: []) := by show _ = _; rw [hxp0, hxp1, hxp2, hxpn]
  clear hxp0 hxp1 hxp2 hxpn
  obtain ⟨zqq, hzqq⟩ : ∃ x, x = cs' := ⟨_, rfl⟩
  obtain ⟨xq0, hxq0, hq1⟩ := h'.c_i
  obtain ⟨xq1, hxq1, hq2⟩ := hq1.c_i
  obtain ⟨xq2, hxq2, hq3⟩ := hq2.c_i
  have hxqn := hq3.c_n
  have Hq : Hid (cs' = .int .i64 a0 :: .int .i64 a1 :: .int .i64 a2 :: []) := by show _ = _; rw [hxq0, hxq1, hxq2, hxqn]
  clear hxq0 hxq1 hxq2 hxqn
  obtain ⟨wa, hwa⟩ : ∃ wa, wa = (w.alloc (.cells cs.toArray 96)).alloc (.cells cs'.toArray 96) := ⟨_, rfl⟩
  have HB : Hid (Below w.heap.size w wa) := by show Below _ _ _; rw [hwa]; exact blw_alloc (blw_alloc (Below.refl _ _) _) _
  have HX : Hid (LBox wa w.heap.size cs) := by show LBox _ _ _; rw [hwa]; exact (LBox.new w cs.toArray _ _ rfl).past _
  have HY : Hid (LBox wa (w.heap.size + 1) cs') := by show LBox _ _ _; rw [hwa]; exact LBox.new _ cs'.toArray _ _ (by simp)
  clear h h' hp1 hq1 hp2 hq2 hp3 hq3 hzpp hzqq zpp zqq
  go_enter Tryz.func82, Tryz.ntmps82
  go_upto_region 1 with fail
  rw [← hwa]
  clear hwa
  have yz := HX.out.lt
  have xz := HY.out.lt
  have bp := boxGateSaid  (by have := HX.out.at_; rw [Hp.out] at this; exact this)
  have bq := boxGateSaid  (by have := HY.out.at_; rw [Hq.out] at this; exact this)
  obtain ⟨gp0, gp1, gp2⟩ := bp
  obtain ⟨gq0, gq1, gq2⟩ := bq
  go_wp2
  go_ret
  exact ⟨rfl, HB.out⟩
set_option maxRecDepth 8000 in
set_option maxHeartbeats 8000000 in
theorem eqHallAsked (ds : List Dt) (cs cs' : List Value) (w : World) (h : Raw w shHallAsked ds cs) (h' : Raw w shHallAsked ds cs') :
    Calls Tryz.prog 55 #[.agg cs.toArray, .agg cs'.toArray] w fun e w' => e = .returned (.bool true) ∧ Below w.heap.size w w' := by
  obtain ⟨a0, a1, a2, d3, rfl, t3⟩ := segTypHallAsked h.typ
  obtain ⟨zpp, hzpp⟩ : ∃ x, x = cs := ⟨_, rfl⟩
  obtain ⟨xp0, hxp0, hp1⟩ := h.c_s
  obtain ⟨xp1, hxp1, hp2⟩ := hp1.c_i
  obtain ⟨xp2, hxp2, hp3⟩ := hp2.c_i
  obtain ⟨cp3, xp3, hxp3, rp3, hp4⟩ := Raw.cut2 hp3 t3
  have hxpn := hp4.c_n
  have Hp : Hid (cs = .string a0 :: .int .i64 a1 :: .int .i64 a2 :: (cp3 ++ ([]))) := by show _ = _; rw [hxp0, hxp1, hxp2, hxp3, hxpn]
  clear hxp0 hxp1 hxp2 hxp3 hxpn
  have Lp3 : Hid (cp3.length = 3) := rp3.len
  obtain ⟨zqq, hzqq⟩ : ∃ x, x = cs' := ⟨_, rfl⟩
  obtain ⟨xq0, hxq0, hq1⟩ := h'.c_s
  obtain ⟨xq1, hxq1, hq2⟩ := hq1.c_i
  obtain ⟨xq2, hxq2, hq3⟩ := hq2.c_i
  obtain ⟨cq3, xq3, hxq3, rq3, hq4⟩ := Raw.cut2 hq3 t3
  have hxqn := hq4.c_n
  have Hq : Hid (cs' = .string a0 :: .int .i64 a1 :: .int .i64 a2 :: (cq3 ++ ([]))) := by show _ = _; rw [hxq0, hxq1, hxq2, hxq3, hxqn]
  clear hxq0 hxq1 hxq2 hxq3 hxqn
  have Lq3 : Hid (cq3.length = 3) := rq3.len
  obtain ⟨wa, hwa⟩ : ∃ wa, wa = (w.alloc (.cells cs.toArray 98)).alloc (.cells cs'.toArray 98) := ⟨_, rfl⟩
  have HB : Hid (Below w.heap.size w wa) := by show Below _ _ _; rw [hwa]; exact blw_alloc (blw_alloc (Below.refl _ _) _) _
  have HX : Hid (LBox wa w.heap.size cs) := by show LBox _ _ _; rw [hwa]; exact (LBox.new w cs.toArray _ _ rfl).past _
  have HY : Hid (LBox wa (w.heap.size + 1) cs') := by show LBox _ _ _; rw [hwa]; exact LBox.new _ cs'.toArray _ _ (by simp)
  have Rp3 := uh (rp3.later HB.out)
  have Rq3 := uh (rq3.later HB.out)
  clear h h' rp3 rq3 hp1 hq1 hp2 hq2 hp3 hq3 hp4 hq4 hzpp hzqq zpp zqq
  go_enter Tryz.func55, Tryz.ntmps55
  go_upto_region 1 with fail
  rw [← hwa]
  clear hwa
  have yz := HX.out.lt
  have xz := HY.out.lt
  have bp := boxHallAsked Lp3.out (by have := HX.out.at_; rw [Hp.out] at this; exact this)
  have bq := boxHallAsked Lq3.out (by have := HY.out.at_; rw [Hq.out] at this; exact this)
  obtain ⟨gp0, gp1, gp2, gp3⟩ := bp
  obtain ⟨gq0, gq1, gq2, gq3⟩ := bq
  go_wp2_with (first | refine wpList_load_mid rfl 96 _ rfl w.heap.size 3 rfl cp3 _ gp3 Tryz.underlying96 rfl (by rw [Lp3.out]; kernel_rfl) ?_ | refine wpList_load_mid rfl 96 _ rfl (w.heap.size + 1) 3 rfl cq3 _ gq3 Tryz.underlying96 rfl (by rw [Lq3.out]; kernel_rfl) ?_)
  refine (eqGateSaid d3 cp3 cq3 wa Rp3.out Rq3.out).mono ?_
  rintro e x3 ⟨rfl, hb3⟩
  replace HB := uh (blw_trans HB.out hb3)
  replace HX := uh (HX.out.later hb3)
  replace HY := uh (HY.out.later hb3)
  clear hb3 yz xz gp0 gq0 gp1 gq1 gp2 gq2 gp3 gq3
  have yz := HX.out.lt
  have xz := HY.out.lt
  have bp := boxHallAsked Lp3.out (by have := HX.out.at_; rw [Hp.out] at this; exact this)
  have bq := boxHallAsked Lq3.out (by have := HY.out.at_; rw [Hq.out] at this; exact this)
  obtain ⟨gp0, gp1, gp2, gp3⟩ := bp
  obtain ⟨gq0, gq1, gq2, gq3⟩ := bq
  go_wp2
  go_ret
  exact ⟨rfl, HB.out⟩
set_option maxRecDepth 8000 in
set_option maxHeartbeats 8000000 in
theorem eqHallAskedS (n : Nat) (es : List Dt) (v v' : Value) (w : World) (h : Raw w [.row 98 shHallAsked] [.row n es] [v]) (h' : Raw w [.row 98 shHallAsked] [.row n es] [v']) :
    Calls Tryz.prog 25 #[v, v'] w fun e w' => e = .returned (.bool true) ∧ Below w.heap.size w w' := by
  by_cases h0 : n = 0
  · subst h0
    obtain ⟨a, c, rfl⟩ := h.len0
    obtain ⟨a', c', rfl⟩ := h'.len0
    go_enter Tryz.func25, Tryz.ntmps25
    go_wp2
    refine wp_loop_rounds 1 ?_
    rw [rounds_succ]
    go_wp2
    go_ret
    exact ⟨rfl, Below.refl _ _⟩
  rcases h.slice with ⟨e0, _⟩ | ⟨p, o, c, rfl, hp, hn, vs, hr, hR⟩
  · exact absurd e0 h0
  rcases h'.slice with ⟨e0, _⟩ | ⟨p', o', c', rfl, hp', _, vs', hr', hR'⟩
  · exact absurd e0 h0
  have HR := uh (And.intro hR (And.intro hr hp))
  have HR' := uh (And.intro hR' (And.intro hr' hp'))
  have hn1 : n ≤ 9223372036854775807 := hn.1
  clear h h' hr hR hp hr' hR' hp' hn
  go_enter Tryz.func25, Tryz.ntmps25
  go_wp2
  go_loopw [5] (fun i wr => ∃ q : Nat, q ≤ n ∧ i = .int .i64 q ∧ Below w.heap.size w wr) (fun i _ => n - (intOf i).toNat)
  case atStart => exact ⟨0, Nat.zero_le _, rfl, Below.refl _ _⟩
  case round =>
    obtain ⟨q, hq, rfl, hW⟩ := hrel
    have HB := uh hW
    clear hW
    by_cases hlt : q < n
    · obtain ⟨ve, hE, hg⟩ := (HR.out.1.later HB.out).el hlt (rA_later HR.out.2.1 HR.out.2.2 HB.out)
      obtain ⟨ve', hE', hg'⟩ := (HR'.out.1.later HB.out).el hlt (rA_later HR'.out.2.1 HR'.out.2.2 HB.out)
      have hbp : p < wr.heap.size := Nat.lt_of_lt_of_le HR.out.2.2 HB.out.size
      have hbq : p' < wr.heap.size := Nat.lt_of_lt_of_le HR'.out.2.2 HB.out.size
      have hm0 : (0 : Int) ≤ (q : Int) := by omega
      have hm3 : (q : Int) < (n : Int) := by omega
      have hNE := upst_some wr
      have z1 : ∀ px : UPst wr, p < px.W.heap.size := fun px => px.size hbp
      have z2 : ∀ px : UPst wr, p' < px.W.heap.size := fun px => px.size hbq
      have H1 := uh (And.intro hE.len (And.intro (show wr.rangeAt p (o + q * 6) ve from hg) hbp))
      have H2 := uh (And.intro hE'.len (And.intro (show wr.rangeAt p' (o' + q * 6) ve' from hg') hbq))
      have HX : Hid (∀ px : UPst wr, Calls Tryz.prog 55 #[.agg ve.toArray, .agg ve'.toArray] px.W fun e w' => e = .returned (.bool true) ∧ Below px.W.heap.size px.W w') := fun px => eqHallAsked _ ve ve' px.W (hE.later px.ok) (hE'.later px.ok)
      clear hE hE' hg hg' hbp hbq HR HR'
      go_upto_region 6 with fail
      refine uregion wr (Below.refl _ _) (by kernel_rfl) (by kernel_rfl) ?_
      repeat (first
        | go_big_quiet_skip
        | (go_big_quiet_want; (first | refine uq_load 98 _ rfl p (o + q * 6) rfl ve _ H1.out.2.1 H1.out.2.2 Tryz.underlying98 rfl (by rw [H1.out.1]; kernel_rfl) ?_ | refine uq_load 98 _ rfl p' (o' + q * 6) rfl ve' _ H2.out.2.1 H2.out.2.2 Tryz.underlying98 rfl (by rw [H2.out.1]; kernel_rfl) ?_); (simp only [Act.put, List.setIfInBounds_toArray, List.set_cons_zero, List.set_cons_succ]); go_big_quiet_on)
        | (go_big_quiet_want; go_big_quiet_op; first | go_big_quiet_on | (apply Exists.intro; refine ⟨fun px => ?_, ?_⟩; (focus ((go_at_call 55; refine (HX.out px).mono ?_; rintro e w' ⟨he, hb⟩; exact ⟨he, ⟨w', blw_trans px.ok hb⟩, rfl⟩))); go_big_quiet_on)))
      refine wpQuiet_nil ?_
      intro _ hw'
      obtain ⟨z, hw''⟩ := hw'
      subst hw''
      replace HB := uh (blw_trans HB.out z.ok)
      go_wp2
      go_roundw
      case rel => exact ⟨q + 1, by omega, by go_num, HB.out⟩
      case measure => simp [intOf]; omega
    · go_wp2
      go_ret
      exact ⟨rfl, HB.out⟩
set_option maxRecDepth 8000 in
set_option maxHeartbeats 8000000 in
theorem eqHallWorld (ds : List Dt) (cs cs' : List Value) (w : World) (h : Raw w shHallWorld ds cs) (h' : Raw w shHallWorld ds cs') :
    Calls Tryz.prog 8 #[.agg cs.toArray, .agg cs'.toArray] w fun e w' => e = .returned (.bool true) ∧ Below w.heap.size w w' := by
  obtain ⟨d0, d1, a2, n3, e3, rfl, t0, t1, t3⟩ := segTypHallWorld h.typ
  obtain ⟨zpp, hzpp⟩ : ∃ x, x = cs := ⟨_, rfl⟩
  obtain ⟨cp0, xp0, hxp0, rp0, hp1⟩ := Raw.cut2 h t0
  obtain ⟨cp1, xp1, hxp1, rp1, hp2⟩ := Raw.cut2 hp1 t1
  obtain ⟨xp2, hxp2, hp3⟩ := hp2.c_i
  obtain ⟨vp3, xp3, hxp3, rp3, hp4⟩ := hp3.c_r
  have hxpn := hp4.c_n
  have Hp : Hid (cs = (cp0 ++ ((cp1 ++ (.int .i64 a2 :: vp3 :: []))))) := by show _ = _; rw [hxp0, hxp1, hxp2, hxp3, hxpn]
  clear hxp0 hxp1 hxp2 hxp3 hxpn
  have Lp0 : Hid (cp0.length = 2) := rp0.len
  have Lp1 : Hid (cp1.length = 3) := rp1.len
  obtain ⟨zqq, hzqq⟩ : ∃ x, x = cs' := ⟨_, rfl⟩
  obtain ⟨cq0, xq0, hxq0, rq0, hq1⟩ := Raw.cut2 h' t0
  obtain ⟨cq1, xq1, hxq1, rq1, hq2⟩ := Raw.cut2 hq1 t1
  obtain ⟨xq2, hxq2, hq3⟩ := hq2.c_i
  obtain ⟨vq3, xq3, hxq3, rq3, hq4⟩ := hq3.c_r
  have hxqn := hq4.c_n
  have Hq : Hid (cs' = (cq0 ++ ((cq1 ++ (.int .i64 a2 :: vq3 :: []))))) := by show _ = _; rw [hxq0, hxq1, hxq2, hxq3, hxqn]
  clear hxq0 hxq1 hxq2 hxq3 hxqn
  have Lq0 : Hid (cq0.length = 2) := rq0.len
  have Lq1 : Hid (cq1.length = 3) := rq1.len
  obtain ⟨wa, hwa⟩ : ∃ wa, wa = (w.alloc (.cells cs.toArray 38)).alloc (.cells cs'.toArray 38) := ⟨_, rfl⟩
  have HB : Hid (Below w.heap.size w wa) := by show Below _ _ _; rw [hwa]; exact blw_alloc (blw_alloc (Below.refl _ _) _) _
  have HX : Hid (LBox wa w.heap.size cs) := by show LBox _ _ _; rw [hwa]; exact (LBox.new w cs.toArray _ _ rfl).past _
  have HY : Hid (LBox wa (w.heap.size + 1) cs') := by show LBox _ _ _; rw [hwa]; exact LBox.new _ cs'.toArray _ _ (by simp)
  have Rp0 := uh (rp0.later HB.out)
  have Rq0 := uh (rq0.later HB.out)
  have Rp1 := uh (rp1.later HB.out)
  have Rq1 := uh (rq1.later HB.out)
  have Rp3 := uh (rp3.later HB.out)
  have Rq3 := uh (rq3.later HB.out)
  clear h h' rp0 rq0 rp1 rq1 rp3 rq3 hp1 hq1 hp2 hq2 hp3 hq3 hp4 hq4 hzpp hzqq zpp zqq
  go_enter Tryz.func8, Tryz.ntmps8
  go_upto_region 1 with fail
  rw [← hwa]
  clear hwa
  have yz := HX.out.lt
  have xz := HY.out.lt
  have bp := boxHallWorld Lp0.out Lp1.out (by have := HX.out.at_; rw [Hp.out] at this; exact this)
  have bq := boxHallWorld Lq0.out Lq1.out (by have := HY.out.at_; rw [Hq.out] at this; exact this)
  obtain ⟨gp0, gp1, gp2, gp3⟩ := bp
  obtain ⟨gq0, gq1, gq2, gq3⟩ := bq
  go_wp2_with (first | refine wpList_load_mid rfl 30 _ rfl w.heap.size 0 rfl cp0 _ gp0 Tryz.underlying30 rfl (by rw [Lp0.out]; kernel_rfl) ?_ | refine wpList_load_mid rfl 30 _ rfl (w.heap.size + 1) 0 rfl cq0 _ gq0 Tryz.underlying30 rfl (by rw [Lq0.out]; kernel_rfl) ?_)
  refine (eqHallHouse d0 cp0 cq0 wa Rp0.out Rq0.out).mono ?_
  rintro e x0 ⟨rfl, hb0⟩
  replace HB := uh (blw_trans HB.out hb0)
  replace HX := uh (HX.out.later hb0)
  replace HY := uh (HY.out.later hb0)
  replace Rp1 := uh (Rp1.out.later hb0)
  replace Rq1 := uh (Rq1.out.later hb0)
  replace Rp3 := uh (Rp3.out.later hb0)
  replace Rq3 := uh (Rq3.out.later hb0)
  clear hb0 yz xz gp0 gq0 gp1 gq1 gp2 gq2 gp3 gq3
  have yz := HX.out.lt
  have xz := HY.out.lt
  have bp := boxHallWorld Lp0.out Lp1.out (by have := HX.out.at_; rw [Hp.out] at this; exact this)
  have bq := boxHallWorld Lq0.out Lq1.out (by have := HY.out.at_; rw [Hq.out] at this; exact this)
  obtain ⟨gp0, gp1, gp2, gp3⟩ := bp
  obtain ⟨gq0, gq1, gq2, gq3⟩ := bq
  go_wp2_with (first | refine wpList_load_mid rfl 35 _ rfl w.heap.size 2 rfl cp1 _ gp1 Tryz.underlying35 rfl (by rw [Lp1.out]; kernel_rfl) ?_ | refine wpList_load_mid rfl 35 _ rfl (w.heap.size + 1) 2 rfl cq1 _ gq1 Tryz.underlying35 rfl (by rw [Lq1.out]; kernel_rfl) ?_)
  refine (eqRecWorld d1 cp1 cq1 x0 Rp1.out Rq1.out).mono ?_
  rintro e x1 ⟨rfl, hb1⟩
  replace HB := uh (blw_trans HB.out hb1)
  replace HX := uh (HX.out.later hb1)
  replace HY := uh (HY.out.later hb1)
  replace Rp3 := uh (Rp3.out.later hb1)
  replace Rq3 := uh (Rq3.out.later hb1)
  clear hb1 yz xz gp0 gq0 gp1 gq1 gp2 gq2 gp3 gq3
  have yz := HX.out.lt
  have xz := HY.out.lt
  have bp := boxHallWorld Lp0.out Lp1.out (by have := HX.out.at_; rw [Hp.out] at this; exact this)
  have bq := boxHallWorld Lq0.out Lq1.out (by have := HY.out.at_; rw [Hq.out] at this; exact this)
  obtain ⟨gp0, gp1, gp2, gp3⟩ := bp
  obtain ⟨gq0, gq1, gq2, gq3⟩ := bq
  obtain ⟨vap3, vcp3, hva⟩ := Rp3.out.len0
  subst hva
  obtain ⟨vaq3, vcq3, hva⟩ := Rq3.out.len0
  subst hva
  go_wp2_with fail
  refine (eqHallAskedS n3 e3 _ _ x1 Rp3.out Rq3.out).mono ?_
  rintro e x3 ⟨rfl, hb3⟩
  replace HB := uh (blw_trans HB.out hb3)
  replace HX := uh (HX.out.later hb3)
  replace HY := uh (HY.out.later hb3)
  clear hb3 yz xz gp0 gq0 gp1 gq1 gp2 gq2 gp3 gq3
  have yz := HX.out.lt
  have xz := HY.out.lt
  have bp := boxHallWorld Lp0.out Lp1.out (by have := HX.out.at_; rw [Hp.out] at this; exact this)
  have bq := boxHallWorld Lq0.out Lq1.out (by have := HY.out.at_; rw [Hq.out] at this; exact this)
  obtain ⟨gp0, gp1, gp2, gp3⟩ := bp
  obtain ⟨gq0, gq1, gq2, gq3⟩ := bq
  go_wp2
  go_ret
  exact ⟨rfl, HB.out⟩
end Go.Proofs.YtfkkohfjkofgnaaGreat
