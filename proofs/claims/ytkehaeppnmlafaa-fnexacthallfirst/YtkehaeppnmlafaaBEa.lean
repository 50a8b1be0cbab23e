/-
  Books of the gate that are alike.
-/
import Derived.Test.YtkehaeppnmlafaaBSh
import Derived.Test.YtkehaeppnmlafaaHEq
namespace Go.Proofs.Ytkehaeppnmlafaa
open Go.RowKit Go.Deep

set_option maxRecDepth 8000 in
set_option maxHeartbeats 8000000 in
theorem eqStringS (n : Nat) (es : List Dt) (v v' : Value) (w : World) (h : Raw w [.row 9 [.s]] [.row n es] [v]) (h' : Raw w [.row 9 [.s]] [.row n es] [v']) :
    Calls Try.prog 93 #[v, v'] w fun e w' => e = .returned (.bool true) ∧ Below w.heap.size w w' := by
  by_cases h0 : n = 0
  · subst h0
    obtain ⟨a, c, rfl⟩ := h.len0
    obtain ⟨a', c', rfl⟩ := h'.len0
    go_enter Try.func93, Try.ntmps93
    go_wp2
    refine wp_loop_rounds 1 ?_
    rw [rounds_succ]
    go_wp2
    go_ret
    exact ⟨rfl, Below.refl _ _⟩
  rcases h.slice with ⟨e0, _⟩ | ⟨p, o, c, rfl, hp, hn, vs, hr, hR⟩
  · exact absurd e0 h0
  rcases h'.slice with ⟨e0, _⟩ | ⟨p', o', c', rfl, hp', _, vs', hr', hR'⟩
  · exact absurd e0 h0
  have HR := uh (And.intro hR (And.intro hr hp))
  have HR' := uh (And.intro hR' (And.intro hr' hp'))
  have hn1 : n ≤ 9223372036854775807 := hn.1
  clear h h' hr hR hp hr' hR' hp' hn
  go_enter Try.func93, Try.ntmps93
  go_wp2
  go_loopw [5] (fun i wr => ∃ q : Nat, q ≤ n ∧ i = .int .i64 q ∧ Below w.heap.size w wr) (fun i _ => n - (intOf i).toNat)
  case atStart => exact ⟨0, Nat.zero_le _, rfl, Below.refl _ _⟩
  case round =>
    obtain ⟨q, hq, rfl, hW⟩ := hrel
    have HB := uh hW
    clear hW
    by_cases hlt : q < n
    · obtain ⟨ve, hE, hg⟩ := (HR.out.1.later HB.out).el hlt (rA_later HR.out.2.1 HR.out.2.2 HB.out)
      obtain ⟨ve', hE', hg'⟩ := (HR'.out.1.later HB.out).el hlt (rA_later HR'.out.2.1 HR'.out.2.2 HB.out)
      have hbp : p < wr.heap.size := Nat.lt_of_lt_of_le HR.out.2.2 HB.out.size
      have hbq : p' < wr.heap.size := Nat.lt_of_lt_of_le HR'.out.2.2 HB.out.size
      have hm0 : (0 : Int) ≤ (q : Int) := by omega
      have hm3 : (q : Int) < (n : Int) := by omega
      have hNE := upst_some wr
      have z1 : ∀ px : UPst wr, p < px.W.heap.size := fun px => px.size hbp
      have z2 : ∀ px : UPst wr, p' < px.W.heap.size := fun px => px.size hbq
      obtain ⟨d, hd⟩ : ∃ d, d = el 1 q es := ⟨_, rfl⟩
      have hE1 : Raw wr [.s] d ve := by rw [hd]; exact hE
      have hE2 : Raw wr [.s] d ve' := by rw [hd]; exact hE'
      obtain ⟨a0, rfl⟩ := typT1 hE1.typ
      obtain rfl := rawT1 hE1
      obtain rfl := rawT1 hE2
      have S1 : ∀ px : UPst wr, px.W.cell? ⟨p, o + q, none⟩ = some (.string a0) := fun px => px.cell (by have := rA_get hg 0 _ rfl; simpa using this) hbp
      have S2 : ∀ px : UPst wr, px.W.cell? ⟨p', o' + q, none⟩ = some (.string a0) := fun px => px.cell (by have := rA_get hg' 0 _ rfl; simpa using this) hbq
      clear hE hE' hE1 hE2 hd hg hg' hbp hbq HR HR'
      go_upto_region 6 with fail
      refine uregion wr (Below.refl _ _) (by kernel_rfl) (by kernel_rfl) ?_
      repeat (first
        | go_big_quiet_skip
        | (go_big_quiet_want; go_big_quiet_op; go_big_quiet_on))
      refine wpQuiet_nil ?_
      intro _ hw'
      obtain ⟨z, hw''⟩ := hw'
      subst hw''
      replace HB := uh (blw_trans HB.out z.ok)
      go_wp2
      go_roundw
      case rel => exact ⟨q + 1, by omega, by go_num, HB.out⟩
      case measure => simp [intOf]; omega
    · go_wp2
      go_ret
      exact ⟨rfl, HB.out⟩
set_option maxRecDepth 8000 in
set_option maxHeartbeats 8000000 in
theorem eqGateObject (ds : List Dt) (cs cs' : List Value) (w : World) (h : Raw w shGateObject ds cs) (h' : Raw w shGateObject ds cs') :
    Calls Try.prog 78 #[.agg cs.toArray, .agg cs'.toArray] w fun e w' => e = .returned (.bool true) ∧ Below w.heap.size w w' := by
  obtain ⟨a0, a1, a2, n3, e3, a4, n5, e5, a6, rfl, t3, t5⟩ := segTypGateObject h.typ
  obtain ⟨cp0, hcp0⟩ : ∃ x, x = cs := ⟨_, rfl⟩
  obtain ⟨xp0, hxp0, hp1⟩ := h.c_s
  obtain ⟨xp1, hxp1, hp2⟩ := hp1.c_s
  obtain ⟨xp2, hxp2, hp3⟩ := hp2.c_s
  obtain ⟨vp3, xp3, hxp3, rp3, hp4⟩ := hp3.c_r
  obtain ⟨xp4, hxp4, hp5⟩ := hp4.c_b
  obtain ⟨vp5, xp5, hxp5, rp5, hp6⟩ := hp5.c_r
  obtain ⟨xp6, hxp6, hp7⟩ := hp6.c_i
  have hxpn := hp7.c_n
  have Hp : Hid (cs = .string a0 :: .string a1 :: .string a2 :: vp3 :: .bool a4 :: vp5 :: .int .i64 a6 :: []) := by show _ = _; rw [hxp0, hxp1, hxp2, hxp3, hxp4, hxp5, hxp6, hxpn]
  clear hxp0 hxp1 hxp2 hxp3 hxp4 hxp5 hxp6 hxpn
  obtain ⟨cq0, hcq0⟩ : ∃ x, x = cs' := ⟨_, rfl⟩
  obtain ⟨xq0, hxq0, hq1⟩ := h'.c_s
  obtain ⟨xq1, hxq1, hq2⟩ := hq1.c_s
  obtain ⟨xq2, hxq2, hq3⟩ := hq2.c_s
  obtain ⟨vq3, xq3, hxq3, rq3, hq4⟩ := hq3.c_r
  obtain ⟨xq4, hxq4, hq5⟩ := hq4.c_b
  obtain ⟨vq5, xq5, hxq5, rq5, hq6⟩ := hq5.c_r
  obtain ⟨xq6, hxq6, hq7⟩ := hq6.c_i
  have hxqn := hq7.c_n
  have Hq : Hid (cs' = .string a0 :: .string a1 :: .string a2 :: vq3 :: .bool a4 :: vq5 :: .int .i64 a6 :: []) := by show _ = _; rw [hxq0, hxq1, hxq2, hxq3, hxq4, hxq5, hxq6, hxqn]
  clear hxq0 hxq1 hxq2 hxq3 hxq4 hxq5 hxq6 hxqn
  obtain ⟨wa, hwa⟩ : ∃ wa, wa = (w.alloc (.cells cs.toArray 83)).alloc (.cells cs'.toArray 83) := ⟨_, rfl⟩
  have HB : Hid (Below w.heap.size w wa) := by show Below _ _ _; rw [hwa]; exact blw_alloc (blw_alloc (Below.refl _ _) _) _
  have HX : Hid (LBox wa w.heap.size cs) := by show LBox _ _ _; rw [hwa]; exact (LBox.new w cs.toArray _ _ rfl).past _
  have HY : Hid (LBox wa (w.heap.size + 1) cs') := by show LBox _ _ _; rw [hwa]; exact LBox.new _ cs'.toArray _ _ (by simp)
  have Rp3 := uh (rp3.later HB.out)
  have Rq3 := uh (rq3.later HB.out)
  have Rp5 := uh (rp5.later HB.out)
  have Rq5 := uh (rq5.later HB.out)
  clear h h' rp3 rq3 rp5 rq5 hp1 hq1 hp2 hq2 hp3 hq3 hp4 hq4 hp5 hq5 hp6 hq6 hp7 hq7 hcp0 hcq0 cp0 cq0
  go_enter Try.func78, Try.ntmps78
  go_upto_region 1 with fail
  rw [← hwa]
  clear hwa
  have yz := HX.out.lt
  have xz := HY.out.lt
  have bp := boxGateObject  (by have := HX.out.at_; rw [Hp.out] at this; exact this)
  have bq := boxGateObject  (by have := HY.out.at_; rw [Hq.out] at this; exact this)
  obtain ⟨gp0, gp1, gp2, gp3, gp4, gp5, gp6⟩ := bp
  obtain ⟨gq0, gq1, gq2, gq3, gq4, gq5, gq6⟩ := bq
  have hub4 : (a4 != a4) = false := by cases a4 <;> rfl
  obtain ⟨vap3, vcp3, hva⟩ := Rp3.out.len0
  subst hva
  obtain ⟨vaq3, vcq3, hva⟩ := Rq3.out.len0
  subst hva
  go_wp2_with fail
  refine (eqStringS n3 e3 _ _ wa Rp3.out Rq3.out).mono ?_
  rintro e x3 ⟨rfl, hb3⟩
  replace HB := uh (blw_trans HB.out hb3)
  replace HX := uh (HX.out.later hb3)
  replace HY := uh (HY.out.later hb3)
  replace Rp5 := uh (Rp5.out.later hb3)
  replace Rq5 := uh (Rq5.out.later hb3)
  clear hb3 yz xz gp0 gq0 gp1 gq1 gp2 gq2 gp3 gq3 gp4 gq4 gp5 gq5 gp6 gq6
  have yz := HX.out.lt
  have xz := HY.out.lt
  have bp := boxGateObject  (by have := HX.out.at_; rw [Hp.out] at this; exact this)
  have bq := boxGateObject  (by have := HY.out.at_; rw [Hq.out] at this; exact this)
  obtain ⟨gp0, gp1, gp2, gp3, gp4, gp5, gp6⟩ := bp
  obtain ⟨gq0, gq1, gq2, gq3, gq4, gq5, gq6⟩ := bq
  obtain ⟨vap5, vcp5, hva⟩ := Rp5.out.len0
  subst hva
  obtain ⟨vaq5, vcq5, hva⟩ := Rq5.out.len0
  subst hva
  go_wp2_with fail
  refine (eqStringS n5 e5 _ _ x3 Rp5.out Rq5.out).mono ?_
  rintro e x5 ⟨rfl, hb5⟩
  replace HB := uh (blw_trans HB.out hb5)
  replace HX := uh (HX.out.later hb5)
  replace HY := uh (HY.out.later hb5)
  clear hb5 yz xz gp0 gq0 gp1 gq1 gp2 gq2 gp3 gq3 gp4 gq4 gp5 gq5 gp6 gq6
  have yz := HX.out.lt
  have xz := HY.out.lt
  have bp := boxGateObject  (by have := HX.out.at_; rw [Hp.out] at this; exact this)
  have bq := boxGateObject  (by have := HY.out.at_; rw [Hq.out] at this; exact this)
  obtain ⟨gp0, gp1, gp2, gp3, gp4, gp5, gp6⟩ := bp
  obtain ⟨gq0, gq1, gq2, gq3, gq4, gq5, gq6⟩ := bq
  go_wp2
  go_ret
  exact ⟨rfl, HB.out⟩
set_option maxRecDepth 8000 in
set_option maxHeartbeats 8000000 in
theorem eqGateObjectS (n : Nat) (es : List Dt) (v v' : Value) (w : World) (h : Raw w [.row 83 shGateObject] [.row n es] [v]) (h' : Raw w [.row 83 shGateObject] [.row n es] [v']) :
    Calls Try.prog 45 #[v, v'] w fun e w' => e = .returned (.bool true) ∧ Below w.heap.size w w' := by
  by_cases h0 : n = 0
  · subst h0
    obtain ⟨a, c, rfl⟩ := h.len0
    obtain ⟨a', c', rfl⟩ := h'.len0
    go_enter Try.func45, Try.ntmps45
    go_wp2
    refine wp_loop_rounds 1 ?_
    rw [rounds_succ]
    go_wp2
    go_ret
    exact ⟨rfl, Below.refl _ _⟩
  rcases h.slice with ⟨e0, _⟩ | ⟨p, o, c, rfl, hp, hn, vs, hr, hR⟩
  · exact absurd e0 h0
  rcases h'.slice with ⟨e0, _⟩ | ⟨p', o', c', rfl, hp', _, vs', hr', hR'⟩
  · exact absurd e0 h0
  have HR := uh (And.intro hR (And.intro hr hp))
  have HR' := uh (And.intro hR' (And.intro hr' hp'))
  have hn1 : n ≤ 9223372036854775807 := hn.1
  clear h h' hr hR hp hr' hR' hp' hn
  go_enter Try.func45, Try.ntmps45
  go_wp2
  go_loopw [5] (fun i wr => ∃ q : Nat, q ≤ n ∧ i = .int .i64 q ∧ Below w.heap.size w wr) (fun i _ => n - (intOf i).toNat)
  case atStart => exact ⟨0, Nat.zero_le _, rfl, Below.refl _ _⟩
  case round =>
    obtain ⟨q, hq, rfl, hW⟩ := hrel
    have HB := uh hW
    clear hW
    by_cases hlt : q < n
    · obtain ⟨ve, hE, hg⟩ := (HR.out.1.later HB.out).el hlt (rA_later HR.out.2.1 HR.out.2.2 HB.out)
      obtain ⟨ve', hE', hg'⟩ := (HR'.out.1.later HB.out).el hlt (rA_later HR'.out.2.1 HR'.out.2.2 HB.out)
      have hbp : p < wr.heap.size := Nat.lt_of_lt_of_le HR.out.2.2 HB.out.size
      have hbq : p' < wr.heap.size := Nat.lt_of_lt_of_le HR'.out.2.2 HB.out.size
      have hm0 : (0 : Int) ≤ (q : Int) := by omega
      have hm3 : (q : Int) < (n : Int) := by omega
      have hNE := upst_some wr
      have z1 : ∀ px : UPst wr, p < px.W.heap.size := fun px => px.size hbp
      have z2 : ∀ px : UPst wr, p' < px.W.heap.size := fun px => px.size hbq
      have H1 := uh (And.intro hE.len (And.intro (show wr.rangeAt p (o + q * 7) ve from hg) hbp))
      have H2 := uh (And.intro hE'.len (And.intro (show wr.rangeAt p' (o' + q * 7) ve' from hg') hbq))
      have HX : Hid (∀ px : UPst wr, Calls Try.prog 78 #[.agg ve.toArray, .agg ve'.toArray] px.W fun e w' => e = .returned (.bool true) ∧ Below px.W.heap.size px.W w') := fun px => eqGateObject _ ve ve' px.W (hE.later px.ok) (hE'.later px.ok)
      clear hE hE' hg hg' hbp hbq HR HR'
      go_upto_region 6 with fail
      refine uregion wr (Below.refl _ _) (by kernel_rfl) (by kernel_rfl) ?_
      repeat (first
        | go_big_quiet_skip
        | (go_big_quiet_want; (first | refine uq_load 83 _ rfl p (o + q * 7) rfl ve _ H1.out.2.1 H1.out.2.2 Try.underlying83 rfl (by rw [H1.out.1]; kernel_rfl) ?_ | refine uq_load 83 _ rfl p' (o' + q * 7) rfl ve' _ H2.out.2.1 H2.out.2.2 Try.underlying83 rfl (by rw [H2.out.1]; kernel_rfl) ?_); (simp only [Act.put, List.setIfInBounds_toArray, List.set_cons_zero, List.set_cons_succ]); go_big_quiet_on)
        | (go_big_quiet_want; go_big_quiet_op; first | go_big_quiet_on | (apply Exists.intro; refine ⟨fun px => ?_, ?_⟩; (focus ((go_at_call 78; refine (HX.out px).mono ?_; rintro e w' ⟨he, hb⟩; exact ⟨he, ⟨w', blw_trans px.ok hb⟩, rfl⟩))); go_big_quiet_on)))
      refine wpQuiet_nil ?_
      intro _ hw'
      obtain ⟨z, hw''⟩ := hw'
      subst hw''
      replace HB := uh (blw_trans HB.out z.ok)
      go_wp2
      go_roundw
      case rel => exact ⟨q + 1, by omega, by go_num, HB.out⟩
      case measure => simp [intOf]; omega
    · go_wp2
      go_ret
      exact ⟨rfl, HB.out⟩
set_option maxRecDepth 8000 in
set_option maxHeartbeats 8000000 in
theorem eqGateLedger (ds : List Dt) (cs cs' : List Value) (w : World) (h : Raw w shGateLedger ds cs) (h' : Raw w shGateLedger ds cs') :
    Calls Try.prog 79 #[.agg cs.toArray, .agg cs'.toArray] w fun e w' => e = .returned (.bool true) ∧ Below w.heap.size w w' := by
  obtain ⟨a0, a1, a2, a3, rfl⟩ := segTypGateLedger h.typ
  obtain ⟨cp0, hcp0⟩ : ∃ x, x = cs := ⟨_, rfl⟩
  obtain ⟨xp0, hxp0, hp1⟩ := h.c_s
  obtain ⟨xp1, hxp1, hp2⟩ := hp1.c_s
  obtain ⟨xp2, hxp2, hp3⟩ := hp2.c_i
  obtain ⟨xp3, hxp3, hp4⟩ := hp3.c_i
  have hxpn := hp4.c_n
  have Hp : Hid (cs = .string a0 :: .string a1 :: .int .i64 a2 :: .int .i64 a3 :: []) := by show _ = _; rw [hxp0, hxp1, hxp2, hxp3, hxpn]
  clear hxp0 hxp1 hxp2 hxp3 hxpn
  obtain ⟨cq0, hcq0⟩ : ∃ x, x = cs' := ⟨_, rfl⟩
  obtain ⟨xq0, hxq0, hq1⟩ := h'.c_s
  obtain ⟨xq1, hxq1, hq2⟩ := hq1.c_s
  obtain ⟨xq2, hxq2, hq3⟩ := hq2.c_i
  obtain ⟨xq3, hxq3, hq4⟩ := hq3.c_i
  have hxqn := hq4.c_n
  have Hq : Hid (cs' = .string a0 :: .string a1 :: .int .i64 a2 :: .int .i64 a3 :: []) := by show _ = _; rw [hxq0, hxq1, hxq2, hxq3, hxqn]
  clear hxq0 hxq1 hxq2 hxq3 hxqn
  obtain ⟨wa, hwa⟩ : ∃ wa, wa = (w.alloc (.cells cs.toArray 119)).alloc (.cells cs'.toArray 119) := ⟨_, rfl⟩
  have HB : Hid (Below w.heap.size w wa) := by show Below _ _ _; rw [hwa]; exact blw_alloc (blw_alloc (Below.refl _ _) _) _
  have HX : Hid (LBox wa w.heap.size cs) := by show LBox _ _ _; rw [hwa]; exact (LBox.new w cs.toArray _ _ rfl).past _
  have HY : Hid (LBox wa (w.heap.size + 1) cs') := by show LBox _ _ _; rw [hwa]; exact LBox.new _ cs'.toArray _ _ (by simp)
  clear h h' hp1 hq1 hp2 hq2 hp3 hq3 hp4 hq4 hcp0 hcq0 cp0 cq0
  go_enter Try.func79, Try.ntmps79
  go_upto_region 1 with fail
  rw [← hwa]
  clear hwa
  have yz := HX.out.lt
  have xz := HY.out.lt
  have bp := boxGateLedger  (by have := HX.out.at_; rw [Hp.out] at this; exact this)
  have bq := boxGateLedger  (by have := HY.out.at_; rw [Hq.out] at this; exact this)
  obtain ⟨gp0, gp1, gp2, gp3⟩ := bp
  obtain ⟨gq0, gq1, gq2, gq3⟩ := bq
  go_wp2
  go_ret
  exact ⟨rfl, HB.out⟩
set_option maxRecDepth 8000 in
set_option maxHeartbeats 8000000 in
theorem eqGateLedgerS (n : Nat) (es : List Dt) (v v' : Value) (w : World) (h : Raw w [.row 119 shGateLedger] [.row n es] [v]) (h' : Raw w [.row 119 shGateLedger] [.row n es] [v']) :
    Calls Try.prog 46 #[v, v'] w fun e w' => e = .returned (.bool true) ∧ Below w.heap.size w w' := by
  by_cases h0 : n = 0
  · subst h0
    obtain ⟨a, c, rfl⟩ := h.len0
    obtain ⟨a', c', rfl⟩ := h'.len0
    go_enter Try.func46, Try.ntmps46
    go_wp2
    refine wp_loop_rounds 1 ?_
    rw [rounds_succ]
    go_wp2
    go_ret
    exact ⟨rfl, Below.refl _ _⟩
  rcases h.slice with ⟨e0, _⟩ | ⟨p, o, c, rfl, hp, hn, vs, hr, hR⟩
  · exact absurd e0 h0
  rcases h'.slice with ⟨e0, _⟩ | ⟨p', o', c', rfl, hp', _, vs', hr', hR'⟩
  · exact absurd e0 h0
  have HR := uh (And.intro hR (And.intro hr hp))
  have HR' := uh (And.intro hR' (And.intro hr' hp'))
  have hn1 : n ≤ 9223372036854775807 := hn.1
  clear h h' hr hR hp hr' hR' hp' hn
  go_enter Try.func46, Try.ntmps46
  go_wp2
  go_loopw [5] (fun i wr => ∃ q : Nat, q ≤ n ∧ i = .int .i64 q ∧ Below w.heap.size w wr) (fun i _ => n - (intOf i).toNat)
  case atStart => exact ⟨0, Nat.zero_le _, rfl, Below.refl _ _⟩
  case round =>
    obtain ⟨q, hq, rfl, hW⟩ := hrel
    have HB := uh hW
    clear hW
    by_cases hlt : q < n
    · obtain ⟨ve, hE, hg⟩ := (HR.out.1.later HB.out).el hlt (rA_later HR.out.2.1 HR.out.2.2 HB.out)
      obtain ⟨ve', hE', hg'⟩ := (HR'.out.1.later HB.out).el hlt (rA_later HR'.out.2.1 HR'.out.2.2 HB.out)
      have hbp : p < wr.heap.size := Nat.lt_of_lt_of_le HR.out.2.2 HB.out.size
      have hbq : p' < wr.heap.size := Nat.lt_of_lt_of_le HR'.out.2.2 HB.out.size
      have hm0 : (0 : Int) ≤ (q : Int) := by omega
      have hm3 : (q : Int) < (n : Int) := by omega
      have hNE := upst_some wr
      have z1 : ∀ px : UPst wr, p < px.W.heap.size := fun px => px.size hbp
      have z2 : ∀ px : UPst wr, p' < px.W.heap.size := fun px => px.size hbq
      have H1 := uh (And.intro hE.len (And.intro (show wr.rangeAt p (o + q * 4) ve from hg) hbp))
      have H2 := uh (And.intro hE'.len (And.intro (show wr.rangeAt p' (o' + q * 4) ve' from hg') hbq))
      have HX : Hid (∀ px : UPst wr, Calls Try.prog 79 #[.agg ve.toArray, .agg ve'.toArray] px.W fun e w' => e = .returned (.bool true) ∧ Below px.W.heap.size px.W w') := fun px => eqGateLedger _ ve ve' px.W (hE.later px.ok) (hE'.later px.ok)
      clear hE hE' hg hg' hbp hbq HR HR'
      go_upto_region 6 with fail
      refine uregion wr (Below.refl _ _) (by kernel_rfl) (by kernel_rfl) ?_
      repeat (first
        | go_big_quiet_skip
        | (go_big_quiet_want; (first | refine uq_load 119 _ rfl p (o + q * 4) rfl ve _ H1.out.2.1 H1.out.2.2 Try.underlying119 rfl (by rw [H1.out.1]; kernel_rfl) ?_ | refine uq_load 119 _ rfl p' (o' + q * 4) rfl ve' _ H2.out.2.1 H2.out.2.2 Try.underlying119 rfl (by rw [H2.out.1]; kernel_rfl) ?_); (simp only [Act.put, List.setIfInBounds_toArray, List.set_cons_zero, List.set_cons_succ]); go_big_quiet_on)
        | (go_big_quiet_want; go_big_quiet_op; first | go_big_quiet_on | (apply Exists.intro; refine ⟨fun px => ?_, ?_⟩; (focus ((go_at_call 79; refine (HX.out px).mono ?_; rintro e w' ⟨he, hb⟩; exact ⟨he, ⟨w', blw_trans px.ok hb⟩, rfl⟩))); go_big_quiet_on)))
      refine wpQuiet_nil ?_
      intro _ hw'
      obtain ⟨z, hw''⟩ := hw'
      subst hw''
      replace HB := uh (blw_trans HB.out z.ok)
      go_wp2
      go_roundw
      case rel => exact ⟨q + 1, by omega, by go_num, HB.out⟩
      case measure => simp [intOf]; omega
    · go_wp2
      go_ret
      exact ⟨rfl, HB.out⟩
set_option maxRecDepth 8000 in
set_option maxHeartbeats 8000000 in
theorem eqGatePurse (ds : List Dt) (cs cs' : List Value) (w : World) (h : Raw w shGatePurse ds cs) (h' : Raw w shGatePurse ds cs') :
    Calls Try.prog 80 #[.agg cs.toArray, .agg cs'.toArray] w fun e w' => e = .returned (.bool true) ∧ Below w.heap.size w w' := by
  obtain ⟨a0, a1, a2, a3, a4, rfl⟩ := segTypGatePurse h.typ
  obtain ⟨cp0, hcp0⟩ : ∃ x, x = cs := ⟨_, rfl⟩
  obtain ⟨xp0, hxp0, hp1⟩ := h.c_s
  obtain ⟨xp1, hxp1, hp2⟩ := hp1.c_s
  obtain ⟨xp2, hxp2, hp3⟩ := hp2.c_s
  obtain ⟨xp3, hxp3, hp4⟩ := hp3.c_i
  obtain ⟨xp4, hxp4, hp5⟩ := hp4.c_i
  have hxpn := hp5.c_n
  have Hp : Hid (cs = .string a0 :: .string a1 :: .string a2 :: .int .i64 a3 :: .int .i64 a4 :: []) := by show _ = _; rw [hxp0, hxp1, hxp2, hxp3, hxp4, hxpn]
  clear hxp0 hxp1 hxp2 hxp3 hxp4 hxpn
  obtain ⟨cq0, hcq0⟩ : ∃ x, x = cs' := ⟨_, rfl⟩
  obtain ⟨xq0, hxq0, hq1⟩ := h'.c_s
  obtain ⟨xq1, hxq1, hq2⟩ := hq1.c_s
  obtain ⟨xq2, hxq2, hq3⟩ := hq2.c_s
  obtain ⟨xq3, hxq3, hq4⟩ := hq3.c_i
  obtain ⟨xq4, hxq4, hq5⟩ := hq4.c_i
  have hxqn := hq5.c_n
  have Hq : Hid (cs' = .string a0 :: .string a1 :: .string a2 :: .int .i64 a3 :: .int .i64 a4 :: []) := by show _ = _; rw [hxq0, hxq1, hxq2, hxq3, hxq4, hxqn]
  clear hxq0 hxq1 hxq2 hxq3 hxq4 hxqn
  obtain ⟨wa, hwa⟩ : ∃ wa, wa = (w.alloc (.cells cs.toArray 122)).alloc (.cells cs'.toArray 122) := ⟨_, rfl⟩
  have HB : Hid (Below w.heap.size w wa) := by show Below _ _ _; rw [hwa]; exact blw_alloc (blw_alloc (Below.refl _ _) _) _
  have HX : Hid (LBox wa w.heap.size cs) := by show LBox _ _ _; rw [hwa]; exact (LBox.new w cs.toArray _ _ rfl).past _
  have HY : Hid (LBox wa (w.heap.size + 1) cs') := by show LBox _ _ _; rw [hwa]; exact LBox.new _ cs'.toArray _ _ (by simp)
  clear h h' hp1 hq1 hp2 hq2 hp3 hq3 hp4 hq4 hp5 hq5 hcp0 hcq0 cp0 cq0
  go_enter Try.func80, Try.ntmps80
  go_upto_region 1 with fail
  rw [← hwa]
  clear hwa
  have yz := HX.out.lt
  have xz := HY.out.lt
  have bp := boxGatePurse  (by have := HX.out.at_; rw [Hp.out] at this; exact this)
  have bq := boxGatePurse  (by have := HY.out.at_; rw [Hq.out] at this; exact this)
  obtain ⟨gp0, gp1, gp2, gp3, gp4⟩ := bp
  obtain ⟨gq0, gq1, gq2, gq3, gq4⟩ := bq
  go_wp2
  go_ret
  exact ⟨rfl, HB.out⟩
set_option maxRecDepth 8000 in
set_option maxHeartbeats 8000000 in
theorem eqGatePurseS (n : Nat) (es : List Dt) (v v' : Value) (w : World) (h : Raw w [.row 122 shGatePurse] [.row n es] [v]) (h' : Raw w [.row 122 shGatePurse] [.row n es] [v']) :
    Calls Try.prog 47 #[v, v'] w fun e w' => e = .returned (.bool true) ∧ Below w.heap.size w w' := by
  by_cases h0 : n = 0
  · subst h0
    obtain ⟨a, c, rfl⟩ := h.len0
    obtain ⟨a', c', rfl⟩ := h'.len0
    go_enter Try.func47, Try.ntmps47
    go_wp2
    refine wp_loop_rounds 1 ?_
    rw [rounds_succ]
    go_wp2
    go_ret
    exact ⟨rfl, Below.refl _ _⟩
  rcases h.slice with ⟨e0, _⟩ | ⟨p, o, c, rfl, hp, hn, vs, hr, hR⟩
  · exact absurd e0 h0
  rcases h'.slice with ⟨e0, _⟩ | ⟨p', o', c', rfl, hp', _, vs', hr', hR'⟩
  · exact absurd e0 h0
  have HR := uh (And.intro hR (And.intro hr hp))
  have HR' := uh (And.intro hR' (And.intro hr' hp'))
  have hn1 : n ≤ 9223372036854775807 := hn.1
  clear h h' hr hR hp hr' hR' hp' hn
  go_enter Try.func47, Try.ntmps47
  go_wp2
  go_loopw [5] (fun i wr => ∃ q : Nat, q ≤ n ∧ i = .int .i64 q ∧ Below w.heap.size w wr) (fun i _ => n - (intOf i).toNat)
  case atStart => exact ⟨0, Nat.zero_le _, rfl, Below.refl _ _⟩
  case round =>
    obtain ⟨q, hq, rfl, hW⟩ := hrel
    have HB := uh hW
    clear hW
    by_cases hlt : q < n
    · obtain ⟨ve, hE, hg⟩ := (HR.out.1.later HB.out).el hlt (rA_later HR.out.2.1 HR.out.2.2 HB.out)
      obtain ⟨ve', hE', hg'⟩ := (HR'.out.1.later HB.out).el hlt (rA_later HR'.out.2.1 HR'.out.2.2 HB.out)
      have hbp : p < wr.heap.size := Nat.lt_of_lt_of_le HR.out.2.2 HB.out.size
      have hbq : p' < wr.heap.size := Nat.lt_of_lt_of_le HR'.out.2.2 HB.out.size
      have hm0 : (0 : Int) ≤ (q : Int) := by omega
      have hm3 : (q : Int) < (n : Int) := by omega
      have hNE := upst_some wr
      have z1 : ∀ px : UPst wr, p < px.W.heap.size := fun px => px.size hbp
      have z2 : ∀ px : UPst wr, p' < px.W.heap.size := fun px => px.size hbq
      have H1 := uh (And.intro hE.len (And.intro (show wr.rangeAt p (o + q * 5) ve from hg) hbp))
      have H2 := uh (And.intro hE'.len (And.intro (show wr.rangeAt p' (o' + q * 5) ve' from hg') hbq))
      have HX : Hid (∀ px : UPst wr, Calls Try.prog 80 #[.agg ve.toArray, .agg ve'.toArray] px.W fun e w' => e = .returned (.bool true) ∧ Below px.W.heap.size px.W w') := fun px => eqGatePurse _ ve ve' px.W (hE.later px.ok) (hE'.later px.ok)
      clear hE hE' hg hg' hbp hbq HR HR'
      go_upto_region 6 with fail
      refine uregion wr (Below.refl _ _) (by kernel_rfl) (by kernel_rfl) ?_
      repeat (first
        | go_big_quiet_skip
        | (go_big_quiet_want; (first | refine uq_load 122 _ rfl p (o + q * 5) rfl ve _ H1.out.2.1 H1.out.2.2 Try.underlying122 rfl (by rw [H1.out.1]; kernel_rfl) ?_ | refine uq_load 122 _ rfl p' (o' + q * 5) rfl ve' _ H2.out.2.1 H2.out.2.2 Try.underlying122 rfl (by rw [H2.out.1]; kernel_rfl) ?_); (simp only [Act.put, List.setIfInBounds_toArray, List.set_cons_zero, List.set_cons_succ]); go_big_quiet_on)
        | (go_big_quiet_want; go_big_quiet_op; first | go_big_quiet_on | (apply Exists.intro; refine ⟨fun px => ?_, ?_⟩; (focus ((go_at_call 80; refine (HX.out px).mono ?_; rintro e w' ⟨he, hb⟩; exact ⟨he, ⟨w', blw_trans px.ok hb⟩, rfl⟩))); go_big_quiet_on)))
      refine wpQuiet_nil ?_
      intro _ hw'
      obtain ⟨z, hw''⟩ := hw'
      subst hw''
      replace HB := uh (blw_trans HB.out z.ok)
      go_wp2
      go_roundw
      case rel => exact ⟨q + 1, by omega, by go_num, HB.out⟩
      case measure => simp [intOf]; omega
    · go_wp2
      go_ret
      exact ⟨rfl, HB.out⟩
set_option maxRecDepth 8000 in
set_option maxHeartbeats 8000000 in
theorem eqGateBook (ds : List Dt) (cs cs' : List Value) (w : World) (h : Raw w shGateBook ds cs) (h' : Raw w shGateBook ds cs') :
    Calls Try.prog 22 #[.agg cs.toArray, .agg cs'.toArray] w fun e w' => e = .returned (.bool true) ∧ Below w.heap.size w w' := by
  obtain ⟨a0, a1, a2, n3, e3, n4, e4, n5, e5, n6, e6, rfl, t3, t4, t5, t6⟩ := segTypGateBook h.typ
  obtain ⟨cp0, hcp0⟩ : ∃ x, x = cs := ⟨_, rfl⟩
  obtain ⟨xp0, hxp0, hp1⟩ := h.c_i
  obtain ⟨xp1, hxp1, hp2⟩ := hp1.c_i
  obtain ⟨xp2, hxp2, hp3⟩ := hp2.c_i
  obtain ⟨vp3, xp3, hxp3, rp3, hp4⟩ := hp3.c_r
  obtain ⟨vp4, xp4, hxp4, rp4, hp5⟩ := hp4.c_r
  obtain ⟨vp5, xp5, hxp5, rp5, hp6⟩ := hp5.c_r
  obtain ⟨vp6, xp6, hxp6, rp6, hp7⟩ := hp6.c_r
  have hxpn := hp7.c_n
  have Hp : Hid (cs = .int .i64 a0 :: .int .i64 a1 :: .int .i64 a2 :: vp3 :: vp4 :: vp5 :: vp6 :: []) := by show _ = _; rw [hxp0, hxp1, hxp2, hxp3, hxp4, hxp5, hxp6, hxpn]
  clear hxp0 hxp1 hxp2 hxp3 hxp4 hxp5 hxp6 hxpn
  obtain ⟨cq0, hcq0⟩ : ∃ x, x = cs' := ⟨_, rfl⟩
  obtain ⟨xq0, hxq0, hq1⟩ := h'.c_i
  obtain ⟨xq1, hxq1, hq2⟩ := hq1.c_i
  obtain ⟨xq2, hxq2, hq3⟩ := hq2.c_i
  obtain ⟨vq3, xq3, hxq3, rq3, hq4⟩ := hq3.c_r
  obtain ⟨vq4, xq4, hxq4, rq4, hq5⟩ := hq4.c_r
  obtain ⟨vq5, xq5, hxq5, rq5, hq6⟩ := hq5.c_r
  obtain ⟨vq6, xq6, hxq6, rq6, hq7⟩ := hq6.c_r
  have hxqn := hq7.c_n
  have Hq : Hid (cs' = .int .i64 a0 :: .int .i64 a1 :: .int .i64 a2 :: vq3 :: vq4 :: vq5 :: vq6 :: []) := by show _ = _; rw [hxq0, hxq1, hxq2, hxq3, hxq4, hxq5, hxq6, hxqn]
  clear hxq0 hxq1 hxq2 hxq3 hxq4 hxq5 hxq6 hxqn
  obtain ⟨wa, hwa⟩ : ∃ wa, wa = (w.alloc (.cells cs.toArray 32)).alloc (.cells cs'.toArray 32) := ⟨_, rfl⟩
  have HB : Hid (Below w.heap.size w wa) := by show Below _ _ _; rw [hwa]; exact blw_alloc (blw_alloc (Below.refl _ _) _) _
  have HX : Hid (LBox wa w.heap.size cs) := by show LBox _ _ _; rw [hwa]; exact (LBox.new w cs.toArray _ _ rfl).past _
  have HY : Hid (LBox wa (w.heap.size + 1) cs') := by show LBox _ _ _; rw [hwa]; exact LBox.new _ cs'.toArray _ _ (by simp)
  have Rp3 := uh (rp3.later HB.out)
  have Rq3 := uh (rq3.later HB.out)
  have Rp4 := uh (rp4.later HB.out)
  have Rq4 := uh (rq4.later HB.out)
  have Rp5 := uh (rp5.later HB.out)
  have Rq5 := uh (rq5.later HB.out)
  have Rp6 := uh (rp6.later HB.out)
  have Rq6 := uh (rq6.later HB.out)
  clear h h' rp3 rq3 rp4 rq4 rp5 rq5 rp6 rq6 hp1 hq1 hp2 hq2 hp3 hq3 hp4 hq4 hp5 hq5 hp6 hq6 hp7 hq7 hcp0 hcq0 cp0 cq0
  go_enter Try.func22, Try.ntmps22
  go_upto_region 1 with fail
  rw [← hwa]
  clear hwa
  have yz := HX.out.lt
  have xz := HY.out.lt
  have bp := boxGateBook  (by have := HX.out.at_; rw [Hp.out] at this; exact this)
  have bq := boxGateBook  (by have := HY.out.at_; rw [Hq.out] at this; exact this)
  obtain ⟨gp0, gp1, gp2, gp3, gp4, gp5, gp6⟩ := bp
  obtain ⟨gq0, gq1, gq2, gq3, gq4, gq5, gq6⟩ := bq
  obtain ⟨vap3, vcp3, hva⟩ := Rp3.out.len0
  subst hva
  obtain ⟨vaq3, vcq3, hva⟩ := Rq3.out.len0
  subst hva
  go_wp2_with fail
  refine (eqGateObjectS n3 e3 _ _ wa Rp3.out Rq3.out).mono ?_
  rintro e x3 ⟨rfl, hb3⟩
  replace HB := uh (blw_trans HB.out hb3)
  replace HX := uh (HX.out.later hb3)
  replace HY := uh (HY.out.later hb3)
  replace Rp4 := uh (Rp4.out.later hb3)
  replace Rq4 := uh (Rq4.out.later hb3)
  replace Rp5 := uh (Rp5.out.later hb3)
  replace Rq5 := uh (Rq5.out.later hb3)
  replace Rp6 := uh (Rp6.out.later hb3)
  replace Rq6 := uh (Rq6.out.later hb3)
  clear hb3 yz xz gp0 gq0 gp1 gq1 gp2 gq2 gp3 gq3 gp4 gq4 gp5 gq5 gp6 gq6
  have yz := HX.out.lt
  have xz := HY.out.lt
  have bp := boxGateBook  (by have := HX.out.at_; rw [Hp.out] at this; exact this)
  have bq := boxGateBook  (by have := HY.out.at_; rw [Hq.out] at this; exact this)
  obtain ⟨gp0, gp1, gp2, gp3, gp4, gp5, gp6⟩ := bp
  obtain ⟨gq0, gq1, gq2, gq3, gq4, gq5, gq6⟩ := bq
  obtain ⟨vap4, vcp4, hva⟩ := Rp4.out.len0
  subst hva
  obtain ⟨vaq4, vcq4, hva⟩ := Rq4.out.len0
  subst hva
  go_wp2_with fail
  refine (eqGateGrantS n4 e4 _ _ x3 Rp4.out Rq4.out).mono ?_
  rintro e x4 ⟨rfl, hb4⟩
  replace HB := uh (blw_trans HB.out hb4)
  replace HX := uh (HX.out.later hb4)
  replace HY := uh (HY.out.later hb4)
  replace Rp5 := uh (Rp5.out.later hb4)
  replace Rq5 := uh (Rq5.out.later hb4)
  replace Rp6 := uh (Rp6.out.later hb4)
  replace Rq6 := uh (Rq6.out.later hb4)
  clear hb4 yz xz gp0 gq0 gp1 gq1 gp2 gq2 gp3 gq3 gp4 gq4 gp5 gq5 gp6 gq6
  have yz := HX.out.lt
  have xz := HY.out.lt
  have bp := boxGateBook  (by have := HX.out.at_; rw [Hp.out] at this; exact this)
  have bq := boxGateBook  (by have := HY.out.at_; rw [Hq.out] at this; exact this)
  obtain ⟨gp0, gp1, gp2, gp3, gp4, gp5, gp6⟩ := bp
  obtain ⟨gq0, gq1, gq2, gq3, gq4, gq5, gq6⟩ := bq
  obtain ⟨vap5, vcp5, hva⟩ := Rp5.out.len0
  subst hva
  obtain ⟨vaq5, vcq5, hva⟩ := Rq5.out.len0
  subst hva
  go_wp2_with fail
  refine (eqGateLedgerS n5 e5 _ _ x4 Rp5.out Rq5.out).mono ?_
  rintro e x5 ⟨rfl, hb5⟩
  replace HB := uh (blw_trans HB.out hb5)
  replace HX := uh (HX.out.later hb5)
  replace HY := uh (HY.out.later hb5)
  replace Rp6 := uh (Rp6.out.later hb5)
  replace Rq6 := uh (Rq6.out.later hb5)
  clear hb5 yz xz gp0 gq0 gp1 gq1 gp2 gq2 gp3 gq3 gp4 gq4 gp5 gq5 gp6 gq6
  have yz := HX.out.lt
  have xz := HY.out.lt
  have bp := boxGateBook  (by have := HX.out.at_; rw [Hp.out] at this; exact this)
  have bq := boxGateBook  (by have := HY.out.at_; rw [Hq.out] at this; exact this)
  obtain ⟨gp0, gp1, gp2, gp3, gp4, gp5, gp6⟩ := bp
  obtain ⟨gq0, gq1, gq2, gq3, gq4, gq5, gq6⟩ := bq
  obtain ⟨vap6, vcp6, hva⟩ := Rp6.out.len0
  subst hva
  obtain ⟨vaq6, vcq6, hva⟩ := Rq6.out.len0
  subst hva
  go_wp2_with fail
  refine (eqGatePurseS n6 e6 _ _ x5 Rp6.out Rq6.out).mono ?_
  rintro e x6 ⟨rfl, hb6⟩
  replace HB := uh (blw_trans HB.out hb6)
  replace HX := uh (HX.out.later hb6)
  replace HY := uh (HY.out.later hb6)
  clear hb6 yz xz gp0 gq0 gp1 gq1 gp2 gq2 gp3 gq3 gp4 gq4 gp5 gq5 gp6 gq6
  have yz := HX.out.lt
  have xz := HY.out.lt
  have bp := boxGateBook  (by have := HX.out.at_; rw [Hp.out] at this; exact this)
  have bq := boxGateBook  (by have := HY.out.at_; rw [Hq.out] at this; exact this)
  obtain ⟨gp0, gp1, gp2, gp3, gp4, gp5, gp6⟩ := bp
  obtain ⟨gq0, gq1, gq2, gq3, gq4, gq5, gq6⟩ := bq
  go_wp2
  go_ret
  exact ⟨rfl, HB.out⟩
end Go.Proofs.Ytkehaeppnmlafaa
