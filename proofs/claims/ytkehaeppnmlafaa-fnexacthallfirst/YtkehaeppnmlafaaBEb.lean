/-
  Books of the stewards that are alike.
-/
import Derived.Test.YtkehaeppnmlafaaBSh
namespace Go.Proofs.Ytkehaeppnmlafaa
open Go.RowKit Go.Deep

set_option maxRecDepth 8000 in
set_option maxHeartbeats 8000000 in
theorem eqStewService (ds : List Dt) (cs cs' : List Value) (w : World) (h : Raw w shStewService ds cs) (h' : Raw w shStewService ds cs') :
    Calls Try.prog 81 #[.agg cs.toArray, .agg cs'.toArray] w fun e w' => e = .returned (.bool true) ∧ Below w.heap.size w w' := by
  obtain ⟨a0, a1, a2, a3, a4, a5, a6, a7, a8, a9, a10, a11, a12, rfl⟩ := segTypStewService h.typ
  obtain ⟨cp0, hcp0⟩ : ∃ x, x = cs := ⟨_, rfl⟩
  obtain ⟨xp0, hxp0, hp1⟩ := h.c_s
  obtain ⟨xp1, hxp1, hp2⟩ := hp1.c_i
  obtain ⟨xp2, hxp2, hp3⟩ := hp2.c_b
  obtain ⟨xp3, hxp3, hp4⟩ := hp3.c_i
  obtain ⟨xp4, hxp4, hp5⟩ := hp4.c_i
  obtain ⟨xp5, hxp5, hp6⟩ := hp5.c_i
  obtain ⟨xp6, hxp6, hp7⟩ := hp6.c_i
  obtain ⟨xp7, hxp7, hp8⟩ := hp7.c_i
  obtain ⟨xp8, hxp8, hp9⟩ := hp8.c_i
  obtain ⟨xp9, hxp9, hp10⟩ := hp9.c_i
  obtain ⟨xp10, hxp10, hp11⟩ := hp10.c_i
  obtain ⟨xp11, hxp11, hp12⟩ := hp11.c_i
  obtain ⟨xp12, hxp12, hp13⟩ := hp12.c_i
  have hxpn := hp13.c_n
  have Hp : Hid (cs = .string a0 :: .int .i64 a1 :: .bool a2 :: .int .i64 a3 :: .int .i64 a4 :: .int .i64 a5 :: .int .i64 a6 :: .int .i64 a7 :: .int .i64 a8 :: .int .i64 a9 :: .int .i64 a10 :: .int .i64 a11 :: .int .i64 a12 :: []) := by show _ = _; rw [hxp0, hxp1, hxp2, hxp3, hxp4, hxp5, hxp6, hxp7, hxp8, hxp9, hxp10, hxp11, hxp12, hxpn]
  clear hxp0 hxp1 hxp2 hxp3 hxp4 hxp5 hxp6 hxp7 hxp8 hxp9 hxp10 hxp11 hxp12 hxpn
  obtain ⟨cq0, hcq0⟩ : ∃ x, x = cs' := ⟨_, rfl⟩
  obtain ⟨xq0, hxq0, hq1⟩ := h'.c_s
  obtain ⟨xq1, hxq1, hq2⟩ := hq1.c_i
  obtain ⟨xq2, hxq2, hq3⟩ := hq2.c_b
  obtain ⟨xq3, hxq3, hq4⟩ := hq3.c_i
  obtain ⟨xq4, hxq4, hq5⟩ := hq4.c_i
  obtain ⟨xq5, hxq5, hq6⟩ := hq5.c_i
  obtain ⟨xq6, hxq6, hq7⟩ := hq6.c_i
  obtain ⟨xq7, hxq7, hq8⟩ := hq7.c_i
  obtain ⟨xq8, hxq8, hq9⟩ := hq8.c_i
  obtain ⟨xq9, hxq9, hq10⟩ := hq9.c_i
  obtain ⟨xq10, hxq10, hq11⟩ := hq10.c_i
  obtain ⟨xq11, hxq11, hq12⟩ := hq11.c_i
  obtain ⟨xq12, hxq12, hq13⟩ := hq12.c_i
  have hxqn := hq13.c_n
  have Hq : Hid (cs' = .string a0 :: .int .i64 a1 :: .bool a2 :: .int .i64 a3 :: .int .i64 a4 :: .int .i64 a5 :: .int .i64 a6 :: .int .i64 a7 :: .int .i64 a8 :: .int .i64 a9 :: .int .i64 a10 :: .int .i64 a11 :: .int .i64 a12 :: []) := by show _ = _; rw [hxq0, hxq1, hxq2, hxq3, hxq4, hxq5, hxq6, hxq7, hxq8, hxq9, hxq10, hxq11, hxq12, hxqn]
  clear hxq0 hxq1 hxq2 hxq3 hxq4 hxq5 hxq6 hxq7 hxq8 hxq9 hxq10 hxq11 hxq12 hxqn
  obtain ⟨wa, hwa⟩ : ∃ wa, wa = (w.alloc (.cells cs.toArray 125)).alloc (.cells cs'.toArray 125) := ⟨_, rfl⟩
  have HB : Hid (Below w.heap.size w wa) := by show Below _ _ _; rw [hwa]; exact blw_alloc (blw_alloc (Below.refl _ _) _) _
  have HX : Hid (LBox wa w.heap.size cs) := by show LBox _ _ _; rw [hwa]; exact (LBox.new w cs.toArray _ _ rfl).past _
  have HY : Hid (LBox wa (w.heap.size + 1) cs') := by show LBox _ _ _; rw [hwa]; exact LBox.new _ cs'.toArray _ _ (by simp)
  clear h h' hp1 hq1 hp2 hq2 hp3 hq3 hp4 hq4 hp5 hq5 hp6 hq6 hp7 hq7 hp8 hq8 hp9 hq9 hp10 hq10 hp11 hq11 hp12 hq12 hp13 hq13 hcp0 hcq0 cp0 cq0
  go_enter Try.func81, Try.ntmps81
  go_upto_region 1 with fail
  rw [← hwa]
  clear hwa
  have yz := HX.out.lt
  have xz := HY.out.lt
  have bp := boxStewService  (by have := HX.out.at_; rw [Hp.out] at this; exact this)
  have bq := boxStewService  (by have := HY.out.at_; rw [Hq.out] at this; exact this)
  obtain ⟨gp0, gp1, gp2, gp3, gp4, gp5, gp6, gp7, gp8, gp9, gp10, gp11, gp12⟩ := bp
  obtain ⟨gq0, gq1, gq2, gq3, gq4, gq5, gq6, gq7, gq8, gq9, gq10, gq11, gq12⟩ := bq
  have hub2 : (a2 != a2) = false := by cases a2 <;> rfl
  go_wp2
  go_ret
  exact ⟨rfl, HB.out⟩
set_option maxRecDepth 8000 in
set_option maxHeartbeats 8000000 in
theorem eqStewServiceS (n : Nat) (es : List Dt) (v v' : Value) (w : World) (h : Raw w [.row 125 shStewService] [.row n es] [v]) (h' : Raw w [.row 125 shStewService] [.row n es] [v']) :
    Calls Try.prog 48 #[v, v'] w fun e w' => e = .returned (.bool true) ∧ Below w.heap.size w w' := by
  by_cases h0 : n = 0
  · subst h0
    obtain ⟨a, c, rfl⟩ := h.len0
    obtain ⟨a', c', rfl⟩ := h'.len0
    go_enter Try.func48, Try.ntmps48
    go_wp2
    refine wp_loop_rounds 1 ?_
    rw [rounds_succ]
    go_wp2
    go_ret
    exact ⟨rfl, Below.refl _ _⟩
  rcases h.slice with ⟨e0, _⟩ | ⟨p, o, c, rfl, hp, hn, vs, hr, hR⟩
  · exact absurd e0 h0
  rcases h'.slice with ⟨e0, _⟩ | ⟨p', o', c', rfl, hp', _, vs', hr', hR'⟩
  · exact absurd e0 h0
  have HR := uh (And.intro hR (And.intro hr hp))
  have HR' := uh (And.intro hR' (And.intro hr' hp'))
  have hn1 : n ≤ 9223372036854775807 := hn.1
  clear h h' hr hR hp hr' hR' hp' hn
  go_enter Try.func48, Try.ntmps48
  go_wp2
  go_loopw [5] (fun i wr => ∃ q : Nat, q ≤ n ∧ i = .int .i64 q ∧ Below w.heap.size w wr) (fun i _ => n - (intOf i).toNat)
  case atStart => exact ⟨0, Nat.zero_le _, rfl, Below.refl _ _⟩
  case round =>
    obtain ⟨q, hq, rfl, hW⟩ := hrel
    have HB := uh hW
    clear hW
    by_cases hlt : q < n
    · obtain ⟨ve, hE, hg⟩ := (HR.out.1.later HB.out).el hlt (rA_later HR.out.2.1 HR.out.2.2 HB.out)
      obtain ⟨ve', hE', hg'⟩ := (HR'.out.1.later HB.out).el hlt (rA_later HR'.out.2.1 HR'.out.2.2 HB.out)
      have hbp : p < wr.heap.size := Nat.lt_of_lt_of_le HR.out.2.2 HB.out.size
      have hbq : p' < wr.heap.size := Nat.lt_of_lt_of_le HR'.out.2.2 HB.out.size
      have hm0 : (0 : Int) ≤ (q : Int) := by omega
      have hm3 : (q : Int) < (n : Int) := by omega
      have hNE := upst_some wr
      have z1 : ∀ px : UPst wr, p < px.W.heap.size := fun px => px.size hbp
      have z2 : ∀ px : UPst wr, p' < px.W.heap.size := fun px => px.size hbq
      have H1 := uh (And.intro hE.len (And.intro (show wr.rangeAt p (o + q * 13) ve from hg) hbp))
      have H2 := uh (And.intro hE'.len (And.intro (show wr.rangeAt p' (o' + q * 13) ve' from hg') hbq))
      have HX : Hid (∀ px : UPst wr, Calls Try.prog 81 #[.agg ve.toArray, .agg ve'.toArray] px.W fun e w' => e = .returned (.bool true) ∧ Below px.W.heap.size px.W w') := fun px => eqStewService _ ve ve' px.W (hE.later px.ok) (hE'.later px.ok)
      clear hE hE' hg hg' hbp hbq HR HR'
      go_upto_region 6 with fail
      refine uregion wr (Below.refl _ _) (by kernel_rfl) (by kernel_rfl) ?_
      repeat (first
        | go_big_quiet_skip
        | (go_big_quiet_want; (first | refine uq_load 125 _ rfl p (o + q * 13) rfl ve _ H1.out.2.1 H1.out.2.2 Try.underlying125 rfl (by rw [H1.out.1]; kernel_rfl) ?_ | refine uq_load 125 _ rfl p' (o' + q * 13) rfl ve' _ H2.out.2.1 H2.out.2.2 Try.underlying125 rfl (by rw [H2.out.1]; kernel_rfl) ?_); (simp only [Act.put, List.setIfInBounds_toArray, List.set_cons_zero, List.set_cons_succ]); go_big_quiet_on)
        | (go_big_quiet_want; go_big_quiet_op; first | go_big_quiet_on | (apply Exists.intro; refine ⟨fun px => ?_, ?_⟩; (focus ((go_at_call 81; refine (HX.out px).mono ?_; rintro e w' ⟨he, hb⟩; exact ⟨he, ⟨w', blw_trans px.ok hb⟩, rfl⟩))); go_big_quiet_on)))
      refine wpQuiet_nil ?_
      intro _ hw'
      obtain ⟨z, hw''⟩ := hw'
      subst hw''
      replace HB := uh (blw_trans HB.out z.ok)
      go_wp2
      go_roundw
      case rel => exact ⟨q + 1, by omega, by go_num, HB.out⟩
      case measure => simp [intOf]; omega
    · go_wp2
      go_ret
      exact ⟨rfl, HB.out⟩
set_option maxRecDepth 8000 in
set_option maxHeartbeats 8000000 in
theorem eqStewCopy (ds : List Dt) (cs cs' : List Value) (w : World) (h : Raw w shStewCopy ds cs) (h' : Raw w shStewCopy ds cs') :
    Calls Try.prog 82 #[.agg cs.toArray, .agg cs'.toArray] w fun e w' => e = .returned (.bool true) ∧ Below w.heap.size w w' := by
  obtain ⟨a0, a1, a2, a3, a4, a5, a6, rfl⟩ := segTypStewCopy h.typ
  obtain ⟨cp0, hcp0⟩ : ∃ x, x = cs := ⟨_, rfl⟩
  obtain ⟨xp0, hxp0, hp1⟩ := h.c_s
  obtain ⟨xp1, hxp1, hp2⟩ := hp1.c_i
  obtain ⟨xp2, hxp2, hp3⟩ := hp2.c_i
  obtain ⟨xp3, hxp3, hp4⟩ := hp3.c_i
  obtain ⟨xp4, hxp4, hp5⟩ := hp4.c_i
  obtain ⟨xp5, hxp5, hp6⟩ := hp5.c_b
  obtain ⟨xp6, hxp6, hp7⟩ := hp6.c_s
  have hxpn := hp7.c_n
  have Hp : Hid (cs = .string a0 :: .int .i64 a1 :: .int .i64 a2 :: .int .i64 a3 :: .int .i64 a4 :: .bool a5 :: .string a6 :: []) := by show _ = _; rw [hxp0, hxp1, hxp2, hxp3, hxp4, hxp5, hxp6, hxpn]
  clear hxp0 hxp1 hxp2 hxp3 hxp4 hxp5 hxp6 hxpn
  obtain ⟨cq0, hcq0⟩ : ∃ x, x = cs' := ⟨_, rfl⟩
  obtain ⟨xq0, hxq0, hq1⟩ := h'.c_s
  obtain ⟨xq1, hxq1, hq2⟩ := hq1.c_i
  obtain ⟨xq2, hxq2, hq3⟩ := hq2.c_i
  obtain ⟨xq3, hxq3, hq4⟩ := hq3.c_i
  obtain ⟨xq4, hxq4, hq5⟩ := hq4.c_i
  obtain ⟨xq5, hxq5, hq6⟩ := hq5.c_b
  obtain ⟨xq6, hxq6, hq7⟩ := hq6.c_s
  have hxqn := hq7.c_n
  have Hq : Hid (cs' = .string a0 :: .int .i64 a1 :: .int .i64 a2 :: .int .i64 a3 :: .int .i64 a4 :: .bool a5 :: .string a6 :: []) := by show _ = _; rw [hxq0, hxq1, hxq2, hxq3, hxq4, hxq5, hxq6, hxqn]
  clear hxq0 hxq1 hxq2 hxq3 hxq4 hxq5 hxq6 hxqn
  obtain ⟨wa, hwa⟩ : ∃ wa, wa = (w.alloc (.cells cs.toArray 128)).alloc (.cells cs'.toArray 128) := ⟨_, rfl⟩
  have HB : Hid (Below w.heap.size w wa) := by show Below _ _ _; rw [hwa]; exact blw_alloc (blw_alloc (Below.refl _ _) _) _
  have HX : Hid (LBox wa w.heap.size cs) := by show LBox _ _ _; rw [hwa]; exact (LBox.new w cs.toArray _ _ rfl).past _
  have HY : Hid (LBox wa (w.heap.size + 1) cs') := by show LBox _ _ _; rw [hwa]; exact LBox.new _ cs'.toArray _ _ (by simp)
  clear h h' hp1 hq1 hp2 hq2 hp3 hq3 hp4 hq4 hp5 hq5 hp6 hq6 hp7 hq7 hcp0 hcq0 cp0 cq0
  go_enter Try.func82, Try.ntmps82
  go_upto_region 1 with fail
  rw [← hwa]
  clear hwa
  have yz := HX.out.lt
  have xz := HY.out.lt
  have bp := boxStewCopy  (by have := HX.out.at_; rw [Hp.out] at this; exact this)
  have bq := boxStewCopy  (by have := HY.out.at_; rw [Hq.out] at this; exact this)
  obtain ⟨gp0, gp1, gp2, gp3, gp4, gp5, gp6⟩ := bp
  obtain ⟨gq0, gq1, gq2, gq3, gq4, gq5, gq6⟩ := bq
  have hub5 : (a5 != a5) = false := by cases a5 <;> rfl
  go_wp2
  go_ret
  exact ⟨rfl, HB.out⟩
set_option maxRecDepth 8000 in
set_option maxHeartbeats 8000000 in
theorem eqStewCopyS (n : Nat) (es : List Dt) (v v' : Value) (w : World) (h : Raw w [.row 128 shStewCopy] [.row n es] [v]) (h' : Raw w [.row 128 shStewCopy] [.row n es] [v']) :
    Calls Try.prog 49 #[v, v'] w fun e w' => e = .returned (.bool true) ∧ Below w.heap.size w w' := by
  by_cases h0 : n = 0
  · subst h0
    obtain ⟨a, c, rfl⟩ := h.len0
    obtain ⟨a', c', rfl⟩ := h'.len0
    go_enter Try.func49, Try.ntmps49
    go_wp2
    refine wp_loop_rounds 1 ?_
    rw [rounds_succ]
    go_wp2
    go_ret
    exact ⟨rfl, Below.refl _ _⟩
  rcases h.slice with ⟨e0, _⟩ | ⟨p, o, c, rfl, hp, hn, vs, hr, hR⟩
  · exact absurd e0 h0
  rcases h'.slice with ⟨e0, _⟩ | ⟨p', o', c', rfl, hp', _, vs', hr', hR'⟩
  · exact absurd e0 h0
  have HR := uh (And.intro hR (And.intro hr hp))
  have HR' := uh (And.intro hR' (And.intro hr' hp'))
  have hn1 : n ≤ 9223372036854775807 := hn.1
  clear h h' hr hR hp hr' hR' hp' hn
  go_enter Try.func49, Try.ntmps49
  go_wp2
  go_loopw [5] (fun i wr => ∃ q : Nat, q ≤ n ∧ i = .int .i64 q ∧ Below w.heap.size w wr) (fun i _ => n - (intOf i).toNat)
  case atStart => exact ⟨0, Nat.zero_le _, rfl, Below.refl _ _⟩
  case round =>
    obtain ⟨q, hq, rfl, hW⟩ := hrel
    have HB := uh hW
    clear hW
    by_cases hlt : q < n
    · obtain ⟨ve, hE, hg⟩ := (HR.out.1.later HB.out).el hlt (rA_later HR.out.2.1 HR.out.2.2 HB.out)
      obtain ⟨ve', hE', hg'⟩ := (HR'.out.1.later HB.out).el hlt (rA_later HR'.out.2.1 HR'.out.2.2 HB.out)
      have hbp : p < wr.heap.size := Nat.lt_of_lt_of_le HR.out.2.2 HB.out.size
      have hbq : p' < wr.heap.size := Nat.lt_of_lt_of_le HR'.out.2.2 HB.out.size
      have hm0 : (0 : Int) ≤ (q : Int) := by omega
      have hm3 : (q : Int) < (n : Int) := by omega
      have hNE := upst_some wr
      have z1 : ∀ px : UPst wr, p < px.W.heap.size := fun px => px.size hbp
      have z2 : ∀ px : UPst wr, p' < px.W.heap.size := fun px => px.size hbq
      have H1 := uh (And.intro hE.len (And.intro (show wr.rangeAt p (o + q * 7) ve from hg) hbp))
      have H2 := uh (And.intro hE'.len (And.intro (show wr.rangeAt p' (o' + q * 7) ve' from hg') hbq))
      have HX : Hid (∀ px : UPst wr, Calls Try.prog 82 #[.agg ve.toArray, .agg ve'.toArray] px.W fun e w' => e = .returned (.bool true) ∧ Below px.W.heap.size px.W w') := fun px => eqStewCopy _ ve ve' px.W (hE.later px.ok) (hE'.later px.ok)
      clear hE hE' hg hg' hbp hbq HR HR'
      go_upto_region 6 with fail
      refine uregion wr (Below.refl _ _) (by kernel_rfl) (by kernel_rfl) ?_
      repeat (first
        | go_big_quiet_skip
        | (go_big_quiet_want; (first | refine uq_load 128 _ rfl p (o + q * 7) rfl ve _ H1.out.2.1 H1.out.2.2 Try.underlying128 rfl (by rw [H1.out.1]; kernel_rfl) ?_ | refine uq_load 128 _ rfl p' (o' + q * 7) rfl ve' _ H2.out.2.1 H2.out.2.2 Try.underlying128 rfl (by rw [H2.out.1]; kernel_rfl) ?_); (simp only [Act.put, List.setIfInBounds_toArray, List.set_cons_zero, List.set_cons_succ]); go_big_quiet_on)
        | (go_big_quiet_want; go_big_quiet_op; first | go_big_quiet_on | (apply Exists.intro; refine ⟨fun px => ?_, ?_⟩; (focus ((go_at_call 82; refine (HX.out px).mono ?_; rintro e w' ⟨he, hb⟩; exact ⟨he, ⟨w', blw_trans px.ok hb⟩, rfl⟩))); go_big_quiet_on)))
      refine wpQuiet_nil ?_
      intro _ hw'
      obtain ⟨z, hw''⟩ := hw'
      subst hw''
      replace HB := uh (blw_trans HB.out z.ok)
      go_wp2
      go_roundw
      case rel => exact ⟨q + 1, by omega, by go_num, HB.out⟩
      case measure => simp [intOf]; omega
    · go_wp2
      go_ret
      exact ⟨rfl, HB.out⟩
set_option maxRecDepth 8000 in
set_option maxHeartbeats 8000000 in
theorem eqStewBerth (ds : List Dt) (cs cs' : List Value) (w : World) (h : Raw w shStewBerth ds cs) (h' : Raw w shStewBerth ds cs') :
    Calls Try.prog 83 #[.agg cs.toArray, .agg cs'.toArray] w fun e w' => e = .returned (.bool true) ∧ Below w.heap.size w w' := by
  obtain ⟨a0, a1, rfl⟩ := segTypStewBerth h.typ
  obtain ⟨cp0, hcp0⟩ : ∃ x, x = cs := ⟨_, rfl⟩
  obtain ⟨xp0, hxp0, hp1⟩ := h.c_s
  obtain ⟨xp1, hxp1, hp2⟩ := hp1.c_b
  have hxpn := hp2.c_n
  have Hp : Hid (cs = .string a0 :: .bool a1 :: []) := by show _ = _; rw [hxp0, hxp1, hxpn]
  clear hxp0 hxp1 hxpn
  obtain ⟨cq0, hcq0⟩ : ∃ x, x = cs' := ⟨_, rfl⟩
  obtain ⟨xq0, hxq0, hq1⟩ := h'.c_s
  obtain ⟨xq1, hxq1, hq2⟩ := hq1.c_b
  have hxqn := hq2.c_n
  have Hq : Hid (cs' = .string a0 :: .bool a1 :: []) := by show _ = _; rw [hxq0, hxq1, hxqn]
  clear hxq0 hxq1 hxqn
  obtain ⟨wa, hwa⟩ : ∃ wa, wa = (w.alloc (.cells cs.toArray 131)).alloc (.cells cs'.toArray 131) := ⟨_, rfl⟩
  have HB : Hid (Below w.heap.size w wa) := by show Below _ _ _; rw [hwa]; exact blw_alloc (blw_alloc (Below.refl _ _) _) _
  have HX : Hid (LBox wa w.heap.size cs) := by show LBox _ _ _; rw [hwa]; exact (LBox.new w cs.toArray _ _ rfl).past _
  have HY : Hid (LBox wa (w.heap.size + 1) cs') := by show LBox _ _ _; rw [hwa]; exact LBox.new _ cs'.toArray _ _ (by simp)
  clear h h' hp1 hq1 hp2 hq2 hcp0 hcq0 cp0 cq0
  go_enter Try.func83, Try.ntmps83
  go_upto_region 1 with fail
  rw [← hwa]
  clear hwa
  have yz := HX.out.lt
  have xz := HY.out.lt
  have bp := boxStewBerth  (by have := HX.out.at_; rw [Hp.out] at this; exact this)
  have bq := boxStewBerth  (by have := HY.out.at_; rw [Hq.out] at this; exact this)
  obtain ⟨gp0, gp1⟩ := bp
  obtain ⟨gq0, gq1⟩ := bq
  have hub1 : (a1 != a1) = false := by cases a1 <;> rfl
  go_wp2
  go_ret
  exact ⟨rfl, HB.out⟩
set_option maxRecDepth 8000 in
set_option maxHeartbeats 8000000 in
theorem eqStewBerthS (n : Nat) (es : List Dt) (v v' : Value) (w : World) (h : Raw w [.row 131 shStewBerth] [.row n es] [v]) (h' : Raw w [.row 131 shStewBerth] [.row n es] [v']) :
    Calls Try.prog 50 #[v, v'] w fun e w' => e = .returned (.bool true) ∧ Below w.heap.size w w' := by
  by_cases h0 : n = 0
  · subst h0
    obtain ⟨a, c, rfl⟩ := h.len0
    obtain ⟨a', c', rfl⟩ := h'.len0
    go_enter Try.func50, Try.ntmps50
    go_wp2
    refine wp_loop_rounds 1 ?_
    rw [rounds_succ]
    go_wp2
    go_ret
    exact ⟨rfl, Below.refl _ _⟩
  rcases h.slice with ⟨e0, _⟩ | ⟨p, o, c, rfl, hp, hn, vs, hr, hR⟩
  · exact absurd e0 h0
  rcases h'.slice with ⟨e0, _⟩ | ⟨p', o', c', rfl, hp', _, vs', hr', hR'⟩
  · exact absurd e0 h0
  have HR := uh (And.intro hR (And.intro hr hp))
  have HR' := uh (And.intro hR' (And.intro hr' hp'))
  have hn1 : n ≤ 9223372036854775807 := hn.1
  clear h h' hr hR hp hr' hR' hp' hn
  go_enter Try.func50, Try.ntmps50
  go_wp2
  go_loopw [5] (fun i wr => ∃ q : Nat, q ≤ n ∧ i = .int .i64 q ∧ Below w.heap.size w wr) (fun i _ => n - (intOf i).toNat)
  case atStart => exact ⟨0, Nat.zero_le _, rfl, Below.refl _ _⟩
  case round =>
    obtain ⟨q, hq, rfl, hW⟩ := hrel
    have HB := uh hW
    clear hW
    by_cases hlt : q < n
    · obtain ⟨ve, hE, hg⟩ := (HR.out.1.later HB.out).el hlt (rA_later HR.out.2.1 HR.out.2.2 HB.out)
      obtain ⟨ve', hE', hg'⟩ := (HR'.out.1.later HB.out).el hlt (rA_later HR'.out.2.1 HR'.out.2.2 HB.out)
      have hbp : p < wr.heap.size := Nat.lt_of_lt_of_le HR.out.2.2 HB.out.size
      have hbq : p' < wr.heap.size := Nat.lt_of_lt_of_le HR'.out.2.2 HB.out.size
      have hm0 : (0 : Int) ≤ (q : Int) := by omega
      have hm3 : (q : Int) < (n : Int) := by omega
      have hNE := upst_some wr
      have z1 : ∀ px : UPst wr, p < px.W.heap.size := fun px => px.size hbp
      have z2 : ∀ px : UPst wr, p' < px.W.heap.size := fun px => px.size hbq
      have H1 := uh (And.intro hE.len (And.intro (show wr.rangeAt p (o + q * 2) ve from hg) hbp))
      have H2 := uh (And.intro hE'.len (And.intro (show wr.rangeAt p' (o' + q * 2) ve' from hg') hbq))
      have HX : Hid (∀ px : UPst wr, Calls Try.prog 83 #[.agg ve.toArray, .agg ve'.toArray] px.W fun e w' => e = .returned (.bool true) ∧ Below px.W.heap.size px.W w') := fun px => eqStewBerth _ ve ve' px.W (hE.later px.ok) (hE'.later px.ok)
      clear hE hE' hg hg' hbp hbq HR HR'
      go_upto_region 6 with fail
      refine uregion wr (Below.refl _ _) (by kernel_rfl) (by kernel_rfl) ?_
      repeat (first
        | go_big_quiet_skip
        | (go_big_quiet_want; (first | refine uq_load 131 _ rfl p (o + q * 2) rfl ve _ H1.out.2.1 H1.out.2.2 Try.underlying131 rfl (by rw [H1.out.1]; kernel_rfl) ?_ | refine uq_load 131 _ rfl p' (o' + q * 2) rfl ve' _ H2.out.2.1 H2.out.2.2 Try.underlying131 rfl (by rw [H2.out.1]; kernel_rfl) ?_); (simp only [Act.put, List.setIfInBounds_toArray, List.set_cons_zero, List.set_cons_succ]); go_big_quiet_on)
        | (go_big_quiet_want; go_big_quiet_op; first | go_big_quiet_on | (apply Exists.intro; refine ⟨fun px => ?_, ?_⟩; (focus ((go_at_call 83; refine (HX.out px).mono ?_; rintro e w' ⟨he, hb⟩; exact ⟨he, ⟨w', blw_trans px.ok hb⟩, rfl⟩))); go_big_quiet_on)))
      refine wpQuiet_nil ?_
      intro _ hw'
      obtain ⟨z, hw''⟩ := hw'
      subst hw''
      replace HB := uh (blw_trans HB.out z.ok)
      go_wp2
      go_roundw
      case rel => exact ⟨q + 1, by omega, by go_num, HB.out⟩
      case measure => simp [intOf]; omega
    · go_wp2
      go_ret
      exact ⟨rfl, HB.out⟩
set_option maxRecDepth 8000 in
set_option maxHeartbeats 8000000 in
theorem eqStewBook (ds : List Dt) (cs cs' : List Value) (w : World) (h : Raw w shStewBook ds cs) (h' : Raw w shStewBook ds cs') :
    Calls Try.prog 23 #[.agg cs.toArray, .agg cs'.toArray] w fun e w' => e = .returned (.bool true) ∧ Below w.heap.size w w' := by
  obtain ⟨a0, n1, e1, n2, e2, n3, e3, rfl, t1, t2, t3⟩ := segTypStewBook h.typ
  obtain ⟨cp0, hcp0⟩ : ∃ x, x = cs := ⟨_, rfl⟩
  obtain ⟨xp0, hxp0, hp1⟩ := h.c_i
  obtain ⟨vp1, xp1, hxp1, rp1, hp2⟩ := hp1.c_r
  obtain ⟨vp2, xp2, hxp2, rp2, hp3⟩ := hp2.c_r
  obtain ⟨vp3, xp3, hxp3, rp3, hp4⟩ := hp3.c_r
  have hxpn := hp4.c_n
  have Hp : Hid (cs = .int .i64 a0 :: vp1 :: vp2 :: vp3 :: []) := by show _ = _; rw [hxp0, hxp1, hxp2, hxp3, hxpn]
  clear hxp0 hxp1 hxp2 hxp3 hxpn
  obtain ⟨cq0, hcq0⟩ : ∃ x, x = cs' := ⟨_, rfl⟩
  obtain ⟨xq0, hxq0, hq1⟩ := h'.c_i
  obtain ⟨vq1, xq1, hxq1, rq1, hq2⟩ := hq1.c_r
  obtain ⟨vq2, xq2, hxq2, rq2, hq3⟩ := hq2.c_r
  obtain ⟨vq3, xq3, hxq3, rq3, hq4⟩ := hq3.c_r
  have hxqn := hq4.c_n
  have Hq : Hid (cs' = .int .i64 a0 :: vq1 :: vq2 :: vq3 :: []) := by show _ = _; rw [hxq0, hxq1, hxq2, hxq3, hxqn]
  clear hxq0 hxq1 hxq2 hxq3 hxqn
  obtain ⟨wa, hwa⟩ : ∃ wa, wa = (w.alloc (.cells cs.toArray 37)).alloc (.cells cs'.toArray 37) := ⟨_, rfl⟩
  have HB : Hid (Below w.heap.size w wa) := by show Below _ _ _; rw [hwa]; exact blw_alloc (blw_alloc (Below.refl _ _) _) _
  have HX : Hid (LBox wa w.heap.size cs) := by show LBox _ _ _; rw [hwa]; exact (LBox.new w cs.toArray _ _ rfl).past _
  have HY : Hid (LBox wa (w.heap.size + 1) cs') := by show LBox _ _ _; rw [hwa]; exact LBox.new _ cs'.toArray _ _ (by simp)
  have Rp1 := uh (rp1.later HB.out)
  have Rq1 := uh (rq1.later HB.out)
  have Rp2 := uh (rp2.later HB.out)
  have Rq2 := uh (rq2.later HB.out)
  have Rp3 := uh (rp3.later HB.out)
  have Rq3 := uh (rq3.later HB.out)
  clear h h' rp1 rq1 rp2 rq2 rp3 rq3 hp1 hq1 hp2 hq2 hp3 hq3 hp4 hq4 hcp0 hcq0 cp0 cq0
  go_enter Try.func23, Try.ntmps23
  go_upto_region 1 with fail
  rw [← hwa]
  clear hwa
  have yz := HX.out.lt
  have xz := HY.out.lt
  have bp := boxStewBook  (by have := HX.out.at_; rw [Hp.out] at this; exact this)
  have bq := boxStewBook  (by have := HY.out.at_; rw [Hq.out] at this; exact this)
  obtain ⟨gp0, gp1, gp2, gp3⟩ := bp
  obtain ⟨gq0, gq1, gq2, gq3⟩ := bq
  obtain ⟨vap1, vcp1, hva⟩ := Rp1.out.len0
  subst hva
  obtain ⟨vaq1, vcq1, hva⟩ := Rq1.out.len0
  subst hva
  go_wp2_with fail
  refine (eqStewServiceS n1 e1 _ _ wa Rp1.out Rq1.out).mono ?_
  rintro e x1 ⟨rfl, hb1⟩
  replace HB := uh (blw_trans HB.out hb1)
  replace HX := uh (HX.out.later hb1)
  replace HY := uh (HY.out.later hb1)
  replace Rp2 := uh (Rp2.out.later hb1)
  replace Rq2 := uh (Rq2.out.later hb1)
  replace Rp3 := uh (Rp3.out.later hb1)
  replace Rq3 := uh (Rq3.out.later hb1)
  clear hb1 yz xz gp0 gq0 gp1 gq1 gp2 gq2 gp3 gq3
  have yz := HX.out.lt
  have xz := HY.out.lt
  have bp := boxStewBook  (by have := HX.out.at_; rw [Hp.out] at this; exact this)
  have bq := boxStewBook  (by have := HY.out.at_; rw [Hq.out] at this; exact this)
  obtain ⟨gp0, gp1, gp2, gp3⟩ := bp
  obtain ⟨gq0, gq1, gq2, gq3⟩ := bq
  obtain ⟨vap2, vcp2, hva⟩ := Rp2.out.len0
  subst hva
  obtain ⟨vaq2, vcq2, hva⟩ := Rq2.out.len0
  subst hva
  go_wp2_with fail
  refine (eqStewCopyS n2 e2 _ _ x1 Rp2.out Rq2.out).mono ?_
  rintro e x2 ⟨rfl, hb2⟩
  replace HB := uh (blw_trans HB.out hb2)
  replace HX := uh (HX.out.later hb2)
  replace HY := uh (HY.out.later hb2)
  replace Rp3 := uh (Rp3.out.later hb2)
  replace Rq3 := uh (Rq3.out.later hb2)
  clear hb2 yz xz gp0 gq0 gp1 gq1 gp2 gq2 gp3 gq3
  have yz := HX.out.lt
  have xz := HY.out.lt
  have bp := boxStewBook  (by have := HX.out.at_; rw [Hp.out] at this; exact this)
  have bq := boxStewBook  (by have := HY.out.at_; rw [Hq.out] at this; exact this)
  obtain ⟨gp0, gp1, gp2, gp3⟩ := bp
  obtain ⟨gq0, gq1, gq2, gq3⟩ := bq
  obtain ⟨vap3, vcp3, hva⟩ := Rp3.out.len0
  subst hva
  obtain ⟨vaq3, vcq3, hva⟩ := Rq3.out.len0
  subst hva
  go_wp2_with fail
  refine (eqStewBerthS n3 e3 _ _ x2 Rp3.out Rq3.out).mono ?_
  rintro e x3 ⟨rfl, hb3⟩
  replace HB := uh (blw_trans HB.out hb3)
  replace HX := uh (HX.out.later hb3)
  replace HY := uh (HY.out.later hb3)
  clear hb3 yz xz gp0 gq0 gp1 gq1 gp2 gq2 gp3 gq3
  have yz := HX.out.lt
  have xz := HY.out.lt
  have bp := boxStewBook  (by have := HX.out.at_; rw [Hp.out] at this; exact this)
  have bq := boxStewBook  (by have := HY.out.at_; rw [Hq.out] at this; exact this)
  obtain ⟨gp0, gp1, gp2, gp3⟩ := bp
  obtain ⟨gq0, gq1, gq2, gq3⟩ := bq
  go_wp2
  go_ret
  exact ⟨rfl, HB.out⟩
end Go.Proofs.Ytkehaeppnmlafaa
