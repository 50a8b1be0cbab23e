/-
  Objects and services that are alike.
-/
import Derived.Test.YtiiahpegdpbkgaaOSh
namespace Go.Proofs.Ytiiahpegdpbkgaa
open Go.RowKit Go.Deep

set_option maxRecDepth 8000 in
set_option maxHeartbeats 8000000 in
theorem eqStringS (n : Nat) (es : List Dt) (v v' : Value) (w : World) (h : Raw w [.row 9 [.s]] [.row n es] [v]) (h' : Raw w [.row 9 [.s]] [.row n es] [v']) :
    Calls Try.prog 17 #[v, v'] w fun e w' => e = .returned (.bool true) ∧ Below w.heap.size w w' := by
  by_cases h0 : n = 0
  · subst h0
    obtain ⟨a, c, rfl⟩ := h.len0
    obtain ⟨a', c', rfl⟩ := h'.len0
    go_enter Try.func17, Try.ntmps17
    go_wp2
    refine wp_loop_rounds 1 ?_
    rw [rounds_succ]
    go_wp2
    go_ret
    exact ⟨rfl, Below.refl _ _⟩
  rcases h.slice with ⟨e0, _⟩ | ⟨p, o, c, rfl, hp, hn, vs, hr, hR⟩
  · exact absurd e0 h0
  rcases h'.slice with ⟨e0, _⟩ | ⟨p', o', c', rfl, hp', _, vs', hr', hR'⟩
  · exact absurd e0 h0
  have HR := uh (And.intro hR (And.intro hr hp))
  have HR' := uh (And.intro hR' (And.intro hr' hp'))
  have hn1 : n ≤ 9223372036854775807 := hn.1
  clear h h' hr hR hp hr' hR' hp' hn
  go_enter Try.func17, Try.ntmps17
  go_wp2
  go_loopw [5] (fun i wr => ∃ q : Nat, q ≤ n ∧ i = .int .i64 q ∧ Below w.heap.size w wr) (fun i _ => n - (intOf i).toNat)
  case atStart => exact ⟨0, Nat.zero_le _, rfl, Below.refl _ _⟩
  case round =>
    obtain ⟨q, hq, rfl, hW⟩ := hrel
    have HB := uh hW
    clear hW
    by_cases hlt : q < n
    · obtain ⟨ve, hE, hg⟩ := (HR.out.1.later HB.out).el hlt (rA_later HR.out.2.1 HR.out.2.2 HB.out)
      obtain ⟨ve', hE', hg'⟩ := (HR'.out.1.later HB.out).el hlt (rA_later HR'.out.2.1 HR'.out.2.2 HB.out)
      have hbp : p < wr.heap.size := Nat.lt_of_lt_of_le HR.out.2.2 HB.out.size
      have hbq : p' < wr.heap.size := Nat.lt_of_lt_of_le HR'.out.2.2 HB.out.size
      have hm0 : (0 : Int) ≤ (q : Int) := by omega
      have hm3 : (q : Int) < (n : Int) := by omega
      have hNE := upst_some wr
      have z1 : ∀ px : UPst wr, p < px.W.heap.size := fun px => px.size hbp
      have z2 : ∀ px : UPst wr, p' < px.W.heap.size := fun px => px.size hbq
      obtain ⟨d, hd⟩ : ∃ d, d = el 1 q es := ⟨_, rfl⟩
      have hE1 : Raw wr [.s] d ve := by rw [hd]; exact hE
      have hE2 : Raw wr [.s] d ve' := by rw [hd]; exact hE'
      obtain ⟨a0, rfl⟩ := typT1 hE1.typ
      obtain rfl := rawT1 hE1
      obtain rfl := rawT1 hE2
      have S1 : ∀ px : UPst wr, px.W.cell? ⟨p, o + q, none⟩ = some (.string a0) := fun px => px.cell (by have := rA_get hg 0 _ rfl; simpa using this) hbp
      have S2 : ∀ px : UPst wr, px.W.cell? ⟨p', o' + q, none⟩ = some (.string a0) := fun px => px.cell (by have := rA_get hg' 0 _ rfl; simpa using this) hbq
      clear hE hE' hE1 hE2 hd hg hg' hbp hbq HR HR'
      go_upto_region 6 with fail
      refine uregion wr (Below.refl _ _) (by kernel_rfl) (by kernel_rfl) ?_
      repeat (first
        | go_big_quiet_skip
        | (go_big_quiet_want; go_big_quiet_op; go_big_quiet_on))
      refine wpQuiet_nil ?_
      intro _ hw'
      obtain ⟨z, hw''⟩ := hw'
      subst hw''
      replace HB := uh (blw_trans HB.out z.ok)
      go_wp2
      go_roundw
      case rel => exact ⟨q + 1, by omega, by go_num, HB.out⟩
      case measure => simp [intOf]; omega
    · go_wp2
      go_ret
      exact ⟨rfl, HB.out⟩
set_option maxRecDepth 8000 in
set_option maxHeartbeats 8000000 in
theorem eqGateObject (ds : List Dt) (cs cs' : List Value) (w : World) (h : Raw w shGateObject ds cs) (h' : Raw w shGateObject ds cs') :
    Calls Try.prog 11 #[.agg cs.toArray, .agg cs'.toArray] w fun e w' => e = .returned (.bool true) ∧ Below w.heap.size w w' := by
  obtain ⟨a0, a1, a2, n3, e3, a4, n5, e5, a6, rfl, t3, t5⟩ := segTypGateObject h.typ
  obtain ⟨zpp, hzpp⟩ : ∃ x, x = cs := ⟨_, rfl⟩
  obtain ⟨xp0, hxp0, hp1⟩ := h.c_s
  obtain ⟨xp1, hxp1, hp2⟩ := hp1.c_s
  obtain ⟨xp2, hxp2, hp3⟩ := hp2.c_s
  obtain ⟨vp3, xp3, hxp3, rp3, hp4⟩ := hp3.c_r
  obtain ⟨xp4, hxp4, hp5⟩ := hp4.c_b
  obtain ⟨vp5, xp5, hxp5, rp5, hp6⟩ := hp5.c_r
  obtain ⟨xp6, hxp6, hp7⟩ := hp6.c_i
  have hxpn := hp7.c_n
  have Hp : Hid (cs = .string a0 :: .string a1 :: .string a2 :: vp3 :: .bool a4 :: vp5 :: .int .i64 a6 :: []) := by show _ = _; rw [hxp0, hxp1, hxp2, hxp3, hxp4, hxp5, hxp6, hxpn]
  clear hxp0 hxp1 hxp2 hxp3 hxp4 hxp5 hxp6 hxpn
  obtain ⟨zqq, hzqq⟩ : ∃ x, x = cs' := ⟨_, rfl⟩
  obtain ⟨xq0, hxq0, hq1⟩ := h'.c_s
  obtain ⟨xq1, hxq1, hq2⟩ := hq1.c_s
  obtain ⟨xq2, hxq2, hq3⟩ := hq2.c_s
  obtain ⟨vq3, xq3, hxq3, rq3, hq4⟩ := hq3.c_r
  obtain ⟨xq4, hxq4, hq5⟩ := hq4.c_b
  obtain ⟨vq5, xq5, hxq5, rq5, hq6⟩ := hq5.c_r
  obtain ⟨xq6, hxq6, hq7⟩ := hq6.c_i
  have hxqn := hq7.c_n
  have Hq : Hid (cs' = .string a0 :: .string a1 :: .string a2 :: vq3 :: .bool a4 :: vq5 :: .int .i64 a6 :: []) := by show _ = _; rw [hxq0, hxq1, hxq2, hxq3, hxq4, hxq5, hxq6, hxqn]
  clear hxq0 hxq1 hxq2 hxq3 hxq4 hxq5 hxq6 hxqn
  obtain ⟨wa, hwa⟩ : ∃ wa, wa = (w.alloc (.cells cs.toArray 31)).alloc (.cells cs'.toArray 31) := ⟨_, rfl⟩
  have HB : Hid (Below w.heap.size w wa) := by show Below _ _ _; rw [hwa]; exact blw_alloc (blw_alloc (Below.refl _ _) _) _
  have HX : Hid (LBox wa w.heap.size cs) := by show LBox _ _ _; rw [hwa]; exact (LBox.new w cs.toArray _ _ rfl).past _
  have HY : Hid (LBox wa (w.heap.size + 1) cs') := by show LBox _ _ _; rw [hwa]; exact LBox.new _ cs'.toArray _ _ (by simp)
  have Rp3 := uh (rp3.later HB.out)
  have Rq3 := uh (rq3.later HB.out)
  have Rp5 := uh (rp5.later HB.out)
  have Rq5 := uh (rq5.later HB.out)
  clear h h' rp3 rq3 rp5 rq5 hp1 hq1 hp2 hq2 hp3 hq3 hp4 hq4 hp5 hq5 hp6 hq6 hp7 hq7 hzpp hzqq zpp zqq
  go_enter Try.func11, Try.ntmps11
  go_upto_region 1 with fail
  rw [← hwa]
  clear hwa
  have yz := HX.out.lt
  have xz := HY.out.lt
  have bp := boxGateObject  (by have := HX.out.at_; rw [Hp.out] at this; exact this)
  have bq := boxGateObject  (by have := HY.out.at_; rw [Hq.out] at this; exact this)
  obtain ⟨gp0, gp1, gp2, gp3, gp4, gp5, gp6⟩ := bp
  obtain ⟨gq0, gq1, gq2, gq3, gq4, gq5, gq6⟩ := bq
  have hub4 : (a4 != a4) = false := by cases a4 <;> rfl
  obtain ⟨vap3, vcp3, hva⟩ := Rp3.out.len0
  subst hva
  obtain ⟨vaq3, vcq3, hva⟩ := Rq3.out.len0
  subst hva
  go_wp2_with fail
  refine (eqStringS n3 e3 _ _ wa Rp3.out Rq3.out).mono ?_
  rintro e x3 ⟨rfl, hb3⟩
  replace HB := uh (blw_trans HB.out hb3)
  replace HX := uh (HX.out.later hb3)
  replace HY := uh (HY.out.later hb3)
  replace Rp5 := uh (Rp5.out.later hb3)
  replace Rq5 := uh (Rq5.out.later hb3)
  clear hb3 yz xz gp0 gq0 gp1 gq1 gp2 gq2 gp3 gq3 gp4 gq4 gp5 gq5 gp6 gq6
  have yz := HX.out.lt
  have xz := HY.out.lt
  have bp := boxGateObject  (by have := HX.out.at_; rw [Hp.out] at this; exact this)
  have bq := boxGateObject  (by have := HY.out.at_; rw [Hq.out] at this; exact this)
  obtain ⟨gp0, gp1, gp2, gp3, gp4, gp5, gp6⟩ := bp
  obtain ⟨gq0, gq1, gq2, gq3, gq4, gq5, gq6⟩ := bq
  obtain ⟨vap5, vcp5, hva⟩ := Rp5.out.len0
  subst hva
  obtain ⟨vaq5, vcq5, hva⟩ := Rq5.out.len0
  subst hva
  go_wp2_with fail
  refine (eqStringS n5 e5 _ _ x3 Rp5.out Rq5.out).mono ?_
  rintro e x5 ⟨rfl, hb5⟩
  replace HB := uh (blw_trans HB.out hb5)
  replace HX := uh (HX.out.later hb5)
  replace HY := uh (HY.out.later hb5)
  clear hb5 yz xz gp0 gq0 gp1 gq1 gp2 gq2 gp3 gq3 gp4 gq4 gp5 gq5 gp6 gq6
  have yz := HX.out.lt
  have xz := HY.out.lt
  have bp := boxGateObject  (by have := HX.out.at_; rw [Hp.out] at this; exact this)
  have bq := boxGateObject  (by have := HY.out.at_; rw [Hq.out] at this; exact this)
  obtain ⟨gp0, gp1, gp2, gp3, gp4, gp5, gp6⟩ := bp
  obtain ⟨gq0, gq1, gq2, gq3, gq4, gq5, gq6⟩ := bq
  go_wp2
  go_ret
  exact ⟨rfl, HB.out⟩
set_option maxRecDepth 8000 in
set_option maxHeartbeats 8000000 in
theorem eqStewService (ds : List Dt) (cs cs' : List Value) (w : World) (h : Raw w shStewService ds cs) (h' : Raw w shStewService ds cs') :
    Calls Try.prog 10 #[.agg cs.toArray, .agg cs'.toArray] w fun e w' => e = .returned (.bool true) ∧ Below w.heap.size w w' := by
  obtain ⟨a0, a1, a2, a3, a4, a5, a6, a7, a8, a9, a10, a11, a12, rfl⟩ := segTypStewService h.typ
  obtain ⟨zpp, hzpp⟩ : ∃ x, x = cs := ⟨_, rfl⟩
  obtain ⟨xp0, hxp0, hp1⟩ := h.c_s
  obtain ⟨xp1, hxp1, hp2⟩ := hp1.c_i
  obtain ⟨xp2, hxp2, hp3⟩ := hp2.c_b
  obtain ⟨xp3, hxp3, hp4⟩ := hp3.c_i
  obtain ⟨xp4, hxp4, hp5⟩ := hp4.c_i
  obtain ⟨xp5, hxp5, hp6⟩ := hp5.c_i
  obtain ⟨xp6, hxp6, hp7⟩ := hp6.c_i
  obtain ⟨xp7, hxp7, hp8⟩ := hp7.c_i
  obtain ⟨xp8, hxp8, hp9⟩ := hp8.c_i
  obtain ⟨xp9, hxp9, hp10⟩ := hp9.c_i
  obtain ⟨xp10, hxp10, hp11⟩ := hp10.c_i
  obtain ⟨xp11, hxp11, hp12⟩ := hp11.c_i
  obtain ⟨xp12, hxp12, hp13⟩ := hp12.c_i
  have hxpn := hp13.c_n
  have Hp : Hid (cs = .string a0 :: .int .i64 a1 :: .bool a2 :: .int .i64 a3 :: .int .i64 a4 :: .int .i64 a5 :: .int .i64 a6 :: .int .i64 a7 :: .int .i64 a8 :: .int .i64 a9 :: .int .i64 a10 :: .int .i64 a11 :: .int .i64 a12 :: []) := by show _ = _; rw [hxp0, hxp1, hxp2, hxp3, hxp4, hxp5, hxp6, hxp7, hxp8, hxp9, hxp10, hxp11, hxp12, hxpn]
  clear hxp0 hxp1 hxp2 hxp3 hxp4 hxp5 hxp6 hxp7 hxp8 hxp9 hxp10 hxp11 hxp12 hxpn
  obtain ⟨zqq, hzqq⟩ : ∃ x, x = cs' := ⟨_, rfl⟩
  obtain ⟨xq0, hxq0, hq1⟩ := h'.c_s
  obtain ⟨xq1, hxq1, hq2⟩ := hq1.c_i
  obtain ⟨xq2, hxq2, hq3⟩ := hq2.c_b
  obtain ⟨xq3, hxq3, hq4⟩ := hq3.c_i
  obtain ⟨xq4, hxq4, hq5⟩ := hq4.c_i
  obtain ⟨xq5, hxq5, hq6⟩ := hq5.c_i
  obtain ⟨xq6, hxq6, hq7⟩ := hq6.c_i
  obtain ⟨xq7, hxq7, hq8⟩ := hq7.c_i
  obtain ⟨xq8, hxq8, hq9⟩ := hq8.c_i
  obtain ⟨xq9, hxq9, hq10⟩ := hq9.c_i
  obtain ⟨xq10, hxq10, hq11⟩ := hq10.c_i
  obtain ⟨xq11, hxq11, hq12⟩ := hq11.c_i
  obtain ⟨xq12, hxq12, hq13⟩ := hq12.c_i
  have hxqn := hq13.c_n
  have Hq : Hid (cs' = .string a0 :: .int .i64 a1 :: .bool a2 :: .int .i64 a3 :: .int .i64 a4 :: .int .i64 a5 :: .int .i64 a6 :: .int .i64 a7 :: .int .i64 a8 :: .int .i64 a9 :: .int .i64 a10 :: .int .i64 a11 :: .int .i64 a12 :: []) := by show _ = _; rw [hxq0, hxq1, hxq2, hxq3, hxq4, hxq5, hxq6, hxq7, hxq8, hxq9, hxq10, hxq11, hxq12, hxqn]
  clear hxq0 hxq1 hxq2 hxq3 hxq4 hxq5 hxq6 hxq7 hxq8 hxq9 hxq10 hxq11 hxq12 hxqn
  obtain ⟨wa, hwa⟩ : ∃ wa, wa = (w.alloc (.cells cs.toArray 29)).alloc (.cells cs'.toArray 29) := ⟨_, rfl⟩
  have HB : Hid (Below w.heap.size w wa) := by show Below _ _ _; rw [hwa]; exact blw_alloc (blw_alloc (Below.refl _ _) _) _
  have HX : Hid (LBox wa w.heap.size cs) := by show LBox _ _ _; rw [hwa]; exact (LBox.new w cs.toArray _ _ rfl).past _
  have HY : Hid (LBox wa (w.heap.size + 1) cs') := by show LBox _ _ _; rw [hwa]; exact LBox.new _ cs'.toArray _ _ (by simp)
  clear h h' hp1 hq1 hp2 hq2 hp3 hq3 hp4 hq4 hp5 hq5 hp6 hq6 hp7 hq7 hp8 hq8 hp9 hq9 hp10 hq10 hp11 hq11 hp12 hq12 hp13 hq13 hzpp hzqq zpp zqq
  go_enter Try.func10, Try.ntmps10
  go_upto_region 1 with fail
  rw [← hwa]
  clear hwa
  have yz := HX.out.lt
  have xz := HY.out.lt
  have bp := boxStewService  (by have := HX.out.at_; rw [Hp.out] at this; exact this)
  have bq := boxStewService  (by have := HY.out.at_; rw [Hq.out] at this; exact this)
  obtain ⟨gp0, gp1, gp2, gp3, gp4, gp5, gp6, gp7, gp8, gp9, gp10, gp11, gp12⟩ := bp
  obtain ⟨gq0, gq1, gq2, gq3, gq4, gq5, gq6, gq7, gq8, gq9, gq10, gq11, gq12⟩ := bq
  have hub2 : (a2 != a2) = false := by cases a2 <;> rfl
  go_wp2
  go_ret
  exact ⟨rfl, HB.out⟩
end Go.Proofs.Ytiiahpegdpbkgaa
