/-
  Changes that are alike.
-/
import Derived.Test.YtojcopamegmeeaaESs
import Derived.Test.YtojcopamegmeeaaEVs
namespace Go.Proofs.Ytojcopamegmeeaa
open Go.RowKit Go.Deep

set_option maxRecDepth 8000 in
set_option maxHeartbeats 8000000 in
theorem eqStringS (n : Nat) (es : List Dt) (v v' : Value) (w : World) (h : Raw w [.row 9 [.s]] [.row n es] [v]) (h' : Raw w [.row 9 [.s]] [.row n es] [v']) :
    Calls Try.prog 79 #[v, v'] w fun e w' => e = .returned (.bool true) ∧ Below w.heap.size w w' := by
  by_cases h0 : n = 0
  · subst h0
    obtain ⟨a, c, rfl⟩ := h.len0
    obtain ⟨a', c', rfl⟩ := h'.len0
    go_enter Try.func79, Try.ntmps79
    go_wp2
    refine wp_loop_rounds 1 ?_
    rw [rounds_succ]
    go_wp2
    go_ret
    exact ⟨rfl, Below.refl _ _⟩
  rcases h.slice with ⟨e0, _⟩ | ⟨p, o, c, rfl, hp, hn, vs, hr, hR⟩
  · exact absurd e0 h0
  rcases h'.slice with ⟨e0, _⟩ | ⟨p', o', c', rfl, hp', _, vs', hr', hR'⟩
  · exact absurd e0 h0
  have HR := uh (And.intro hR (And.intro hr hp))
  have HR' := uh (And.intro hR' (And.intro hr' hp'))
  have hn1 : n ≤ 9223372036854775807 := hn.1
  clear h h' hr hR hp hr' hR' hp' hn
  go_enter Try.func79, Try.ntmps79
  go_wp2
  go_loopw [5] (fun i wr => ∃ q : Nat, q ≤ n ∧ i = .int .i64 q ∧ Below w.heap.size w wr) (fun i _ => n - (intOf i).toNat)
  case atStart => exact ⟨0, Nat.zero_le _, rfl, Below.refl _ _⟩
  case round =>
    obtain ⟨q, hq, rfl, hW⟩ := hrel
    have HB := uh hW
    clear hW
    by_cases hlt : q < n
    · obtain ⟨ve, hE, hg⟩ := (HR.out.1.later HB.out).el hlt (rA_later HR.out.2.1 HR.out.2.2 HB.out)
      obtain ⟨ve', hE', hg'⟩ := (HR'.out.1.later HB.out).el hlt (rA_later HR'.out.2.1 HR'.out.2.2 HB.out)
      have hbp : p < wr.heap.size := Nat.lt_of_lt_of_le HR.out.2.2 HB.out.size
      have hbq : p' < wr.heap.size := Nat.lt_of_lt_of_le HR'.out.2.2 HB.out.size
      have hm0 : (0 : Int) ≤ (q : Int) := by omega
      have hm3 : (q : Int) < (n : Int) := by omega
      have hNE := upst_some wr
      have z1 : ∀ px : UPst wr, p < px.W.heap.size := fun px => px.size hbp
      have z2 : ∀ px : UPst wr, p' < px.W.heap.size := fun px => px.size hbq
      obtain ⟨d, hd⟩ : ∃ d, d = el 1 q es := ⟨_, rfl⟩
      have hE1 : Raw wr [.s] d ve := by rw [hd]; exact hE
      have hE2 : Raw wr [.s] d ve' := by rw [hd]; exact hE'
      obtain ⟨a0, rfl⟩ := typT1 hE1.typ
      obtain rfl := rawT1 hE1
      obtain rfl := rawT1 hE2
      have S1 : ∀ px : UPst wr, px.W.cell? ⟨p, o + q, none⟩ = some (.string a0) := fun px => px.cell (by have := rA_get hg 0 _ rfl; simpa using this) hbp
      have S2 : ∀ px : UPst wr, px.W.cell? ⟨p', o' + q, none⟩ = some (.string a0) := fun px => px.cell (by have := rA_get hg' 0 _ rfl; simpa using this) hbq
      clear hE hE' hE1 hE2 hd hg hg' hbp hbq HR HR'
      go_upto_region 6 with fail
      refine uregion wr (Below.refl _ _) (by kernel_rfl) (by kernel_rfl) ?_
      repeat (first
        | go_big_quiet_skip
        | (go_big_quiet_want; go_big_quiet_op; go_big_quiet_on))
      refine wpQuiet_nil ?_
      intro _ hw'
      obtain ⟨z, hw''⟩ := hw'
      subst hw''
      replace HB := uh (blw_trans HB.out z.ok)
      go_wp2
      go_roundw
      case rel => exact ⟨q + 1, by omega, by go_num, HB.out⟩
      case measure => simp [intOf]; omega
    · go_wp2
      go_ret
      exact ⟨rfl, HB.out⟩
set_option maxRecDepth 8000 in
set_option maxHeartbeats 8000000 in
theorem eqSheetLine (ds : List Dt) (cs cs' : List Value) (w : World) (h : Raw w shSheetLine ds cs) (h' : Raw w shSheetLine ds cs') :
    Calls Try.prog 69 #[.agg cs.toArray, .agg cs'.toArray] w fun e w' => e = .returned (.bool true) ∧ Below w.heap.size w w' := by
  obtain ⟨a0, n1, e1, rfl, t1⟩ := segTypSheetLine h.typ
  obtain ⟨zpp, hzpp⟩ : ∃ x, x = cs := ⟨_, rfl⟩
  obtain ⟨xp0, hxp0, hp1⟩ := h.c_s
  obtain ⟨vp1, xp1, hxp1, rp1, hp2⟩ := hp1.c_r
  have hxpn := hp2.c_n
  have Hp : Hid (cs = .string a0 :: vp1 :: []) := by show _ = _; rw [hxp0, hxp1, hxpn]
  clear hxp0 hxp1 hxpn
  obtain ⟨zqq, hzqq⟩ : ∃ x, x = cs' := ⟨_, rfl⟩
  obtain ⟨xq0, hxq0, hq1⟩ := h'.c_s
  obtain ⟨vq1, xq1, hxq1, rq1, hq2⟩ := hq1.c_r
  have hxqn := hq2.c_n
  have Hq : Hid (cs' = .string a0 :: vq1 :: []) := by show _ = _; rw [hxq0, hxq1, hxqn]
  clear hxq0 hxq1 hxqn
  obtain ⟨wa, hwa⟩ : ∃ wa, wa = (w.alloc (.cells cs.toArray 69)).alloc (.cells cs'.toArray 69) := ⟨_, rfl⟩
  have HB : Hid (Below w.heap.size w wa) := by show Below _ _ _; rw [hwa]; exact blw_alloc (blw_alloc (Below.refl _ _) _) _
  have HX : Hid (LBox wa w.heap.size cs) := by show LBox _ _ _; rw [hwa]; exact (LBox.new w cs.toArray _ _ rfl).past _
  have HY : Hid (LBox wa (w.heap.size + 1) cs') := by show LBox _ _ _; rw [hwa]; exact LBox.new _ cs'.toArray _ _ (by simp)
  have Rp1 := uh (rp1.later HB.out)
  have Rq1 := uh (rq1.later HB.out)
  clear h h' rp1 rq1 hp1 hq1 hp2 hq2 hzpp hzqq zpp zqq
  go_enter Try.func69, Try.ntmps69
  go_upto_region 1 with fail
  rw [← hwa]
  clear hwa
  have yz := HX.out.lt
  have xz := HY.out.lt
  have bp := boxSheetLine  (by have := HX.out.at_; rw [Hp.out] at this; exact this)
  have bq := boxSheetLine  (by have := HY.out.at_; rw [Hq.out] at this; exact this)
  obtain ⟨gp0, gp1⟩ := bp
  obtain ⟨gq0, gq1⟩ := bq
  obtain ⟨vap1, vcp1, hva⟩ := Rp1.out.len0
  subst hva
  obtain ⟨vaq1, vcq1, hva⟩ := Rq1.out.len0
  subst hva
  go_wp2_with fail
  refine (eqStringS n1 e1 _ _ wa Rp1.out Rq1.out).mono ?_
  rintro e x1 ⟨rfl, hb1⟩
  replace HB := uh (blw_trans HB.out hb1)
  replace HX := uh (HX.out.later hb1)
  replace HY := uh (HY.out.later hb1)
  clear hb1 yz xz gp0 gq0 gp1 gq1
  have yz := HX.out.lt
  have xz := HY.out.lt
  have bp := boxSheetLine  (by have := HX.out.at_; rw [Hp.out] at this; exact this)
  have bq := boxSheetLine  (by have := HY.out.at_; rw [Hq.out] at this; exact this)
  obtain ⟨gp0, gp1⟩ := bp
  obtain ⟨gq0, gq1⟩ := bq
  go_wp2
  go_ret
  exact ⟨rfl, HB.out⟩
set_option maxRecDepth 8000 in
set_option maxHeartbeats 8000000 in
theorem eqSheetLineS (n : Nat) (es : List Dt) (v v' : Value) (w : World) (h : Raw w [.row 69 shSheetLine] [.row n es] [v]) (h' : Raw w [.row 69 shSheetLine] [.row n es] [v']) :
    Calls Try.prog 43 #[v, v'] w fun e w' => e = .returned (.bool true) ∧ Below w.heap.size w w' := by
  by_cases h0 : n = 0
  · subst h0
    obtain ⟨a, c, rfl⟩ := h.len0
    obtain ⟨a', c', rfl⟩ := h'.len0
    go_enter Try.func43, Try.ntmps43
    go_wp2
    refine wp_loop_rounds 1 ?_
    rw [rounds_succ]
    go_wp2
    go_ret
    exact ⟨rfl, Below.refl _ _⟩
  rcases h.slice with ⟨e0, _⟩ | ⟨p, o, c, rfl, hp, hn, vs, hr, hR⟩
  · exact absurd e0 h0
  rcases h'.slice with ⟨e0, _⟩ | ⟨p', o', c', rfl, hp', _, vs', hr', hR'⟩
  · exact absurd e0 h0
  have HR := uh (And.intro hR (And.intro hr hp))
  have HR' := uh (And.intro hR' (And.intro hr' hp'))
  have hn1 : n ≤ 9223372036854775807 := hn.1
  clear h h' hr hR hp hr' hR' hp' hn
  go_enter Try.func43, Try.ntmps43
  go_wp2
  go_loopw [5] (fun i wr => ∃ q : Nat, q ≤ n ∧ i = .int .i64 q ∧ Below w.heap.size w wr) (fun i _ => n - (intOf i).toNat)
  case atStart => exact ⟨0, Nat.zero_le _, rfl, Below.refl _ _⟩
  case round =>
    obtain ⟨q, hq, rfl, hW⟩ := hrel
    have HB := uh hW
    clear hW
    by_cases hlt : q < n
    · obtain ⟨ve, hE, hg⟩ := (HR.out.1.later HB.out).el hlt (rA_later HR.out.2.1 HR.out.2.2 HB.out)
      obtain ⟨ve', hE', hg'⟩ := (HR'.out.1.later HB.out).el hlt (rA_later HR'.out.2.1 HR'.out.2.2 HB.out)
      have hbp : p < wr.heap.size := Nat.lt_of_lt_of_le HR.out.2.2 HB.out.size
      have hbq : p' < wr.heap.size := Nat.lt_of_lt_of_le HR'.out.2.2 HB.out.size
      have hm0 : (0 : Int) ≤ (q : Int) := by omega
      have hm3 : (q : Int) < (n : Int) := by omega
      have hNE := upst_some wr
      have z1 : ∀ px : UPst wr, p < px.W.heap.size := fun px => px.size hbp
      have z2 : ∀ px : UPst wr, p' < px.W.heap.size := fun px => px.size hbq
      have H1 := uh (And.intro hE.len (And.intro (show wr.rangeAt p (o + q * 2) ve from hg) hbp))
      have H2 := uh (And.intro hE'.len (And.intro (show wr.rangeAt p' (o' + q * 2) ve' from hg') hbq))
      have HX : Hid (∀ px : UPst wr, Calls Try.prog 69 #[.agg ve.toArray, .agg ve'.toArray] px.W fun e w' => e = .returned (.bool true) ∧ Below px.W.heap.size px.W w') := fun px => eqSheetLine _ ve ve' px.W (hE.later px.ok) (hE'.later px.ok)
      clear hE hE' hg hg' hbp hbq HR HR'
      go_upto_region 6 with fail
      refine uregion wr (Below.refl _ _) (by kernel_rfl) (by kernel_rfl) ?_
      repeat (first
        | go_big_quiet_skip
        | (go_big_quiet_want; (first | refine uq_load 69 _ rfl p (o + q * 2) rfl ve _ H1.out.2.1 H1.out.2.2 Try.underlying69 rfl (by rw [H1.out.1]; kernel_rfl) ?_ | refine uq_load 69 _ rfl p' (o' + q * 2) rfl ve' _ H2.out.2.1 H2.out.2.2 Try.underlying69 rfl (by rw [H2.out.1]; kernel_rfl) ?_); (simp only [Act.put, List.setIfInBounds_toArray, List.set_cons_zero, List.set_cons_succ]); go_big_quiet_on)
        | (go_big_quiet_want; go_big_quiet_op; first | go_big_quiet_on | (apply Exists.intro; refine ⟨fun px => ?_, ?_⟩; (focus ((go_at_call 69; refine (HX.out px).mono ?_; rintro e w' ⟨he, hb⟩; exact ⟨he, ⟨w', blw_trans px.ok hb⟩, rfl⟩))); go_big_quiet_on)))
      refine wpQuiet_nil ?_
      intro _ hw'
      obtain ⟨z, hw''⟩ := hw'
      subst hw''
      replace HB := uh (blw_trans HB.out z.ok)
      go_wp2
      go_roundw
      case rel => exact ⟨q + 1, by omega, by go_num, HB.out⟩
      case measure => simp [intOf]; omega
    · go_wp2
      go_ret
      exact ⟨rfl, HB.out⟩
set_option maxRecDepth 8000 in
set_option maxHeartbeats 8000000 in
theorem eqSheetBlock (ds : List Dt) (cs cs' : List Value) (w : World) (h : Raw w shSheetBlock ds cs) (h' : Raw w shSheetBlock ds cs') :
    Calls Try.prog 44 #[.agg cs.toArray, .agg cs'.toArray] w fun e w' => e = .returned (.bool true) ∧ Below w.heap.size w w' := by
  obtain ⟨a0, a1, n2, e2, rfl, t2⟩ := segTypSheetBlock h.typ
  obtain ⟨zpp, hzpp⟩ : ∃ x, x = cs := ⟨_, rfl⟩
  obtain ⟨xp0, hxp0, hp1⟩ := h.c_s
  obtain ⟨xp1, hxp1, hp2⟩ := hp1.c_s
  obtain ⟨vp2, xp2, hxp2, rp2, hp3⟩ := hp2.c_r
  have hxpn := hp3.c_n
  have Hp : Hid (cs = .string a0 :: .string a1 :: vp2 :: []) := by show _ = _; rw [hxp0, hxp1, hxp2, hxpn]
  clear hxp0 hxp1 hxp2 hxpn
  obtain ⟨zqq, hzqq⟩ : ∃ x, x = cs' := ⟨_, rfl⟩
  obtain ⟨xq0, hxq0, hq1⟩ := h'.c_s
  obtain ⟨xq1, hxq1, hq2⟩ := hq1.c_s
  obtain ⟨vq2, xq2, hxq2, rq2, hq3⟩ := hq2.c_r
  have hxqn := hq3.c_n
  have Hq : Hid (cs' = .string a0 :: .string a1 :: vq2 :: []) := by show _ = _; rw [hxq0, hxq1, hxq2, hxqn]
  clear hxq0 hxq1 hxq2 hxqn
  obtain ⟨wa, hwa⟩ : ∃ wa, wa = (w.alloc (.cells cs.toArray 42)).alloc (.cells cs'.toArray 42) := ⟨_, rfl⟩
  have HB : Hid (Below w.heap.size w wa) := by show Below _ _ _; rw [hwa]; exact blw_alloc (blw_alloc (Below.refl _ _) _) _
  have HX : Hid (LBox wa w.heap.size cs) := by show LBox _ _ _; rw [hwa]; exact (LBox.new w cs.toArray _ _ rfl).past _
  have HY : Hid (LBox wa (w.heap.size + 1) cs') := by show LBox _ _ _; rw [hwa]; exact LBox.new _ cs'.toArray _ _ (by simp)
  have Rp2 := uh (rp2.later HB.out)
  have Rq2 := uh (rq2.later HB.out)
  clear h h' rp2 rq2 hp1 hq1 hp2 hq2 hp3 hq3 hzpp hzqq zpp zqq
  go_enter Try.func44, Try.ntmps44
  go_upto_region 1 with fail
  rw [← hwa]
  clear hwa
  have yz := HX.out.lt
  have xz := HY.out.lt
  have bp := boxSheetBlock  (by have := HX.out.at_; rw [Hp.out] at this; exact this)
  have bq := boxSheetBlock  (by have := HY.out.at_; rw [Hq.out] at this; exact this)
  obtain ⟨gp0, gp1, gp2⟩ := bp
  obtain ⟨gq0, gq1, gq2⟩ := bq
  obtain ⟨vap2, vcp2, hva⟩ := Rp2.out.len0
  subst hva
  obtain ⟨vaq2, vcq2, hva⟩ := Rq2.out.len0
  subst hva
  go_wp2_with fail
  refine (eqSheetLineS n2 e2 _ _ wa Rp2.out Rq2.out).mono ?_
  rintro e x2 ⟨rfl, hb2⟩
  replace HB := uh (blw_trans HB.out hb2)
  replace HX := uh (HX.out.later hb2)
  replace HY := uh (HY.out.later hb2)
  clear hb2 yz xz gp0 gq0 gp1 gq1 gp2 gq2
  have yz := HX.out.lt
  have xz := HY.out.lt
  have bp := boxSheetBlock  (by have := HX.out.at_; rw [Hp.out] at this; exact this)
  have bq := boxSheetBlock  (by have := HY.out.at_; rw [Hq.out] at this; exact this)
  obtain ⟨gp0, gp1, gp2⟩ := bp
  obtain ⟨gq0, gq1, gq2⟩ := bq
  go_wp2
  go_ret
  exact ⟨rfl, HB.out⟩
set_option maxRecDepth 8000 in
set_option maxHeartbeats 8000000 in
theorem eqSheetBlockS (n : Nat) (es : List Dt) (v v' : Value) (w : World) (h : Raw w [.row 42 shSheetBlock] [.row n es] [v]) (h' : Raw w [.row 42 shSheetBlock] [.row n es] [v']) :
    Calls Try.prog 22 #[v, v'] w fun e w' => e = .returned (.bool true) ∧ Below w.heap.size w w' := by
  by_cases h0 : n = 0
  · subst h0
    obtain ⟨a, c, rfl⟩ := h.len0
    obtain ⟨a', c', rfl⟩ := h'.len0
    go_enter Try.func22, Try.ntmps22
    go_wp2
    refine wp_loop_rounds 1 ?_
    rw [rounds_succ]
    go_wp2
    go_ret
    exact ⟨rfl, Below.refl _ _⟩
  rcases h.slice with ⟨e0, _⟩ | ⟨p, o, c, rfl, hp, hn, vs, hr, hR⟩
  · exact absurd e0 h0
  rcases h'.slice with ⟨e0, _⟩ | ⟨p', o', c', rfl, hp', _, vs', hr', hR'⟩
  · exact absurd e0 h0
  have HR := uh (And.intro hR (And.intro hr hp))
  have HR' := uh (And.intro hR' (And.intro hr' hp'))
  have hn1 : n ≤ 9223372036854775807 := hn.1
  clear h h' hr hR hp hr' hR' hp' hn
  go_enter Try.func22, Try.ntmps22
  go_wp2
  go_loopw [5] (fun i wr => ∃ q : Nat, q ≤ n ∧ i = .int .i64 q ∧ Below w.heap.size w wr) (fun i _ => n - (intOf i).toNat)
  case atStart => exact ⟨0, Nat.zero_le _, rfl, Below.refl _ _⟩
  case round =>
    obtain ⟨q, hq, rfl, hW⟩ := hrel
    have HB := uh hW
    clear hW
    by_cases hlt : q < n
    · obtain ⟨ve, hE, hg⟩ := (HR.out.1.later HB.out).el hlt (rA_later HR.out.2.1 HR.out.2.2 HB.out)
      obtain ⟨ve', hE', hg'⟩ := (HR'.out.1.later HB.out).el hlt (rA_later HR'.out.2.1 HR'.out.2.2 HB.out)
      have hbp : p < wr.heap.size := Nat.lt_of_lt_of_le HR.out.2.2 HB.out.size
      have hbq : p' < wr.heap.size := Nat.lt_of_lt_of_le HR'.out.2.2 HB.out.size
      have hm0 : (0 : Int) ≤ (q : Int) := by omega
      have hm3 : (q : Int) < (n : Int) := by omega
      have hNE := upst_some wr
      have z1 : ∀ px : UPst wr, p < px.W.heap.size := fun px => px.size hbp
      have z2 : ∀ px : UPst wr, p' < px.W.heap.size := fun px => px.size hbq
      have H1 := uh (And.intro hE.len (And.intro (show wr.rangeAt p (o + q * 3) ve from hg) hbp))
      have H2 := uh (And.intro hE'.len (And.intro (show wr.rangeAt p' (o' + q * 3) ve' from hg') hbq))
      have HX : Hid (∀ px : UPst wr, Calls Try.prog 44 #[.agg ve.toArray, .agg ve'.toArray] px.W fun e w' => e = .returned (.bool true) ∧ Below px.W.heap.size px.W w') := fun px => eqSheetBlock _ ve ve' px.W (hE.later px.ok) (hE'.later px.ok)
      clear hE hE' hg hg' hbp hbq HR HR'
      go_upto_region 6 with fail
      refine uregion wr (Below.refl _ _) (by kernel_rfl) (by kernel_rfl) ?_
      repeat (first
        | go_big_quiet_skip
        | (go_big_quiet_want; (first | refine uq_load 42 _ rfl p (o + q * 3) rfl ve _ H1.out.2.1 H1.out.2.2 Try.underlying42 rfl (by rw [H1.out.1]; kernel_rfl) ?_ | refine uq_load 42 _ rfl p' (o' + q * 3) rfl ve' _ H2.out.2.1 H2.out.2.2 Try.underlying42 rfl (by rw [H2.out.1]; kernel_rfl) ?_); (simp only [Act.put, List.setIfInBounds_toArray, List.set_cons_zero, List.set_cons_succ]); go_big_quiet_on)
        | (go_big_quiet_want; go_big_quiet_op; first | go_big_quiet_on | (apply Exists.intro; refine ⟨fun px => ?_, ?_⟩; (focus ((go_at_call 44; refine (HX.out px).mono ?_; rintro e w' ⟨he, hb⟩; exact ⟨he, ⟨w', blw_trans px.ok hb⟩, rfl⟩))); go_big_quiet_on)))
      refine wpQuiet_nil ?_
      intro _ hw'
      obtain ⟨z, hw''⟩ := hw'
      subst hw''
      replace HB := uh (blw_trans HB.out z.ok)
      go_wp2
      go_roundw
      case rel => exact ⟨q + 1, by omega, by go_num, HB.out⟩
      case measure => simp [intOf]; omega
    · go_wp2
      go_ret
      exact ⟨rfl, HB.out⟩
set_option maxRecDepth 8000 in
set_option maxHeartbeats 8000000 in
theorem eqSheet (ds : List Dt) (cs cs' : List Value) (w : World) (h : Raw w shSheet ds cs) (h' : Raw w shSheet ds cs') :
    Calls Try.prog 9 #[.agg cs.toArray, .agg cs'.toArray] w fun e w' => e = .returned (.bool true) ∧ Below w.heap.size w w' := by
  obtain ⟨n0, e0, rfl, t0⟩ := segTypSheet h.typ
  obtain ⟨zpp, hzpp⟩ : ∃ x, x = cs := ⟨_, rfl⟩
  obtain ⟨vp0, xp0, hxp0, rp0, hp1⟩ := h.c_r
  have hxpn := hp1.c_n
  have Hp : Hid (cs = vp0 :: []) := by show _ = _; rw [hxp0, hxpn]
  clear hxp0 hxpn
  obtain ⟨zqq, hzqq⟩ : ∃ x, x = cs' := ⟨_, rfl⟩
  obtain ⟨vq0, xq0, hxq0, rq0, hq1⟩ := h'.c_r
  have hxqn := hq1.c_n
  have Hq : Hid (cs' = vq0 :: []) := by show _ = _; rw [hxq0, hxqn]
  clear hxq0 hxqn
  obtain ⟨wa, hwa⟩ : ∃ wa, wa = (w.alloc (.cells cs.toArray 30)).alloc (.cells cs'.toArray 30) := ⟨_, rfl⟩
  have HB : Hid (Below w.heap.size w wa) := by show Below _ _ _; rw [hwa]; exact blw_alloc (blw_alloc (Below.refl _ _) _) _
  have HX : Hid (LBox wa w.heap.size cs) := by show LBox _ _ _; rw [hwa]; exact (LBox.new w cs.toArray _ _ rfl).past _
  have HY : Hid (LBox wa (w.heap.size + 1) cs') := by show LBox _ _ _; rw [hwa]; exact LBox.new _ cs'.toArray _ _ (by simp)
  have Rp0 := uh (rp0.later HB.out)
  have Rq0 := uh (rq0.later HB.out)
  clear h h' rp0 rq0 hp1 hq1 hzpp hzqq zpp zqq
  go_enter Try.func9, Try.ntmps9
  go_upto_region 1 with fail
  rw [← hwa]
  clear hwa
  have yz := HX.out.lt
  have xz := HY.out.lt
  have bp := boxSheet  (by have := HX.out.at_; rw [Hp.out] at this; exact this)
  have bq := boxSheet  (by have := HY.out.at_; rw [Hq.out] at this; exact this)
  have gp0 := bp
  have gq0 := bq
  clear bp bq
  obtain ⟨vap0, vcp0, hva⟩ := Rp0.out.len0
  subst hva
  obtain ⟨vaq0, vcq0, hva⟩ := Rq0.out.len0
  subst hva
  go_wp2_with fail
  refine (eqSheetBlockS n0 e0 _ _ wa Rp0.out Rq0.out).mono ?_
  rintro e x0 ⟨rfl, hb0⟩
  replace HB := uh (blw_trans HB.out hb0)
  replace HX := uh (HX.out.later hb0)
  replace HY := uh (HY.out.later hb0)
  clear hb0 yz xz gp0 gq0
  have yz := HX.out.lt
  have xz := HY.out.lt
  have bp := boxSheet  (by have := HX.out.at_; rw [Hp.out] at this; exact this)
  have bq := boxSheet  (by have := HY.out.at_; rw [Hq.out] at this; exact this)
  have gp0 := bp
  have gq0 := bq
  clear bp bq
  go_wp2
  go_ret
  exact ⟨rfl, HB.out⟩
end Go.Proofs.Ytojcopamegmeeaa

namespace Go.Proofs.Ytojcopamegmeeaa
open Go.RowKit Go.Deep

set_option maxRecDepth 8000 in
set_option maxHeartbeats 8000000 in
theorem eqSheetChange (ds : List Dt) (cs cs' : List Value) (w : World) (h : Raw w shSheetChange ds cs) (h' : Raw w shSheetChange ds cs') :
    Calls Try.prog 21 #[.agg cs.toArray, .agg cs'.toArray] w fun e w' => e = .returned (.bool true) ∧ Below w.heap.size w w' := by
  obtain ⟨a0, a1, a2, a3, n4, e4, rfl, t4⟩ := segTypSheetChange h.typ
  obtain ⟨zpp, hzpp⟩ : ∃ x, x = cs := ⟨_, rfl⟩
  obtain ⟨xp0, hxp0, hp1⟩ := h.c_i
  obtain ⟨xp1, hxp1, hp2⟩ := hp1.c_s
  obtain ⟨xp2, hxp2, hp3⟩ := hp2.c_s
  obtain ⟨xp3, hxp3, hp4⟩ := hp3.c_s
  obtain ⟨vp4, xp4, hxp4, rp4, hp5⟩ := hp4.c_r
  have hxpn := hp5.c_n
  have Hp : Hid (cs = .int .i64 a0 :: .string a1 :: .string a2 :: .string a3 :: vp4 :: []) := by show _ = _; rw [hxp0, hxp1, hxp2, hxp3, hxp4, hxpn]
  clear hxp0 hxp1 hxp2 hxp3 hxp4 hxpn
  obtain ⟨zqq, hzqq⟩ : ∃ x, x = cs' := ⟨_, rfl⟩
  obtain ⟨xq0, hxq0, hq1⟩ := h'.c_i
  obtain ⟨xq1, hxq1, hq2⟩ := hq1.c_s
  obtain ⟨xq2, hxq2, hq3⟩ := hq2.c_s
  obtain ⟨xq3, hxq3, hq4⟩ := hq3.c_s
  obtain ⟨vq4, xq4, hxq4, rq4, hq5⟩ := hq4.c_r
  have hxqn := hq5.c_n
  have Hq : Hid (cs' = .int .i64 a0 :: .string a1 :: .string a2 :: .string a3 :: vq4 :: []) := by show _ = _; rw [hxq0, hxq1, hxq2, hxq3, hxq4, hxqn]
  clear hxq0 hxq1 hxq2 hxq3 hxq4 hxqn
  obtain ⟨wa, hwa⟩ : ∃ wa, wa = (w.alloc (.cells cs.toArray 44)).alloc (.cells cs'.toArray 44) := ⟨_, rfl⟩
  have HB : Hid (Below w.heap.size w wa) := by show Below _ _ _; rw [hwa]; exact blw_alloc (blw_alloc (Below.refl _ _) _) _
  have HX : Hid (LBox wa w.heap.size cs) := by show LBox _ _ _; rw [hwa]; exact (LBox.new w cs.toArray _ _ rfl).past _
  have HY : Hid (LBox wa (w.heap.size + 1) cs') := by show LBox _ _ _; rw [hwa]; exact LBox.new _ cs'.toArray _ _ (by simp)
  have Rp4 := uh (rp4.later HB.out)
  have Rq4 := uh (rq4.later HB.out)
  clear h h' rp4 rq4 hp1 hq1 hp2 hq2 hp3 hq3 hp4 hq4 hp5 hq5 hzpp hzqq zpp zqq
  go_enter Try.func21, Try.ntmps21
  go_upto_region 1 with fail
  rw [← hwa]
  clear hwa
  have yz := HX.out.lt
  have xz := HY.out.lt
  have bp := boxSheetChange  (by have := HX.out.at_; rw [Hp.out] at this; exact this)
  have bq := boxSheetChange  (by have := HY.out.at_; rw [Hq.out] at this; exact this)
  obtain ⟨gp0, gp1, gp2, gp3, gp4⟩ := bp
  obtain ⟨gq0, gq1, gq2, gq3, gq4⟩ := bq
  obtain ⟨vap4, vcp4, hva⟩ := Rp4.out.len0
  subst hva
  obtain ⟨vaq4, vcq4, hva⟩ := Rq4.out.len0
  subst hva
  go_wp2_with fail
  refine (eqSheetLineS n4 e4 _ _ wa Rp4.out Rq4.out).mono ?_
  rintro e x4 ⟨rfl, hb4⟩
  replace HB := uh (blw_trans HB.out hb4)
  replace HX := uh (HX.out.later hb4)
  replace HY := uh (HY.out.later hb4)
  clear hb4 yz xz gp0 gq0 gp1 gq1 gp2 gq2 gp3 gq3 gp4 gq4
  have yz := HX.out.lt
  have xz := HY.out.lt
  have bp := boxSheetChange  (by have := HX.out.at_; rw [Hp.out] at this; exact this)
  have bq := boxSheetChange  (by have := HY.out.at_; rw [Hq.out] at this; exact this)
  obtain ⟨gp0, gp1, gp2, gp3, gp4⟩ := bp
  obtain ⟨gq0, gq1, gq2, gq3, gq4⟩ := bq
  go_wp2
  go_ret
  exact ⟨rfl, HB.out⟩
set_option maxRecDepth 8000 in
set_option maxHeartbeats 8000000 in
theorem eqSheetChangeS (n : Nat) (es : List Dt) (v v' : Value) (w : World) (h : Raw w [.row 44 shSheetChange] [.row n es] [v]) (h' : Raw w [.row 44 shSheetChange] [.row n es] [v']) :
    Calls Try.prog 8 #[v, v'] w fun e w' => e = .returned (.bool true) ∧ Below w.heap.size w w' := by
  by_cases h0 : n = 0
  · subst h0
    obtain ⟨a, c, rfl⟩ := h.len0
    obtain ⟨a', c', rfl⟩ := h'.len0
    go_enter Try.func8, Try.ntmps8
    go_wp2
    refine wp_loop_rounds 1 ?_
    rw [rounds_succ]
    go_wp2
    go_ret
    exact ⟨rfl, Below.refl _ _⟩
  rcases h.slice with ⟨e0, _⟩ | ⟨p, o, c, rfl, hp, hn, vs, hr, hR⟩
  · exact absurd e0 h0
  rcases h'.slice with ⟨e0, _⟩ | ⟨p', o', c', rfl, hp', _, vs', hr', hR'⟩
  · exact absurd e0 h0
  have HR := uh (And.intro hR (And.intro hr hp))
  have HR' := uh (And.intro hR' (And.intro hr' hp'))
  have hn1 : n ≤ 9223372036854775807 := hn.1
  clear h h' hr hR hp hr' hR' hp' hn
  go_enter Try.func8, Try.ntmps8
  go_wp2
  go_loopw [5] (fun i wr => ∃ q : Nat, q ≤ n ∧ i = .int .i64 q ∧ Below w.heap.size w wr) (fun i _ => n - (intOf i).toNat)
  case atStart => exact ⟨0, Nat.zero_le _, rfl, Below.refl _ _⟩
  case round =>
    obtain ⟨q, hq, rfl, hW⟩ := hrel
    have HB := uh hW
    clear hW
    by_cases hlt : q < n
    · obtain ⟨ve, hE, hg⟩ := (HR.out.1.later HB.out).el hlt (rA_later HR.out.2.1 HR.out.2.2 HB.out)
      obtain ⟨ve', hE', hg'⟩ := (HR'.out.1.later HB.out).el hlt (rA_later HR'.out.2.1 HR'.out.2.2 HB.out)
      have hbp : p < wr.heap.size := Nat.lt_of_lt_of_le HR.out.2.2 HB.out.size
      have hbq : p' < wr.heap.size := Nat.lt_of_lt_of_le HR'.out.2.2 HB.out.size
      have hm0 : (0 : Int) ≤ (q : Int) := by omega
      have hm3 : (q : Int) < (n : Int) := by omega
      have hNE := upst_some wr
      have z1 : ∀ px : UPst wr, p < px.W.heap.size := fun px => px.size hbp
      have z2 : ∀ px : UPst wr, p' < px.W.heap.size := fun px => px.size hbq
      have H1 := uh (And.intro hE.len (And.intro (show wr.rangeAt p (o + q * 5) ve from hg) hbp))
      have H2 := uh (And.intro hE'.len (And.intro (show wr.rangeAt p' (o' + q * 5) ve' from hg') hbq))
      have HX : Hid (∀ px : UPst wr, Calls Try.prog 21 #[.agg ve.toArray, .agg ve'.toArray] px.W fun e w' => e = .returned (.bool true) ∧ Below px.W.heap.size px.W w') := fun px => eqSheetChange _ ve ve' px.W (hE.later px.ok) (hE'.later px.ok)
      clear hE hE' hg hg' hbp hbq HR HR'
      go_upto_region 6 with fail
      refine uregion wr (Below.refl _ _) (by kernel_rfl) (by kernel_rfl) ?_
      repeat (first
        | go_big_quiet_skip
        | (go_big_quiet_want; (first | refine uq_load 44 _ rfl p (o + q * 5) rfl ve _ H1.out.2.1 H1.out.2.2 Try.underlying44 rfl (by rw [H1.out.1]; kernel_rfl) ?_ | refine uq_load 44 _ rfl p' (o' + q * 5) rfl ve' _ H2.out.2.1 H2.out.2.2 Try.underlying44 rfl (by rw [H2.out.1]; kernel_rfl) ?_); (simp only [Act.put, List.setIfInBounds_toArray, List.set_cons_zero, List.set_cons_succ]); go_big_quiet_on)
        | (go_big_quiet_want; go_big_quiet_op; first | go_big_quiet_on | (apply Exists.intro; refine ⟨fun px => ?_, ?_⟩; (focus ((go_at_call 21; refine (HX.out px).mono ?_; rintro e w' ⟨he, hb⟩; exact ⟨he, ⟨w', blw_trans px.ok hb⟩, rfl⟩))); go_big_quiet_on)))
      refine wpQuiet_nil ?_
      intro _ hw'
      obtain ⟨z, hw''⟩ := hw'
      subst hw''
      replace HB := uh (blw_trans HB.out z.ok)
      go_wp2
      go_roundw
      case rel => exact ⟨q + 1, by omega, by go_num, HB.out⟩
      case measure => simp [intOf]; omega
    · go_wp2
      go_ret
      exact ⟨rfl, HB.out⟩
end Go.Proofs.Ytojcopamegmeeaa
