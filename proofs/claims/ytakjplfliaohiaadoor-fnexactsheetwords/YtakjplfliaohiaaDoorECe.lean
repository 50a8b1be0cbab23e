/-
  Words of lines that are alike.
-/
import Derived.Test.YtakjplfliaohiaaDoorECs
namespace Go.Proofs.YtakjplfliaohiaaDoor
open Go.RowKit Go.Deep

set_option maxRecDepth 8000 in
set_option maxHeartbeats 8000000 in
theorem eqStringS (n : Nat) (es : List Dt) (v v' : Value) (w : World) (h : Raw w [.row 9 [.s]] [.row n es] [v]) (h' : Raw w [.row 9 [.s]] [.row n es] [v']) :
    Calls Tryd.prog 14 #[v, v'] w fun e w' => e = .returned (.bool true) ∧ Below w.heap.size w w' := by
  by_cases h0 : n = 0
  · subst h0
    obtain ⟨a, c, rfl⟩ := h.len0
    obtain ⟨a', c', rfl⟩ := h'.len0
    go_enter Tryd.func14, Tryd.ntmps14
    go_wp2
    refine wp_loop_rounds 1 ?_
    rw [rounds_succ]
    go_wp2
    go_ret
    exact ⟨rfl, Below.refl _ _⟩
  rcases h.slice with ⟨e0, _⟩ | ⟨p, o, c, rfl, hp, hn, vs, hr, hR⟩
  · exact absurd e0 h0
  rcases h'.slice with ⟨e0, _⟩ | ⟨p', o', c', rfl, hp', _, vs', hr', hR'⟩
  · exact absurd e0 h0
  have HR := uh (And.intro hR (And.intro hr hp))
  have HR' := uh (And.intro hR' (And.intro hr' hp'))
  have hn1 : n ≤ 9223372036854775807 := hn.1
  clear h h' hr hR hp hr' hR' hp' hn
  go_enter Tryd.func14, Tryd.ntmps14
  go_wp2
  go_loopw [5] (fun i wr => ∃ q : Nat, q ≤ n ∧ i = .int .i64 q ∧ Below w.heap.size w wr) (fun i _ => n - (intOf i).toNat)
  case atStart => exact ⟨0, Nat.zero_le _, rfl, Below.refl _ _⟩
  case round =>
    obtain ⟨q, hq, rfl, hW⟩ := hrel
    have HB := uh hW
    clear hW
    by_cases hlt : q < n
    · obtain ⟨ve, hE, hg⟩ := (HR.out.1.later HB.out).el hlt (rA_later HR.out.2.1 HR.out.2.2 HB.out)
      obtain ⟨ve', hE', hg'⟩ := (HR'.out.1.later HB.out).el hlt (rA_later HR'.out.2.1 HR'.out.2.2 HB.out)
      have hbp : p < wr.heap.size := Nat.lt_of_lt_of_le HR.out.2.2 HB.out.size
      have hbq : p' < wr.heap.size := Nat.lt_of_lt_of_le HR'.out.2.2 HB.out.size
      have hm0 : (0 : Int) ≤ (q : Int) := by omega
      have hm3 : (q : Int) < (n : Int) := by omega
      have hNE := upst_some wr
      have z1 : ∀ px : UPst wr, p < px.W.heap.size := fun px => px.size hbp
      have z2 : ∀ px : UPst wr, p' < px.W.heap.size := fun px => px.size hbq
      obtain ⟨d, hd⟩ : ∃ d, d = el 1 q es := ⟨_, rfl⟩
      have hE1 : Raw wr [.s] d ve := by rw [hd]; exact hE
      have hE2 : Raw wr [.s] d ve' := by rw [hd]; exact hE'
      obtain ⟨a0, rfl⟩ := typT1 hE1.typ
      obtain rfl := rawT1 hE1
      obtain rfl := rawT1 hE2
      have S1 : ∀ px : UPst wr, px.W.cell? ⟨p, o + q, none⟩ = some (.string a0) := fun px => px.cell (by have := rA_get hg 0 _ rfl; simpa using this) hbp
      have S2 : ∀ px : UPst wr, px.W.cell? ⟨p', o' + q, none⟩ = some (.string a0) := fun px => px.cell (by have := rA_get hg' 0 _ rfl; simpa using this) hbq
      clear hE hE' hE1 hE2 hd hg hg' hbp hbq HR HR'
      go_upto_region 6 with fail
      refine uregion wr (Below.refl _ _) (by kernel_rfl) (by kernel_rfl) ?_
      repeat (first
        | go_big_quiet_skip
        | (go_big_quiet_want; go_big_quiet_op; go_big_quiet_on))
      refine wpQuiet_nil ?_
      intro _ hw'
      obtain ⟨z, hw''⟩ := hw'
      subst hw''
      replace HB := uh (blw_trans HB.out z.ok)
      go_wp2
      go_roundw
      case rel => exact ⟨q + 1, by omega, by go_num, HB.out⟩
      case measure => simp [intOf]; omega
    · go_wp2
      go_ret
      exact ⟨rfl, HB.out⟩
set_option maxRecDepth 8000 in
set_option maxHeartbeats 8000000 in
theorem eqSheetCut (ds : List Dt) (cs cs' : List Value) (w : World) (h : Raw w shSheetCut ds cs) (h' : Raw w shSheetCut ds cs') :
    Calls Tryd.prog 6 #[.agg cs.toArray, .agg cs'.toArray] w fun e w' => e = .returned (.bool true) ∧ Below w.heap.size w w' := by
  obtain ⟨n0, e0, a1, rfl, t0⟩ := segTypSheetCut h.typ
  obtain ⟨zpp, hzpp⟩ : ∃ x, x = cs := ⟨_, rfl⟩
  obtain ⟨vp0, xp0, hxp0, rp0, hp1⟩ := h.c_r
  obtain ⟨xp1, hxp1, hp2⟩ := hp1.c_b
  have hxpn := hp2.c_n
  have Hp : Hid (cs = vp0 :: .bool a1 :: []) := by show _ = _; rw [hxp0, hxp1, hxpn]
  clear hxp0 hxp1 hxpn
  obtain ⟨zqq, hzqq⟩ : ∃ x, x = cs' := ⟨_, rfl⟩
  obtain ⟨vq0, xq0, hxq0, rq0, hq1⟩ := h'.c_r
  obtain ⟨xq1, hxq1, hq2⟩ := hq1.c_b
  have hxqn := hq2.c_n
  have Hq : Hid (cs' = vq0 :: .bool a1 :: []) := by show _ = _; rw [hxq0, hxq1, hxqn]
  clear hxq0 hxq1 hxqn
  obtain ⟨wa, hwa⟩ : ∃ wa, wa = (w.alloc (.cells cs.toArray 24)).alloc (.cells cs'.toArray 24) := ⟨_, rfl⟩
  have HB : Hid (Below w.heap.size w wa) := by show Below _ _ _; rw [hwa]; exact blw_alloc (blw_alloc (Below.refl _ _) _) _
  have HX : Hid (LBox wa w.heap.size cs) := by show LBox _ _ _; rw [hwa]; exact (LBox.new w cs.toArray _ _ rfl).past _
  have HY : Hid (LBox wa (w.heap.size + 1) cs') := by show LBox _ _ _; rw [hwa]; exact LBox.new _ cs'.toArray _ _ (by simp)
  have Rp0 := uh (rp0.later HB.out)
  have Rq0 := uh (rq0.later HB.out)
  clear h h' rp0 rq0 hp1 hq1 hp2 hq2 hzpp hzqq zpp zqq
  go_enter Tryd.func6, Tryd.ntmps6
  go_upto_region 1 with fail
  rw [← hwa]
  clear hwa
  have yz := HX.out.lt
  have xz := HY.out.lt
  have bp := boxSheetCut  (by have := HX.out.at_; rw [Hp.out] at this; exact this)
  have bq := boxSheetCut  (by have := HY.out.at_; rw [Hq.out] at this; exact this)
  obtain ⟨gp0, gp1⟩ := bp
  obtain ⟨gq0, gq1⟩ := bq
  have hub1 : (a1 != a1) = false := by cases a1 <;> rfl
  obtain ⟨vap0, vcp0, hva⟩ := Rp0.out.len0
  subst hva
  obtain ⟨vaq0, vcq0, hva⟩ := Rq0.out.len0
  subst hva
  go_wp2_with fail
  refine (eqStringS n0 e0 _ _ wa Rp0.out Rq0.out).mono ?_
  rintro e x0 ⟨rfl, hb0⟩
  replace HB := uh (blw_trans HB.out hb0)
  replace HX := uh (HX.out.later hb0)
  replace HY := uh (HY.out.later hb0)
  clear hb0 yz xz gp0 gq0 gp1 gq1
  have yz := HX.out.lt
  have xz := HY.out.lt
  have bp := boxSheetCut  (by have := HX.out.at_; rw [Hp.out] at this; exact this)
  have bq := boxSheetCut  (by have := HY.out.at_; rw [Hq.out] at this; exact this)
  obtain ⟨gp0, gp1⟩ := bp
  obtain ⟨gq0, gq1⟩ := bq
  go_wp2
  go_ret
  exact ⟨rfl, HB.out⟩
end Go.Proofs.YtakjplfliaohiaaDoor
