/-
  Lists that are alike.
-/
import Derived.Test.YtnjomikieiocpaaKSh
namespace Go.Proofs.Ytnjomikieiocpaa
open Go.RowKit Go.Deep

set_option maxRecDepth 8000 in
set_option maxHeartbeats 8000000 in
theorem eqIntS (n : Nat) (es : List Dt) (v v' : Value) (w : World) (h : Raw w [.row 3 [.i]] [.row n es] [v]) (h' : Raw w [.row 3 [.i]] [.row n es] [v']) :
    Calls Try.prog 37 #[v, v'] w fun e w' => e = .returned (.bool true) ∧ Below w.heap.size w w' := by
  by_cases h0 : n = 0
  · subst h0
    obtain ⟨a, c, rfl⟩ := h.len0
    obtain ⟨a', c', rfl⟩ := h'.len0
    go_enter Try.func37, Try.ntmps37
    go_wp2
    refine wp_loop_rounds 1 ?_
    rw [rounds_succ]
    go_wp2
    go_ret
    exact ⟨rfl, Below.refl _ _⟩
  rcases h.slice with ⟨e0, _⟩ | ⟨p, o, c, rfl, hp, hn, vs, hr, hR⟩
  · exact absurd e0 h0
  rcases h'.slice with ⟨e0, _⟩ | ⟨p', o', c', rfl, hp', _, vs', hr', hR'⟩
  · exact absurd e0 h0
  have HR := uh (And.intro hR (And.intro hr hp))
  have HR' := uh (And.intro hR' (And.intro hr' hp'))
  have hn1 : n ≤ 9223372036854775807 := hn.1
  clear h h' hr hR hp hr' hR' hp' hn
  go_enter Try.func37, Try.ntmps37
  go_wp2
  go_loopw [5] (fun i wr => ∃ q : Nat, q ≤ n ∧ i = .int .i64 q ∧ Below w.heap.size w wr) (fun i _ => n - (intOf i).toNat)
  case atStart => exact ⟨0, Nat.zero_le _, rfl, Below.refl _ _⟩
  case round =>
    obtain ⟨q, hq, rfl, hW⟩ := hrel
    have HB := uh hW
    clear hW
    by_cases hlt : q < n
    · obtain ⟨ve, hE, hg⟩ := (HR.out.1.later HB.out).el hlt (rA_later HR.out.2.1 HR.out.2.2 HB.out)
      obtain ⟨ve', hE', hg'⟩ := (HR'.out.1.later HB.out).el hlt (rA_later HR'.out.2.1 HR'.out.2.2 HB.out)
      have hbp : p < wr.heap.size := Nat.lt_of_lt_of_le HR.out.2.2 HB.out.size
      have hbq : p' < wr.heap.size := Nat.lt_of_lt_of_le HR'.out.2.2 HB.out.size
      have hm0 : (0 : Int) ≤ (q : Int) := by omega
      have hm3 : (q : Int) < (n : Int) := by omega
      have hNE := upst_some wr
      have z1 : ∀ px : UPst wr, p < px.W.heap.size := fun px => px.size hbp
      have z2 : ∀ px : UPst wr, p' < px.W.heap.size := fun px => px.size hbq
      obtain ⟨d, hd⟩ : ∃ d, d = el 1 q es := ⟨_, rfl⟩
      have hE1 : Raw wr [.i] d ve := by rw [hd]; exact hE
      have hE2 : Raw wr [.i] d ve' := by rw [hd]; exact hE'
      obtain ⟨a0, rfl⟩ := typN1 hE1.typ
      obtain rfl := rawN1 hE1
      obtain rfl := rawN1 hE2
      have S1 : ∀ px : UPst wr, px.W.cell? ⟨p, o + q, none⟩ = some (.int .i64 a0) := fun px => px.cell (by have := rA_get hg 0 _ rfl; simpa using this) hbp
      have S2 : ∀ px : UPst wr, px.W.cell? ⟨p', o' + q, none⟩ = some (.int .i64 a0) := fun px => px.cell (by have := rA_get hg' 0 _ rfl; simpa using this) hbq
      clear hE hE' hE1 hE2 hd hg hg' hbp hbq HR HR'
      go_upto_region 6 with fail
      refine uregion wr (Below.refl _ _) (by kernel_rfl) (by kernel_rfl) ?_
      repeat (first
        | go_big_quiet_skip
        | (go_big_quiet_want; go_big_quiet_op; go_big_quiet_on))
      refine wpQuiet_nil ?_
      intro _ hw'
      obtain ⟨z, hw''⟩ := hw'
      subst hw''
      replace HB := uh (blw_trans HB.out z.ok)
      go_wp2
      go_roundw
      case rel => exact ⟨q + 1, by omega, by go_num, HB.out⟩
      case measure => simp [intOf]; omega
    · go_wp2
      go_ret
      exact ⟨rfl, HB.out⟩
set_option maxRecDepth 8000 in
set_option maxHeartbeats 8000000 in
theorem eqStringS (n : Nat) (es : List Dt) (v v' : Value) (w : World) (h : Raw w [.row 9 [.s]] [.row n es] [v]) (h' : Raw w [.row 9 [.s]] [.row n es] [v']) :
    Calls Try.prog 36 #[v, v'] w fun e w' => e = .returned (.bool true) ∧ Below w.heap.size w w' := by
  by_cases h0 : n = 0
  · subst h0
    obtain ⟨a, c, rfl⟩ := h.len0
    obtain ⟨a', c', rfl⟩ := h'.len0
    go_enter Try.func36, Try.ntmps36
    go_wp2
    refine wp_loop_rounds 1 ?_
    rw [rounds_succ]
    go_wp2
    go_ret
    exact ⟨rfl, Below.refl _ _⟩
  rcases h.slice with ⟨e0, _⟩ | ⟨p, o, c, rfl, hp, hn, vs, hr, hR⟩
  · exact absurd e0 h0
  rcases h'.slice with ⟨e0, _⟩ | ⟨p', o', c', rfl, hp', _, vs', hr', hR'⟩
  · exact absurd e0 h0
  have HR := uh (And.intro hR (And.intro hr hp))
  have HR' := uh (And.intro hR' (And.intro hr' hp'))
  have hn1 : n ≤ 9223372036854775807 := hn.1
  clear h h' hr hR hp hr' hR' hp' hn
  go_enter Try.func36, Try.ntmps36
  go_wp2
  go_loopw [5] (fun i wr => ∃ q : Nat, q ≤ n ∧ i = .int .i64 q ∧ Below w.heap.size w wr) (fun i _ => n - (intOf i).toNat)
  case atStart => exact ⟨0, Nat.zero_le _, rfl, Below.refl _ _⟩
  case round =>
    obtain ⟨q, hq, rfl, hW⟩ := hrel
    have HB := uh hW
    clear hW
    by_cases hlt : q < n
    · obtain ⟨ve, hE, hg⟩ := (HR.out.1.later HB.out).el hlt (rA_later HR.out.2.1 HR.out.2.2 HB.out)
      obtain ⟨ve', hE', hg'⟩ := (HR'.out.1.later HB.out).el hlt (rA_later HR'.out.2.1 HR'.out.2.2 HB.out)
      have hbp : p < wr.heap.size := Nat.lt_of_lt_of_le HR.out.2.2 HB.out.size
      have hbq : p' < wr.heap.size := Nat.lt_of_lt_of_le HR'.out.2.2 HB.out.size
      have hm0 : (0 : Int) ≤ (q : Int) := by omega
      have hm3 : (q : Int) < (n : Int) := by omega
      have hNE := upst_some wr
      have z1 : ∀ px : UPst wr, p < px.W.heap.size := fun px => px.size hbp
      have z2 : ∀ px : UPst wr, p' < px.W.heap.size := fun px => px.size hbq
      obtain ⟨d, hd⟩ : ∃ d, d = el 1 q es := ⟨_, rfl⟩
      have hE1 : Raw wr [.s] d ve := by rw [hd]; exact hE
      have hE2 : Raw wr [.s] d ve' := by rw [hd]; exact hE'
      obtain ⟨a0, rfl⟩ := typT1 hE1.typ
      obtain rfl := rawT1 hE1
      obtain rfl := rawT1 hE2
      have S1 : ∀ px : UPst wr, px.W.cell? ⟨p, o + q, none⟩ = some (.string a0) := fun px => px.cell (by have := rA_get hg 0 _ rfl; simpa using this) hbp
      have S2 : ∀ px : UPst wr, px.W.cell? ⟨p', o' + q, none⟩ = some (.string a0) := fun px => px.cell (by have := rA_get hg' 0 _ rfl; simpa using this) hbq
      clear hE hE' hE1 hE2 hd hg hg' hbp hbq HR HR'
      go_upto_region 6 with fail
      refine uregion wr (Below.refl _ _) (by kernel_rfl) (by kernel_rfl) ?_
      repeat (first
        | go_big_quiet_skip
        | (go_big_quiet_want; go_big_quiet_op; go_big_quiet_on))
      refine wpQuiet_nil ?_
      intro _ hw'
      obtain ⟨z, hw''⟩ := hw'
      subst hw''
      replace HB := uh (blw_trans HB.out z.ok)
      go_wp2
      go_roundw
      case rel => exact ⟨q + 1, by omega, by go_num, HB.out⟩
      case measure => simp [intOf]; omega
    · go_wp2
      go_ret
      exact ⟨rfl, HB.out⟩
set_option maxRecDepth 8000 in
set_option maxHeartbeats 8000000 in
theorem eqRecSlot (ds : List Dt) (cs cs' : List Value) (w : World) (h : Raw w shRecSlot ds cs) (h' : Raw w shRecSlot ds cs') :
    Calls Try.prog 40 #[.agg cs.toArray, .agg cs'.toArray] w fun e w' => e = .returned (.bool true) ∧ Below w.heap.size w w' := by
  obtain ⟨a0, a1, rfl⟩ := segTypRecSlot h.typ
  obtain ⟨cp0, hcp0⟩ : ∃ x, x = cs := ⟨_, rfl⟩
  obtain ⟨xp0, hxp0, hp1⟩ := h.c_i
  obtain ⟨xp1, hxp1, hp2⟩ := hp1.c_s
  have hxpn := hp2.c_n
  have Hp : Hid (cs = .int .i64 a0 :: .string a1 :: []) := by show _ = _; rw [hxp0, hxp1, hxpn]
  clear hxp0 hxp1 hxpn
  obtain ⟨cq0, hcq0⟩ : ∃ x, x = cs' := ⟨_, rfl⟩
  obtain ⟨xq0, hxq0, hq1⟩ := h'.c_i
  obtain ⟨xq1, hxq1, hq2⟩ := hq1.c_s
  have hxqn := hq2.c_n
  have Hq : Hid (cs' = .int .i64 a0 :: .string a1 :: []) := by show _ = _; rw [hxq0, hxq1, hxqn]
  clear hxq0 hxq1 hxqn
  obtain ⟨wa, hwa⟩ : ∃ wa, wa = (w.alloc (.cells cs.toArray 66)).alloc (.cells cs'.toArray 66) := ⟨_, rfl⟩
  have HB : Hid (Below w.heap.size w wa) := by show Below _ _ _; rw [hwa]; exact blw_alloc (blw_alloc (Below.refl _ _) _) _
  have HX : Hid (LBox wa w.heap.size cs) := by show LBox _ _ _; rw [hwa]; exact (LBox.new w cs.toArray _ _ rfl).past _
  have HY : Hid (LBox wa (w.heap.size + 1) cs') := by show LBox _ _ _; rw [hwa]; exact LBox.new _ cs'.toArray _ _ (by simp)
  clear h h' hp1 hq1 hp2 hq2 hcp0 hcq0 cp0 cq0
  go_enter Try.func40, Try.ntmps40
  go_upto_region 1 with fail
  rw [← hwa]
  clear hwa
  have yz := HX.out.lt
  have xz := HY.out.lt
  have bp := boxRecSlot  (by have := HX.out.at_; rw [Hp.out] at this; exact this)
  have bq := boxRecSlot  (by have := HY.out.at_; rw [Hq.out] at this; exact this)
  obtain ⟨gp0, gp1⟩ := bp
  obtain ⟨gq0, gq1⟩ := bq
  go_wp2
  go_ret
  exact ⟨rfl, HB.out⟩
set_option maxRecDepth 8000 in
set_option maxHeartbeats 8000000 in
theorem eqRecSlotS (n : Nat) (es : List Dt) (v v' : Value) (w : World) (h : Raw w [.row 66 shRecSlot] [.row n es] [v]) (h' : Raw w [.row 66 shRecSlot] [.row n es] [v']) :
    Calls Try.prog 38 #[v, v'] w fun e w' => e = .returned (.bool true) ∧ Below w.heap.size w w' := by
  by_cases h0 : n = 0
  · subst h0
    obtain ⟨a, c, rfl⟩ := h.len0
    obtain ⟨a', c', rfl⟩ := h'.len0
    go_enter Try.func38, Try.ntmps38
    go_wp2
    refine wp_loop_rounds 1 ?_
    rw [rounds_succ]
    go_wp2
    go_ret
    exact ⟨rfl, Below.refl _ _⟩
  rcases h.slice with ⟨e0, _⟩ | ⟨p, o, c, rfl, hp, hn, vs, hr, hR⟩
  · exact absurd e0 h0
  rcases h'.slice with ⟨e0, _⟩ | ⟨p', o', c', rfl, hp', _, vs', hr', hR'⟩
  · exact absurd e0 h0
  have HR := uh (And.intro hR (And.intro hr hp))
  have HR' := uh (And.intro hR' (And.intro hr' hp'))
  have hn1 : n ≤ 9223372036854775807 := hn.1
  clear h h' hr hR hp hr' hR' hp' hn
  go_enter Try.func38, Try.ntmps38
  go_wp2
  go_loopw [5] (fun i wr => ∃ q : Nat, q ≤ n ∧ i = .int .i64 q ∧ Below w.heap.size w wr) (fun i _ => n - (intOf i).toNat)
  case atStart => exact ⟨0, Nat.zero_le _, rfl, Below.refl _ _⟩
  case round =>
    obtain ⟨q, hq, rfl, hW⟩ := hrel
    have HB := uh hW
    clear hW
    by_cases hlt : q < n
    · obtain ⟨ve, hE, hg⟩ := (HR.out.1.later HB.out).el hlt (rA_later HR.out.2.1 HR.out.2.2 HB.out)
      obtain ⟨ve', hE', hg'⟩ := (HR'.out.1.later HB.out).el hlt (rA_later HR'.out.2.1 HR'.out.2.2 HB.out)
      have hbp : p < wr.heap.size := Nat.lt_of_lt_of_le HR.out.2.2 HB.out.size
      have hbq : p' < wr.heap.size := Nat.lt_of_lt_of_le HR'.out.2.2 HB.out.size
      have hm0 : (0 : Int) ≤ (q : Int) := by omega
      have hm3 : (q : Int) < (n : Int) := by omega
      have hNE := upst_some wr
      have z1 : ∀ px : UPst wr, p < px.W.heap.size := fun px => px.size hbp
      have z2 : ∀ px : UPst wr, p' < px.W.heap.size := fun px => px.size hbq
      have H1 := uh (And.intro hE.len (And.intro (show wr.rangeAt p (o + q * 2) ve from hg) hbp))
      have H2 := uh (And.intro hE'.len (And.intro (show wr.rangeAt p' (o' + q * 2) ve' from hg') hbq))
      have HX : Hid (∀ px : UPst wr, Calls Try.prog 40 #[.agg ve.toArray, .agg ve'.toArray] px.W fun e w' => e = .returned (.bool true) ∧ Below px.W.heap.size px.W w') := fun px => eqRecSlot _ ve ve' px.W (hE.later px.ok) (hE'.later px.ok)
      clear hE hE' hg hg' hbp hbq HR HR'
      go_upto_region 6 with fail
      refine uregion wr (Below.refl _ _) (by kernel_rfl) (by kernel_rfl) ?_
      repeat (first
        | go_big_quiet_skip
        | (go_big_quiet_want; (first | refine uq_load 66 _ rfl p (o + q * 2) rfl ve _ H1.out.2.1 H1.out.2.2 Try.underlying66 rfl (by rw [H1.out.1]; kernel_rfl) ?_ | refine uq_load 66 _ rfl p' (o' + q * 2) rfl ve' _ H2.out.2.1 H2.out.2.2 Try.underlying66 rfl (by rw [H2.out.1]; kernel_rfl) ?_); (simp only [Act.put, List.setIfInBounds_toArray, List.set_cons_zero, List.set_cons_succ]); go_big_quiet_on)
        | (go_big_quiet_want; go_big_quiet_op; first | go_big_quiet_on | (apply Exists.intro; refine ⟨fun px => ?_, ?_⟩; (focus ((go_at_call 40; refine (HX.out px).mono ?_; rintro e w' ⟨he, hb⟩; exact ⟨he, ⟨w', blw_trans px.ok hb⟩, rfl⟩))); go_big_quiet_on)))
      refine wpQuiet_nil ?_
      intro _ hw'
      obtain ⟨z, hw''⟩ := hw'
      subst hw''
      replace HB := uh (blw_trans HB.out z.ok)
      go_wp2
      go_roundw
      case rel => exact ⟨q + 1, by omega, by go_num, HB.out⟩
      case measure => simp [intOf]; omega
    · go_wp2
      go_ret
      exact ⟨rfl, HB.out⟩
end Go.Proofs.Ytnjomikieiocpaa
