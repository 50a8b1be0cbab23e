/-
  Draws: teams, rules and a rule.
-/
import Derived.Test.YtfmidkdpclfffaaDoorDrJ
namespace Go.Proofs.YtfmidkdpclfffaaDoor
open Go.RowKit Go.Deep

theorem Tryd.info27 : (Tryd.prog.info? 27).map (fun i => (i.zero, i.size, i.bytes)) = some (some (.agg #[.slice none 0 0, .string ByteArray.empty, .string ByteArray.empty, .string ByteArray.empty]), 4, 72) := by kernel_rfl

set_option maxRecDepth 8000 in
set_option maxHeartbeats 16000000 in
theorem drawCovers (v : Value) (W : World) (h : CodeAt W v) :
    Calls Tryd.prog 4 #[v] W fun e W' => (∃ (bt ct g cap b c : Nat) (ts : List Tm) (rs : List Rul) (r : Rul), e = .returned (.tuple #[.slice (some ⟨bt, 0, none⟩) ts.length ct, .slice (some ⟨g, 0, none⟩) rs.length cap, .agg #[.slice (some ⟨b, 0, none⟩) r.verbs.length c, .string r.kind, .string r.team, .string r.pre]]) ∧ TmsIn W' bt ts ∧ RulsIn W' g rs ∧ IntsIn W' b r.verbs ∧ r.sized ∧ rs.length ≤ 100) ∧ Below W.heap.size W W' := by
  obtain ⟨i0, hi, hz0, hz1, hz2⟩ := info_parts Tryd.info27
  obtain ⟨Wa, hWa⟩ : ∃ Wa, Wa = W.alloc (.cells #[.slice none 0 0, .string ⟨#[]⟩, .string ⟨#[]⟩, .string ⟨#[]⟩] 27) := ⟨_, rfl⟩
  obtain ⟨Bq, hBq⟩ : ∃ Bq, Bq = W.heap.size := ⟨_, rfl⟩
  have hba : Below W.heap.size W Wa := by rw [hWa]; exact blw_alloc (Below.refl _ _) _
  have H0 : Hid (Below W.heap.size W Wa ∧ CodeAt Wa v ∧ OwnBlk Wa Bq 27 4 ∧ W.heap.size = Bq) := ⟨hba, h.later hba, by rw [hWa, hBq]; exact OwnBlk.alloc _ _ _ _ rfl, hBq.symm⟩
  clear h hba
  go_enter Tryd.func4, Tryd.ntmps4
  go_upto_region 1 with fail
  rw [← hWa, ← hBq]
  clear hWa hBq
  go_wp2_with fail
  refine (open_any v Wa H0.out.2.1).mono ?_
  rintro e W1 ⟨⟨v', len, rfl, hR⟩, hb⟩
  obtain ⟨R, hRR⟩ : ∃ R, R = Wa.heap.size := ⟨_, rfl⟩
  rw [← hRR] at hR
  have H1 : Hid (Below W.heap.size W W1 ∧ Rd W1 R v' len 0 ∧ OwnBlk W1 Bq 27 4 ∧ W.heap.size = Bq ∧ Bq < R) := ⟨blw_trans H0.out.1 hb, hR, H0.out.2.2.1.later hb, H0.out.2.2.2, by rw [hRR]; exact H0.out.2.2.1.lt⟩
  rw [← hRR]
  clear hRR hR hb H0
  go_wp2_with fail
  refine (anyTeams_any R v' len 0 W1 H1.out.2.1 (by omega)).mono ?_
  rintro e W2 ⟨⟨bt, ct, ts, rfl, hT, hbt⟩, hF, p2, hp2, hR⟩
  have H2 : Hid (Below W.heap.size W W2 ∧ Rd W2 R v' len p2 ∧ OwnBlk W2 Bq 27 4 ∧ W.heap.size = Bq ∧ Bq < R ∧ TmsIn W2 bt ts ∧ R < bt) := by
    obtain ⟨e1, e2, e3, e4, e5⟩ := H1.out
    obtain ⟨cs, g1, g2⟩ := e3
    exact ⟨e1.trans (hF.bel.mono (by omega)), hR, ⟨cs, (hF.bel.block Bq e5).trans g1, g2⟩, e4, e5, hT, Nat.lt_of_lt_of_le e2.own.lt hbt⟩
  clear hF hR hT hbt H1
  go_wp2_with fail
  refine (anyRule_any R v' len p2 W2 H2.out.2.1 (by omega)).mono ?_
  rintro e W3 ⟨⟨b, c, r, rfl, hr⟩, hF, p3, hp3, hR⟩
  obtain ⟨W4, hW4⟩ : ∃ W4, W4 = (W3.alloc (.cells #[.slice (some ⟨b, 0, none⟩) r.verbs.length c, .string r.kind, .string r.team, .string r.pre] 27)).alloc (.cells #[] 27) := ⟨_, rfl⟩
  obtain ⟨lo, hlo⟩ : ∃ lo, lo = W3.heap.size + 1 := ⟨_, rfl⟩
  obtain ⟨Q, hQ⟩ : ∃ Q, Q = W3.heap.size := ⟨_, rfl⟩
  have H4 : Hid (CQ R v' len W lo Bq Q bt ct b c ts r (p3) lo 0 [] W4) := by
    obtain ⟨e1, e2, e3, e4, e5, e6, e7⟩ := H2.out
    have hb4 : Below W3.heap.size W3 W4 := by rw [hW4]; exact blw_alloc (blw_alloc (Below.refl _ _) _) _
    have hF4 : Fr R W3 W4 := Fr.of_below hb4 hR.own.lt
    have hF2 := hF.trans hF4
    have l2 := e6.lt
    have l3 := hF.bel.size
    have l4 := hr.1.lt
    have l5 := hr.2.1
    have l6 := e2.own.lt
    obtain ⟨cs, g1, g2⟩ := e3
    have cc : ∀ j, W4.cell? ⟨Q, j, none⟩ = (#[.slice (some ⟨b, 0, none⟩) r.verbs.length c, .string r.kind, .string r.team, .string r.pre] : Array Value)[j]? := fun j => by
      rw [hW4, hQ]
      refine ((blw_alloc (Below.refl _ _) _ : Below (W3.alloc _).heap.size (W3.alloc _) _).cell (p := ⟨W3.heap.size, j, none⟩) (by simp)).trans ?_
      exact World.cell?_alloc_at _ _ _ _ rfl
    have ct4 : ∀ o, W4.cell? ⟨bt, o, none⟩ = W2.cell? ⟨bt, o, none⟩ := fun o => hF2.cell e7 e6.lt
    have hz4 : W4.heap.size = W3.heap.size + 2 := by rw [hW4]; simp
    have hg4 : W4.heap[lo]? = some (.cells #[] 27 (0, 0)) := by
      rw [hW4, hlo]
      show ((W3.alloc _).heap.push _)[W3.heap.size + 1]? = _
      rw [Array.getElem?_push]
      simp
    refine ⟨e1.trans (hF2.bel.mono (by omega)), hR.later hb4, ⟨cs, (hF2.bel.block Bq e5).trans g1, g2⟩, ⟨by omega, e6.len, fun i hi => ⟨(ct4 _).trans (e6.at_ i hi).c0, (ct4 _).trans (e6.at_ i hi).c1, (e6.at_ i hi).sized⟩⟩, ?_, cc 0, cc 1, cc 2, cc 3, ints_fr hr.1 hF4 (by omega), hr.2.2.1, hr.2.2.2, ⟨rfl, Or.inr ⟨lo, 0, #[], rfl, Nat.le_refl _, hg4, Nat.le_refl _, by decide, rfl, rfl⟩⟩, ?_, by omega, fun x hx => absurd hx (by simp), by omega, by omega, by omega, by omega, by omega, by omega, by omega, by omega, by omega⟩
    · rw [hW4, hQ]; exact (OwnBlk.alloc _ _ _ _ rfl).past _
    · intro k
      simp only [World.cell?]
      rw [hg4]
      simp
  go_upto_region 5 with fail
  rw [← hW4, ← hlo, ← hQ]
  clear hW4 hlo hQ hr hF hR H2
  go_wp2_with fail
  refine (pick_any R v' len p3 5 W4 H4.out.rd (by omega) (by omega)).mono ?_
  rintro e W5 ⟨⟨n, rfl, hn⟩, hF, hR⟩
  have n0 := hn.1
  have n1 := hn.2.1 (by omega)
  obtain ⟨n, rfl⟩ := Int.eq_ofNat_of_zero_le n0
  have H5 : Hid (CQ R v' len W lo Bq Q bt ct b c ts r (p3 + 1) lo 0 [] W5) := H4.out.on hF hR
  clear hn hF hR H4 n0
  go_wp2
  go_loopw [8, 9] (fun s i wr => ∃ (n g cap q : Nat) (L : List RX), i = .int .i64 (n : Nat) ∧ s = .slice (some ⟨g, 0, none⟩) L.length cap ∧ CQ R v' len W lo Bq Q bt ct b c ts r (q) g cap L wr ∧ n + L.length ≤ 5 ∧ q ≤ p3 + 1 + 40 * L.length) (fun _ i _ => (intOf i).toNat)
  case atStart => exact ⟨n, lo, 0, p3 + 1, [], rfl, rfl, H5.out, by simp; omega, by simp⟩
  case round =>
    obtain ⟨n, g, cap, q, L, rfl, rfl, hC, hnL, hq⟩ := hrel
    have HC : Hid (CQ R v' len W lo Bq Q bt ct b c ts r (q) g cap L wr) := hC
    clear hC H5
    by_cases c0 : n = 0
    · subst c0
      have hL5 : L.length ≤ 5 := by omega
      go_wp2_with fail
      refine (pick_any R v' len q 10 wr HC.out.rd (by omega) (by omega)).mono ?_
      rintro e Wz ⟨⟨z, rfl, hz⟩, hF, hR⟩
      have z0 := hz.1
      have HCZ : Hid (CQ R v' len W lo Bq Q bt ct b c ts r (q + 1) g cap L Wz) := HC.out.on hF hR
      clear hz hF hR HC
      by_cases d0 : z = 0
      · subst d0
        go_wp2_with fail
        refine (pick_any R v' len (q + 1) 14 Wz HCZ.out.rd (by omega) (by omega)).mono ?_
        rintro e Wy ⟨⟨k, rfl, hk⟩, hF, hR⟩
        have k0 := hk.1
        have k1 := hk.2.1 (by omega)
        obtain ⟨k, rfl⟩ := Int.eq_ofNat_of_zero_le k0
        have HCY : Hid (CQ R v' len W lo Bq Q bt ct b c ts r (q + 1 + 1) g cap L Wy) := HCZ.out.on hF hR
        clear hk hF hR HCZ k0
        go_wp2
        go_loopw [8, 11] (fun s i wr => ∃ (n g cap : Nat) (L : List RX), i = .int .i64 (n : Nat) ∧ s = .slice (some ⟨g, 0, none⟩) L.length cap ∧ CQ R v' len W lo Bq Q bt ct b c ts r (q + 1 + 1) g cap L wr ∧ n + L.length ≤ 30) (fun _ i _ => (intOf i).toNat)
        case atStart => exact ⟨k, g, cap, L, rfl, rfl, HCY.out, by omega⟩
        case round =>
          obtain ⟨n, g, cap, L, rfl, rfl, hC, hnL⟩ := hrel
          have HC : Hid (CQ R v' len W lo Bq Q bt ct b c ts r (q + 1 + 1) g cap L wr) := hC
          clear hC HCY
          by_cases c2 : n = 0
          · subst c2
            have hL5 : L.length ≤ 30 := by omega
            have hqz := HC.out.oq.lt
            have g0 := HC.out.q0
            have g1 := HC.out.q1
            have g2 := HC.out.q2
            have g3 := HC.out.q3
            have hfz := HC.out.ob.frozen
            have hoz := HC.out.ob.lt
            obtain ⟨u0, o0⟩ := HC.out.ob.cell 0 (by omega)
            obtain ⟨u1, o1⟩ := HC.out.ob.cell 1 (by omega)
            obtain ⟨u2, o2⟩ := HC.out.ob.cell 2 (by omega)
            obtain ⟨u3, o3⟩ := HC.out.ob.cell 3 (by omega)
            have hBQ : Bq ≠ Q := by have := HC.out.ho; omega
            go_upto_region 33 with fail
            go_region_with fail
            all_goals
              obtain ⟨Wp, hWp⟩ : ∃ Wp, Wp = (((wr.setCell ⟨Bq, 0, none⟩ (.slice (some ⟨b, 0, none⟩) r.verbs.length c)).setCell ⟨Bq, 1, none⟩ (.string r.kind)).setCell ⟨Bq, 2, none⟩ (.string r.team)).setCell ⟨Bq, 3, none⟩ (.string r.pre) := ⟨_, rfl⟩
              have hf := HC.out.fin (by omega) _ _ _ _ Wp hWp
              have c4 := four_at HC.out.ob (.slice (some ⟨b, 0, none⟩) r.verbs.length c) (.string r.kind) (.string r.team) (.string r.pre)
              rw [← hWp] at c4 ⊢
              obtain ⟨r0, r1, r2, r3⟩ := c4
              have s0 : Wp.drew.cell? ⟨Bq, 0, none⟩ = some (.slice (some ⟨b, 0, none⟩) r.verbs.length c) := r0
              have s1 : Wp.drew.cell? ⟨Bq, 1, none⟩ = some (.string r.kind) := r1
              have s2 : Wp.drew.cell? ⟨Bq, 2, none⟩ = some (.string r.team) := r2
              have s3 : Wp.drew.cell? ⟨Bq, 3, none⟩ = some (.string r.pre) := r3
              have HFF : Hid ((TmsIn Wp.drew bt ts ∧ RulsIn Wp.drew g (L.map fun x => x.2.2) ∧ IntsIn Wp.drew b r.verbs ∧ Below W.heap.size W Wp.drew) ∧ r.sized) := ⟨hf, HC.out.qt.sized⟩
              obtain ⟨Wu, hWu⟩ : ∃ Wu, Wu = Wp.drew := ⟨_, rfl⟩
              rw [← hWu] at s0 s1 s2 s3 HFF ⊢
              clear hWu hWp hf r0 r1 r2 r3 g0 g1 g2 g3 hfz hoz o0 o1 o2 o3 hqz hBQ
              go_wp2
              refine bodyPost_ret (v := .tuple #[.slice (some ⟨bt, 0, none⟩) ts.length ct, .slice (some ⟨g, 0, none⟩) L.length cap, .agg #[.slice (some ⟨b, 0, none⟩) r.verbs.length c, .string r.kind, .string r.team, .string r.pre]]) (by simp only [results, Tryd.results4]; simp [go_sem, s0, s1, s2, s3]) rfl ⟨⟨bt, ct, g, cap, b, c, ts, L.map (fun x => x.2.2), r, by simp, HFF.out.1.1, HFF.out.1.2.1, HFF.out.1.2.2.1, HFF.out.2, by simp; omega⟩, HFF.out.1.2.2.2⟩
          obtain ⟨m, rfl⟩ : ∃ m, n = m + 1 := ⟨n - 1, by omega⟩
          obtain ⟨s, hs⟩ : ∃ s : ByteArray, s = ⟨(Lib.decDigits m).toArray⟩ := ⟨_, rfl⟩
          have HD : Hid (∀ X : World, Calls Tryd.prog 16 #[.int .i64 (m : Nat)] X fun e w' => e = .returned (.string s) ∧ Below X.heap.size X w') := fun X => by rw [hs]; exact l4Dec m (by omega) X
          have hss : s.size ≤ 2000 := by
            rw [hs]
            have hd : ∀ k, k < 30 → (Lib.decDigits k).length ≤ 3 := by decide +kernel
            have := hd m (by omega)
            show (Lib.decDigits m).toArray.size ≤ 2000
            simp
            omega
          clear hs
          go_wp2_with fail
          refine (HD.out _).mono ?_
          rintro e Wd ⟨rfl, hb1⟩
          have H1 : Hid (Below wr.heap.size wr Wd ∧ IntsIn Wd wr.heap.size [1]) := ⟨blw_trans (blw_alloc (Below.refl _ _) _) hb1, (ints_new wr [1] _ _ rfl rfl (by simp)).later hb1⟩
          clear hb1
          go_wp2_with fail
          refine (HD.out _).mono ?_
          rintro e We ⟨rfl, hb1⟩
          have H2 : Hid (Below wr.heap.size wr We ∧ IntsIn We wr.heap.size [1]) := ⟨blw_trans H1.out.1 hb1, H1.out.2.later hb1⟩
          have HCE : Hid (CQ R v' len W lo Bq Q bt ct b c ts r (q + 1 + 1) g cap L We) := HC.out.on (Fr.of_below H2.out.1 HC.out.rd.own.lt) (HC.out.rd.later H2.out.1)
          have HRB : Hid (R < wr.heap.size) := HC.out.rd.own.lt
          obtain ⟨bv, hbv⟩ : ∃ bv, bv = wr.heap.size := ⟨_, rfl⟩
          rw [← hbv] at H2 HRB ⊢
          clear hb1 H1 HD HC hbv
          go_wp2_with (at_builtin; refine wpList_append_own _ rfl _ _ 24 rfl lo 27 i0 (.agg #[.slice none 0 0, .string ByteArray.empty, .string ByteArray.empty, .string ByteArray.empty]) 4 72 Tryd.underlying24 hi hz0 hz1 hz2 rfl (by decide) (.slice (some ⟨g, 0, none⟩) L.length cap) L.length (cellsR L) rfl ?c0_10 ⟨We.heap.size, 0, none⟩ 1 1 [.slice (some ⟨bv, 0, none⟩) 1 1, .string (⟨#[107]⟩ ++ s), .string (⟨#[116]⟩ ++ s), .string ⟨#[]⟩] rfl ?c1_10 ?c2_10 ?c3_10 ?c4_10 ?c5_10 ?c6_10 ?_)
          case c0_10 => exact owns_later HCE.out.own (blw_alloc (Below.refl _ _) _)
          (try case c1_10 => rfl)
          try case c2_10 =>
            intro j u hj
            match j, hj with
            | 0, hj => simp at hj; subst hj; simp [Addr.add]
            | 1, hj => simp at hj; subst hj; simp [Addr.add]
            | 2, hj => simp at hj; subst hj; simp [Addr.add]
            | 3, hj => simp at hj; subst hj; simp [Addr.add]
            | k + 4, hj => simp at hj
          case c3_10 => first | exact ⟨rfl, rfl, rfl, rfl⟩ | (intro u hu; simp at hu; rcases hu with rfl | rfl | rfl | rfl <;> rfl)
          case c4_10 => unfold maxLen; omega
          case c5_10 => omega
          case c6_10 => have hs := HCE.out.ho; first | omega | (simp; omega)
          intro v'' w9 hown hgrow hnn
          obtain ⟨g', cap', rfl, hC⟩ := HCE.out.app bv 1 (⟨[1], ⟨#[107]⟩ ++ s, ⟨#[116]⟩ ++ s, ⟨#[]⟩⟩ : Rul) H2.out.2 HRB.out ⟨by show (⟨#[107]⟩ ++ s : ByteArray).size ≤ maxLen; rw [ByteArray.size_append]; have : (⟨#[107]⟩ : ByteArray).size = 1 := rfl; unfold maxLen; omega, by show (⟨#[116]⟩ ++ s : ByteArray).size ≤ maxLen; rw [ByteArray.size_append]; have : (⟨#[116]⟩ : ByteArray).size = 1 := rfl; unfold maxLen; omega, by show (⟨#[]⟩ : ByteArray).size ≤ maxLen; decide⟩ hown hgrow hnn
          have H9 : Hid (CQ R v' len W lo Bq Q bt ct b c ts r (q + 1 + 1) g' cap' (L ++ [(bv, 1, (⟨[1], ⟨#[107]⟩ ++ s, ⟨#[116]⟩ ++ s, ⟨#[]⟩⟩ : Rul))]) w9) := hC
          clear hown hgrow hnn hC
          go_wp2
          go_roundw
          case rel => exact ⟨m, g', cap', _, rfl, by simp, H9.out, by simp; omega⟩
          case measure => simp [intOf]
      · have d1 : (z == 0) = false := beq_eq_false_iff_ne.2 d0
        have hqz := HCZ.out.oq.lt
        have g0 := HCZ.out.q0
        have g1 := HCZ.out.q1
        have g2 := HCZ.out.q2
        have g3 := HCZ.out.q3
        have hfz := HCZ.out.ob.frozen
        have hoz := HCZ.out.ob.lt
        obtain ⟨u0, o0⟩ := HCZ.out.ob.cell 0 (by omega)
        obtain ⟨u1, o1⟩ := HCZ.out.ob.cell 1 (by omega)
        obtain ⟨u2, o2⟩ := HCZ.out.ob.cell 2 (by omega)
        obtain ⟨u3, o3⟩ := HCZ.out.ob.cell 3 (by omega)
        have hBQ : Bq ≠ Q := by have := HCZ.out.ho; omega
        go_upto_region 33 with fail
        go_region_with fail
        all_goals
          obtain ⟨Wp, hWp⟩ : ∃ Wp, Wp = (((Wz.setCell ⟨Bq, 0, none⟩ (.slice (some ⟨b, 0, none⟩) r.verbs.length c)).setCell ⟨Bq, 1, none⟩ (.string r.kind)).setCell ⟨Bq, 2, none⟩ (.string r.team)).setCell ⟨Bq, 3, none⟩ (.string r.pre) := ⟨_, rfl⟩
          have hf := HCZ.out.fin (by omega) _ _ _ _ Wp hWp
          have c4 := four_at HCZ.out.ob (.slice (some ⟨b, 0, none⟩) r.verbs.length c) (.string r.kind) (.string r.team) (.string r.pre)
          rw [← hWp] at c4 ⊢
          obtain ⟨r0, r1, r2, r3⟩ := c4
          have s0 : Wp.drew.cell? ⟨Bq, 0, none⟩ = some (.slice (some ⟨b, 0, none⟩) r.verbs.length c) := r0
          have s1 : Wp.drew.cell? ⟨Bq, 1, none⟩ = some (.string r.kind) := r1
          have s2 : Wp.drew.cell? ⟨Bq, 2, none⟩ = some (.string r.team) := r2
          have s3 : Wp.drew.cell? ⟨Bq, 3, none⟩ = some (.string r.pre) := r3
          have HFF : Hid ((TmsIn Wp.drew bt ts ∧ RulsIn Wp.drew g (L.map fun x => x.2.2) ∧ IntsIn Wp.drew b r.verbs ∧ Below W.heap.size W Wp.drew) ∧ r.sized) := ⟨hf, HCZ.out.qt.sized⟩
          obtain ⟨Wu, hWu⟩ : ∃ Wu, Wu = Wp.drew := ⟨_, rfl⟩
          rw [← hWu] at s0 s1 s2 s3 HFF ⊢
          clear hWu hWp hf r0 r1 r2 r3 g0 g1 g2 g3 hfz hoz o0 o1 o2 o3 hqz hBQ
          go_wp2
          refine bodyPost_ret (v := .tuple #[.slice (some ⟨bt, 0, none⟩) ts.length ct, .slice (some ⟨g, 0, none⟩) L.length cap, .agg #[.slice (some ⟨b, 0, none⟩) r.verbs.length c, .string r.kind, .string r.team, .string r.pre]]) (by simp only [results, Tryd.results4]; simp [go_sem, s0, s1, s2, s3]) rfl ⟨⟨bt, ct, g, cap, b, c, ts, L.map (fun x => x.2.2), r, by simp, HFF.out.1.1, HFF.out.1.2.1, HFF.out.1.2.2.1, HFF.out.2, by simp; omega⟩, HFF.out.1.2.2.2⟩
    obtain ⟨m, rfl⟩ : ∃ m, n = m + 1 := ⟨n - 1, by omega⟩
    go_wp2_with fail
    refine (anyRule_any R v' len q wr HC.out.rd (by omega)).mono ?_
    rintro e W6 ⟨⟨bx, cx, rx, rfl, hr⟩, hF, p6, hp6, hR⟩
    obtain ⟨W7, hW7⟩ : ∃ W7, W7 = W6.alloc (.cells #[.slice (some ⟨bx, 0, none⟩) rx.verbs.length cx, .string rx.kind, .string rx.team, .string rx.pre] 27) := ⟨_, rfl⟩
    obtain ⟨X, hX⟩ : ∃ X, X = W6.heap.size := ⟨_, rfl⟩
    have HX : Hid (AX R v' len wr X p6 bx cx rx W7) := by
      have hb7 : Below W6.heap.size W6 W7 := by rw [hW7]; exact blw_alloc (Below.refl _ _) _
      have hF7 : Fr R W6 W7 := Fr.of_below hb7 hR.own.lt
      have l1 := HC.out.rd.own.lt
      have l2 := hF.bel.size
      have l3 := hr.1.lt
      have l4 := hr.2.1
      have cc : ∀ j, W7.cell? ⟨X, j, none⟩ = (#[.slice (some ⟨bx, 0, none⟩) rx.verbs.length cx, .string rx.kind, .string rx.team, .string rx.pre] : Array Value)[j]? := fun j => by rw [hW7, hX]; exact World.cell?_alloc_at _ _ _ _ rfl
      exact ⟨hF.trans hF7, hR.later hb7, by rw [hW7, hX]; exact OwnBlk.alloc _ _ _ _ rfl, cc 0, cc 1, cc 2, cc 3, ints_fr hr.1 hF7 (by omega), hr.2.2.1, hr.2.2.2.sized, ⟨by omega, by omega⟩, by omega, by omega⟩
    go_upto_region 9 with fail
    rw [← hW7, ← hX]
    clear hW7 hX hr hF hR
    go_wp2_with fail
    refine (pick_any R v' len p6 2 W7 HX.out.rd (by omega) (by omega)).mono ?_
    rintro e W8 ⟨⟨y, rfl, hy⟩, hF, hR⟩
    have y0' := hy.1
    have y1' := hy.2.1 (by omega)
    have H8 : Hid (AX R v' len wr X (p6 + 1) bx cx rx W8) := HX.out.on hF hR
    have HC8 : Hid (CQ R v' len W lo Bq Q bt ct b c ts r (p6 + 1) g cap L W8) := HC.out.on H8.out.fr H8.out.rd
    clear hy hF hR HX
    by_cases c1 : y = 0
    · subst c1
      have hqz := HC8.out.oq.lt
      have g0 := HC8.out.q0
      have g1 := HC8.out.q1
      have g2 := HC8.out.q2
      have g3 := HC8.out.q3
      go_wp2_with fail
      refine (rule5_any b c r W8 HC8.out.qv HC8.out.ql).mono ?_
      rintro e Wn ⟨⟨bn, cn, rfl, hIn, hbn, hcap, hcm⟩, hbel⟩
      obtain ⟨Wq, hWq⟩ : ∃ Wq, Wq = (((Wn.setCell ⟨X, 0, none⟩ (.slice (some ⟨bn, 0, none⟩) r.verbs.length cn)).setCell ⟨X, 1, none⟩ (.string r.kind)).setCell ⟨X, 2, none⟩ (.string r.team)).setCell ⟨X, 3, none⟩ (.string r.pre) := ⟨_, rfl⟩
      have HQ : Hid (AX R v' len wr X (p6 + 1) bn cn r Wq) := by show AX _ _ _ _ _ _ _ _ _ _; rw [hWq]; exact H8.out.all bn cn r hbel hIn HC8.out.ql HC8.out.qt.sized hbn
      have ox := H8.out.ox.later hbel
      have hfz := ox.frozen
      have hoz := ox.lt
      obtain ⟨u0, o0⟩ := ox.cell 0 (by omega)
      obtain ⟨u1, o1⟩ := ox.cell 1 (by omega)
      obtain ⟨u2, o2⟩ := ox.cell 2 (by omega)
      obtain ⟨u3, o3⟩ := ox.cell 3 (by omega)
      clear ox
      go_upto_region 11 with fail
      rw [← hWq]
      clear hWq hIn hbn hbel hfz hoz o0 o1 o2 o3 hqz g0 g1 g2 g3 H8 HC8
      go_wp2_with fail
      refine (pick_any R v' len (p6 + 1) 8 Wq HQ.out.rd (by omega) (by omega)).mono ?_
      rintro e Ws ⟨⟨x, rfl, hx⟩, hF, hR⟩
      have x0 := hx.1
      have x1 := hx.2.1 (by omega)
      have HS : Hid (AX R v' len wr X (p6 + 1 + 1) bn cn r Ws) := HQ.out.on hF hR
      clear hx hF hR HQ
      by_cases e0 : x = 0
      · subst e0
        have hfz := HS.out.ox.frozen
        have hoz := HS.out.ox.lt
        have o1 := HS.out.x1
        obtain ⟨Wt, hWt⟩ : ∃ Wt, Wt = Ws.setCell ⟨X, 1, none⟩ (.string ⟨#[]⟩) := ⟨_, rfl⟩
        have HT : Hid (AX R v' len wr X (p6 + 1 + 1) bn cn (⟨r.verbs, ⟨#[]⟩, r.team, r.pre⟩ : Rul) Wt) := by show AX _ _ _ _ _ _ _ _ _ _; rw [hWt]; exact HS.out.set1 ⟨#[]⟩ (by decide)
        have HCT : Hid (CQ R v' len W lo Bq Q bt ct b c ts r (p6 + 1 + 1) g cap L Wt) := HC.out.on HT.out.fr HT.out.rd
        go_upto_region 27 with fail
        rw [← hWt]
        clear hWt hfz hoz o1 HS
        have hxz := HT.out.ox.lt
        have y0 := HT.out.x0
        have y1 := HT.out.x1
        have y2 := HT.out.x2
        have y3 := HT.out.x3
        go_wp2_with (at_builtin; refine wpList_append_own _ rfl _ _ 24 rfl lo 27 i0 (.agg #[.slice none 0 0, .string ByteArray.empty, .string ByteArray.empty, .string ByteArray.empty]) 4 72 Tryd.underlying24 hi hz0 hz1 hz2 rfl (by decide) (.slice (some ⟨g, 0, none⟩) L.length cap) L.length (cellsR L) rfl ?c0_2 ⟨Wt.heap.size, 0, none⟩ 1 1 [.slice (some ⟨bn, 0, none⟩) ((⟨r.verbs, ⟨#[]⟩, r.team, r.pre⟩ : Rul)).verbs.length cn, .string ((⟨r.verbs, ⟨#[]⟩, r.team, r.pre⟩ : Rul)).kind, .string ((⟨r.verbs, ⟨#[]⟩, r.team, r.pre⟩ : Rul)).team, .string ((⟨r.verbs, ⟨#[]⟩, r.team, r.pre⟩ : Rul)).pre] rfl ?c1_2 ?c2_2 ?c3_2 ?c4_2 ?c5_2 ?c6_2 ?_)
        case c0_2 => exact owns_later HCT.out.own (blw_alloc (Below.refl _ _) _)
        (try case c1_2 => rfl)
        try case c2_2 =>
          intro j u hj
          match j, hj with
          | 0, hj => simp at hj; subst hj; simp [Addr.add]
          | 1, hj => simp at hj; subst hj; simp [Addr.add]
          | 2, hj => simp at hj; subst hj; simp [Addr.add]
          | 3, hj => simp at hj; subst hj; simp [Addr.add]
          | k + 4, hj => simp at hj
        case c3_2 => first | exact ⟨rfl, rfl, rfl, rfl⟩ | (intro u hu; simp at hu; rcases hu with rfl | rfl | rfl | rfl <;> rfl)
        case c4_2 => unfold maxLen; omega
        case c5_2 => omega
        case c6_2 => have hs := HCT.out.ho; first | omega | (simp; omega)
        intro v'' w9 hown hgrow hnn
        obtain ⟨g', cap', rfl, hC⟩ := HCT.out.app bn cn (⟨r.verbs, ⟨#[]⟩, r.team, r.pre⟩ : Rul) HT.out.hv HT.out.hb.1 HT.out.ht hown hgrow hnn
        have H9 : Hid (CQ R v' len W lo Bq Q bt ct b c ts r (p6 + 1 + 1) g' cap' (L ++ [(bn, cn, (⟨r.verbs, ⟨#[]⟩, r.team, r.pre⟩ : Rul))]) w9) := hC
        clear hown hgrow hnn hC
        go_wp2
        go_roundw
        case rel => exact ⟨m, g', cap', p6 + 1 + 1, _, rfl, by simp, H9.out, by simp; omega, by simp; omega⟩
        case measure => simp [intOf]
      by_cases e1 : x = 1
      · subst e1
        have hfz := HS.out.ox.frozen
        have hoz := HS.out.ox.lt
        have o2 := HS.out.x2
        obtain ⟨Wt, hWt⟩ : ∃ Wt, Wt = Ws.setCell ⟨X, 2, none⟩ (.string ⟨#[]⟩) := ⟨_, rfl⟩
        have HT : Hid (AX R v' len wr X (p6 + 1 + 1) bn cn (⟨r.verbs, r.kind, ⟨#[]⟩, r.pre⟩ : Rul) Wt) := by show AX _ _ _ _ _ _ _ _ _ _; rw [hWt]; exact HS.out.set2 ⟨#[]⟩ (by decide)
        have HCT : Hid (CQ R v' len W lo Bq Q bt ct b c ts r (p6 + 1 + 1) g cap L Wt) := HC.out.on HT.out.fr HT.out.rd
        go_upto_region 27 with fail
        rw [← hWt]
        clear hWt hfz hoz o2 HS
        have hxz := HT.out.ox.lt
        have y0 := HT.out.x0
        have y1 := HT.out.x1
        have y2 := HT.out.x2
        have y3 := HT.out.x3
        go_wp2_with (at_builtin; refine wpList_append_own _ rfl _ _ 24 rfl lo 27 i0 (.agg #[.slice none 0 0, .string ByteArray.empty, .string ByteArray.empty, .string ByteArray.empty]) 4 72 Tryd.underlying24 hi hz0 hz1 hz2 rfl (by decide) (.slice (some ⟨g, 0, none⟩) L.length cap) L.length (cellsR L) rfl ?c0_3 ⟨Wt.heap.size, 0, none⟩ 1 1 [.slice (some ⟨bn, 0, none⟩) ((⟨r.verbs, r.kind, ⟨#[]⟩, r.pre⟩ : Rul)).verbs.length cn, .string ((⟨r.verbs, r.kind, ⟨#[]⟩, r.pre⟩ : Rul)).kind, .string ((⟨r.verbs, r.kind, ⟨#[]⟩, r.pre⟩ : Rul)).team, .string ((⟨r.verbs, r.kind, ⟨#[]⟩, r.pre⟩ : Rul)).pre] rfl ?c1_3 ?c2_3 ?c3_3 ?c4_3 ?c5_3 ?c6_3 ?_)
        case c0_3 => exact owns_later HCT.out.own (blw_alloc (Below.refl _ _) _)
        (try case c1_3 => rfl)
        try case c2_3 =>
          intro j u hj
          match j, hj with
          | 0, hj => simp at hj; subst hj; simp [Addr.add]
          | 1, hj => simp at hj; subst hj; simp [Addr.add]
          | 2, hj => simp at hj; subst hj; simp [Addr.add]
          | 3, hj => simp at hj; subst hj; simp [Addr.add]
          | k + 4, hj => simp at hj
        case c3_3 => first | exact ⟨rfl, rfl, rfl, rfl⟩ | (intro u hu; simp at hu; rcases hu with rfl | rfl | rfl | rfl <;> rfl)
        case c4_3 => unfold maxLen; omega
        case c5_3 => omega
        case c6_3 => have hs := HCT.out.ho; first | omega | (simp; omega)
        intro v'' w9 hown hgrow hnn
        obtain ⟨g', cap', rfl, hC⟩ := HCT.out.app bn cn (⟨r.verbs, r.kind, ⟨#[]⟩, r.pre⟩ : Rul) HT.out.hv HT.out.hb.1 HT.out.ht hown hgrow hnn
        have H9 : Hid (CQ R v' len W lo Bq Q bt ct b c ts r (p6 + 1 + 1) g' cap' (L ++ [(bn, cn, (⟨r.verbs, r.kind, ⟨#[]⟩, r.pre⟩ : Rul))]) w9) := hC
        clear hown hgrow hnn hC
        go_wp2
        go_roundw
        case rel => exact ⟨m, g', cap', p6 + 1 + 1, _, rfl, by simp, H9.out, by simp; omega, by simp; omega⟩
        case measure => simp [intOf]
      by_cases e2 : x = 2
      · subst e2
        have hfz := HS.out.ox.frozen
        have hoz := HS.out.ox.lt
        have o3 := HS.out.x3
        obtain ⟨Wt, hWt⟩ : ∃ Wt, Wt = Ws.setCell ⟨X, 3, none⟩ (.string ⟨#[]⟩) := ⟨_, rfl⟩
        have HT : Hid (AX R v' len wr X (p6 + 1 + 1) bn cn (⟨r.verbs, r.kind, r.team, ⟨#[]⟩⟩ : Rul) Wt) := by show AX _ _ _ _ _ _ _ _ _ _; rw [hWt]; exact HS.out.set3 ⟨#[]⟩ (by decide)
        have HCT : Hid (CQ R v' len W lo Bq Q bt ct b c ts r (p6 + 1 + 1) g cap L Wt) := HC.out.on HT.out.fr HT.out.rd
        go_upto_region 27 with fail
        rw [← hWt]
        clear hWt hfz hoz o3 HS
        have hxz := HT.out.ox.lt
        have y0 := HT.out.x0
        have y1 := HT.out.x1
        have y2 := HT.out.x2
        have y3 := HT.out.x3
        go_wp2_with (at_builtin; refine wpList_append_own _ rfl _ _ 24 rfl lo 27 i0 (.agg #[.slice none 0 0, .string ByteArray.empty, .string ByteArray.empty, .string ByteArray.empty]) 4 72 Tryd.underlying24 hi hz0 hz1 hz2 rfl (by decide) (.slice (some ⟨g, 0, none⟩) L.length cap) L.length (cellsR L) rfl ?c0_4 ⟨Wt.heap.size, 0, none⟩ 1 1 [.slice (some ⟨bn, 0, none⟩) ((⟨r.verbs, r.kind, r.team, ⟨#[]⟩⟩ : Rul)).verbs.length cn, .string ((⟨r.verbs, r.kind, r.team, ⟨#[]⟩⟩ : Rul)).kind, .string ((⟨r.verbs, r.kind, r.team, ⟨#[]⟩⟩ : Rul)).team, .string ((⟨r.verbs, r.kind, r.team, ⟨#[]⟩⟩ : Rul)).pre] rfl ?c1_4 ?c2_4 ?c3_4 ?c4_4 ?c5_4 ?c6_4 ?_)
        case c0_4 => exact owns_later HCT.out.own (blw_alloc (Below.refl _ _) _)
        (try case c1_4 => rfl)
        try case c2_4 =>
          intro j u hj
          match j, hj with
          | 0, hj => simp at hj; subst hj; simp [Addr.add]
          | 1, hj => simp at hj; subst hj; simp [Addr.add]
          | 2, hj => simp at hj; subst hj; simp [Addr.add]
          | 3, hj => simp at hj; subst hj; simp [Addr.add]
          | k + 4, hj => simp at hj
        case c3_4 => first | exact ⟨rfl, rfl, rfl, rfl⟩ | (intro u hu; simp at hu; rcases hu with rfl | rfl | rfl | rfl <;> rfl)
        case c4_4 => unfold maxLen; omega
        case c5_4 => omega
        case c6_4 => have hs := HCT.out.ho; first | omega | (simp; omega)
        intro v'' w9 hown hgrow hnn
        obtain ⟨g', cap', rfl, hC⟩ := HCT.out.app bn cn (⟨r.verbs, r.kind, r.team, ⟨#[]⟩⟩ : Rul) HT.out.hv HT.out.hb.1 HT.out.ht hown hgrow hnn
        have H9 : Hid (CQ R v' len W lo Bq Q bt ct b c ts r (p6 + 1 + 1) g' cap' (L ++ [(bn, cn, (⟨r.verbs, r.kind, r.team, ⟨#[]⟩⟩ : Rul))]) w9) := hC
        clear hown hgrow hnn hC
        go_wp2
        go_roundw
        case rel => exact ⟨m, g', cap', p6 + 1 + 1, _, rfl, by simp, H9.out, by simp; omega, by simp; omega⟩
        case measure => simp [intOf]
      by_cases e5 : x = 5
      · subst e5
        have hfz := HS.out.ox.frozen
        have hoz := HS.out.ox.lt
        have o1 := HS.out.x1
        obtain ⟨Wt, hWt⟩ : ∃ Wt, Wt = Ws.setCell ⟨X, 1, none⟩ (.string ⟨#[106, 111, 98]⟩) := ⟨_, rfl⟩
        have HT : Hid (AX R v' len wr X (p6 + 1 + 1) bn cn (⟨r.verbs, ⟨#[106, 111, 98]⟩, r.team, r.pre⟩ : Rul) Wt) := by show AX _ _ _ _ _ _ _ _ _ _; rw [hWt]; exact HS.out.set1 ⟨#[106, 111, 98]⟩ (by decide)
        have HCT : Hid (CQ R v' len W lo Bq Q bt ct b c ts r (p6 + 1 + 1) g cap L Wt) := HC.out.on HT.out.fr HT.out.rd
        go_upto_region 27 with fail
        rw [← hWt]
        clear hWt hfz hoz o1 HS
        have hxz := HT.out.ox.lt
        have y0 := HT.out.x0
        have y1 := HT.out.x1
        have y2 := HT.out.x2
        have y3 := HT.out.x3
        go_wp2_with (at_builtin; refine wpList_append_own _ rfl _ _ 24 rfl lo 27 i0 (.agg #[.slice none 0 0, .string ByteArray.empty, .string ByteArray.empty, .string ByteArray.empty]) 4 72 Tryd.underlying24 hi hz0 hz1 hz2 rfl (by decide) (.slice (some ⟨g, 0, none⟩) L.length cap) L.length (cellsR L) rfl ?c0_5 ⟨Wt.heap.size, 0, none⟩ 1 1 [.slice (some ⟨bn, 0, none⟩) ((⟨r.verbs, ⟨#[106, 111, 98]⟩, r.team, r.pre⟩ : Rul)).verbs.length cn, .string ((⟨r.verbs, ⟨#[106, 111, 98]⟩, r.team, r.pre⟩ : Rul)).kind, .string ((⟨r.verbs, ⟨#[106, 111, 98]⟩, r.team, r.pre⟩ : Rul)).team, .string ((⟨r.verbs, ⟨#[106, 111, 98]⟩, r.team, r.pre⟩ : Rul)).pre] rfl ?c1_5 ?c2_5 ?c3_5 ?c4_5 ?c5_5 ?c6_5 ?_)
        case c0_5 => exact owns_later HCT.out.own (blw_alloc (Below.refl _ _) _)
        (try case c1_5 => rfl)
        try case c2_5 =>
          intro j u hj
          match j, hj with
          | 0, hj => simp at hj; subst hj; simp [Addr.add]
          | 1, hj => simp at hj; subst hj; simp [Addr.add]
          | 2, hj => simp at hj; subst hj; simp [Addr.add]
          | 3, hj => simp at hj; subst hj; simp [Addr.add]
          | k + 4, hj => simp at hj
        case c3_5 => first | exact ⟨rfl, rfl, rfl, rfl⟩ | (intro u hu; simp at hu; rcases hu with rfl | rfl | rfl | rfl <;> rfl)
        case c4_5 => unfold maxLen; omega
        case c5_5 => omega
        case c6_5 => have hs := HCT.out.ho; first | omega | (simp; omega)
        intro v'' w9 hown hgrow hnn
        obtain ⟨g', cap', rfl, hC⟩ := HCT.out.app bn cn (⟨r.verbs, ⟨#[106, 111, 98]⟩, r.team, r.pre⟩ : Rul) HT.out.hv HT.out.hb.1 HT.out.ht hown hgrow hnn
        have H9 : Hid (CQ R v' len W lo Bq Q bt ct b c ts r (p6 + 1 + 1) g' cap' (L ++ [(bn, cn, (⟨r.verbs, ⟨#[106, 111, 98]⟩, r.team, r.pre⟩ : Rul))]) w9) := hC
        clear hown hgrow hnn hC
        go_wp2
        go_roundw
        case rel => exact ⟨m, g', cap', p6 + 1 + 1, _, rfl, by simp, H9.out, by simp; omega, by simp; omega⟩
        case measure => simp [intOf]
      by_cases e6 : x = 6
      · subst e6
        have hfz := HS.out.ox.frozen
        have hoz := HS.out.ox.lt
        have o2 := HS.out.x2
        obtain ⟨Wt, hWt⟩ : ∃ Wt, Wt = Ws.setCell ⟨X, 2, none⟩ (.string ⟨#[100, 101, 118]⟩) := ⟨_, rfl⟩
        have HT : Hid (AX R v' len wr X (p6 + 1 + 1) bn cn (⟨r.verbs, r.kind, ⟨#[100, 101, 118]⟩, r.pre⟩ : Rul) Wt) := by show AX _ _ _ _ _ _ _ _ _ _; rw [hWt]; exact HS.out.set2 ⟨#[100, 101, 118]⟩ (by decide)
        have HCT : Hid (CQ R v' len W lo Bq Q bt ct b c ts r (p6 + 1 + 1) g cap L Wt) := HC.out.on HT.out.fr HT.out.rd
        go_upto_region 27 with fail
        rw [← hWt]
        clear hWt hfz hoz o2 HS
        have hxz := HT.out.ox.lt
        have y0 := HT.out.x0
        have y1 := HT.out.x1
        have y2 := HT.out.x2
        have y3 := HT.out.x3
        go_wp2_with (at_builtin; refine wpList_append_own _ rfl _ _ 24 rfl lo 27 i0 (.agg #[.slice none 0 0, .string ByteArray.empty, .string ByteArray.empty, .string ByteArray.empty]) 4 72 Tryd.underlying24 hi hz0 hz1 hz2 rfl (by decide) (.slice (some ⟨g, 0, none⟩) L.length cap) L.length (cellsR L) rfl ?c0_6 ⟨Wt.heap.size, 0, none⟩ 1 1 [.slice (some ⟨bn, 0, none⟩) ((⟨r.verbs, r.kind, ⟨#[100, 101, 118]⟩, r.pre⟩ : Rul)).verbs.length cn, .string ((⟨r.verbs, r.kind, ⟨#[100, 101, 118]⟩, r.pre⟩ : Rul)).kind, .string ((⟨r.verbs, r.kind, ⟨#[100, 101, 118]⟩, r.pre⟩ : Rul)).team, .string ((⟨r.verbs, r.kind, ⟨#[100, 101, 118]⟩, r.pre⟩ : Rul)).pre] rfl ?c1_6 ?c2_6 ?c3_6 ?c4_6 ?c5_6 ?c6_6 ?_)
        case c0_6 => exact owns_later HCT.out.own (blw_alloc (Below.refl _ _) _)
        (try case c1_6 => rfl)
        try case c2_6 =>
          intro j u hj
          match j, hj with
          | 0, hj => simp at hj; subst hj; simp [Addr.add]
          | 1, hj => simp at hj; subst hj; simp [Addr.add]
          | 2, hj => simp at hj; subst hj; simp [Addr.add]
          | 3, hj => simp at hj; subst hj; simp [Addr.add]
          | k + 4, hj => simp at hj
        case c3_6 => first | exact ⟨rfl, rfl, rfl, rfl⟩ | (intro u hu; simp at hu; rcases hu with rfl | rfl | rfl | rfl <;> rfl)
        case c4_6 => unfold maxLen; omega
        case c5_6 => omega
        case c6_6 => have hs := HCT.out.ho; first | omega | (simp; omega)
        intro v'' w9 hown hgrow hnn
        obtain ⟨g', cap', rfl, hC⟩ := HCT.out.app bn cn (⟨r.verbs, r.kind, ⟨#[100, 101, 118]⟩, r.pre⟩ : Rul) HT.out.hv HT.out.hb.1 HT.out.ht hown hgrow hnn
        have H9 : Hid (CQ R v' len W lo Bq Q bt ct b c ts r (p6 + 1 + 1) g' cap' (L ++ [(bn, cn, (⟨r.verbs, r.kind, ⟨#[100, 101, 118]⟩, r.pre⟩ : Rul))]) w9) := hC
        clear hown hgrow hnn hC
        go_wp2
        go_roundw
        case rel => exact ⟨m, g', cap', p6 + 1 + 1, _, rfl, by simp, H9.out, by simp; omega, by simp; omega⟩
        case measure => simp [intOf]
      by_cases e7 : x = 7
      · subst e7
        have hfz := HS.out.ox.frozen
        have hoz := HS.out.ox.lt
        have o3 := HS.out.x3
        have HCs : Hid (CQ R v' len W lo Bq Q bt ct b c ts r (p6 + 1 + 1) g cap L Ws) := HC.out.on HS.out.fr HS.out.rd
        have hqz := HCs.out.oq.lt
        have g3 := HCs.out.q3
        have hps : r.pre.size ≤ 2000 := HCs.out.qt.2.2
        obtain ⟨Wt, hWt⟩ : ∃ Wt, Wt = Ws.setCell ⟨X, 3, none⟩ (.string (r.pre ++ ⟨#[49]⟩)) := ⟨_, rfl⟩
        have HT : Hid (AX R v' len wr X (p6 + 1 + 1) bn cn (⟨r.verbs, r.kind, r.team, r.pre ++ ⟨#[49]⟩⟩ : Rul) Wt) := by show AX _ _ _ _ _ _ _ _ _ _; rw [hWt]; exact HS.out.set3 (r.pre ++ ⟨#[49]⟩) (by rw [ByteArray.size_append]; have : (⟨#[49]⟩ : ByteArray).size = 1 := rfl; unfold maxLen; omega)
        have HCT : Hid (CQ R v' len W lo Bq Q bt ct b c ts r (p6 + 1 + 1) g cap L Wt) := HC.out.on HT.out.fr HT.out.rd
        go_upto_region 27 with fail
        rw [← hWt]
        clear hWt hfz hoz o3 HS
        have hxz := HT.out.ox.lt
        have y0 := HT.out.x0
        have y1 := HT.out.x1
        have y2 := HT.out.x2
        have y3 := HT.out.x3
        go_wp2_with (at_builtin; refine wpList_append_own _ rfl _ _ 24 rfl lo 27 i0 (.agg #[.slice none 0 0, .string ByteArray.empty, .string ByteArray.empty, .string ByteArray.empty]) 4 72 Tryd.underlying24 hi hz0 hz1 hz2 rfl (by decide) (.slice (some ⟨g, 0, none⟩) L.length cap) L.length (cellsR L) rfl ?c0_7 ⟨Wt.heap.size, 0, none⟩ 1 1 [.slice (some ⟨bn, 0, none⟩) ((⟨r.verbs, r.kind, r.team, r.pre ++ ⟨#[49]⟩⟩ : Rul)).verbs.length cn, .string ((⟨r.verbs, r.kind, r.team, r.pre ++ ⟨#[49]⟩⟩ : Rul)).kind, .string ((⟨r.verbs, r.kind, r.team, r.pre ++ ⟨#[49]⟩⟩ : Rul)).team, .string ((⟨r.verbs, r.kind, r.team, r.pre ++ ⟨#[49]⟩⟩ : Rul)).pre] rfl ?c1_7 ?c2_7 ?c3_7 ?c4_7 ?c5_7 ?c6_7 ?_)
        case c0_7 => exact owns_later HCT.out.own (blw_alloc (Below.refl _ _) _)
        (try case c1_7 => rfl)
        try case c2_7 =>
          intro j u hj
          match j, hj with
          | 0, hj => simp at hj; subst hj; simp [Addr.add]
          | 1, hj => simp at hj; subst hj; simp [Addr.add]
          | 2, hj => simp at hj; subst hj; simp [Addr.add]
          | 3, hj => simp at hj; subst hj; simp [Addr.add]
          | k + 4, hj => simp at hj
        case c3_7 => first | exact ⟨rfl, rfl, rfl, rfl⟩ | (intro u hu; simp at hu; rcases hu with rfl | rfl | rfl | rfl <;> rfl)
        case c4_7 => unfold maxLen; omega
        case c5_7 => omega
        case c6_7 => have hs := HCT.out.ho; first | omega | (simp; omega)
        intro v'' w9 hown hgrow hnn
        obtain ⟨g', cap', rfl, hC⟩ := HCT.out.app bn cn (⟨r.verbs, r.kind, r.team, r.pre ++ ⟨#[49]⟩⟩ : Rul) HT.out.hv HT.out.hb.1 HT.out.ht hown hgrow hnn
        have H9 : Hid (CQ R v' len W lo Bq Q bt ct b c ts r (p6 + 1 + 1) g' cap' (L ++ [(bn, cn, (⟨r.verbs, r.kind, r.team, r.pre ++ ⟨#[49]⟩⟩ : Rul))]) w9) := hC
        clear hown hgrow hnn hC
        go_wp2
        go_roundw
        case rel => exact ⟨m, g', cap', p6 + 1 + 1, _, rfl, by simp, H9.out, by simp; omega, by simp; omega⟩
        case measure => simp [intOf]
      by_cases e3 : x = 3
      · subst e3
        have hfz := HS.out.ox.frozen
        have hoz := HS.out.ox.lt
        have o0 := HS.out.x0
        obtain ⟨mm, hmm⟩ : ∃ mm : Nat, mm = (r.verbs.length + 1) / 2 := ⟨_, rfl⟩
        have f1 : (((r.verbs.length : Nat) : Int) + 1) / 2 = (mm : Int) := by omega
        have hml : mm ≤ r.verbs.length := by omega
        have HLM : Hid ((r.verbs.take mm).length = mm) := by show _ = _; simp; omega
        have hmc : mm ≤ cn := by omega
        have hvl := HS.out.hl
        have hcm' : cn ≤ 9223372036854775807 := by unfold maxLen at hcm; omega
        clear hmm
        obtain ⟨Wt, hWt⟩ : ∃ Wt, Wt = Ws.setCell ⟨X, 0, none⟩ (.slice (some ⟨bn, 0, none⟩) mm cn) := ⟨_, rfl⟩
        have HT : Hid (AX R v' len wr X (p6 + 1 + 1) bn cn (⟨r.verbs.take mm, r.kind, r.team, r.pre⟩ : Rul) Wt) := by show AX _ _ _ _ _ _ _ _ _ _; rw [hWt]; exact HS.out.cut mm hml
        have HCT : Hid (CQ R v' len W lo Bq Q bt ct b c ts r (p6 + 1 + 1) g cap L Wt) := HC.out.on HT.out.fr HT.out.rd
        go_upto_region 27 with fail
        rw [← hWt]
        clear hWt hfz hoz o0 HS
        have hxz := HT.out.ox.lt
        have y0 := HT.out.x0
        have y1 := HT.out.x1
        have y2 := HT.out.x2
        have y3 := HT.out.x3
        go_wp2_with (at_builtin; refine wpList_append_own _ rfl _ _ 24 rfl lo 27 i0 (.agg #[.slice none 0 0, .string ByteArray.empty, .string ByteArray.empty, .string ByteArray.empty]) 4 72 Tryd.underlying24 hi hz0 hz1 hz2 rfl (by decide) (.slice (some ⟨g, 0, none⟩) L.length cap) L.length (cellsR L) rfl ?c0_8 ⟨Wt.heap.size, 0, none⟩ 1 1 [.slice (some ⟨bn, 0, none⟩) ((⟨r.verbs.take mm, r.kind, r.team, r.pre⟩ : Rul)).verbs.length cn, .string ((⟨r.verbs.take mm, r.kind, r.team, r.pre⟩ : Rul)).kind, .string ((⟨r.verbs.take mm, r.kind, r.team, r.pre⟩ : Rul)).team, .string ((⟨r.verbs.take mm, r.kind, r.team, r.pre⟩ : Rul)).pre] rfl ?c1_8 ?c2_8 ?c3_8 ?c4_8 ?c5_8 ?c6_8 ?_)
        case c0_8 => exact owns_later HCT.out.own (blw_alloc (Below.refl _ _) _)
        (try case c1_8 => rfl)
        try case c2_8 =>
          intro j u hj
          match j, hj with
          | 0, hj => simp at hj; subst hj; simp [Addr.add]
          | 1, hj => simp at hj; subst hj; simp [Addr.add]
          | 2, hj => simp at hj; subst hj; simp [Addr.add]
          | 3, hj => simp at hj; subst hj; simp [Addr.add]
          | k + 4, hj => simp at hj
        case c3_8 => first | exact ⟨rfl, rfl, rfl, rfl⟩ | (intro u hu; simp at hu; rcases hu with rfl | rfl | rfl | rfl <;> rfl)
        case c4_8 => unfold maxLen; omega
        case c5_8 => omega
        case c6_8 => have hs := HCT.out.ho; first | omega | (simp; omega)
        intro v'' w9 hown hgrow hnn
        obtain ⟨g', cap', rfl, hC⟩ := HCT.out.app bn cn (⟨r.verbs.take mm, r.kind, r.team, r.pre⟩ : Rul) HT.out.hv HT.out.hb.1 HT.out.ht (by rw [show (⟨r.verbs.take mm, r.kind, r.team, r.pre⟩ : Rul).verbs.length = mm from HLM.out]; exact hown) hgrow hnn
        have H9 : Hid (CQ R v' len W lo Bq Q bt ct b c ts r (p6 + 1 + 1) g' cap' (L ++ [(bn, cn, (⟨r.verbs.take mm, r.kind, r.team, r.pre⟩ : Rul))]) w9) := hC
        clear hown hgrow hnn hC
        go_wp2
        go_roundw
        case rel => exact ⟨m, g', cap', p6 + 1 + 1, _, rfl, by simp, H9.out, by simp; omega, by simp; omega⟩
        case measure => simp [intOf]
      by_cases e4 : x = 4
      · subst e4
        have hfz := HS.out.ox.frozen
        have hoz := HS.out.ox.lt
        have o0 := HS.out.x0
        obtain ⟨mm, hmm⟩ : ∃ mm : Nat, mm = (r.verbs.length + 1) / 2 := ⟨_, rfl⟩
        have f1 : (((r.verbs.length : Nat) : Int) + 1) / 2 = (mm : Int) := by omega
        have hml : mm ≤ r.verbs.length := by omega
        have HLM : Hid ((r.verbs.take mm).length = mm) := by show _ = _; simp; omega
        have hmc : mm ≤ cn := by omega
        have hvl := HS.out.hl
        have hcm' : cn ≤ 9223372036854775807 := by unfold maxLen at hcm; omega
        clear hmm
        obtain ⟨Wt, hWt⟩ : ∃ Wt, Wt = Ws.setCell ⟨X, 0, none⟩ (.slice (some ⟨bn, 0, none⟩) mm cn) := ⟨_, rfl⟩
        have HT : Hid (AX R v' len wr X (p6 + 1 + 1) bn cn (⟨r.verbs.take mm, r.kind, r.team, r.pre⟩ : Rul) Wt) := by show AX _ _ _ _ _ _ _ _ _ _; rw [hWt]; exact HS.out.cut mm hml
        have HCT : Hid (CQ R v' len W lo Bq Q bt ct b c ts r (p6 + 1 + 1) g cap L Wt) := HC.out.on HT.out.fr HT.out.rd
        go_upto_region 27 with fail
        rw [← hWt]
        clear hWt hfz hoz o0 HS
        have hxz := HT.out.ox.lt
        have y0 := HT.out.x0
        have y1 := HT.out.x1
        have y2 := HT.out.x2
        have y3 := HT.out.x3
        go_wp2_with (at_builtin; refine wpList_append_own _ rfl _ _ 24 rfl lo 27 i0 (.agg #[.slice none 0 0, .string ByteArray.empty, .string ByteArray.empty, .string ByteArray.empty]) 4 72 Tryd.underlying24 hi hz0 hz1 hz2 rfl (by decide) (.slice (some ⟨g, 0, none⟩) L.length cap) L.length (cellsR L) rfl ?c0_9 ⟨Wt.heap.size, 0, none⟩ 1 1 [.slice (some ⟨bn, 0, none⟩) ((⟨r.verbs.take mm, r.kind, r.team, r.pre⟩ : Rul)).verbs.length cn, .string ((⟨r.verbs.take mm, r.kind, r.team, r.pre⟩ : Rul)).kind, .string ((⟨r.verbs.take mm, r.kind, r.team, r.pre⟩ : Rul)).team, .string ((⟨r.verbs.take mm, r.kind, r.team, r.pre⟩ : Rul)).pre] rfl ?c1_9 ?c2_9 ?c3_9 ?c4_9 ?c5_9 ?c6_9 ?_)
        case c0_9 => exact owns_later HCT.out.own (blw_alloc (Below.refl _ _) _)
        (try case c1_9 => rfl)
        try case c2_9 =>
          intro j u hj
          match j, hj with
          | 0, hj => simp at hj; subst hj; simp [Addr.add]
          | 1, hj => simp at hj; subst hj; simp [Addr.add]
          | 2, hj => simp at hj; subst hj; simp [Addr.add]
          | 3, hj => simp at hj; subst hj; simp [Addr.add]
          | k + 4, hj => simp at hj
        case c3_9 => first | exact ⟨rfl, rfl, rfl, rfl⟩ | (intro u hu; simp at hu; rcases hu with rfl | rfl | rfl | rfl <;> rfl)
        case c4_9 => unfold maxLen; omega
        case c5_9 => omega
        case c6_9 => have hs := HCT.out.ho; first | omega | (simp; omega)
        intro v'' w9 hown hgrow hnn
        obtain ⟨g', cap', rfl, hC⟩ := HCT.out.app bn cn (⟨r.verbs.take mm, r.kind, r.team, r.pre⟩ : Rul) HT.out.hv HT.out.hb.1 HT.out.ht (by rw [show (⟨r.verbs.take mm, r.kind, r.team, r.pre⟩ : Rul).verbs.length = mm from HLM.out]; exact hown) hgrow hnn
        have H9 : Hid (CQ R v' len W lo Bq Q bt ct b c ts r (p6 + 1 + 1) g' cap' (L ++ [(bn, cn, (⟨r.verbs.take mm, r.kind, r.team, r.pre⟩ : Rul))]) w9) := hC
        clear hown hgrow hnn hC
        go_wp2
        go_roundw
        case rel => exact ⟨m, g', cap', p6 + 1 + 1, _, rfl, by simp, H9.out, by simp; omega, by simp; omega⟩
        case measure => simp [intOf]
      omega
    · have d1 : (y == 0) = false := beq_eq_false_iff_ne.2 c1
      have hxz := H8.out.ox.lt
      have y0 := H8.out.x0
      have y1 := H8.out.x1
      have y2 := H8.out.x2
      have y3 := H8.out.x3
      go_wp2_with (at_builtin; refine wpList_append_own _ rfl _ _ 24 rfl lo 27 i0 (.agg #[.slice none 0 0, .string ByteArray.empty, .string ByteArray.empty, .string ByteArray.empty]) 4 72 Tryd.underlying24 hi hz0 hz1 hz2 rfl (by decide) (.slice (some ⟨g, 0, none⟩) L.length cap) L.length (cellsR L) rfl ?c0_1 ⟨W8.heap.size, 0, none⟩ 1 1 [.slice (some ⟨bx, 0, none⟩) (rx).verbs.length cx, .string (rx).kind, .string (rx).team, .string (rx).pre] rfl ?c1_1 ?c2_1 ?c3_1 ?c4_1 ?c5_1 ?c6_1 ?_)
      case c0_1 => exact owns_later HC8.out.own (blw_alloc (Below.refl _ _) _)
      (try case c1_1 => rfl)
      try case c2_1 =>
        intro j u hj
        match j, hj with
        | 0, hj => simp at hj; subst hj; simp [Addr.add]
        | 1, hj => simp at hj; subst hj; simp [Addr.add]
        | 2, hj => simp at hj; subst hj; simp [Addr.add]
        | 3, hj => simp at hj; subst hj; simp [Addr.add]
        | k + 4, hj => simp at hj
      case c3_1 => first | exact ⟨rfl, rfl, rfl, rfl⟩ | (intro u hu; simp at hu; rcases hu with rfl | rfl | rfl | rfl <;> rfl)
      case c4_1 => unfold maxLen; omega
      case c5_1 => omega
      case c6_1 => have hs := HC8.out.ho; first | omega | (simp; omega)
      intro v'' w9 hown hgrow hnn
      obtain ⟨g', cap', rfl, hC⟩ := HC8.out.app bx cx rx H8.out.hv H8.out.hb.1 H8.out.ht hown hgrow hnn
      have H9 : Hid (CQ R v' len W lo Bq Q bt ct b c ts r (p6 + 1) g' cap' (L ++ [(bx, cx, rx)]) w9) := hC
      clear hown hgrow hnn hC
      go_wp2
      go_roundw
      case rel => exact ⟨m, g', cap', p6 + 1, _, rfl, by simp, H9.out, by simp; omega, by simp; omega⟩
      case measure => simp [intOf]

end Go.Proofs.YtfmidkdpclfffaaDoor
