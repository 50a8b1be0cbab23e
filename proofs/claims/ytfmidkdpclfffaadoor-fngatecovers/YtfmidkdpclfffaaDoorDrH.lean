/-
  Draws: teams that are spoilt, any teams.
-/
import Derived.Test.YtfmidkdpclfffaaDoorDrG
namespace Go.Proofs.YtfmidkdpclfffaaDoor
open Go.RowKit Go.Deep

def lenV : Value → Nat | .slice _ n _ => n | _ => 0

set_option maxRecDepth 8000 in
set_option maxHeartbeats 8000000 in
theorem spoilTeams_any (R : Nat) (v : Value) (len p b c0 : Nat) (ts0 : List Tm) (W : World) (h : Rd W R v len p) (hp : p ≤ 900000) (hT : TmsIn W b ts0) (n1 : 1 ≤ ts0.length) (n6 : ts0.length ≤ 6) :
    Calls Tryd.prog 35 #[.pointer (some ⟨R, 0, none⟩), .slice (some ⟨b, 0, none⟩) ts0.length c0] W fun e W' => (∃ (b c : Nat) (ts : List Tm), e = .returned (.slice (some ⟨b, 0, none⟩) ts.length c) ∧ TmsIn W' b ts ∧ W.heap.size ≤ b) ∧ Dr R v len p 30 W W' := by
  obtain ⟨i0, hi, hz0, hz1, hz2⟩ := info_parts Tryd.info80
  have HT : Hid (TmsIn W b ts0 ∧ Rd W R v len p) := ⟨hT, h⟩
  have hbz := hT.lt
  clear hT h
  go_enter Tryd.func35, Tryd.ntmps35
  go_wp2_with (at_builtin; refine wpList_append_own _ rfl _ _ 23 rfl W.heap.size 80 i0 (.agg #[.string ByteArray.empty, .string ByteArray.empty]) 2 32 Tryd.underlying23 hi hz0 hz1 hz2 rfl (by decide) (.slice (some ⟨W.heap.size, 0, none⟩) 0 0) 0 [] rfl ?c0 ⟨b, 0, none⟩ ts0.length c0 (cellsT ts0) rfl ?c1 ?c2 ?c3 ?c4 ?c5 ?c6 ?_)
  case c0 =>
    refine ⟨rfl, Or.inr ⟨W.heap.size, 0, #[], rfl, Nat.le_refl _, ?_, Nat.le_refl _, by decide, rfl, rfl⟩⟩
    show (W.heap.push _)[W.heap.size]? = _
    simp
  case c1 => exact cellsT_len ts0
  case c2 =>
    intro j u hj
    rw [Addr.add_lit, Nat.zero_add]
    exact ((blw_alloc (Below.refl _ _) _ : Below W.heap.size W _).cell (p := ⟨b, j, none⟩) hbz).trans (tms_cells HT.out.1 j u hj)
  case c3 =>
    intro u hu
    unfold cellsT at hu
    simp at hu
    obtain ⟨a, _, rfl | rfl⟩ := hu <;> rfl
  case c4 => unfold maxLen; omega
  case c5 => omega
  case c6 => simp
  intro v' w1 hown hgrow hnn
  rcases hown.2 with ⟨e, _⟩ | ⟨g, cap, cur, rfl, hg0, hg1, hg2⟩
  · exact absurd e hnn
  have hl0 : (0 + ts0.length) = ts0.length := Nat.zero_add _
  have H1 : Hid (SQ R v len W W.heap.size p g cap ts0 w1) := by
    have hbt : Below W.heap.size W (W.alloc (.cells #[] 80)) := blw_alloc (Below.refl _ _) _
    have hb5 : Below W.heap.size W w1 := Below.grown hbt hgrow (by simp) (fun x hx => by simp [Value.ownBlock] at hx; omega)
    refine ⟨Fr.of_below hb5 HT.out.2.own.lt, HT.out.2.later hb5, by simpa using hown, fun m hm => ?_, ⟨HT.out.2.own.lt, Nat.le_refl _, hb5.size⟩, n1, by omega⟩
    obtain ⟨k, hk, rfl⟩ := List.getElem_of_mem hm
    have := (HT.out.1.at_ k hk).sized
    rwa [List.getD_eq_getElem?_getD, List.getElem?_eq_getElem hk] at this
  obtain ⟨ts, hts⟩ : ∃ ts, ts = ts0 := ⟨_, rfl⟩
  rw [← hts] at H1 n1 n6 hl0 ⊢
  clear hown hgrow hnn hg0 hg1 hg2 HT hts hbz
  go_wp2_with fail
  refine (pick_any R v len p ts.length w1 H1.out.rd (by omega) (by omega)).mono ?_
  rintro e w2 ⟨⟨x, rfl, hx⟩, hF, hR⟩
  have x0 := hx.1
  have x1 := hx.2.1 (by omega)
  obtain ⟨i, rfl⟩ := Int.eq_ofNat_of_zero_le x0
  have hil : i < ts.length := by omega
  have H2 : Hid (SQ R v len W W.heap.size (p + 1) g cap ts w2) := H1.out.on hF hR
  clear hx hF hR H1 x0 x1 hl0
  go_wp2_with fail
  refine (pick_any R v len (p + 1) 6 w2 H2.out.rd (by omega) (by omega)).mono ?_
  rintro e w3 ⟨⟨y, rfl, hy⟩, hF, hR⟩
  have y0 := hy.1
  have y1 := hy.2.1 (by omega)
  have H3 : Hid (SQ R v len W W.heap.size (p + 1 + 1) g cap ts w3) := H2.out.on hF hR
  clear hy hF hR H2
  by_cases d0 : y = 0
  · subst d0
    go_wp2_with fail
    refine (of_lit R v len (p + 1 + 1) w3 H3.out.rd (by omega) _ 4 rfl rfl (by omega) (by omega) maxLen (by decide)).mono ?_
    rintro e w4 ⟨⟨s, rfl, hs⟩, hF, hR⟩
    have H4 : Hid (SQ R v len W W.heap.size (p + 1 + 1 + 1) g cap ts w4) := H3.out.on hF hR
    clear hF hR H3
    have hfz := H4.out.blk.2.1.frozen
    have hgz := H4.out.blk.2.1.lt
    obtain ⟨zz, hzz⟩ := H4.out.blk.2.1.cell (i * 2) (by have := H4.out.blk.2.2; omega)
    go_wp2
    go_ret
    have hb := H4.out.blk
    have ho := H4.out.ho
    refine ⟨⟨g, cap, _, ?_, tms_set (i := i) (d := 0) H4.out.tms hb.2.1 (by omega) (by omega) (by omega) s hs, hb.1⟩, H4.out.fr.sc (by omega) (by omega) _ _, _, (by omega : p + 1 + 1 + 1 ≤ p + 30), H4.out.rd.sc (by omega) _ _⟩
    simp
  by_cases d1 : y = 1
  · subst d1
    have HI : Hid ((ts.getD i Tm.none).sized) := (H3.out.tms.at_ i hil).sized
    have hc := (H3.out.tms.at_ i hil).c0
    have hgz := H3.out.blk.2.1.lt
    obtain ⟨nm, hnm⟩ : ∃ nm, nm = (ts.getD i Tm.none).nm := ⟨_, rfl⟩
    have HNM : Hid (nm.size ≤ maxLen) := by show _ ≤ _; rw [hnm]; exact HI.out.1
    rw [← hnm] at hc
    clear hnm HI
    go_wp2_with fail
    refine (of_lit R v len (p + 1 + 1) w3 H3.out.rd (by omega) [.string ⟨#[]⟩, .string ⟨#[110, 111, 110, 101]⟩, .string nm, .string ⟨#[111, 112, 115]⟩, .string ⟨#[114, 51]⟩] 5 rfl rfl (by omega) (by omega) maxLen (by intro z hz; simp [strOf] at hz; rcases hz with rfl | rfl | rfl | rfl | rfl; decide; decide; exact HNM.out; decide; decide)).mono ?_
    rintro e w4 ⟨⟨s, rfl, hs⟩, hF, hR⟩
    have H4 : Hid (SQ R v len W W.heap.size (p + 1 + 1 + 1) g cap ts w4) := H3.out.on hF hR
    clear hF hR H3 hc hgz HNM
    have hfz := H4.out.blk.2.1.frozen
    have hgz := H4.out.blk.2.1.lt
    obtain ⟨zz, hzz⟩ := H4.out.blk.2.1.cell (i * 2 + 1) (by have := H4.out.blk.2.2; omega)
    go_wp2
    go_ret
    have hb := H4.out.blk
    have ho := H4.out.ho
    refine ⟨⟨g, cap, _, ?_, tms_set (i := i) (d := 1) H4.out.tms hb.2.1 (by omega) (by omega) (by omega) s hs, hb.1⟩, H4.out.fr.sc (by omega) (by omega) _ _, _, (by omega : p + 1 + 1 + 1 ≤ p + 30), H4.out.rd.sc (by omega) _ _⟩
    simp
  by_cases d2 : y = 2
  · subst d2
    have HI : Hid ((ts.getD i Tm.none).sized) := (H3.out.tms.at_ i hil).sized
    have hc0 := (H3.out.tms.at_ i hil).c0
    have hc1 := (H3.out.tms.at_ i hil).c1
    have hgz := H3.out.blk.2.1.lt
    obtain ⟨nm, hnm⟩ : ∃ nm, nm = (ts.getD i Tm.none).nm := ⟨_, rfl⟩
    obtain ⟨ov, hov⟩ : ∃ ov, ov = (ts.getD i Tm.none).ov := ⟨_, rfl⟩
    have HNM : Hid (nm.size ≤ maxLen ∧ ov.size ≤ maxLen) := by show _ ∧ _; rw [hnm, hov]; exact HI.out
    rw [← hnm] at hc0
    rw [← hov] at hc1
    clear hnm hov HI
    go_wp2_with (at_builtin; refine wpList_append_own _ rfl _ _ 23 rfl W.heap.size 80 i0 (.agg #[.string ByteArray.empty, .string ByteArray.empty]) 2 32 Tryd.underlying23 hi hz0 hz1 hz2 rfl (by decide) (.slice (some ⟨g, 0, none⟩) ts.length cap) ts.length (cellsT ts) rfl ?c0 ⟨w3.heap.size, 0, none⟩ 1 1 [.string nm, .string ov] rfl ?c1 ?c2 ?c3 ?c4 ?c5 ?c6 ?_)
    case c0 => exact owns_later H3.out.own (blw_alloc (Below.refl _ _) _)
    case c1 => rfl
    case c2 =>
      intro j u hj
      match j, hj with
      | 0, hj => simp at hj; subst hj; simp [Addr.add]
      | 1, hj => simp at hj; subst hj; simp [Addr.add]
      | k + 2, hj => simp at hj
    case c3 => intro u hu; simp at hu; rcases hu with rfl | rfl <;> rfl
    case c4 => unfold maxLen; omega
    case c5 => omega
    case c6 => have hs := H3.out.ho; simp; omega
    intro v' w5 hown hgrow hnn
    obtain ⟨g', cap', rfl, hSQ⟩ := H3.out.app ⟨nm, ov⟩ HNM.out (by omega) hown hgrow hnn
    have H5 : Hid (SQ R v len W W.heap.size (p + 1 + 1) g' cap' (ts ++ [⟨nm, ov⟩]) w5) := hSQ
    clear hown hgrow hnn hSQ
    go_wp2
    go_ret
    refine ⟨⟨g', cap', _, ?_, H5.out.tms, H5.out.blk.1⟩, H5.out.fr, _, (by omega : p + 1 + 1 ≤ p + 30), H5.out.rd⟩
    simp
  by_cases d4 : y = 4
  · subst d4
    go_wp2_with (at_builtin; refine wpList_append_own _ rfl _ _ 23 rfl W.heap.size 80 i0 (.agg #[.string ByteArray.empty, .string ByteArray.empty]) 2 32 Tryd.underlying23 hi hz0 hz1 hz2 rfl (by decide) (.slice (some ⟨g, 0, none⟩) ts.length cap) ts.length (cellsT ts) rfl ?c0 ⟨w3.heap.size, 0, none⟩ 1 1 [.string ⟨#[114, 52]⟩, .string ⟨#[114, 51]⟩] rfl ?c1 ?c2 ?c3 ?c4 ?c5 ?c6 ?_)
    case c0 => exact owns_later H3.out.own (blw_alloc (Below.refl _ _) _)
    case c1 => rfl
    case c2 =>
      intro j u hj
      match j, hj with
      | 0, hj => simp at hj; subst hj; simp [Addr.add]
      | 1, hj => simp at hj; subst hj; simp [Addr.add]
      | k + 2, hj => simp at hj
    case c3 => intro u hu; simp at hu; rcases hu with rfl | rfl <;> rfl
    case c4 => unfold maxLen; omega
    case c5 => omega
    case c6 => have hs := H3.out.ho; simp; omega
    intro v' w5 hown hgrow hnn
    obtain ⟨g', cap', rfl, hSQ⟩ := H3.out.app ⟨⟨#[114, 52]⟩, ⟨#[114, 51]⟩⟩ ⟨by decide, by decide⟩ (by omega) hown hgrow hnn
    have H5 : Hid (SQ R v len W W.heap.size (p + 1 + 1) g' cap' (ts ++ [⟨⟨#[114, 52]⟩, ⟨#[114, 51]⟩⟩]) w5) := hSQ
    clear hown hgrow hnn hSQ
    go_wp2
    go_ret
    refine ⟨⟨g', cap', _, ?_, H5.out.tms, H5.out.blk.1⟩, H5.out.fr, _, (by omega : p + 1 + 1 ≤ p + 30), H5.out.rd⟩
    simp
  by_cases d3 : y = 3
  · subst d3
    go_wp2
    go_loopw [5] (fun s wr => ∃ (g cap q : Nat) (ts : List Tm), s = .slice (some ⟨g, 0, none⟩) ts.length cap ∧ SQ R v len W W.heap.size q g cap ts wr ∧ ts.length ≤ 13 ∧ q ≤ p + 1 + ts.length) (fun s _ => 14 - lenV s)
    case atStart => exact ⟨g, cap, p + 1 + 1, ts, rfl, H3.out, by omega, by omega⟩
    case round =>
      obtain ⟨g, cap, q, ts, rfl, hS, hl, hq⟩ := hrel
      have HS : Hid (SQ R v len W W.heap.size q g cap ts wr) := hS
      have hl20 := hS.n2
      clear hS H3
      go_wp2_with fail
      refine (pick_any R v len q 2 wr HS.out.rd (by omega) (by omega)).mono ?_
      rintro e w4 ⟨⟨z, rfl, hz⟩, hF, hR⟩
      have z0 := hz.1
      have z1 := hz.2.1 (by omega)
      have H4 : Hid (SQ R v len W W.heap.size (q + 1) g cap ts w4) := HS.out.on hF hR
      clear hz hF hR HS
      by_cases hlt : (ts.length : Int) < 12 + z
      · have HM : Hid (Calls Tryd.prog 38 #[.string ⟨#[122]⟩, .int .i64 (ts.length : Nat)] w4 fun e W' => (∃ s : ByteArray, e = .returned (.string s) ∧ s.size ≤ 1600) ∧ w4 = W') := many_any ⟨#[122]⟩ ts.length w4 (by decide) (by omega)
        go_wp2_with fail
        refine HM.out.mono ?_
        rintro e W' ⟨⟨s, rfl, hs⟩, rfl⟩
        clear HM
        go_wp2_with (at_builtin; refine wpList_append_own _ rfl _ _ 23 rfl W.heap.size 80 i0 (.agg #[.string ByteArray.empty, .string ByteArray.empty]) 2 32 Tryd.underlying23 hi hz0 hz1 hz2 rfl (by decide) (.slice (some ⟨g, 0, none⟩) ts.length cap) ts.length (cellsT ts) rfl ?c0 ⟨w4.heap.size, 0, none⟩ 1 1 [.string (⟨#[115]⟩ ++ s), .string ⟨#[]⟩] rfl ?c1 ?c2 ?c3 ?c4 ?c5 ?c6 ?_)
        case c0 => exact owns_later H4.out.own (blw_alloc (Below.refl _ _) _)
        case c1 => rfl
        case c2 =>
          intro j u hj
          match j, hj with
          | 0, hj => simp at hj; subst hj; simp [Addr.add]
          | 1, hj => simp at hj; subst hj; simp [Addr.add]
          | k + 2, hj => simp at hj
        case c3 => intro u hu; simp at hu; rcases hu with rfl | rfl <;> rfl
        case c4 => unfold maxLen; omega
        case c5 => omega
        case c6 => have hs := H4.out.ho; simp; omega
        intro v' w5 hown hgrow hnn
        obtain ⟨g', cap', rfl, hSQ⟩ := H4.out.app ⟨(⟨#[115]⟩ ++ s), ⟨#[]⟩⟩ ⟨by rw [ByteArray.size_append]; have : (⟨#[115]⟩ : ByteArray).size = 1 := rfl; unfold maxLen; omega, by show (⟨#[]⟩ : ByteArray).size ≤ maxLen; decide⟩ (by omega) hown hgrow hnn
        have H5 : Hid (SQ R v len W W.heap.size (q + 1) g' cap' (ts ++ [⟨(⟨#[115]⟩ ++ s), ⟨#[]⟩⟩]) w5) := hSQ
        clear hown hgrow hnn hSQ
        go_wp2
        go_roundw
        case rel => exact ⟨g', cap', q + 1, _, by simp, H5.out, by simp; omega, by simp; omega⟩
        case measure => simp [lenV]; omega
      · go_wp2
        go_ret
        exact ⟨⟨g, cap, ts, rfl, H4.out.tms, H4.out.blk.1⟩, H4.out.fr, _, (by omega : q + 1 ≤ p + 30), H4.out.rd⟩
  have b0 : (y == 0) = false := beq_eq_false_iff_ne.2 d0
  have b1 : (y == 1) = false := beq_eq_false_iff_ne.2 d1
  have b2 : (y == 2) = false := beq_eq_false_iff_ne.2 d2
  have b3 : (y == 3) = false := beq_eq_false_iff_ne.2 d3
  have b4 : (y == 4) = false := beq_eq_false_iff_ne.2 d4
  obtain ⟨k, hk⟩ : ∃ k, ts.length = k + 1 := ⟨ts.length - 1, by omega⟩
  have hkl : ((ts.length : Nat) : Int) - 1 = (k : Int) := by omega
  have hc := (H3.out.tms.at_ k (by omega)).c0
  have HS : Hid ((ts.getD k Tm.none).nm.size ≤ maxLen) := (H3.out.tms.at_ k (by omega)).sized.1
  obtain ⟨s, hs⟩ : ∃ s, s = (ts.getD k Tm.none).nm := ⟨_, rfl⟩
  rw [← hs] at hc HS
  have HK : Hid (ts.length = k + 1) := hk
  clear hs hk
  have hfz := H3.out.blk.2.1.frozen
  have hgz := H3.out.blk.2.1.lt
  obtain ⟨zz, hzz⟩ := H3.out.blk.2.1.cell 1 (by have := H3.out.blk.2.2; omega)
  go_wp2
  go_ret
  have hb := H3.out.blk
  have ho := H3.out.ho
  refine ⟨⟨g, cap, _, ?_, tms_set (i := 0) (d := 1) H3.out.tms hb.2.1 (by omega) (by omega) (by omega) s HS.out, hb.1⟩, H3.out.fr.sc (by omega) (by omega) _ _, _, (by omega : p + 1 + 1 ≤ p + 30), H3.out.rd.sc (by omega) _ _⟩
  simp

set_option maxRecDepth 8000 in
set_option maxHeartbeats 4000000 in
theorem anyTeams_any (R : Nat) (v : Value) (len p : Nat) (W : World) (h : Rd W R v len p) (hp : p ≤ 800000) :
    Calls Tryd.prog 12 #[.pointer (some ⟨R, 0, none⟩)] W fun e W' => (∃ (b c : Nat) (ts : List Tm), e = .returned (.slice (some ⟨b, 0, none⟩) ts.length c) ∧ TmsIn W' b ts ∧ W.heap.size ≤ b) ∧ Dr R v len p 40 W W' := by
  have HR : Hid (Rd W R v len p) := h
  clear h
  go_enter Tryd.func12, Tryd.ntmps12
  go_wp2_with fail
  refine (drawTeams_any R v len p W HR.out (by omega)).mono ?_
  rintro e W1 ⟨⟨b, ts, rfl, hT, hb, l1, l6⟩, hF, p1, hp1, hR⟩
  have H1 : Hid (Fr R W W1 ∧ Rd W1 R v len p1 ∧ TmsIn W1 b ts ∧ W.heap.size ≤ b ∧ R < W.heap.size) := ⟨hF, hR, hT, hb, HR.out.own.lt⟩
  clear hF hR hT hb HR
  go_wp2_with fail
  refine (pick_any R v len p1 16 W1 H1.out.2.1 (by omega) (by omega)).mono ?_
  rintro e W2 ⟨⟨x, rfl, hx⟩, hF, hR⟩
  have x0 := hx.1
  have x1 := hx.2.1 (by omega)
  have H2 : Hid (Fr R W W2 ∧ Rd W2 R v len (p1 + 1) ∧ TmsIn W2 b ts ∧ W.heap.size ≤ b) := by
    obtain ⟨e1, e2, e3, e4, e5⟩ := H1.out
    have cc : ∀ o, W2.cell? ⟨b, o, none⟩ = W1.cell? ⟨b, o, none⟩ := fun o => hF.cell (by omega) e3.lt
    exact ⟨e1.trans hF, hR, ⟨Nat.lt_of_lt_of_le e3.lt hF.bel.size, e3.len, fun i hi => ⟨(cc _).trans (e3.at_ i hi).c0, (cc _).trans (e3.at_ i hi).c1, (e3.at_ i hi).sized⟩⟩, e4⟩
  clear hx hF hR H1
  by_cases c0 : x = 0
  · subst c0
    go_wp2_with fail
    refine (spoilTeams_any R v len (p1 + 1) b ts.length ts W2 H2.out.2.1 (by omega) H2.out.2.2.1 l1 l6).mono ?_
    rintro e W3 ⟨⟨b', c', ts', rfl, hT, hb⟩, hF, p3, hp3, hR⟩
    have H3 : Hid (TmsIn W3 b' ts' ∧ W.heap.size ≤ b' ∧ Dr R v len p 40 W W3) := ⟨hT, Nat.le_trans H2.out.1.bel.size hb, H2.out.1.trans hF, p3, by omega, hR⟩
    clear hF hR hT hb H2
    go_wp2
    go_ret
    exact ⟨⟨b', c', ts', rfl, H3.out.1, H3.out.2.1⟩, H3.out.2.2⟩
  · have d0 : (x == 0) = false := beq_eq_false_iff_ne.2 c0
    go_wp2
    go_ret
    exact ⟨⟨b, ts.length, ts, rfl, H2.out.2.2.1, H2.out.2.2.2⟩, H2.out.1, _, by omega, H2.out.2.1⟩

end Go.Proofs.YtfmidkdpclfffaaDoor
