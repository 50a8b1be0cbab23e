/-
  The walk over the law of RecNew.
-/
import Derived.Test.YtejhknclhdbgfaaRnB
namespace Go.Proofs.Ytejhknclhdbgfaa
open Go.RowKit Go.Deep

set_option maxRecDepth 8000 in
set_option maxHeartbeats 40000000 in
theorem lawRecNew (n o : Int) (w : World)
    (hI : ∀ W, Calls Try.prog 21 #[.int .i64 n, .int .i64 o] W fun e w' => (∃ (A : Nat → Option Addr) (C : Nat → Nat), e = .returned (.agg #[.int .i64 (newN n o), .int .i64 (newO n o), .bool (newOk n o), .int .i64 0, .int .i64 0, .slice (A 0) 0 (C 0), .int .i64 0, .int .i64 0, .slice (A 1) 0 (C 1), .slice (A 2) 0 (C 2), .slice (A 3) 0 (C 3), .bool false, .bool false, .int .i64 0, .slice (A 4) 0 (C 4), .slice (A 5) 0 (C 5), .slice (A 6) 0 (C 6), .int .i64 0])) ∧ Below W.heap.size W w') :
    Calls Try.prog 5 #[.int .i64 n, .int .i64 o] w fun e w' => e = .returned (.bool true) ∧ Below w.heap.size w w' := by
  obtain ⟨N, hN⟩ : ∃ N, N = newN n o := ⟨_, rfl⟩
  obtain ⟨O, hO⟩ : ∃ O, O = newO n o := ⟨_, rfl⟩
  obtain ⟨U, hU⟩ : ∃ U, U = newOk n o := ⟨_, rfl⟩
  have HS := recNewS n o
  rw [← hN, ← hO, ← hU] at HS hI
  have HI := hid hI
  have HSF := hid HS
  clear hN hO hU hI HS
  go_enter Try.func5, Try.ntmps5
  go_wp2_with fail
  refine (HSF.out w).mono ?_
  rintro e wa ⟨rfl, hba⟩
  have HBa := hid hba
  clear hba HSF
  obtain ⟨ps, hps⟩ : ∃ ps, ps = wa.heap.size := ⟨_, rfl⟩
  have hal : OwnBlk (wa.alloc (.cells #[.int .i64 0, .int .i64 0, .bool false, .int .i64 0, .int .i64 0, .slice none 0 0, .int .i64 0, .int .i64 0, .slice none 0 0, .slice none 0 0, .slice none 0 0, .bool false, .bool false, .int .i64 0, .slice none 0 0, .slice none 0 0, .slice none 0 0, .int .i64 0] 44)) ps 44 18 := by rw [hps]; exact OwnBlk.alloc wa _ _ _ rfl
  have hth := RY.own_there hal
  obtain ⟨wb, hw⟩ : ∃ wb, wb = (wa.alloc (.cells #[.int .i64 0, .int .i64 0, .bool false, .int .i64 0, .int .i64 0, .slice none 0 0, .int .i64 0, .int .i64 0, .slice none 0 0, .slice none 0 0, .slice none 0 0, .bool false, .bool false, .int .i64 0, .slice none 0 0, .slice none 0 0, .slice none 0 0, .int .i64 0] 44)).setCells ps 0 [.int .i64 N, .int .i64 O, .bool U, .int .i64 0, .int .i64 0, .slice none 0 0, .int .i64 0, .int .i64 0, .slice none 0 0, .slice none 0 0, .slice none 0 0, .bool false, .bool false, .int .i64 0, .slice none 0 0, .slice none 0 0, .slice none 0 0, .int .i64 0] := ⟨_, rfl⟩
  have hb : Below wa.heap.size wa wb := by rw [hw]; exact puts_below (a := wa) 0 (B := ps) (by rw [hps]; exact Nat.le_refl _) [.int .i64 N, .int .i64 O, .bool U, .int .i64 0, .int .i64 0, .slice none 0 0, .int .i64 0, .int .i64 0, .slice none 0 0, .slice none 0 0, .slice none 0 0, .bool false, .bool false, .int .i64 0, .slice none 0 0, .slice none 0 0, .slice none 0 0, .int .i64 0] _ 0 (blw_alloc (Below.refl _ _) _)
  have Hps : Hid (LBox wb ps [.int .i64 N, .int .i64 O, .bool U, .int .i64 0, .int .i64 0, .slice none 0 0, .int .i64 0, .int .i64 0, .slice none 0 0, .slice none 0 0, .slice none 0 0, .bool false, .bool false, .int .i64 0, .slice none 0 0, .slice none 0 0, .slice none 0 0, .int .i64 0]) := by
    refine ⟨Nat.lt_of_lt_of_le hal.lt ?_, ?_⟩
    · rw [hw, setCells_size]; exact Nat.le_refl _
    · rw [hw]; exact World.rangeAt_setCells_same _ _ _ _ hth
  have HBb := hid (blw_trans HBa.out hb)
  go_upto_region 2 with (refine wpList_store_mid rfl 44 _ _ rfl ps 0 #[.int .i64 N, .int .i64 O, .bool U, .int .i64 0, .int .i64 0, .slice none 0 0, .int .i64 0, .int .i64 0, .slice none 0 0, .slice none 0 0, .slice none 0 0, .bool false, .bool false, .int .i64 0, .slice none 0 0, .slice none 0 0, .slice none 0 0, .int .i64 0] (by rw [hps]; rfl) rfl hth (by kernel_rfl) (by simp [Value.oneCell']) ?_)
  rw [← hps, ← hw]
  clear hw hps hal hth hb HBa
  have Hpsb := Hps
  clear Hps
  go_wp2_with fail
  refine (HI.out wb).mono ?_
  rintro e wc ⟨⟨A1, C1, rfl⟩, hb⟩
  have HBc := hid (blw_trans HBb.out hb)
  have Hpsc := hid (Hpsb.out.later hb)
  clear hb HBb Hpsb
  obtain ⟨pg, hpg⟩ : ∃ pg, pg = wc.heap.size := ⟨_, rfl⟩
  have hal : OwnBlk (wc.alloc (.cells #[.int .i64 0, .int .i64 0, .bool false, .int .i64 0, .int .i64 0, .slice none 0 0, .int .i64 0, .int .i64 0, .slice none 0 0, .slice none 0 0, .slice none 0 0, .bool false, .bool false, .int .i64 0, .slice none 0 0, .slice none 0 0, .slice none 0 0, .int .i64 0] 44)) pg 44 18 := by rw [hpg]; exact OwnBlk.alloc wc _ _ _ rfl
  have hth := RY.own_there hal
  obtain ⟨wd, hw⟩ : ∃ wd, wd = (wc.alloc (.cells #[.int .i64 0, .int .i64 0, .bool false, .int .i64 0, .int .i64 0, .slice none 0 0, .int .i64 0, .int .i64 0, .slice none 0 0, .slice none 0 0, .slice none 0 0, .bool false, .bool false, .int .i64 0, .slice none 0 0, .slice none 0 0, .slice none 0 0, .int .i64 0] 44)).setCells pg 0 [.int .i64 N, .int .i64 O, .bool U, .int .i64 0, .int .i64 0, .slice (A1 0) 0 (C1 0), .int .i64 0, .int .i64 0, .slice (A1 1) 0 (C1 1), .slice (A1 2) 0 (C1 2), .slice (A1 3) 0 (C1 3), .bool false, .bool false, .int .i64 0, .slice (A1 4) 0 (C1 4), .slice (A1 5) 0 (C1 5), .slice (A1 6) 0 (C1 6), .int .i64 0] := ⟨_, rfl⟩
  have hb : Below wc.heap.size wc wd := by rw [hw]; exact puts_below (a := wc) 0 (B := pg) (by rw [hpg]; exact Nat.le_refl _) [.int .i64 N, .int .i64 O, .bool U, .int .i64 0, .int .i64 0, .slice (A1 0) 0 (C1 0), .int .i64 0, .int .i64 0, .slice (A1 1) 0 (C1 1), .slice (A1 2) 0 (C1 2), .slice (A1 3) 0 (C1 3), .bool false, .bool false, .int .i64 0, .slice (A1 4) 0 (C1 4), .slice (A1 5) 0 (C1 5), .slice (A1 6) 0 (C1 6), .int .i64 0] _ 0 (blw_alloc (Below.refl _ _) _)
  have Hpg : Hid (LBox wd pg [.int .i64 N, .int .i64 O, .bool U, .int .i64 0, .int .i64 0, .slice (A1 0) 0 (C1 0), .int .i64 0, .int .i64 0, .slice (A1 1) 0 (C1 1), .slice (A1 2) 0 (C1 2), .slice (A1 3) 0 (C1 3), .bool false, .bool false, .int .i64 0, .slice (A1 4) 0 (C1 4), .slice (A1 5) 0 (C1 5), .slice (A1 6) 0 (C1 6), .int .i64 0]) := by
    refine ⟨Nat.lt_of_lt_of_le hal.lt ?_, ?_⟩
    · rw [hw, setCells_size]; exact Nat.le_refl _
    · rw [hw]; exact World.rangeAt_setCells_same _ _ _ _ hth
  have HBd := hid (blw_trans HBc.out hb)
  have Hpsd := hid (Hpsc.out.later hb)
  go_upto_region 3 with (refine wpList_store_mid rfl 44 _ _ rfl pg 0 #[.int .i64 N, .int .i64 O, .bool U, .int .i64 0, .int .i64 0, .slice (A1 0) 0 (C1 0), .int .i64 0, .int .i64 0, .slice (A1 1) 0 (C1 1), .slice (A1 2) 0 (C1 2), .slice (A1 3) 0 (C1 3), .bool false, .bool false, .int .i64 0, .slice (A1 4) 0 (C1 4), .slice (A1 5) 0 (C1 5), .slice (A1 6) 0 (C1 6), .int .i64 0] (by rw [hpg]; rfl) rfl hth (by kernel_rfl) (by simp [Value.oneCell']) ?_)
  rw [← hpg, ← hw]
  clear hw hpg hal hth hb HBc Hpsc
  have Hpgd := Hpg
  clear Hpg
  go_wp2_with (first | (refine wpList_load_mid rfl 44 _ rfl pg 0 rfl [.int .i64 N, .int .i64 O, .bool U, .int .i64 0, .int .i64 0, .slice (A1 0) 0 (C1 0), .int .i64 0, .int .i64 0, .slice (A1 1) 0 (C1 1), .slice (A1 2) 0 (C1 2), .slice (A1 3) 0 (C1 3), .bool false, .bool false, .int .i64 0, .slice (A1 4) 0 (C1 4), .slice (A1 5) 0 (C1 5), .slice (A1 6) 0 (C1 6), .int .i64 0] _ Hpgd.out.at_ Try.underlying44 rfl (by kernel_rfl) ?_) | (refine wpList_load_mid rfl 44 _ rfl ps 0 rfl [.int .i64 N, .int .i64 O, .bool U, .int .i64 0, .int .i64 0, .slice none 0 0, .int .i64 0, .int .i64 0, .slice none 0 0, .slice none 0 0, .slice none 0 0, .bool false, .bool false, .int .i64 0, .slice none 0 0, .slice none 0 0, .slice none 0 0, .int .i64 0] _ Hpsd.out.at_ Try.underlying44 rfl (by kernel_rfl) ?_))
  refine (eqNew N O U A1 (fun _ => none) C1 (fun _ => 0) wd).mono ?_
  rintro e we ⟨rfl, hb⟩
  have HBe := hid (blw_trans HBd.out hb)
  have Hpse := hid (Hpsd.out.later hb)
  have Hpge := hid (Hpgd.out.later hb)
  clear hb HBd Hpsd Hpgd
  go_wp2_with (first | (refine wpList_load_mid rfl 44 _ rfl pg 0 rfl [.int .i64 N, .int .i64 O, .bool U, .int .i64 0, .int .i64 0, .slice (A1 0) 0 (C1 0), .int .i64 0, .int .i64 0, .slice (A1 1) 0 (C1 1), .slice (A1 2) 0 (C1 2), .slice (A1 3) 0 (C1 3), .bool false, .bool false, .int .i64 0, .slice (A1 4) 0 (C1 4), .slice (A1 5) 0 (C1 5), .slice (A1 6) 0 (C1 6), .int .i64 0] _ Hpge.out.at_ Try.underlying44 rfl (by kernel_rfl) ?_))
  refine (markNew N O U A1 C1 1 (by omega) we).mono ?_
  rintro e wf ⟨rfl, hb⟩
  have HBf := hid (blw_trans HBe.out hb)
  have Hpsf := hid (Hpse.out.later hb)
  have Hpgf := hid (Hpge.out.later hb)
  clear hb HBe Hpse Hpge
  go_wp2_with (first | (refine wpList_load_mid rfl 44 _ rfl pg 0 rfl [.int .i64 N, .int .i64 O, .bool U, .int .i64 0, .int .i64 0, .slice (A1 0) 0 (C1 0), .int .i64 0, .int .i64 0, .slice (A1 1) 0 (C1 1), .slice (A1 2) 0 (C1 2), .slice (A1 3) 0 (C1 3), .bool false, .bool false, .int .i64 0, .slice (A1 4) 0 (C1 4), .slice (A1 5) 0 (C1 5), .slice (A1 6) 0 (C1 6), .int .i64 0] _ Hpgf.out.at_ Try.underlying44 rfl (by kernel_rfl) ?_))
  refine (heldNew N O U A1 C1 1 (by omega) wf).mono ?_
  rintro e wg ⟨rfl, hb⟩
  have HBg := hid (blw_trans HBf.out hb)
  have Hpsg := hid (Hpsf.out.later hb)
  have Hpgg := hid (Hpgf.out.later hb)
  clear hb HBf Hpsf Hpgf
  go_wp2_with fail
  refine (HI.out wg).mono ?_
  rintro e wh ⟨⟨A2, C2, rfl⟩, hb⟩
  have HBh := hid (blw_trans HBg.out hb)
  have Hpsh := hid (Hpsg.out.later hb)
  have Hpgh := hid (Hpgg.out.later hb)
  clear hb HBg Hpsg Hpgg
  obtain ⟨pq, hpq⟩ : ∃ pq, pq = wh.heap.size := ⟨_, rfl⟩
  have hal : OwnBlk (wh.alloc (.cells #[.int .i64 0, .int .i64 0, .bool false, .int .i64 0, .int .i64 0, .slice none 0 0, .int .i64 0, .int .i64 0, .slice none 0 0, .slice none 0 0, .slice none 0 0, .bool false, .bool false, .int .i64 0, .slice none 0 0, .slice none 0 0, .slice none 0 0, .int .i64 0] 44)) pq 44 18 := by rw [hpq]; exact OwnBlk.alloc wh _ _ _ rfl
  have hth := RY.own_there hal
  obtain ⟨wi, hw⟩ : ∃ wi, wi = (wh.alloc (.cells #[.int .i64 0, .int .i64 0, .bool false, .int .i64 0, .int .i64 0, .slice none 0 0, .int .i64 0, .int .i64 0, .slice none 0 0, .slice none 0 0, .slice none 0 0, .bool false, .bool false, .int .i64 0, .slice none 0 0, .slice none 0 0, .slice none 0 0, .int .i64 0] 44)).setCells pq 0 [.int .i64 N, .int .i64 O, .bool U, .int .i64 0, .int .i64 0, .slice (A2 0) 0 (C2 0), .int .i64 0, .int .i64 0, .slice (A2 1) 0 (C2 1), .slice (A2 2) 0 (C2 2), .slice (A2 3) 0 (C2 3), .bool false, .bool false, .int .i64 0, .slice (A2 4) 0 (C2 4), .slice (A2 5) 0 (C2 5), .slice (A2 6) 0 (C2 6), .int .i64 0] := ⟨_, rfl⟩
  have hb : Below wh.heap.size wh wi := by rw [hw]; exact puts_below (a := wh) 0 (B := pq) (by rw [hpq]; exact Nat.le_refl _) [.int .i64 N, .int .i64 O, .bool U, .int .i64 0, .int .i64 0, .slice (A2 0) 0 (C2 0), .int .i64 0, .int .i64 0, .slice (A2 1) 0 (C2 1), .slice (A2 2) 0 (C2 2), .slice (A2 3) 0 (C2 3), .bool false, .bool false, .int .i64 0, .slice (A2 4) 0 (C2 4), .slice (A2 5) 0 (C2 5), .slice (A2 6) 0 (C2 6), .int .i64 0] _ 0 (blw_alloc (Below.refl _ _) _)
  have Hpq : Hid (LBox wi pq [.int .i64 N, .int .i64 O, .bool U, .int .i64 0, .int .i64 0, .slice (A2 0) 0 (C2 0), .int .i64 0, .int .i64 0, .slice (A2 1) 0 (C2 1), .slice (A2 2) 0 (C2 2), .slice (A2 3) 0 (C2 3), .bool false, .bool false, .int .i64 0, .slice (A2 4) 0 (C2 4), .slice (A2 5) 0 (C2 5), .slice (A2 6) 0 (C2 6), .int .i64 0]) := by
    refine ⟨Nat.lt_of_lt_of_le hal.lt ?_, ?_⟩
    · rw [hw, setCells_size]; exact Nat.le_refl _
    · rw [hw]; exact World.rangeAt_setCells_same _ _ _ _ hth
  have HBi := hid (blw_trans HBh.out hb)
  have Hpsi := hid (Hpsh.out.later hb)
  have Hpgi := hid (Hpgh.out.later hb)
  go_upto_region 14 with (refine wpList_store_mid rfl 44 _ _ rfl pq 0 #[.int .i64 N, .int .i64 O, .bool U, .int .i64 0, .int .i64 0, .slice (A2 0) 0 (C2 0), .int .i64 0, .int .i64 0, .slice (A2 1) 0 (C2 1), .slice (A2 2) 0 (C2 2), .slice (A2 3) 0 (C2 3), .bool false, .bool false, .int .i64 0, .slice (A2 4) 0 (C2 4), .slice (A2 5) 0 (C2 5), .slice (A2 6) 0 (C2 6), .int .i64 0] (by rw [hpq]; rfl) rfl hth (by kernel_rfl) (by simp [Value.oneCell']) ?_)
  rw [← hpq, ← hw]
  clear hw hpq hal hth hb HBh Hpsh Hpgh
  have Hpqi := Hpq
  clear Hpq
  go_wp2_with (first | (refine wpList_load_mid rfl 44 _ rfl pq 0 rfl [.int .i64 N, .int .i64 O, .bool U, .int .i64 0, .int .i64 0, .slice (A2 0) 0 (C2 0), .int .i64 0, .int .i64 0, .slice (A2 1) 0 (C2 1), .slice (A2 2) 0 (C2 2), .slice (A2 3) 0 (C2 3), .bool false, .bool false, .int .i64 0, .slice (A2 4) 0 (C2 4), .slice (A2 5) 0 (C2 5), .slice (A2 6) 0 (C2 6), .int .i64 0] _ Hpqi.out.at_ Try.underlying44 rfl (by kernel_rfl) ?_) | (refine wpList_load_mid rfl 44 _ rfl ps 0 rfl [.int .i64 N, .int .i64 O, .bool U, .int .i64 0, .int .i64 0, .slice none 0 0, .int .i64 0, .int .i64 0, .slice none 0 0, .slice none 0 0, .slice none 0 0, .bool false, .bool false, .int .i64 0, .slice none 0 0, .slice none 0 0, .slice none 0 0, .int .i64 0] _ Hpsi.out.at_ Try.underlying44 rfl (by kernel_rfl) ?_))
  refine (eqNew N O U A2 (fun _ => none) C2 (fun _ => 0) wi).mono ?_
  rintro e wj ⟨rfl, hb⟩
  have HBj := hid (blw_trans HBi.out hb)
  have Hpsj := hid (Hpsi.out.later hb)
  have Hpgj := hid (Hpgi.out.later hb)
  have Hpqj := hid (Hpqi.out.later hb)
  clear hb HBi Hpsi Hpgi Hpqi
  go_wp2_with (first | (refine wpList_load_mid rfl 44 _ rfl pg 0 rfl [.int .i64 N, .int .i64 O, .bool U, .int .i64 0, .int .i64 0, .slice (A1 0) 0 (C1 0), .int .i64 0, .int .i64 0, .slice (A1 1) 0 (C1 1), .slice (A1 2) 0 (C1 2), .slice (A1 3) 0 (C1 3), .bool false, .bool false, .int .i64 0, .slice (A1 4) 0 (C1 4), .slice (A1 5) 0 (C1 5), .slice (A1 6) 0 (C1 6), .int .i64 0] _ Hpgj.out.at_ Try.underlying44 rfl (by kernel_rfl) ?_))
  refine (heldNew N O U A1 C1 1 (by omega) wj).mono ?_
  rintro e wk ⟨rfl, hb⟩
  have HBk := hid (blw_trans HBj.out hb)
  have Hpsk := hid (Hpsj.out.later hb)
  have Hpgk := hid (Hpgj.out.later hb)
  have Hpqk := hid (Hpqj.out.later hb)
  clear hb HBj Hpsj Hpgj Hpqj
  go_wp2
  go_ret
  exact ⟨rfl, HBk.out⟩

end Go.Proofs.Ytejhknclhdbgfaa
