/-
  Sheets: lists of words and lines, one ahead of the other: the specification.
-/
import Derived.Test.YtojcopamegmeeaaESd
import Derived.Test.YtojcopamegmeeaaEFd
import Derived.Test.YtojcopamegmeeaaUB
namespace Go.Proofs.Ytojcopamegmeeaa
open Go.RowKit Go.Deep

set_option maxHeartbeats 4000000 in
theorem l39LessS (A B : List ByteArray) (va vb : Value) (w : World) (hA : Raw w shTxs [.row A.length (txD A)] [va]) (hB : Raw w shTxs [.row B.length (txD B)] [vb]) :
    Calls Try.prog 72 #[va, vb] w fun e w' => e = .returned (.bool (Pl.lessW A B)) ∧ Below w.heap.size w w' := by
  have HA := uh hA
  have HB := uh hB
  obtain ⟨aa, ca, ea⟩ := hA.len0
  obtain ⟨ab, cb, eb⟩ := hB.len0
  subst ea; subst eb
  clear hA hB
  go_enter Try.func72, Try.ntmps72
  go_wp2
  go_loopw [5] (fun i wr => ∃ k : Nat, k ≤ A.length ∧ k ≤ B.length ∧ i = .int .i64 k ∧ Below w.heap.size w wr ∧ Pl.lessW A B = Pl.lessW (A.drop k) (B.drop k)) (fun i _ => A.length - (intOf i).toNat)
  case atStart => exact ⟨0, Nat.zero_le _, Nat.zero_le _, rfl, Below.refl _ _, rfl⟩
  case round =>
    obtain ⟨k, hk1, hk2, rfl, hW, hI⟩ := hrel
    have HW := uh hW
    have HI := uh hI
    clear hW hI
    by_cases h1 : k < A.length
    rotate_left
    · have HE : Hid (Pl.lessW A B = decide (A.length < B.length)) := by show _ = _; rw [HI.out, Pl.lessW_end hk1 hk2 (Or.inl (by omega))]
      go_wp2
      go_ret
      exact ⟨Pl.ret_bool (by first | exact HE.out.symm | (rw [HE.out, Bool.eq_iff_iff]; simp)), HW.out⟩
    by_cases h2 : k < B.length
    rotate_left
    · have HE : Hid (Pl.lessW A B = decide (A.length < B.length)) := by show _ = _; rw [HI.out, Pl.lessW_end hk1 hk2 (Or.inr (by omega))]
      go_wp2
      go_ret
      exact ⟨Pl.ret_bool (by first | exact HE.out.symm | (rw [HE.out, Bool.eq_iff_iff]; simp)), HW.out⟩
    rcases txs_open (HA.out.later HW.out) with ⟨e0, _⟩ | ⟨p1, o1, c1, hv1, hp1, hm1, hc1⟩
    · omega
    rcases txs_open (HB.out.later HW.out) with ⟨e0, _⟩ | ⟨p2, o2, c2, hv2, hp2, hm2, hc2⟩
    · omega
    injection hv1 with g1 _ g3
    injection hv2 with k1 _ k3
    subst g1; subst g3; subst k1; subst k3
    have y1 := hc1 k h1
    have y2 := hc2 k h2
    unfold maxLen at hm1
    have HS := uh (Pl.lessW_at h1 h2)
    obtain ⟨x, hx⟩ : ∃ x, x = A.getD k Pl.txNo := ⟨_, rfl⟩
    obtain ⟨y, hy⟩ : ∃ y, y = B.getD k Pl.txNo := ⟨_, rfl⟩
    rw [← hx] at y1 HS
    rw [← hy] at y2 HS
    have hk0 : (0 : Int) ≤ (k : Int) := by omega
    have hka : (k : Int) < (A.length : Int) := by omega
    have hkb : (k : Int) < (B.length : Int) := by omega
    clear hx hy hc1 hc2
    cases hh : (x.toList == y.toList)
    · have HE : Hid (Pl.lessW A B = Op.bytesLess x.toList y.toList) := by show _ = _; rw [HI.out, HS.out, Pl.txEq, hh]; rfl
      go_wp2_with fail
      go_quiet (fail)
      go_wp2
      go_quiet (fail)
      go_wp2
      go_ret
      exact ⟨Pl.ret_bool HE.out.symm, blw_drewN (blw_drewN HW.out _) _⟩
    · have HE : Hid (Pl.lessW A B = Pl.lessW (A.drop (k + 1)) (B.drop (k + 1))) := by show _ = _; rw [HI.out, HS.out, Pl.txEq, hh]; rfl
      go_wp2_with fail
      go_quiet (fail)
      go_wp2
      go_roundw
      case rel => exact ⟨k + 1, by omega, by omega, by go_num, blw_drewN HW.out _, HE.out⟩
      case measure => simp [intOf]; omega

set_option maxHeartbeats 4000000 in
theorem l39WordsS (A B : List ByteArray) (va vb : Value) (w : World) (hA : Raw w shTxs [.row A.length (txD A)] [va]) (hB : Raw w shTxs [.row B.length (txD B)] [vb]) :
    Calls Try.prog 54 #[va, vb] w fun e w' => e = .returned (.bool (Pl.wordsEq A B)) ∧ Below w.heap.size w w' := by
  have HA := uh hA
  have HB := uh hB
  obtain ⟨aa, ca, ea⟩ := hA.len0
  obtain ⟨ab, cb, eb⟩ := hB.len0
  subst ea; subst eb
  have HC := uh (l39LessS A B _ _ w hA hB)
  have HR : Hid (Pl.wordsEq A B = (!Pl.lessW A B && !Pl.lessW B A)) := rfl
  clear hA hB
  obtain ⟨l1, h1⟩ : ∃ l, l = Pl.lessW A B := ⟨_, rfl⟩
  rw [← h1] at HC HR
  clear h1
  go_enter Try.func54, Try.ntmps54
  go_wp2_with fail
  refine HC.out.mono ?_
  rintro e w1 ⟨rfl, hb1⟩
  cases l1
  rotate_left
  · go_wp2
    go_ret
    exact ⟨Pl.ret_bool (by rw [HR.out]; rfl), hb1⟩
  have HC2 := uh (l39LessS B A _ _ w1 (HB.out.later hb1) (HA.out.later hb1))
  go_wp2_with fail
  refine HC2.out.mono ?_
  rintro e w2 ⟨rfl, hb2⟩
  go_wp2
  go_ret
  exact ⟨Pl.ret_bool (by rw [HR.out]; simp), blw_trans hb1 hb2⟩

set_option maxHeartbeats 4000000 in
theorem l39LineLessS (kind : ByteArray) (x y : Pl.Ln) (a1 a2 : Option Addr) (c1 c2 : Nat) (w : World) (hA : Raw w shTxs [.row x.ws.length (txD x.ws)] [.slice a1 x.ws.length c1]) (hB : Raw w shTxs [.row y.ws.length (txD y.ws)] [.slice a2 y.ws.length c2]) :
    Calls Try.prog 52 #[.string kind, .agg #[.string x.key, .slice a1 x.ws.length c1], .agg #[.string y.key, .slice a2 y.ws.length c2]] w fun e w' => e = .returned (.bool (Pl.lineLess kind x y)) ∧ Below w.heap.size w w' := by
  obtain ⟨wa, hwa⟩ : ∃ wa, wa = (w.alloc (.cells #[.string x.key, .slice a1 x.ws.length c1] 69)).alloc (.cells #[.string y.key, .slice a2 y.ws.length c2] 69) := ⟨_, rfl⟩
  have HB0 : Hid (Below w.heap.size w wa) := by show Below _ _ _; rw [hwa]; exact blw_alloc (blw_alloc (Below.refl _ _) _) _
  have HX : Hid (LBox wa w.heap.size [.string x.key, .slice a1 x.ws.length c1]) := by show LBox _ _ _; rw [hwa]; exact (LBox.new w #[.string x.key, .slice a1 x.ws.length c1] _ _ rfl).past _
  have HY : Hid (LBox wa (w.heap.size + 1) [.string y.key, .slice a2 y.ws.length c2]) := by show LBox _ _ _; rw [hwa]; exact LBox.new (w.alloc (.cells #[.string x.key, .slice a1 x.ws.length c1] 69)) #[.string y.key, .slice a2 y.ws.length c2] _ _ (by simp)
  have HA := uh hA
  have HBB := uh hB
  have HCR := uh (fun (k : ByteArray) W => l38RuleS kind k W)
  have HR : Hid (Pl.lineLess kind x y = (decide (Pl.ruPos kind x.key < Pl.ruPos kind y.key) || ((Pl.ruPos kind x.key == Pl.ruPos kind y.key) && Pl.lessW x.ws y.ws))) := rfl
  clear hA hB
  go_enter Try.func52, Try.ntmps52
  go_upto_region 1 with fail
  rw [← hwa]
  clear hwa
  have x0 := HX.out.get 0 _ rfl
  have xl := HX.out.lt
  go_wp2_with fail
  refine (HCR.out x.key wa).mono ?_
  rintro e w1 ⟨rfl, hb1⟩
  have y0 := (HY.out.later hb1).get 0 _ rfl
  have yl := (HY.out.later hb1).lt
  clear x0 xl
  go_wp2_with fail
  refine (HCR.out y.key w1).mono ?_
  rintro e w2 ⟨rfl, hb2⟩
  have HB2 : Hid (Below wa.heap.size wa w2) := blw_trans hb1 hb2
  clear hb1 hb2 y0 yl HCR
  change Hid (_ = (decide (Pl.ixI (Pl.ruIx (Pl.rulesOf kind) x.key) < Pl.ixI (Pl.ruIx (Pl.rulesOf kind) y.key)) || ((Pl.ixI (Pl.ruIx (Pl.rulesOf kind) x.key) == Pl.ixI (Pl.ruIx (Pl.rulesOf kind) y.key)) && _))) at HR
  obtain ⟨i1, hi1⟩ : ∃ i, i = Pl.ixI (Pl.ruIx (Pl.rulesOf kind) x.key) := ⟨_, rfl⟩
  obtain ⟨i2, hi2⟩ : ∃ i, i = Pl.ixI (Pl.ruIx (Pl.rulesOf kind) y.key) := ⟨_, rfl⟩
  rw [← hi1, ← hi2] at HR ⊢
  clear hi1 hi2
  by_cases hlt : i1 < i2
  · go_wp2
    go_ret
    exact ⟨Pl.ret_bool (by rw [HR.out]; simp [hlt]), blw_trans HB0.out HB2.out⟩
  cases heq : (i1 == i2)
  · go_wp2
    go_ret
    exact ⟨Pl.ret_bool (by rw [HR.out, heq]; simp), blw_trans HB0.out HB2.out⟩
  have x1 := (HX.out.later HB2.out).get 1 _ rfl
  have xl := (HX.out.later HB2.out).lt
  have y1 := (HY.out.later HB2.out).get 1 _ rfl
  have yl := (HY.out.later HB2.out).lt
  have HC := uh (l39LessS x.ws y.ws _ _ w2 (HA.out.later (blw_trans HB0.out HB2.out)) (HBB.out.later (blw_trans HB0.out HB2.out)))
  go_wp2_with fail
  refine HC.out.mono ?_
  rintro e w3 ⟨rfl, hb3⟩
  go_wp2
  go_ret
  exact ⟨Pl.ret_bool (by rw [HR.out, heq]; simp), blw_trans (blw_trans HB0.out HB2.out) hb3⟩

end Go.Proofs.Ytojcopamegmeeaa
