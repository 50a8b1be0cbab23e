/-
  The law of StewApply: the region that asks for an answer.
-/
import Derived.Test.YtpamkibnahhphaaGreatDoorStP
import Derived.Test.YtpamkibnahhphaaGreatDoorMemAc
import Derived.Test.YtpamkibnahhphaaGreatDoorSaB
import Derived.Test.YtpamkibnahhphaaGreatDoorRegC
import Derived.Test.YtpamkibnahhphaaGreatDoorLet
import Derived.Test.YtpamkibnahhphaaGreatDoorMkSB
import Derived.Test.YtpamkibnahhphaaGreatDoorMkSv
namespace Go.Proofs.YtpamkibnahhphaaGreatDoor
open Go.RowKit Go.Deep

set_option maxHeartbeats 2000000 in
theorem eqSvsV (a a' : Option Addr) (c c' : Nat) (ms : List Sv) (w : World) (h : SvsV w a ms) (h' : SvsV w a' ms) :
    Calls Tryz.prog 30 #[.slice a ms.length c, .slice a' ms.length c'] w fun e w' => e = .returned (.bool true) ∧ Below w.heap.size w w' := by
  have hl := h.len
  unfold maxLen at hl
  have HH : Hid (SvsV w a ms ∧ SvsV w a' ms) := ⟨h, h'⟩
  clear h h'
  go_enter Tryz.func30, Tryz.ntmps30
  go_wp2
  go_loopw [5] (fun i wr => ∃ k : Nat, k ≤ ms.length ∧ i = .int .i64 k ∧ Below w.heap.size w wr) (fun i _ => ms.length - (intOf i).toNat)
  case atStart => exact ⟨0, Nat.zero_le _, rfl, Below.refl _ _⟩
  case round =>
    obtain ⟨k, hk, rfl, hW⟩ := hrel
    by_cases hlt : k < ms.length
    · obtain ⟨b, off, ha, hbl, q⟩ := (HH.out.1.later hW).at_ k hlt
      obtain ⟨b', off', ha', hbl', q'⟩ := (HH.out.2.later hW).at_ k hlt
      subst ha ha'
      obtain ⟨m, hm⟩ : ∃ m, m = ms.getD k Sv.none := ⟨_, rfl⟩
      rw [← hm] at q q'
      obtain ⟨c0, c1, c2, c3, c4, c5, c6, c7, c8, c9, c10, c11, c12, _⟩ := q
      obtain ⟨d0, d1, d2, d3, d4, d5, d6, d7, d8, d9, d10, d11, d12, _⟩ := q'
      have HX : Hid (∀ W, Below wr.heap.size wr W → Calls Tryz.prog 74 #[.agg #[.string m.nm, .int .i64 m.ver, .bool m.gone, .int .i64 m.image, .int .i64 m.want, .int .i64 m.down, .int .i64 m.over, .int .i64 m.next, .int .i64 m.per, .int .i64 m.least, .int .i64 m.most, .int .i64 m.load, .int .i64 m.cool], .agg #[.string m.nm, .int .i64 m.ver, .bool m.gone, .int .i64 m.image, .int .i64 m.want, .int .i64 m.down, .int .i64 m.over, .int .i64 m.next, .int .i64 m.per, .int .i64 m.least, .int .i64 m.most, .int .i64 m.load, .int .i64 m.cool]] W fun e w' => e = .returned (.bool true) ∧ Below W.heap.size W w') := fun W _ => eqSv m W
      clear hm
      go_wp2_with fail
      go_region_with (go_at_call 74; refine (HX.out _ ?_).mono ?_; (repeat (first | exact Below.refl _ _ | refine Below.drew ?_)); rintro e w2 ⟨rfl, hb2⟩)
      all_goals
        go_wp2
        go_roundw
        case rel =>
          refine ⟨k + 1, by omega, by go_num, ?_⟩
          repeat (first | exact blw_trans hW hb2 | exact blw_trans hW.drew hb2 | exact blw_trans hW.drew.drew hb2 | refine Below.drew ?_)
        case measure => simp [intOf]; omega
    · go_wp2
      go_ret
      exact ⟨rfl, hW⟩

set_option maxHeartbeats 2000000 in
theorem eqCpsV (a a' : Option Addr) (c c' : Nat) (ms : List Cp) (w : World) (h : CpsV w a ms) (h' : CpsV w a' ms) :
    Calls Tryz.prog 31 #[.slice a ms.length c, .slice a' ms.length c'] w fun e w' => e = .returned (.bool true) ∧ Below w.heap.size w w' := by
  have hl := h.len
  unfold maxLen at hl
  have HH : Hid (CpsV w a ms ∧ CpsV w a' ms) := ⟨h, h'⟩
  clear h h'
  go_enter Tryz.func31, Tryz.ntmps31
  go_wp2
  go_loopw [5] (fun i wr => ∃ k : Nat, k ≤ ms.length ∧ i = .int .i64 k ∧ Below w.heap.size w wr) (fun i _ => ms.length - (intOf i).toNat)
  case atStart => exact ⟨0, Nat.zero_le _, rfl, Below.refl _ _⟩
  case round =>
    obtain ⟨k, hk, rfl, hW⟩ := hrel
    by_cases hlt : k < ms.length
    · obtain ⟨b, off, ha, hbl, q⟩ := (HH.out.1.later hW).at_ k hlt
      obtain ⟨b', off', ha', hbl', q'⟩ := (HH.out.2.later hW).at_ k hlt
      subst ha ha'
      obtain ⟨m, hm⟩ : ∃ m, m = ms.getD k Cp.none := ⟨_, rfl⟩
      rw [← hm] at q q'
      obtain ⟨c0, c1, c2, c3, c4, c5, c6, _⟩ := q
      obtain ⟨d0, d1, d2, d3, d4, d5, d6, _⟩ := q'
      have HX : Hid (∀ W, Below wr.heap.size wr W → Calls Tryz.prog 75 #[.agg #[.string m.svc, .int .i64 m.num, .int .i64 m.ver, .int .i64 m.image, .int .i64 m.state, .bool m.ending, .string m.berth], .agg #[.string m.svc, .int .i64 m.num, .int .i64 m.ver, .int .i64 m.image, .int .i64 m.state, .bool m.ending, .string m.berth]] W fun e w' => e = .returned (.bool true) ∧ Below W.heap.size W w') := fun W _ => eqCp m W
      clear hm
      go_wp2_with fail
      go_region_with (go_at_call 75; refine (HX.out _ ?_).mono ?_; (repeat (first | exact Below.refl _ _ | refine Below.drew ?_)); rintro e w2 ⟨rfl, hb2⟩)
      all_goals
        go_wp2
        go_roundw
        case rel =>
          refine ⟨k + 1, by omega, by go_num, ?_⟩
          repeat (first | exact blw_trans hW hb2 | exact blw_trans hW.drew hb2 | exact blw_trans hW.drew.drew hb2 | refine Below.drew ?_)
        case measure => simp [intOf]; omega
    · go_wp2
      go_ret
      exact ⟨rfl, hW⟩

set_option maxHeartbeats 2000000 in
theorem eqBtsV (a a' : Option Addr) (c c' : Nat) (ms : List Bt) (w : World) (h : BtsV w a ms) (h' : BtsV w a' ms) :
    Calls Tryz.prog 32 #[.slice a ms.length c, .slice a' ms.length c'] w fun e w' => e = .returned (.bool true) ∧ Below w.heap.size w w' := by
  have hl := h.len
  unfold maxLen at hl
  have HH : Hid (BtsV w a ms ∧ BtsV w a' ms) := ⟨h, h'⟩
  clear h h'
  go_enter Tryz.func32, Tryz.ntmps32
  go_wp2
  go_loopw [5] (fun i wr => ∃ k : Nat, k ≤ ms.length ∧ i = .int .i64 k ∧ Below w.heap.size w wr) (fun i _ => ms.length - (intOf i).toNat)
  case atStart => exact ⟨0, Nat.zero_le _, rfl, Below.refl _ _⟩
  case round =>
    obtain ⟨k, hk, rfl, hW⟩ := hrel
    by_cases hlt : k < ms.length
    · obtain ⟨b, off, ha, hbl, q⟩ := (HH.out.1.later hW).at_ k hlt
      obtain ⟨b', off', ha', hbl', q'⟩ := (HH.out.2.later hW).at_ k hlt
      subst ha ha'
      obtain ⟨m, hm⟩ : ∃ m, m = ms.getD k Bt.none := ⟨_, rfl⟩
      rw [← hm] at q q'
      obtain ⟨c0, c1, _⟩ := q
      obtain ⟨d0, d1, _⟩ := q'
      have HX : Hid (∀ W, Below wr.heap.size wr W → Calls Tryz.prog 76 #[.agg #[.string m.nm, .bool m.drain], .agg #[.string m.nm, .bool m.drain]] W fun e w' => e = .returned (.bool true) ∧ Below W.heap.size W w') := fun W _ => eqBt m W
      clear hm
      go_wp2_with fail
      go_region_with (go_at_call 76; refine (HX.out _ ?_).mono ?_; (repeat (first | exact Below.refl _ _ | refine Below.drew ?_)); rintro e w2 ⟨rfl, hb2⟩)
      all_goals
        go_wp2
        go_roundw
        case rel =>
          refine ⟨k + 1, by omega, by go_num, ?_⟩
          repeat (first | exact blw_trans hW hb2 | exact blw_trans hW.drew hb2 | exact blw_trans hW.drew.drew hb2 | refine Below.drew ?_)
        case measure => simp [intOf]; omega
    · go_wp2
      go_ret
      exact ⟨rfl, hW⟩

set_option maxHeartbeats 4000000 in
theorem eqSBV (K : SBk) (b0 b1 b2 q0 q1 q2 : Option Addr) (c0 c1 c2 d0 d1 d2 : Nat) (w : World) (h : SBkV w b0 b1 b2 K) (h' : SBkV w q0 q1 q2 K) :
    Calls Tryz.prog 10 #[.agg #[.int .i64 K.now, .slice b0 K.svcs.length c0, .slice b1 K.cps.length c1, .slice b2 K.bts.length c2], .agg #[.int .i64 K.now, .slice q0 K.svcs.length d0, .slice q1 K.cps.length d1, .slice q2 K.bts.length d2]] w fun e w' => e = .returned (.bool true) ∧ Below w.heap.size w w' := by
  have HH : Hid (SBkV w b0 b1 b2 K ∧ SBkV w q0 q1 q2 K) := ⟨h, h'⟩
  clear h h'
  obtain ⟨wa, hwa⟩ : ∃ wa, wa = (w.alloc (.cells #[.int .i64 K.now, .slice b0 K.svcs.length c0, .slice b1 K.cps.length c1, .slice b2 K.bts.length c2] 36)).alloc (.cells #[.int .i64 K.now, .slice q0 K.svcs.length d0, .slice q1 K.cps.length d1, .slice q2 K.bts.length d2] 36) := ⟨_, rfl⟩
  have HBa : Hid (Below w.heap.size w wa) := by show Below _ _ _; rw [hwa]; exact blw_alloc (blw_alloc (Below.refl _ _) _) _
  have HXa : Hid (Box4 wa w.heap.size (.int .i64 K.now) (.slice b0 K.svcs.length c0) (.slice b1 K.cps.length c1) (.slice b2 K.bts.length c2) ∧ Box4 wa (w.heap.size + 1) (.int .i64 K.now) (.slice q0 K.svcs.length d0) (.slice q1 K.cps.length d1) (.slice q2 K.bts.length d2)) := by show _ ∧ _; rw [hwa]; exact ⟨(Box4.new' w _ _ _ _ _ _ rfl).past _, Box4.new' _ _ _ _ _ _ _ (by simp)⟩
  go_enter Tryz.func10, Tryz.ntmps10
  go_upto_region 1 with fail
  rw [← hwa]
  clear hwa
  obtain ⟨yz, y0, y1, y2, y3⟩ := HXa.out.1
  obtain ⟨xz, x0, x1, x2, x3⟩ := HXa.out.2
  go_wp2_with fail
  refine (eqSvsV b0 q0 c0 d0 K.svcs wa (HH.out.1.later HBa.out).s (HH.out.2.later HBa.out).s).mono ?_
  rintro e wb ⟨rfl, hb⟩
  have HBb : Hid (Below w.heap.size w wb) := blw_trans HBa.out hb
  have HXb : Hid (Box4 wb w.heap.size (.int .i64 K.now) (.slice b0 K.svcs.length c0) (.slice b1 K.cps.length c1) (.slice b2 K.bts.length c2) ∧ Box4 wb (w.heap.size + 1) (.int .i64 K.now) (.slice q0 K.svcs.length d0) (.slice q1 K.cps.length d1) (.slice q2 K.bts.length d2)) := ⟨HXa.out.1.later hb, HXa.out.2.later hb⟩
  clear hb yz y0 y1 y2 y3 xz x0 x1 x2 x3 HXa HBa
  obtain ⟨yz, y0, y1, y2, y3⟩ := HXb.out.1
  obtain ⟨xz, x0, x1, x2, x3⟩ := HXb.out.2
  go_wp2_with fail
  refine (eqCpsV b1 q1 c1 d1 K.cps wb (HH.out.1.later HBb.out).c (HH.out.2.later HBb.out).c).mono ?_
  rintro e wc ⟨rfl, hb⟩
  have HBc : Hid (Below w.heap.size w wc) := blw_trans HBb.out hb
  have HXc : Hid (Box4 wc w.heap.size (.int .i64 K.now) (.slice b0 K.svcs.length c0) (.slice b1 K.cps.length c1) (.slice b2 K.bts.length c2) ∧ Box4 wc (w.heap.size + 1) (.int .i64 K.now) (.slice q0 K.svcs.length d0) (.slice q1 K.cps.length d1) (.slice q2 K.bts.length d2)) := ⟨HXb.out.1.later hb, HXb.out.2.later hb⟩
  clear hb yz y0 y1 y2 y3 xz x0 x1 x2 x3 HXb HBb
  obtain ⟨yz, y0, y1, y2, y3⟩ := HXc.out.1
  obtain ⟨xz, x0, x1, x2, x3⟩ := HXc.out.2
  go_wp2_with fail
  refine (eqBtsV b2 q2 c2 d2 K.bts wc (HH.out.1.later HBc.out).b (HH.out.2.later HBc.out).b).mono ?_
  rintro e wd ⟨rfl, hb⟩
  have HBd : Hid (Below w.heap.size w wd) := blw_trans HBc.out hb
  have HXd : Hid (Box4 wd w.heap.size (.int .i64 K.now) (.slice b0 K.svcs.length c0) (.slice b1 K.cps.length c1) (.slice b2 K.bts.length c2) ∧ Box4 wd (w.heap.size + 1) (.int .i64 K.now) (.slice q0 K.svcs.length d0) (.slice q1 K.cps.length d1) (.slice q2 K.bts.length d2)) := ⟨HXc.out.1.later hb, HXc.out.2.later hb⟩
  clear hb yz y0 y1 y2 y3 xz x0 x1 x2 x3 HXc HBc
  go_wp2
  go_ret
  exact ⟨rfl, HBd.out⟩

end Go.Proofs.YtpamkibnahhphaaGreatDoor

namespace Go.Proofs.YtpamkibnahhphaaGreatDoor
open Go.RowKit Go.Deep

set_option maxRecDepth 8000 in
set_option maxHeartbeats 8000000 in
theorem markEns (b n c m k : Nat) (w : World) (hO : OwnBlk w b 96 m) (hn : n * 2 ≤ m) (hn2 : n ≤ 1048576) (hk : k ≤ 1000000000000) :
    Calls Tryz.prog 37 #[.slice (some ⟨b, 0, none⟩) n c, .int .i64 (k : Int)] w fun e w' => e = .returned (.int .i64 ((k + n * 2 : Nat) : Int)) ∧ Marks (fun p => p = b) w w' := by
  have HO : Hid (OwnBlk w b 96 m) := hO
  clear hO
  go_enter Tryz.func37, Tryz.ntmps37
  go_wp2
  go_loopw [1, 5] (fun kk i wr => ∃ q : Nat, q ≤ n ∧ i = .int .i64 (q : Int) ∧ kk = .int .i64 ((k + q * 2 : Nat) : Int) ∧ Marks (fun p => p = b) w wr) (fun _ i _ => n - (intOf i).toNat)
  case atStart => exact ⟨0, Nat.zero_le _, rfl, by simp, Marks.refl _ _⟩
  case round =>
    obtain ⟨q, hq, rfl, rfl, hM⟩ := hrel
    have HM : Hid (Marks (fun p => p = b) w wr) := hM
    clear hM
    by_cases hlt : q < n
    · obtain ⟨kq, hkq⟩ : ∃ kq : Nat, kq = k + q * 2 := ⟨_, rfl⟩
      rw [← hkq]
      have hkq2 : kq ≤ 1000000000000 + 1048576 * 2 := by omega
      have HK : Hid (kq = k + q * 2) := hkq
      have hm0 : (0 : Int) ≤ (q : Int) := by omega
      have hm3 : (q : Int) < (n : Int) := by omega
      clear hkq
      have HO0 : Hid (OwnBlk wr b 96 m) := HM.out.own b 96 m HO.out
      have HF : Hid (∀ W, W = (wr.setCell ⟨b, q * 2, none⟩ (.int .i64 (kq : Int))).setCell ⟨b, q * 2 + 1, none⟩ (.int .i64 ((kq : Int) + 1)) → Marks (fun p => p = b) w W) := by
        intro W hW
        have e : W = puts wr b (q * 2) 0 [.int .i64 (kq : Int), .int .i64 ((kq : Int) + 1)] := hW
        rw [e]
        exact HM.out.trans (Marks.puts (S := fun p => p = b) rfl _ _ _ _)
      have hfz := HO0.out.frozen
      have hbz := HO0.out.lt
      obtain ⟨u0, eu0⟩ := HO0.out.cell (q * 2) (by omega)
      obtain ⟨u1, eu1⟩ := HO0.out.cell (q * 2 + 1) (by omega)
      go_wp2
      go_roundw
      case rel => exact ⟨q + 1, by omega, by go_num, by rw [HK.out]; go_num, HF.out _ rfl⟩
      case measure => simp [intOf]; omega
    · obtain rfl : q = n := by omega
      go_wp2
      go_ret
      exact ⟨rfl, HM.out⟩

set_option maxHeartbeats 4000000 in
theorem markAc (X : Ac) (b k : Nat) (w : World) (h : EnsIn w b X.ends) (hk : k ≤ 1000000000000) :
    Calls Tryz.prog 13 #[.agg #[.string X.svc, .int .i64 X.seen, .int .i64 X.create, .int .i64 X.want, .int .i64 X.cool, .bool X.scale, .slice (some ⟨b, 0, none⟩) X.ends.length X.ends.length, .bool X.drop], .int .i64 (k : Int)] w fun e w' => e = .returned (.int .i64 ((k + X.ends.length * 2 : Nat) : Int)) ∧ Marks (fun p => p = b) w w' := by
  have hl := h.len
  have HH := hidA h
  clear h
  obtain ⟨wa, hwa⟩ : ∃ wa, wa = w.alloc (.cells #[.string X.svc, .int .i64 X.seen, .int .i64 X.create, .int .i64 X.want, .int .i64 X.cool, .bool X.scale, .slice (some ⟨b, 0, none⟩) X.ends.length X.ends.length, .bool X.drop] 42) := ⟨_, rfl⟩
  have HBa : Hid (Below w.heap.size w wa) := by show Below _ _ _; rw [hwa]; exact blw_alloc (Below.refl _ _) _
  have HXa : Hid (BoxA wa w.heap.size (.string X.svc) (.int .i64 X.seen) (.int .i64 X.create) (.int .i64 X.want) (.int .i64 X.cool) (.bool X.scale) (.slice (some ⟨b, 0, none⟩) X.ends.length X.ends.length) (.bool X.drop)) := by show BoxA _ _ _ _ _ _ _ _ _ _ ; rw [hwa]; exact BoxA.new' w _ _ _ _ _ _ _ _ _ _ rfl
  go_enter Tryz.func13, Tryz.ntmps13
  go_upto_region 1 with fail
  rw [← hwa]
  clear hwa
  obtain ⟨yz, y0, y1, y2, y3, y4, y5, y6, y7⟩ := HXa.out
  go_wp2_with fail
  refine (markEns b X.ends.length X.ends.length (X.ends.length * 2) k wa (HH.out.later HBa.out).own (Nat.le_refl _) hl hk).mono ?_
  rintro e wb ⟨rfl, hM⟩
  have HM := hidA hM
  clear hM yz y0 y1 y2 y3 y4 y5 y6 y7
  go_wp2
  go_ret
  exact ⟨rfl, (Marks.of_below _ HBa.out).trans HM.out⟩

end Go.Proofs.YtpamkibnahhphaaGreatDoor

namespace Go.Proofs.YtpamkibnahhphaaGreatDoor
open Go.RowKit Go.Deep

/-- What stands while 'g0, g1 := f(to(b), to(a))' comes up in any order. -/
structure LT (w0 : World) (K : SBk) (X : Ac) (R : SBk) (C : Int) (up : Nat → Bool) (vals : Nat → Value) (W : World) : Prop where
  bel : Below w0.heap.size w0 W
  t1 : up 1 = true → up 4 = false → ∃ b0 b1 b2, vals 1 = .agg #[.int .i64 K.now, .slice (some ⟨b0, 0, none⟩) K.svcs.length K.svcs.length, .slice (some ⟨b1, 0, none⟩) K.cps.length K.cps.length, .slice (some ⟨b2, 0, none⟩) K.bts.length K.bts.length] ∧ SBkIn W b0 b1 b2 K
  t3 : up 3 = true → up 4 = false → ∃ b, vals 3 = .agg #[.string X.svc, .int .i64 X.seen, .int .i64 X.create, .int .i64 X.want, .int .i64 X.cool, .bool X.scale, .slice (some ⟨b, 0, none⟩) X.ends.length X.ends.length, .bool X.drop] ∧ EnsIn W b X.ends
  t4 : up 4 = true → ∃ s0 s1 s2, vals 4 = .tuple #[.agg #[.int .i64 R.now, s0, s1, s2], .int .i64 C] ∧ BkOwn W w0.heap.size R s0 s1 s2 ∧ (up 9 = true → ∀ p, vals 8 = .pointer (some ⟨p, 0, none⟩) → Box4 W p (.int .i64 R.now) s0 s1 s2)
  t5 : up 5 = true → vals 5 = vals 4
  t6 : up 6 = true → ∃ s0 s1 s2, vals 4 = .tuple #[.agg #[.int .i64 R.now, s0, s1, s2], .int .i64 C] ∧ vals 6 = .agg #[.int .i64 R.now, s0, s1, s2]
  t8 : up 8 = true → ∃ p, vals 8 = .pointer (some ⟨p, 0, none⟩) ∧ w0.heap.size ≤ p ∧ OwnBlk W p 36 4

theorem LT.put {w0 : World} {K : SBk} {X : Ac} {R : SBk} {C : Int} {up : Nat → Bool} {vals : Nat → Value} {W : World} (h : LT w0 K X R C up vals W) (i : Nat) (u : Value) (W' : World) (hb : Below W.heap.size W W')
    (hi : up i = false) (c54 : up 5 = true → up 4 = true) (c64 : up 6 = true → up 4 = true) (c98 : up 9 = true → up 8 = true) (c94 : up 9 = true → up 4 = true) (i9 : i ≠ 9)
    (n1 : i = 1 → ∃ b0 b1 b2, u = .agg #[.int .i64 K.now, .slice (some ⟨b0, 0, none⟩) K.svcs.length K.svcs.length, .slice (some ⟨b1, 0, none⟩) K.cps.length K.cps.length, .slice (some ⟨b2, 0, none⟩) K.bts.length K.bts.length] ∧ SBkIn W' b0 b1 b2 K) (n3 : i = 3 → ∃ b, u = .agg #[.string X.svc, .int .i64 X.seen, .int .i64 X.create, .int .i64 X.want, .int .i64 X.cool, .bool X.scale, .slice (some ⟨b, 0, none⟩) X.ends.length X.ends.length, .bool X.drop] ∧ EnsIn W' b X.ends)
    (n4 : i = 4 → ∃ s0 s1 s2, u = .tuple #[.agg #[.int .i64 R.now, s0, s1, s2], .int .i64 C] ∧ BkOwn W' w0.heap.size R s0 s1 s2) (n5 : i = 5 → u = vals 4) (n6 : i = 6 → ∃ s0 s1 s2, vals 4 = .tuple #[.agg #[.int .i64 R.now, s0, s1, s2], .int .i64 C] ∧ u = .agg #[.int .i64 R.now, s0, s1, s2])
    (n8 : i = 8 → ∃ p, u = .pointer (some ⟨p, 0, none⟩) ∧ w0.heap.size ≤ p ∧ OwnBlk W' p 36 4) :
    LT w0 K X R C (fun j => (j == i) || up j) (fun j => if j = i then u else vals j) W' := by
  have upo : ∀ q, ((q == i) || up q) = true → q ≠ i → up q = true := fun q h1 h2 => by
    rw [show (q == i) = false from by simpa using h2] at h1; exact h1
  have upf : ∀ q, ((q == i) || up q) = false → q ≠ i ∧ up q = false := fun q h1 => by
    rw [Bool.or_eq_false_iff] at h1; exact ⟨by simpa using h1.1, h1.2⟩
  have off : ∀ q, up q = true → q ≠ i := fun q h1 e => by rw [e, hi] at h1; cases h1
  constructor
  · exact blw_trans h.bel hb
  · intro h1 h2
    obtain ⟨_, f4⟩ := upf 4 h2
    by_cases e : 1 = i
    · show ∃ b0 b1 b2, (if 1 = i then u else vals 1) = _ ∧ _
      rw [if_pos e]; exact n1 e.symm
    · obtain ⟨b0, b1, b2, ev, hk⟩ := h.t1 (upo 1 h1 e) f4
      exact ⟨b0, b1, b2, (if_neg e).trans ev, hk.later hb⟩
  · intro h1 h2
    obtain ⟨_, f4⟩ := upf 4 h2
    by_cases e : 3 = i
    · show ∃ b, (if 3 = i then u else vals 3) = _ ∧ _
      rw [if_pos e]; exact n3 e.symm
    · obtain ⟨b, ev, hk⟩ := h.t3 (upo 3 h1 e) f4
      exact ⟨b, (if_neg e).trans ev, hk.later hb⟩
  · intro h1
    by_cases e : 4 = i
    · obtain ⟨s0, s1, s2, eu, ho⟩ := n4 e.symm
      refine ⟨s0, s1, s2, (if_pos e).trans eu, ho, fun h9 => ?_⟩
      have := c94 (upo 9 h9 (fun e' => i9 e'.symm))
      rw [e, hi] at this; cases this
    · obtain ⟨s0, s1, s2, ev, ho, hx⟩ := h.t4 (upo 4 h1 e)
      refine ⟨s0, s1, s2, (if_neg e).trans ev, ho.later hb, fun h9 p hp => ?_⟩
      have u9 := upo 9 h9 (fun e' => i9 e'.symm)
      have e8 : (if 8 = i then u else vals 8) = vals 8 := if_neg (off 8 (c98 u9))
      exact (hx u9 p (e8.symm.trans hp)).later hb
  · intro h1
    by_cases e : 5 = i
    · have e4 : (4 : Nat) ≠ i := by omega
      show (if 5 = i then u else vals 5) = (if 4 = i then u else vals 4)
      rw [if_pos e, if_neg e4]; exact n5 e.symm
    · have u5 := upo 5 h1 e
      have e4 := off 4 (c54 u5)
      show (if 5 = i then u else vals 5) = (if 4 = i then u else vals 4)
      rw [if_neg e, if_neg e4]; exact h.t5 u5
  · intro h1
    by_cases e : 6 = i
    · have e4 : (4 : Nat) ≠ i := by omega
      obtain ⟨s0, s1, s2, q1, q2⟩ := n6 e.symm
      exact ⟨s0, s1, s2, (if_neg e4).trans q1, (if_pos e).trans q2⟩
    · have u6 := upo 6 h1 e
      have e4 := off 4 (c64 u6)
      obtain ⟨s0, s1, s2, q1, q2⟩ := h.t6 u6
      exact ⟨s0, s1, s2, (if_neg e4).trans q1, (if_neg e).trans q2⟩
  · intro h1
    by_cases e : 8 = i
    · obtain ⟨p, q1, q2, q3⟩ := n8 e.symm
      exact ⟨p, (if_pos e).trans q1, q2, q3⟩
    · obtain ⟨p, q1, q2, q3⟩ := h.t8 (upo 8 h1 e)
      exact ⟨p, (if_neg e).trans q1, q2, q3.later hb⟩
/-- The store. -/
theorem LT.st {w0 : World} {K : SBk} {X : Ac} {R : SBk} {C : Int} {up : Nat → Bool} {vals : Nat → Value} {W : World} (h : LT w0 K X R C up vals W) (u4 : up 4 = true) {p : Nat} {s0 s1 s2 : Value} (e4 : vals 4 = .tuple #[.agg #[.int .i64 R.now, s0, s1, s2], .int .i64 C]) (e8 : vals 8 = .pointer (some ⟨p, 0, none⟩)) (hp : w0.heap.size ≤ p) (ho : OwnBlk W p 36 4) :
    LT w0 K X R C (fun j => (j == 9) || up j) vals (W.setCells p 0 [.int .i64 R.now, s0, s1, s2]) := by
  have f4 : ∀ {Y : Prop}, ((4 == 9) || up 4) = false → Y := fun h => by rw [u4] at h; cases h
  obtain ⟨cs, hc, hs⟩ := ho
  refine ⟨RY.below_setCells hp _ 0 W h.bel, fun _ h4 => f4 h4, fun _ h4 => f4 h4, fun _ => ?_, h.t5, h.t6, fun h8 => ?_⟩
  · obtain ⟨r0, r1, r2, e, hbk, _⟩ := h.t4 u4
    obtain ⟨rfl, rfl, rfl⟩ : s0 = r0 ∧ s1 = r1 ∧ s2 = r2 := by
      have := e4.symm.trans e
      simpa using this
    refine ⟨s0, s1, s2, e4, ?_, fun _ p' hp' => ?_⟩
    · simp only [World.setCells]
      have c1 := heap_setCell_same W p 0 _ _ (.int .i64 R.now) hc
      have c2 := heap_setCell_same _ p 1 _ _ s0 c1
      have c3 := heap_setCell_same _ p 2 _ _ s1 c2
      exact (((hbk.sc hc 0 _).sc c1 1 _).sc c2 2 _).sc c3 3 _
    · obtain rfl : p = p' := by
        have := e8.symm.trans hp'
        simpa using this
      have hth : W.there p 0 4 := RY.own_there ⟨cs, hc, hs⟩
      have hr := World.rangeAt_setCells_same W p 0 [.int .i64 R.now, s0, s1, s2] hth
      have hl : p < (W.setCells p 0 [.int .i64 R.now, s0, s1, s2]).heap.size := (RY.own_setCells _ 0 W ⟨cs, hc, hs⟩).lt
      exact ⟨hl, hr 0 _ rfl, hr 1 _ rfl, hr 2 _ rfl, hr 3 _ rfl⟩
  · obtain ⟨q, q1, q2, q3⟩ := h.t8 (by simpa using h8)
    exact ⟨q, q1, q2, by
      obtain rfl : p = q := by
        have := e8.symm.trans q1
        simpa using this
      exact RY.own_setCells _ 0 W q3⟩

end Go.Proofs.YtpamkibnahhphaaGreatDoor
