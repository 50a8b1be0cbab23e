/-
  A law whose answer is a book and a code: what stands while it is asked for; marks.
-/
import Derived.Test.YtclagbakddkjcaaGreatStP
import Derived.Test.YtclagbakddkjcaaGreatSeP
import Derived.Test.YtclagbakddkjcaaGreatMkSB
import Derived.Test.YtclagbakddkjcaaGreatSeO
import Derived.Test.YtclagbakddkjcaaGreatAp
namespace Go.Proofs.YtclagbakddkjcaaGreat
open Go.RowKit Go.Deep

set_option maxHeartbeats 2000000 in
theorem eqSvsV (a a' : Option Addr) (c c' : Nat) (ms : List Sv) (w : World) (h : SvsV w a ms) (h' : SvsV w a' ms) :
    Calls Tryz.prog 29 #[.slice a ms.length c, .slice a' ms.length c'] w fun e w' => e = .returned (.bool true) ∧ Below w.heap.size w w' := by
  have hl := h.len
  unfold maxLen at hl
  have HH : Hid (SvsV w a ms ∧ SvsV w a' ms) := ⟨h, h'⟩
  clear h h'
  go_enter Tryz.func29, Tryz.ntmps29
  go_wp2
  go_loopw [5] (fun i wr => ∃ k : Nat, k ≤ ms.length ∧ i = .int .i64 k ∧ Below w.heap.size w wr) (fun i _ => ms.length - (intOf i).toNat)
  case atStart => exact ⟨0, Nat.zero_le _, rfl, Below.refl _ _⟩
  case round =>
    obtain ⟨k, hk, rfl, hW⟩ := hrel
    by_cases hlt : k < ms.length
    · obtain ⟨b, off, ha, hbl, q⟩ := (HH.out.1.later hW).at_ k hlt
      obtain ⟨b', off', ha', hbl', q'⟩ := (HH.out.2.later hW).at_ k hlt
      subst ha ha'
      obtain ⟨m, hm⟩ : ∃ m, m = ms.getD k Sv.none := ⟨_, rfl⟩
      rw [← hm] at q q'
      obtain ⟨c0, c1, c2, c3, c4, c5, c6, c7, c8, c9, c10, c11, c12, _⟩ := q
      obtain ⟨d0, d1, d2, d3, d4, d5, d6, d7, d8, d9, d10, d11, d12, _⟩ := q'
      have HX : Hid (∀ W, Below wr.heap.size wr W → Calls Tryz.prog 62 #[.agg #[.string m.nm, .int .i64 m.ver, .bool m.gone, .int .i64 m.image, .int .i64 m.want, .int .i64 m.down, .int .i64 m.over, .int .i64 m.next, .int .i64 m.per, .int .i64 m.least, .int .i64 m.most, .int .i64 m.load, .int .i64 m.cool], .agg #[.string m.nm, .int .i64 m.ver, .bool m.gone, .int .i64 m.image, .int .i64 m.want, .int .i64 m.down, .int .i64 m.over, .int .i64 m.next, .int .i64 m.per, .int .i64 m.least, .int .i64 m.most, .int .i64 m.load, .int .i64 m.cool]] W fun e w' => e = .returned (.bool true) ∧ Below W.heap.size W w') := fun W _ => eqSv m W
      clear hm
      go_wp2_with fail
      go_region_with (go_at_call 62; refine (HX.out _ ?_).mono ?_; (repeat (first | exact Below.refl _ _ | refine Below.drew ?_)); rintro e w2 ⟨rfl, hb2⟩)
      all_goals
        go_wp2
        go_roundw
        case rel =>
          refine ⟨k + 1, by omega, by go_num, ?_⟩
          repeat (first | exact blw_trans hW hb2 | exact blw_trans hW.drew hb2 | exact blw_trans hW.drew.drew hb2 | refine Below.drew ?_)
        case measure => simp [intOf]; omega
    · go_wp2
      go_ret
      exact ⟨rfl, hW⟩

set_option maxHeartbeats 2000000 in
theorem eqCpsV (a a' : Option Addr) (c c' : Nat) (ms : List Cp) (w : World) (h : CpsV w a ms) (h' : CpsV w a' ms) :
    Calls Tryz.prog 30 #[.slice a ms.length c, .slice a' ms.length c'] w fun e w' => e = .returned (.bool true) ∧ Below w.heap.size w w' := by
  have hl := h.len
  unfold maxLen at hl
  have HH : Hid (CpsV w a ms ∧ CpsV w a' ms) := ⟨h, h'⟩
  clear h h'
  go_enter Tryz.func30, Tryz.ntmps30
  go_wp2
  go_loopw [5] (fun i wr => ∃ k : Nat, k ≤ ms.length ∧ i = .int .i64 k ∧ Below w.heap.size w wr) (fun i _ => ms.length - (intOf i).toNat)
  case atStart => exact ⟨0, Nat.zero_le _, rfl, Below.refl _ _⟩
  case round =>
    obtain ⟨k, hk, rfl, hW⟩ := hrel
    by_cases hlt : k < ms.length
    · obtain ⟨b, off, ha, hbl, q⟩ := (HH.out.1.later hW).at_ k hlt
      obtain ⟨b', off', ha', hbl', q'⟩ := (HH.out.2.later hW).at_ k hlt
      subst ha ha'
      obtain ⟨m, hm⟩ : ∃ m, m = ms.getD k Cp.none := ⟨_, rfl⟩
      rw [← hm] at q q'
      obtain ⟨c0, c1, c2, c3, c4, c5, c6, _⟩ := q
      obtain ⟨d0, d1, d2, d3, d4, d5, d6, _⟩ := q'
      have HX : Hid (∀ W, Below wr.heap.size wr W → Calls Tryz.prog 63 #[.agg #[.string m.svc, .int .i64 m.num, .int .i64 m.ver, .int .i64 m.image, .int .i64 m.state, .bool m.ending, .string m.berth], .agg #[.string m.svc, .int .i64 m.num, .int .i64 m.ver, .int .i64 m.image, .int .i64 m.state, .bool m.ending, .string m.berth]] W fun e w' => e = .returned (.bool true) ∧ Below W.heap.size W w') := fun W _ => eqCp m W
      clear hm
      go_wp2_with fail
      go_region_with (go_at_call 63; refine (HX.out _ ?_).mono ?_; (repeat (first | exact Below.refl _ _ | refine Below.drew ?_)); rintro e w2 ⟨rfl, hb2⟩)
      all_goals
        go_wp2
        go_roundw
        case rel =>
          refine ⟨k + 1, by omega, by go_num, ?_⟩
          repeat (first | exact blw_trans hW hb2 | exact blw_trans hW.drew hb2 | exact blw_trans hW.drew.drew hb2 | refine Below.drew ?_)
        case measure => simp [intOf]; omega
    · go_wp2
      go_ret
      exact ⟨rfl, hW⟩

set_option maxHeartbeats 2000000 in
theorem eqBtsV (a a' : Option Addr) (c c' : Nat) (ms : List Bt) (w : World) (h : BtsV w a ms) (h' : BtsV w a' ms) :
    Calls Tryz.prog 31 #[.slice a ms.length c, .slice a' ms.length c'] w fun e w' => e = .returned (.bool true) ∧ Below w.heap.size w w' := by
  have hl := h.len
  unfold maxLen at hl
  have HH : Hid (BtsV w a ms ∧ BtsV w a' ms) := ⟨h, h'⟩
  clear h h'
  go_enter Tryz.func31, Tryz.ntmps31
  go_wp2
  go_loopw [5] (fun i wr => ∃ k : Nat, k ≤ ms.length ∧ i = .int .i64 k ∧ Below w.heap.size w wr) (fun i _ => ms.length - (intOf i).toNat)
  case atStart => exact ⟨0, Nat.zero_le _, rfl, Below.refl _ _⟩
  case round =>
    obtain ⟨k, hk, rfl, hW⟩ := hrel
    by_cases hlt : k < ms.length
    · obtain ⟨b, off, ha, hbl, q⟩ := (HH.out.1.later hW).at_ k hlt
      obtain ⟨b', off', ha', hbl', q'⟩ := (HH.out.2.later hW).at_ k hlt
      subst ha ha'
      obtain ⟨m, hm⟩ : ∃ m, m = ms.getD k Bt.none := ⟨_, rfl⟩
      rw [← hm] at q q'
      obtain ⟨c0, c1, _⟩ := q
      obtain ⟨d0, d1, _⟩ := q'
      have HX : Hid (∀ W, Below wr.heap.size wr W → Calls Tryz.prog 64 #[.agg #[.string m.nm, .bool m.drain], .agg #[.string m.nm, .bool m.drain]] W fun e w' => e = .returned (.bool true) ∧ Below W.heap.size W w') := fun W _ => eqBt m W
      clear hm
      go_wp2_with fail
      go_region_with (go_at_call 64; refine (HX.out _ ?_).mono ?_; (repeat (first | exact Below.refl _ _ | refine Below.drew ?_)); rintro e w2 ⟨rfl, hb2⟩)
      all_goals
        go_wp2
        go_roundw
        case rel =>
          refine ⟨k + 1, by omega, by go_num, ?_⟩
          repeat (first | exact blw_trans hW hb2 | exact blw_trans hW.drew hb2 | exact blw_trans hW.drew.drew hb2 | refine Below.drew ?_)
        case measure => simp [intOf]; omega
    · go_wp2
      go_ret
      exact ⟨rfl, hW⟩

set_option maxHeartbeats 4000000 in
theorem eqSBV (K : SBk) (b0 b1 b2 q0 q1 q2 : Option Addr) (c0 c1 c2 d0 d1 d2 : Nat) (w : World) (h : SBkV w b0 b1 b2 K) (h' : SBkV w q0 q1 q2 K) :
    Calls Tryz.prog 10 #[.agg #[.int .i64 K.now, .slice b0 K.svcs.length c0, .slice b1 K.cps.length c1, .slice b2 K.bts.length c2], .agg #[.int .i64 K.now, .slice q0 K.svcs.length d0, .slice q1 K.cps.length d1, .slice q2 K.bts.length d2]] w fun e w' => e = .returned (.bool true) ∧ Below w.heap.size w w' := by
  have HH : Hid (SBkV w b0 b1 b2 K ∧ SBkV w q0 q1 q2 K) := ⟨h, h'⟩
  clear h h'
  obtain ⟨wa, hwa⟩ : ∃ wa, wa = (w.alloc (.cells #[.int .i64 K.now, .slice b0 K.svcs.length c0, .slice b1 K.cps.length c1, .slice b2 K.bts.length c2] 37)).alloc (.cells #[.int .i64 K.now, .slice q0 K.svcs.length d0, .slice q1 K.cps.length d1, .slice q2 K.bts.length d2] 37) := ⟨_, rfl⟩
  have HBa : Hid (Below w.heap.size w wa) := by show Below _ _ _; rw [hwa]; exact blw_alloc (blw_alloc (Below.refl _ _) _) _
  have HXa : Hid (Box4 wa w.heap.size (.int .i64 K.now) (.slice b0 K.svcs.length c0) (.slice b1 K.cps.length c1) (.slice b2 K.bts.length c2) ∧ Box4 wa (w.heap.size + 1) (.int .i64 K.now) (.slice q0 K.svcs.length d0) (.slice q1 K.cps.length d1) (.slice q2 K.bts.length d2)) := by show _ ∧ _; rw [hwa]; exact ⟨(Box4.new' w _ _ _ _ _ _ rfl).past _, Box4.new' _ _ _ _ _ _ _ (by simp)⟩
  go_enter Tryz.func10, Tryz.ntmps10
  go_upto_region 1 with fail
  rw [← hwa]
  clear hwa
  obtain ⟨yz, y0, y1, y2, y3⟩ := HXa.out.1
  obtain ⟨xz, x0, x1, x2, x3⟩ := HXa.out.2
  go_wp2_with fail
  refine (eqSvsV b0 q0 c0 d0 K.svcs wa (HH.out.1.later HBa.out).s (HH.out.2.later HBa.out).s).mono ?_
  rintro e wb ⟨rfl, hb⟩
  have HBb : Hid (Below w.heap.size w wb) := blw_trans HBa.out hb
  have HXb : Hid (Box4 wb w.heap.size (.int .i64 K.now) (.slice b0 K.svcs.length c0) (.slice b1 K.cps.length c1) (.slice b2 K.bts.length c2) ∧ Box4 wb (w.heap.size + 1) (.int .i64 K.now) (.slice q0 K.svcs.length d0) (.slice q1 K.cps.length d1) (.slice q2 K.bts.length d2)) := ⟨HXa.out.1.later hb, HXa.out.2.later hb⟩
  clear hb yz y0 y1 y2 y3 xz x0 x1 x2 x3 HXa HBa
  obtain ⟨yz, y0, y1, y2, y3⟩ := HXb.out.1
  obtain ⟨xz, x0, x1, x2, x3⟩ := HXb.out.2
  go_wp2_with fail
  refine (eqCpsV b1 q1 c1 d1 K.cps wb (HH.out.1.later HBb.out).c (HH.out.2.later HBb.out).c).mono ?_
  rintro e wc ⟨rfl, hb⟩
  have HBc : Hid (Below w.heap.size w wc) := blw_trans HBb.out hb
  have HXc : Hid (Box4 wc w.heap.size (.int .i64 K.now) (.slice b0 K.svcs.length c0) (.slice b1 K.cps.length c1) (.slice b2 K.bts.length c2) ∧ Box4 wc (w.heap.size + 1) (.int .i64 K.now) (.slice q0 K.svcs.length d0) (.slice q1 K.cps.length d1) (.slice q2 K.bts.length d2)) := ⟨HXb.out.1.later hb, HXb.out.2.later hb⟩
  clear hb yz y0 y1 y2 y3 xz x0 x1 x2 x3 HXb HBb
  obtain ⟨yz, y0, y1, y2, y3⟩ := HXc.out.1
  obtain ⟨xz, x0, x1, x2, x3⟩ := HXc.out.2
  go_wp2_with fail
  refine (eqBtsV b2 q2 c2 d2 K.bts wc (HH.out.1.later HBc.out).b (HH.out.2.later HBc.out).b).mono ?_
  rintro e wd ⟨rfl, hb⟩
  have HBd : Hid (Below w.heap.size w wd) := blw_trans HBc.out hb
  have HXd : Hid (Box4 wd w.heap.size (.int .i64 K.now) (.slice b0 K.svcs.length c0) (.slice b1 K.cps.length c1) (.slice b2 K.bts.length c2) ∧ Box4 wd (w.heap.size + 1) (.int .i64 K.now) (.slice q0 K.svcs.length d0) (.slice q1 K.cps.length d1) (.slice q2 K.bts.length d2)) := ⟨HXc.out.1.later hb, HXc.out.2.later hb⟩
  clear hb yz y0 y1 y2 y3 xz x0 x1 x2 x3 HXc HBc
  go_wp2
  go_ret
  exact ⟨rfl, HBd.out⟩

end Go.Proofs.YtclagbakddkjcaaGreat

namespace Go.Proofs.YtclagbakddkjcaaGreat
open Go.RowKit Go.Deep

structure LS (w0 : World) (K R : SBk) (C : Int) (tb c m x a s : Nat) (up : Nat → Bool) (vals : Nat → Value) (W : World) : Prop where
  bel : Below w0.heap.size w0 W
  t1 : up tb = true → up c = false → ∃ b0 b1 b2, vals tb = .agg #[.int .i64 K.now, .slice (some ⟨b0, 0, none⟩) K.svcs.length K.svcs.length, .slice (some ⟨b1, 0, none⟩) K.cps.length K.cps.length, .slice (some ⟨b2, 0, none⟩) K.bts.length K.bts.length] ∧ SBkIn W b0 b1 b2 K
  t4 : up c = true → ∃ s0 s1 s2, vals c = .tuple #[.agg #[.int .i64 R.now, s0, s1, s2], .int .i64 C] ∧ BkOwn W w0.heap.size R s0 s1 s2 ∧ (up s = true → ∀ p, vals a = .pointer (some ⟨p, 0, none⟩) → Box4 W p (.int .i64 R.now) s0 s1 s2)
  t5 : up m = true → vals m = vals c
  t6 : up x = true → ∃ s0 s1 s2, vals c = .tuple #[.agg #[.int .i64 R.now, s0, s1, s2], .int .i64 C] ∧ vals x = .agg #[.int .i64 R.now, s0, s1, s2]
  t8 : up a = true → ∃ p, vals a = .pointer (some ⟨p, 0, none⟩) ∧ w0.heap.size ≤ p ∧ OwnBlk W p 37 4
/-- How the operations hang together. -/
structure LC (c m x a s : Nat) (up : Nat → Bool) : Prop where
  c54 : up m = true → up c = true
  c64 : up x = true → up c = true
  c98 : up s = true → up a = true
  c94 : up s = true → up c = true
theorem LS.put {w0 : World} {K R : SBk} {C : Int} {tb c m x a s : Nat} {up : Nat → Bool} {vals : Nat → Value} {W : World} (h : LS w0 K R C tb c m x a s up vals W) (i : Nat) (u : Value) (W' : World) (hb : Below W.heap.size W W')
    (hi : up i = false) (hc : LC c m x a s up) (hmc : m ≠ c) (hxc : x ≠ c) (i9 : i ≠ s)
    (n1 : i = tb → ∃ b0 b1 b2, u = .agg #[.int .i64 K.now, .slice (some ⟨b0, 0, none⟩) K.svcs.length K.svcs.length, .slice (some ⟨b1, 0, none⟩) K.cps.length K.cps.length, .slice (some ⟨b2, 0, none⟩) K.bts.length K.bts.length] ∧ SBkIn W' b0 b1 b2 K)
    (n4 : i = c → ∃ s0 s1 s2, u = .tuple #[.agg #[.int .i64 R.now, s0, s1, s2], .int .i64 C] ∧ BkOwn W' w0.heap.size R s0 s1 s2) (n5 : i = m → u = vals c) (n6 : i = x → ∃ s0 s1 s2, vals c = .tuple #[.agg #[.int .i64 R.now, s0, s1, s2], .int .i64 C] ∧ u = .agg #[.int .i64 R.now, s0, s1, s2])
    (n8 : i = a → ∃ p, u = .pointer (some ⟨p, 0, none⟩) ∧ w0.heap.size ≤ p ∧ OwnBlk W' p 37 4) :
    LS w0 K R C tb c m x a s (fun j => (j == i) || up j) (fun j => if j = i then u else vals j) W' := by
  have upo : ∀ q, ((q == i) || up q) = true → q ≠ i → up q = true := fun q h1 h2 => by
    rw [show (q == i) = false from by simpa using h2] at h1; exact h1
  have upf : ∀ q, ((q == i) || up q) = false → q ≠ i ∧ up q = false := fun q h1 => by
    rw [Bool.or_eq_false_iff] at h1; exact ⟨by simpa using h1.1, h1.2⟩
  have off : ∀ q, up q = true → q ≠ i := fun q h1 e => by rw [e, hi] at h1; cases h1
  constructor
  · exact blw_trans h.bel hb
  · intro h1 h2
    obtain ⟨_, f4⟩ := upf c h2
    by_cases e : tb = i
    · show ∃ b0 b1 b2, (if tb = i then u else vals tb) = _ ∧ _
      rw [if_pos e]; exact n1 e.symm
    · obtain ⟨b0, b1, b2, ev, hk⟩ := h.t1 (upo tb h1 e) f4
      exact ⟨b0, b1, b2, (if_neg e).trans ev, hk.later hb⟩
  · intro h1
    by_cases e : c = i
    · obtain ⟨s0, s1, s2, eu, ho⟩ := n4 e.symm
      refine ⟨s0, s1, s2, (if_pos e).trans eu, ho, fun h9 => ?_⟩
      have := hc.c94 (upo s h9 (fun e' => i9 e'.symm))
      rw [e, hi] at this; cases this
    · obtain ⟨s0, s1, s2, ev, ho, hx⟩ := h.t4 (upo c h1 e)
      refine ⟨s0, s1, s2, (if_neg e).trans ev, ho.later hb, fun h9 p hp => ?_⟩
      have u9 := upo s h9 (fun e' => i9 e'.symm)
      have e8 : (if a = i then u else vals a) = vals a := if_neg (off a (hc.c98 u9))
      exact (hx u9 p (e8.symm.trans hp)).later hb
  · intro h1
    show (if m = i then u else vals m) = (if c = i then u else vals c)
    by_cases e : m = i
    · have e4 : c ≠ i := fun q => hmc (e.trans q.symm)
      rw [if_pos e, if_neg e4]; exact n5 e.symm
    · have u5 := upo m h1 e
      have e4 := off c (hc.c54 u5)
      rw [if_neg e, if_neg e4]; exact h.t5 u5
  · intro h1
    by_cases e : x = i
    · have e4 : c ≠ i := fun q => hxc (e.trans q.symm)
      obtain ⟨s0, s1, s2, q1, q2⟩ := n6 e.symm
      exact ⟨s0, s1, s2, (if_neg e4).trans q1, (if_pos e).trans q2⟩
    · have u6 := upo x h1 e
      have e4 := off c (hc.c64 u6)
      obtain ⟨s0, s1, s2, q1, q2⟩ := h.t6 u6
      exact ⟨s0, s1, s2, (if_neg e4).trans q1, (if_neg e).trans q2⟩
  · intro h1
    by_cases e : a = i
    · obtain ⟨p, q1, q2, q3⟩ := n8 e.symm
      exact ⟨p, (if_pos e).trans q1, q2, q3⟩
    · obtain ⟨p, q1, q2, q3⟩ := h.t8 (upo a h1 e)
      exact ⟨p, (if_neg e).trans q1, q2, q3.later hb⟩
/-- An operation that is none of these. -/
theorem LS.else {w0 : World} {K R : SBk} {C : Int} {tb c m x a s : Nat} {up : Nat → Bool} {vals : Nat → Value} {W : World} (h : LS w0 K R C tb c m x a s up vals W) (i : Nat) (u : Value) (W' : World) (hb : Below W.heap.size W W')
    (hi : up i = false) (hc : LC c m x a s up) (hmc : m ≠ c) (hxc : x ≠ c) (i9 : i ≠ s) (n1 : i ≠ tb) (n4 : i ≠ c) (n5 : i ≠ m) (n6 : i ≠ x) (n8 : i ≠ a) :
    LS w0 K R C tb c m x a s (fun j => (j == i) || up j) (fun j => if j = i then u else vals j) W' :=
  h.put i u W' hb hi hc hmc hxc i9 (fun e => absurd e n1) (fun e => absurd e n4) (fun e => absurd e n5) (fun e => absurd e n6) (fun e => absurd e n8)
/-- The store. -/
theorem LS.st {w0 : World} {K R : SBk} {C : Int} {tb c m x a s : Nat} {up : Nat → Bool} {vals : Nat → Value} {W : World} (h : LS w0 K R C tb c m x a s up vals W) (u4 : up c = true) (hne : s ≠ tb ∧ s ≠ m ∧ s ≠ x ∧ s ≠ a) {p : Nat} {s0 s1 s2 : Value} (e4 : vals c = .tuple #[.agg #[.int .i64 R.now, s0, s1, s2], .int .i64 C]) (e8 : vals a = .pointer (some ⟨p, 0, none⟩)) (hp : w0.heap.size ≤ p) (ho : OwnBlk W p 37 4) :
    LS w0 K R C tb c m x a s (fun j => (j == s) || up j) vals (W.setCells p 0 [.int .i64 R.now, s0, s1, s2]) := by
  have f4 : ∀ {Y : Prop}, ((c == s) || up c) = false → Y := fun h => by rw [u4, Bool.or_true] at h; cases h
  have upo : ∀ q, s ≠ q → ((q == s) || up q) = true → up q = true := fun q h2 h1 => by
    rw [show (q == s) = false from by simpa using fun e => h2 (Eq.symm e)] at h1; exact h1
  obtain ⟨cs, hc, hs⟩ := ho
  refine ⟨RY.below_setCells hp _ 0 W h.bel, fun _ h4 => f4 h4, fun _ => ?_, fun h5 => h.t5 (upo m hne.2.1 h5), fun h6 => h.t6 (upo x hne.2.2.1 h6), fun h8 => ?_⟩
  · obtain ⟨r0, r1, r2, e, hbk, _⟩ := h.t4 u4
    obtain ⟨rfl, rfl, rfl⟩ : s0 = r0 ∧ s1 = r1 ∧ s2 = r2 := by
      have := e4.symm.trans e
      simpa using this
    refine ⟨s0, s1, s2, e4, ?_, fun _ p' hp' => ?_⟩
    · simp only [World.setCells]
      have c1 := heap_setCell_same W p 0 _ _ (.int .i64 R.now) hc
      have c2 := heap_setCell_same _ p 1 _ _ s0 c1
      have c3 := heap_setCell_same _ p 2 _ _ s1 c2
      exact (((hbk.sc hc 0 _).sc c1 1 _).sc c2 2 _).sc c3 3 _
    · obtain rfl : p = p' := by
        have := e8.symm.trans hp'
        simpa using this
      have hth : W.there p 0 4 := RY.own_there ⟨cs, hc, hs⟩
      have hr := World.rangeAt_setCells_same W p 0 [.int .i64 R.now, s0, s1, s2] hth
      have hl : p < (W.setCells p 0 [.int .i64 R.now, s0, s1, s2]).heap.size := (RY.own_setCells _ 0 W ⟨cs, hc, hs⟩).lt
      exact ⟨hl, hr 0 _ rfl, hr 1 _ rfl, hr 2 _ rfl, hr 3 _ rfl⟩
  · obtain ⟨q, q1, q2, q3⟩ := h.t8 (upo a hne.2.2.2 h8)
    exact ⟨q, q1, q2, by
      obtain rfl : p = q := by
        have := e8.symm.trans q1
        simpa using this
      exact RY.own_setCells _ 0 W q3⟩
theorem LS.start (w0 W : World) (hb : Below w0.heap.size w0 W) (K R : SBk) (C : Int) (tb c m x a s : Nat) (vals : Nat → Value) : LS w0 K R C tb c m x a s (fun _ => false) vals W :=
  ⟨hb, fun h => (by cases h), fun h => (by cases h), fun h => (by cases h), fun h => (by cases h), fun h => (by cases h)⟩
theorem store_bk {W : World} {p : Nat} {R : SBk} {s0 s1 s2 : Value} {lo : Nat} (ho : OwnBlk W p 37 4) (hbo : BkOwn W lo R s0 s1 s2) : (Instr.storeAt 37 (.pointer (some ⟨p, 0, none⟩)) (.agg #[.int .i64 R.now, s0, s1, s2])).run Tryz.prog W = .ok () (W.setCells p 0 [.int .i64 R.now, s0, s1, s2]) := by
  obtain ⟨_, _, _, _, _, _, z0, z1, z2, _⟩ := hbo.v
  have hth : W.there p 0 4 := RY.own_there ho
  exact run_storeAt_mid (P := Tryz.prog) W p 0 37 #[.int .i64 R.now, s0, s1, s2] hth (by kernel_rfl) (by rw [z0, z1, z2]; simp [Value.oneCell'])

theorem Box4.marks {S : Nat → Prop} {w w' : World} {p : Nat} {v0 v1 v2 v3 : Value} (h : Box4 w p v0 v1 v2 v3) (hm : Marks S w w') (hn : ¬ S p) : Box4 w' p v0 v1 v2 v3 := by
  have e := fun o => hm.cell h.lt hn o
  exact ⟨Nat.lt_of_lt_of_le h.lt hm.size, (e _).trans h.x0, (e _).trans h.x1, (e _).trans h.x2, (e _).trans h.x3⟩
theorem BkOwn.v' {W : World} {lo : Nat} {R : SBk} {g0 g1 g2 : Option Addr} {n0 n1 n2 f0 f1 f2 : Nat} (h : BkOwn W lo R (.slice g0 n0 f0) (.slice g1 n1 f1) (.slice g2 n2 f2)) : SBkV W g0 g1 g2 R := by
  obtain ⟨_, _, _, _, _, _, e0, e1, e2, hv⟩ := h.v
  injection e0 with e0 _ _
  injection e1 with e1 _ _
  injection e2 with e2 _ _
  subst e0 e1 e2
  exact hv
theorem BkOwn.sk {W : World} {lo mg : Nat} {R : SBk} {s0 s1 s2 : Value} (h : BkOwn W lo R s0 s1 s2) (hg : OwnBlk W mg 37 4) : SBkSk W (fun b => lo ≤ b ∧ b ≠ mg ∧ b < W.heap.size) s0 s1 s2 R.svcs.length R.cps.length R.bts.length := by
  obtain ⟨cs, hc, _⟩ := hg
  have ne : ∀ {g : Nat} {cur : Array Value} {e : TypeId}, W.heap[g]? = some (.cells cur e (0, 0)) → e ≠ 37 → g ≠ mg := fun h1 h2 e => by
    rw [e, hc] at h1
    injection h1 with h1
    injection h1 with _ h1 _
    exact h2 h1.symm
  refine ⟨?_, ?_, ?_⟩
  · rcases h.o0.2 with ⟨hv, hn⟩ | ⟨g, cap, cur, hv, hlo, hh, hn, _, hs, _⟩
    · exact Or.inl ⟨hn, _, _, hv⟩
    · exact Or.inr ⟨g, cap, cur.size, hv, ⟨hlo, ne hh t_sk, lt_heap hh⟩, ⟨cur, hh, rfl⟩, by rw [hs]; exact Nat.mul_le_mul_right 13 hn, h.sm.1⟩
  · rcases h.o1.2 with ⟨hv, hn⟩ | ⟨g, cap, cur, hv, hlo, hh, hn, _, hs, _⟩
    · exact Or.inl ⟨hn, _, _, hv⟩
    · exact Or.inr ⟨g, cap, cur.size, hv, ⟨hlo, ne hh (fun e => t_kc e.symm), lt_heap hh⟩, ⟨cur, hh, rfl⟩, by rw [hs]; exact Nat.mul_le_mul_right 7 hn, h.sm.2.1⟩
  · rcases h.o2.2 with ⟨hv, hn⟩ | ⟨g, cap, cur, hv, hlo, hh, hn, _, hs, _⟩
    · exact Or.inl ⟨hn, _, _, hv⟩
    · exact Or.inr ⟨g, cap, cur.size, hv, ⟨hlo, ne hh t_bk, lt_heap hh⟩, ⟨cur, hh, rfl⟩, by rw [hs]; exact Nat.mul_le_mul_right 2 hn, h.sm.2.2⟩
theorem owns_marks {S : Nat → Prop} {W W' : World} {lo : Nat} {e : TypeId} {size n : Nat} {v : Value} {xs : List Value} (h : W.ownsRow lo e size v n xs) (hm : Marks S W W') (hS : ∀ b, lo ≤ b → ¬ S b) : W'.ownsRow lo e size v n xs := by
  refine ⟨h.1, h.2.imp id ?_⟩
  rintro ⟨g, cap, cur, h1, h2, h3, h4⟩
  exact ⟨g, cap, cur, h1, h2, (hm.block g (lt_heap h3) (hS g h2)).trans h3, h4⟩
theorem BkOwn.marks {S : Nat → Prop} {W W' : World} {lo : Nat} {R : SBk} {s0 s1 s2 : Value} (h : BkOwn W lo R s0 s1 s2) (hm : Marks S W W') (hS : ∀ b, lo ≤ b → ¬ S b) : BkOwn W' lo R s0 s1 s2 :=
  ⟨owns_marks h.o0 hm hS, owns_marks h.o1 hm hS, owns_marks h.o2 hm hS, h.z0, h.z1, h.z2, h.sm⟩

def VQ14 (K : SBk) (Xv Y : Value) (i : Nat) (u : Value) (W : World) : Prop :=
  match i with
  | 0 => u = Y
  | 1 => u = Xv
  | 2 => ∃ b0 b1 b2, u = .agg #[.int .i64 K.now, .slice (some ⟨b0, 0, none⟩) K.svcs.length K.svcs.length, .slice (some ⟨b1, 0, none⟩) K.cps.length K.cps.length, .slice (some ⟨b2, 0, none⟩) K.bts.length K.bts.length] ∧ SBkIn W b0 b1 b2 K
  | 3 => u = .bool true
  | _ => u = .bool false
theorem VQ14_mono (K : SBk) (Xv Y : Value) : ∀ j u W W', Below W.heap.size W W' → VQ14 K Xv Y j u W → VQ14 K Xv Y j u W' := by
  intro j u W W' hb h
  match j, h with
  | 0, h => exact h
  | 1, h => exact h
  | 2, h =>
    obtain ⟨b0, b1, b2, rfl, h2⟩ := h
    exact ⟨b0, b1, b2, rfl, h2.later hb⟩
  | 3, h => exact h
  | n + 4, h => exact h

end Go.Proofs.YtclagbakddkjcaaGreat
