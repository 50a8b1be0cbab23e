/-
  The sea, by the program: what happens, whole.
-/
import Derived.Test.YtclagbakddkjcaaGreatIaK
import Derived.Test.YtclagbakddkjcaaGreatChB
import Derived.Test.YtclagbakddkjcaaGreatSaF
namespace Go.Proofs.YtclagbakddkjcaaGreat
open Go.RowKit Go.Deep

def hapP (k : Int) : TypeId := if k = 1 then 93 else if k = 2 then 96 else if k = 3 then 99 else if k = 4 then 102 else if k = 5 then 105 else 108
def hapS (k : Int) : TypeId := if k = 1 then 95 else if k = 2 then 98 else if k = 3 then 101 else if k = 4 then 104 else if k = 5 then 107 else 110
def hapX (E : Ev) : List Value := if E.kind = 1 then [] else if E.kind = 2 then [.string E.sv.nm, .int .i64 E.sv.ver, .bool E.sv.gone, .int .i64 E.sv.image, .int .i64 E.sv.want, .int .i64 E.sv.down, .int .i64 E.sv.over, .int .i64 E.sv.next, .int .i64 E.sv.per, .int .i64 E.sv.least, .int .i64 E.sv.most, .int .i64 E.sv.load, .int .i64 E.sv.cool] else if E.kind = 3 then [.string E.nm, .int .i64 E.num] else if E.kind = 4 then [.string E.nm] else if E.kind = 5 then [.string E.nm, .bool E.flag] else [.string E.nm, .int .i64 E.num]
theorem XG.new {W : World} {lo : Nat} {K : SBk} {d0 d1 d2 : Option Addr} {e0 e1 e2 : Nat} (hO : BkOwn W lo K (.slice d0 K.svcs.length e0) (.slice d1 K.cps.length e1) (.slice d2 K.bts.length e2)) (t : TypeId) (nr : NoRow t) (ex : List Value) (v : Int) :
    XG lo W.heap.size t ex (W.alloc (.cells (.int .i64 v :: .slice d0 K.svcs.length e0 :: .slice d1 K.cps.length e1 :: .slice d2 K.bts.length e2 :: ex).toArray t)) v K.svcs K.cps K.bts d0 d1 d2 K.svcs.length K.cps.length K.bts.length e0 e1 e2 := by
  have hb : Below W.heap.size W (W.alloc (.cells (.int .i64 v :: .slice d0 K.svcs.length e0 :: .slice d1 K.cps.length e1 :: .slice d2 K.bts.length e2 :: ex).toArray t)) := blw_alloc (Below.refl _ _) _
  exact ⟨nr, World.alloc_heap_new W _, owns_on hO.o0 hb, owns_on hO.o1 hb, owns_on hO.o2 hb, rfl, rfl, rfl, hO.z0, hO.z1, hO.z2, hO.sm.1, hO.sm.2.1, hO.sm.2.2⟩
/-- What is asked of it. -/
def HapQ (K : SBk) (E : Ev) (w : World) (e : Ending) (w' : World) : Prop :=
  (inB E.kind 1 6 = true → ∃ px p0 p1 p2 q0 q1 q2, e = .returned (.tuple #[.iface (hapP E.kind) (.pointer (some ⟨px, 0, none⟩)), .bool true]) ∧ w.heap.size ≤ px ∧ XG w.heap.size px (hapS E.kind) (hapX E) w' (K.now + 1) K.svcs K.cps K.bts p0 p1 p2 K.svcs.length K.cps.length K.bts.length q0 q1 q2) ∧
  (inB E.kind 1 6 = false → e = .returned (.tuple #[.nilIface, .bool false])) ∧ Below w.heap.size w w'

set_option maxRecDepth 8000 in
set_option maxHeartbeats 16000000 in
theorem happeningI (K : SBk) (E : Ev) (b0 b1 b2 : Nat) (c0 c1 c2 : Nat) (w : World) (h : SBkV w (some ⟨b0, 0, none⟩) (some ⟨b1, 0, none⟩) (some ⟨b2, 0, none⟩) K) (hs : K.small) (hn : 0 ≤ K.now ∧ K.now ≤ 1000000) :
    Calls Tryz.prog 26 #[.agg #[.int .i64 K.now, .slice (some ⟨b0, 0, none⟩) K.svcs.length c0, .slice (some ⟨b1, 0, none⟩) K.cps.length c1, .slice (some ⟨b2, 0, none⟩) K.bts.length c2], .agg #[.int .i64 E.kind, .string E.sv.nm, .int .i64 E.sv.ver, .bool E.sv.gone, .int .i64 E.sv.image, .int .i64 E.sv.want, .int .i64 E.sv.down, .int .i64 E.sv.over, .int .i64 E.sv.next, .int .i64 E.sv.per, .int .i64 E.sv.least, .int .i64 E.sv.most, .int .i64 E.sv.load, .int .i64 E.sv.cool, .string E.nm, .int .i64 E.num, .bool E.flag]] w fun e w' => HapQ K E w e w' := by
  have HH := hid h
  have HS := hid hs
  have hwr : IntKind.i64.wrap (K.now + 1) = K.now + 1 := by simp [IntKind.wrap, IntKind.bits, IntKind.signed]; omega
  clear h hs hn
  obtain ⟨wa, hwa⟩ : ∃ wa, wa = (w.alloc (.cells #[.int .i64 K.now, .slice (some ⟨b0, 0, none⟩) K.svcs.length c0, .slice (some ⟨b1, 0, none⟩) K.cps.length c1, .slice (some ⟨b2, 0, none⟩) K.bts.length c2] 37)).alloc (.cells #[.int .i64 E.kind, .string E.sv.nm, .int .i64 E.sv.ver, .bool E.sv.gone, .int .i64 E.sv.image, .int .i64 E.sv.want, .int .i64 E.sv.down, .int .i64 E.sv.over, .int .i64 E.sv.next, .int .i64 E.sv.per, .int .i64 E.sv.least, .int .i64 E.sv.most, .int .i64 E.sv.load, .int .i64 E.sv.cool, .string E.nm, .int .i64 E.num, .bool E.flag] 43) := ⟨_, rfl⟩
  have HBa : Hid (Below w.heap.size w wa) := by show Below _ _ _; rw [hwa]; exact blw_alloc (blw_alloc (Below.refl _ _) _) _
  have HXa : Hid (LBox wa w.heap.size [.int .i64 K.now, .slice (some ⟨b0, 0, none⟩) K.svcs.length c0, .slice (some ⟨b1, 0, none⟩) K.cps.length c1, .slice (some ⟨b2, 0, none⟩) K.bts.length c2]) := by
    show LBox _ _ _
    rw [hwa]
    exact (LBox.new _ _ _ _ rfl).later (blw_alloc (Below.refl _ _) _)
  have HEa : Hid (LBox wa (w.heap.size + 1) [.int .i64 E.kind, .string E.sv.nm, .int .i64 E.sv.ver, .bool E.sv.gone, .int .i64 E.sv.image, .int .i64 E.sv.want, .int .i64 E.sv.down, .int .i64 E.sv.over, .int .i64 E.sv.next, .int .i64 E.sv.per, .int .i64 E.sv.least, .int .i64 E.sv.most, .int .i64 E.sv.load, .int .i64 E.sv.cool, .string E.nm, .int .i64 E.num, .bool E.flag]) := by show LBox _ _ _; rw [hwa]; exact LBox.new _ _ _ _ (by simp)
  go_enter Tryz.func26, Tryz.ntmps26
  go_upto_region 1 with fail
  rw [← hwa]
  clear hwa
  have y0 := HXa.out.get 0 _ rfl
  have y1 := HXa.out.get 1 _ rfl
  have y2 := HXa.out.get 2 _ rfl
  have y3 := HXa.out.get 3 _ rfl
  have yz := HXa.out.lt
  go_wp2_with fail
  refine (copyBookI K b0 b1 b2 c0 c1 c2 wa (HH.out.later HBa.out) HS.out).mono ?_
  rintro e w1 ⟨⟨s0, s1, s2, rfl, hO⟩, hb1⟩
  obtain ⟨d0, e0, rfl⟩ := owns_is hO.o0
  obtain ⟨d1, e1, rfl⟩ := owns_is hO.o1
  obtain ⟨d2, e2, rfl⟩ := owns_is hO.o2
  clear y0 y1 y2 y3 yz
  obtain ⟨w2, hw2⟩ : ∃ w2, w2 = w1.alloc (.cells #[.int .i64 (K.now + 1), .slice d0 K.svcs.length e0, .slice d1 K.cps.length e1, .slice d2 K.bts.length e2] 92) := ⟨_, rfl⟩
  have hb2 : Below w1.heap.size w1 w2 := by rw [hw2]; exact blw_alloc (Below.refl _ _) _
  have hLO : w.heap.size ≤ wa.heap.size + 2 := Nat.le_trans HBa.out.size (Nat.le_add_right _ _)
  have HO2 := hid ((hO.later hb2).lo hLO)
  have HB2 := hid (blw_trans (blw_trans HBa.out hb1) hb2)
  obtain ⟨p6, hp6⟩ : ∃ p6, p6 = w1.heap.size := ⟨_, rfl⟩
  have hC2 : LBox w2 p6 [.int .i64 (K.now + 1), .slice d0 K.svcs.length e0, .slice d1 K.cps.length e1, .slice d2 K.bts.length e2] := by rw [hw2]; exact LBox.new _ _ _ _ hp6
  have HE2 := hid (HEa.out.later (blw_trans hb1 hb2))
  go_upto_region 3 with fail
  rw [← hw2, ← hp6]
  clear hw2 hp6 hb2 hb1 hO hLO HXa HEa HBa hwr
  have C0 := hC2.get 0 _ rfl
  have C1 := hC2.get 1 _ rfl
  have C2 := hC2.get 2 _ rfl
  have C3 := hC2.get 3 _ rfl
  have cz := hC2.lt
  have ez := HE2.out.lt
  have E0 := HE2.out.get 0 _ rfl
  have E1 := HE2.out.get 1 _ rfl
  have E2 := HE2.out.get 2 _ rfl
  have E3 := HE2.out.get 3 _ rfl
  have E4 := HE2.out.get 4 _ rfl
  have E5 := HE2.out.get 5 _ rfl
  have E6 := HE2.out.get 6 _ rfl
  have E7 := HE2.out.get 7 _ rfl
  have E8 := HE2.out.get 8 _ rfl
  have E9 := HE2.out.get 9 _ rfl
  have E10 := HE2.out.get 10 _ rfl
  have E11 := HE2.out.get 11 _ rfl
  have E12 := HE2.out.get 12 _ rfl
  have E13 := HE2.out.get 13 _ rfl
  have E14 := HE2.out.get 14 _ rfl
  have E15 := HE2.out.get 15 _ rfl
  have E16 := HE2.out.get 16 _ rfl
  clear hC2
  by_cases k1 : E.kind = 1
  · have HP : Hid (hapP E.kind = 93) := by show _ = _; rw [k1]; decide
    have HT : Hid (hapS E.kind = 95) := by show _ = _; rw [k1]; decide
    have HXX : Hid (hapX E = []) := by show _ = _; unfold hapX; rw [k1]; rfl
    have HI : Hid (inB E.kind 1 6 = true) := by show _ = _; rw [k1]; decide
    have HNR : Hid (NoRow 95) := by show NoRow _; unfold NoRow; decide
    have HG := hid (XG.new HO2.out 95 HNR.out [] (K.now + 1))
    have HB3 : Hid (Below w.heap.size w (w2.alloc (.cells (.int .i64 (K.now + 1) :: .slice d0 K.svcs.length e0 :: .slice d1 K.cps.length e1 :: .slice d2 K.bts.length e2 :: []).toArray 95))) := blw_alloc HB2.out _
    have HLE := hid HB2.out.size
    rw [k1] at E0
    clear k1
    go_wp2
    go_ret2
    exact ⟨fun _ => ⟨w2.heap.size, d0, d1, d2, e0, e1, e2, by rw [HP.out]; rfl, HLE.out, by rw [HT.out, HXX.out]; exact HG.out⟩, fun q => absurd (HI.out.symm.trans q) (by decide), HB3.out⟩
  have k1' : (E.kind == 1) = false := by simpa using k1
  by_cases k2 : E.kind = 2
  · have HP : Hid (hapP E.kind = 96) := by show _ = _; rw [k2]; decide
    have HT : Hid (hapS E.kind = 98) := by show _ = _; rw [k2]; decide
    have HXX : Hid (hapX E = [.string E.sv.nm, .int .i64 E.sv.ver, .bool E.sv.gone, .int .i64 E.sv.image, .int .i64 E.sv.want, .int .i64 E.sv.down, .int .i64 E.sv.over, .int .i64 E.sv.next, .int .i64 E.sv.per, .int .i64 E.sv.least, .int .i64 E.sv.most, .int .i64 E.sv.load, .int .i64 E.sv.cool]) := by show _ = _; unfold hapX; rw [k2]; rfl
    have HI : Hid (inB E.kind 1 6 = true) := by show _ = _; rw [k2]; decide
    have HNR : Hid (NoRow 98) := by show NoRow _; unfold NoRow; decide
    have HG := hid (XG.new HO2.out 98 HNR.out [.string E.sv.nm, .int .i64 E.sv.ver, .bool E.sv.gone, .int .i64 E.sv.image, .int .i64 E.sv.want, .int .i64 E.sv.down, .int .i64 E.sv.over, .int .i64 E.sv.next, .int .i64 E.sv.per, .int .i64 E.sv.least, .int .i64 E.sv.most, .int .i64 E.sv.load, .int .i64 E.sv.cool] (K.now + 1))
    have HB3 : Hid (Below w.heap.size w (w2.alloc (.cells (.int .i64 (K.now + 1) :: .slice d0 K.svcs.length e0 :: .slice d1 K.cps.length e1 :: .slice d2 K.bts.length e2 :: [.string E.sv.nm, .int .i64 E.sv.ver, .bool E.sv.gone, .int .i64 E.sv.image, .int .i64 E.sv.want, .int .i64 E.sv.down, .int .i64 E.sv.over, .int .i64 E.sv.next, .int .i64 E.sv.per, .int .i64 E.sv.least, .int .i64 E.sv.most, .int .i64 E.sv.load, .int .i64 E.sv.cool]).toArray 98))) := blw_alloc HB2.out _
    have HLE := hid HB2.out.size
    rw [k2] at E0
    clear k2
    go_wp2
    go_ret2
    exact ⟨fun _ => ⟨w2.heap.size, d0, d1, d2, e0, e1, e2, by rw [HP.out]; rfl, HLE.out, by rw [HT.out, HXX.out]; exact HG.out⟩, fun q => absurd (HI.out.symm.trans q) (by decide), HB3.out⟩
  have k2' : (E.kind == 2) = false := by simpa using k2
  by_cases k3 : E.kind = 3
  · have HP : Hid (hapP E.kind = 99) := by show _ = _; rw [k3]; decide
    have HT : Hid (hapS E.kind = 101) := by show _ = _; rw [k3]; decide
    have HXX : Hid (hapX E = [.string E.nm, .int .i64 E.num]) := by show _ = _; unfold hapX; rw [k3]; rfl
    have HI : Hid (inB E.kind 1 6 = true) := by show _ = _; rw [k3]; decide
    have HNR : Hid (NoRow 101) := by show NoRow _; unfold NoRow; decide
    have HG := hid (XG.new HO2.out 101 HNR.out [.string E.nm, .int .i64 E.num] (K.now + 1))
    have HB3 : Hid (Below w.heap.size w (w2.alloc (.cells (.int .i64 (K.now + 1) :: .slice d0 K.svcs.length e0 :: .slice d1 K.cps.length e1 :: .slice d2 K.bts.length e2 :: [.string E.nm, .int .i64 E.num]).toArray 101))) := blw_alloc HB2.out _
    have HLE := hid HB2.out.size
    rw [k3] at E0
    clear k3
    go_wp2
    go_ret2
    exact ⟨fun _ => ⟨w2.heap.size, d0, d1, d2, e0, e1, e2, by rw [HP.out]; rfl, HLE.out, by rw [HT.out, HXX.out]; exact HG.out⟩, fun q => absurd (HI.out.symm.trans q) (by decide), HB3.out⟩
  have k3' : (E.kind == 3) = false := by simpa using k3
  by_cases k4 : E.kind = 4
  · have HP : Hid (hapP E.kind = 102) := by show _ = _; rw [k4]; decide
    have HT : Hid (hapS E.kind = 104) := by show _ = _; rw [k4]; decide
    have HXX : Hid (hapX E = [.string E.nm]) := by show _ = _; unfold hapX; rw [k4]; rfl
    have HI : Hid (inB E.kind 1 6 = true) := by show _ = _; rw [k4]; decide
    have HNR : Hid (NoRow 104) := by show NoRow _; unfold NoRow; decide
    have HG := hid (XG.new HO2.out 104 HNR.out [.string E.nm] (K.now + 1))
    have HB3 : Hid (Below w.heap.size w (w2.alloc (.cells (.int .i64 (K.now + 1) :: .slice d0 K.svcs.length e0 :: .slice d1 K.cps.length e1 :: .slice d2 K.bts.length e2 :: [.string E.nm]).toArray 104))) := blw_alloc HB2.out _
    have HLE := hid HB2.out.size
    rw [k4] at E0
    clear k4
    go_wp2
    go_ret2
    exact ⟨fun _ => ⟨w2.heap.size, d0, d1, d2, e0, e1, e2, by rw [HP.out]; rfl, HLE.out, by rw [HT.out, HXX.out]; exact HG.out⟩, fun q => absurd (HI.out.symm.trans q) (by decide), HB3.out⟩
  have k4' : (E.kind == 4) = false := by simpa using k4
  by_cases k5 : E.kind = 5
  · have HP : Hid (hapP E.kind = 105) := by show _ = _; rw [k5]; decide
    have HT : Hid (hapS E.kind = 107) := by show _ = _; rw [k5]; decide
    have HXX : Hid (hapX E = [.string E.nm, .bool E.flag]) := by show _ = _; unfold hapX; rw [k5]; rfl
    have HI : Hid (inB E.kind 1 6 = true) := by show _ = _; rw [k5]; decide
    have HNR : Hid (NoRow 107) := by show NoRow _; unfold NoRow; decide
    have HG := hid (XG.new HO2.out 107 HNR.out [.string E.nm, .bool E.flag] (K.now + 1))
    have HB3 : Hid (Below w.heap.size w (w2.alloc (.cells (.int .i64 (K.now + 1) :: .slice d0 K.svcs.length e0 :: .slice d1 K.cps.length e1 :: .slice d2 K.bts.length e2 :: [.string E.nm, .bool E.flag]).toArray 107))) := blw_alloc HB2.out _
    have HLE := hid HB2.out.size
    rw [k5] at E0
    clear k5
    go_wp2
    go_ret2
    exact ⟨fun _ => ⟨w2.heap.size, d0, d1, d2, e0, e1, e2, by rw [HP.out]; rfl, HLE.out, by rw [HT.out, HXX.out]; exact HG.out⟩, fun q => absurd (HI.out.symm.trans q) (by decide), HB3.out⟩
  have k5' : (E.kind == 5) = false := by simpa using k5
  by_cases k6 : E.kind = 6
  · have HP : Hid (hapP E.kind = 108) := by show _ = _; rw [k6]; decide
    have HT : Hid (hapS E.kind = 110) := by show _ = _; rw [k6]; decide
    have HXX : Hid (hapX E = [.string E.nm, .int .i64 E.num]) := by show _ = _; unfold hapX; rw [k6]; rfl
    have HI : Hid (inB E.kind 1 6 = true) := by show _ = _; rw [k6]; decide
    have HNR : Hid (NoRow 110) := by show NoRow _; unfold NoRow; decide
    have HG := hid (XG.new HO2.out 110 HNR.out [.string E.nm, .int .i64 E.num] (K.now + 1))
    have HB3 : Hid (Below w.heap.size w (w2.alloc (.cells (.int .i64 (K.now + 1) :: .slice d0 K.svcs.length e0 :: .slice d1 K.cps.length e1 :: .slice d2 K.bts.length e2 :: [.string E.nm, .int .i64 E.num]).toArray 110))) := blw_alloc HB2.out _
    have HLE := hid HB2.out.size
    rw [k6] at E0
    clear k6
    go_wp2
    go_ret2
    exact ⟨fun _ => ⟨w2.heap.size, d0, d1, d2, e0, e1, e2, by rw [HP.out]; rfl, HLE.out, by rw [HT.out, HXX.out]; exact HG.out⟩, fun q => absurd (HI.out.symm.trans q) (by decide), HB3.out⟩
  have k6' : (E.kind == 6) = false := by simpa using k6
  have HI : Hid (inB E.kind 1 6 = false) := by
    show _ = _
    rw [Bool.eq_false_iff]
    intro q
    simp only [inB, Bool.and_eq_true, decide_eq_true_eq] at q
    omega
  clear k1 k2 k3 k4 k5 k6
  go_wp2
  go_ret2
  exact ⟨fun q => absurd (HI.out.symm.trans q) (by decide), fun _ => rfl, HB2.out⟩

set_option maxRecDepth 8000 in
set_option maxHeartbeats 8000000 in
theorem happens1 (px : Nat) (r : Int) (hr : r = 0) (P : World → Prop) (R : World) (h : Calls Tryz.prog 56 #[.pointer (some ⟨px, 0, none⟩)] R fun e W' => e = .returned (.tuple #[]) ∧ P W') :
    Calls Tryz.prog 28 #[.iface 93 (.pointer (some ⟨px, 0, none⟩))] R fun e W' => e = .returned (.int .i64 r) ∧ P W' := by
  have a0 : ∀ W, (Instr.typeAssert (.iface 93 (.pointer (some ⟨px, 0, none⟩))) 60 93 true).run Tryz.prog W = .ok (.tuple #[.pointer (some ⟨px, 0, none⟩), .bool true]) W := fun W => by kernel_rfl
  go_enter Tryz.func28, Tryz.ntmps28
  go_wp2_with fail
  refine h.mono ?_
  rintro e W1 ⟨rfl, hP⟩
  have HP := hid hP
  clear hP a0 h
  go_wp2
  go_ret
  exact ⟨by rw [hr]; rfl, HP.out⟩

set_option maxRecDepth 8000 in
set_option maxHeartbeats 8000000 in
theorem happens2 (px : Nat) (r : Int) (P : World → Prop) (R : World) (h : Calls Tryz.prog 57 #[.pointer (some ⟨px, 0, none⟩)] R fun e W' => e = .returned (.int .i64 r) ∧ P W') :
    Calls Tryz.prog 28 #[.iface 96 (.pointer (some ⟨px, 0, none⟩))] R fun e W' => e = .returned (.int .i64 r) ∧ P W' := by
  have a0 : ∀ W, (Instr.typeAssert (.iface 96 (.pointer (some ⟨px, 0, none⟩))) 60 93 true).run Tryz.prog W = .ok (.tuple #[.pointer none, .bool false]) W := fun W => by kernel_rfl
  have a1 : ∀ W, (Instr.typeAssert (.iface 96 (.pointer (some ⟨px, 0, none⟩))) 60 96 true).run Tryz.prog W = .ok (.tuple #[.pointer (some ⟨px, 0, none⟩), .bool true]) W := fun W => by kernel_rfl
  go_enter Tryz.func28, Tryz.ntmps28
  go_wp2_with fail
  refine h.mono ?_
  rintro e W1 ⟨rfl, hP⟩
  have HP := hid hP
  clear hP a0 a1 h
  go_wp2
  go_ret
  exact ⟨rfl, HP.out⟩

set_option maxRecDepth 8000 in
set_option maxHeartbeats 8000000 in
theorem happens3 (px : Nat) (r : Int) (P : World → Prop) (R : World) (h : Calls Tryz.prog 58 #[.pointer (some ⟨px, 0, none⟩)] R fun e W' => e = .returned (.int .i64 r) ∧ P W') :
    Calls Tryz.prog 28 #[.iface 99 (.pointer (some ⟨px, 0, none⟩))] R fun e W' => e = .returned (.int .i64 r) ∧ P W' := by
  have a0 : ∀ W, (Instr.typeAssert (.iface 99 (.pointer (some ⟨px, 0, none⟩))) 60 93 true).run Tryz.prog W = .ok (.tuple #[.pointer none, .bool false]) W := fun W => by kernel_rfl
  have a1 : ∀ W, (Instr.typeAssert (.iface 99 (.pointer (some ⟨px, 0, none⟩))) 60 96 true).run Tryz.prog W = .ok (.tuple #[.pointer none, .bool false]) W := fun W => by kernel_rfl
  have a2 : ∀ W, (Instr.typeAssert (.iface 99 (.pointer (some ⟨px, 0, none⟩))) 60 99 true).run Tryz.prog W = .ok (.tuple #[.pointer (some ⟨px, 0, none⟩), .bool true]) W := fun W => by kernel_rfl
  go_enter Tryz.func28, Tryz.ntmps28
  go_wp2_with fail
  refine h.mono ?_
  rintro e W1 ⟨rfl, hP⟩
  have HP := hid hP
  clear hP a0 a1 a2 h
  go_wp2
  go_ret
  exact ⟨rfl, HP.out⟩

set_option maxRecDepth 8000 in
set_option maxHeartbeats 8000000 in
theorem happens4 (px : Nat) (r : Int) (P : World → Prop) (R : World) (h : Calls Tryz.prog 59 #[.pointer (some ⟨px, 0, none⟩)] R fun e W' => e = .returned (.int .i64 r) ∧ P W') :
    Calls Tryz.prog 28 #[.iface 102 (.pointer (some ⟨px, 0, none⟩))] R fun e W' => e = .returned (.int .i64 r) ∧ P W' := by
  have a0 : ∀ W, (Instr.typeAssert (.iface 102 (.pointer (some ⟨px, 0, none⟩))) 60 93 true).run Tryz.prog W = .ok (.tuple #[.pointer none, .bool false]) W := fun W => by kernel_rfl
  have a1 : ∀ W, (Instr.typeAssert (.iface 102 (.pointer (some ⟨px, 0, none⟩))) 60 96 true).run Tryz.prog W = .ok (.tuple #[.pointer none, .bool false]) W := fun W => by kernel_rfl
  have a2 : ∀ W, (Instr.typeAssert (.iface 102 (.pointer (some ⟨px, 0, none⟩))) 60 99 true).run Tryz.prog W = .ok (.tuple #[.pointer none, .bool false]) W := fun W => by kernel_rfl
  have a3 : ∀ W, (Instr.typeAssert (.iface 102 (.pointer (some ⟨px, 0, none⟩))) 60 102 true).run Tryz.prog W = .ok (.tuple #[.pointer (some ⟨px, 0, none⟩), .bool true]) W := fun W => by kernel_rfl
  go_enter Tryz.func28, Tryz.ntmps28
  go_wp2_with fail
  refine h.mono ?_
  rintro e W1 ⟨rfl, hP⟩
  have HP := hid hP
  clear hP a0 a1 a2 a3 h
  go_wp2
  go_ret
  exact ⟨rfl, HP.out⟩

set_option maxRecDepth 8000 in
set_option maxHeartbeats 8000000 in
theorem happens5 (px : Nat) (r : Int) (P : World → Prop) (R : World) (h : Calls Tryz.prog 60 #[.pointer (some ⟨px, 0, none⟩)] R fun e W' => e = .returned (.int .i64 r) ∧ P W') :
    Calls Tryz.prog 28 #[.iface 105 (.pointer (some ⟨px, 0, none⟩))] R fun e W' => e = .returned (.int .i64 r) ∧ P W' := by
  have a0 : ∀ W, (Instr.typeAssert (.iface 105 (.pointer (some ⟨px, 0, none⟩))) 60 93 true).run Tryz.prog W = .ok (.tuple #[.pointer none, .bool false]) W := fun W => by kernel_rfl
  have a1 : ∀ W, (Instr.typeAssert (.iface 105 (.pointer (some ⟨px, 0, none⟩))) 60 96 true).run Tryz.prog W = .ok (.tuple #[.pointer none, .bool false]) W := fun W => by kernel_rfl
  have a2 : ∀ W, (Instr.typeAssert (.iface 105 (.pointer (some ⟨px, 0, none⟩))) 60 99 true).run Tryz.prog W = .ok (.tuple #[.pointer none, .bool false]) W := fun W => by kernel_rfl
  have a3 : ∀ W, (Instr.typeAssert (.iface 105 (.pointer (some ⟨px, 0, none⟩))) 60 102 true).run Tryz.prog W = .ok (.tuple #[.pointer none, .bool false]) W := fun W => by kernel_rfl
  have a4 : ∀ W, (Instr.typeAssert (.iface 105 (.pointer (some ⟨px, 0, none⟩))) 60 105 true).run Tryz.prog W = .ok (.tuple #[.pointer (some ⟨px, 0, none⟩), .bool true]) W := fun W => by kernel_rfl
  go_enter Tryz.func28, Tryz.ntmps28
  go_wp2_with fail
  refine h.mono ?_
  rintro e W1 ⟨rfl, hP⟩
  have HP := hid hP
  clear hP a0 a1 a2 a3 a4 h
  go_wp2
  go_ret
  exact ⟨rfl, HP.out⟩

set_option maxRecDepth 8000 in
set_option maxHeartbeats 8000000 in
theorem happens6 (px : Nat) (r : Int) (P : World → Prop) (R : World) (h : Calls Tryz.prog 61 #[.pointer (some ⟨px, 0, none⟩)] R fun e W' => e = .returned (.int .i64 r) ∧ P W') :
    Calls Tryz.prog 28 #[.iface 108 (.pointer (some ⟨px, 0, none⟩))] R fun e W' => e = .returned (.int .i64 r) ∧ P W' := by
  have a0 : ∀ W, (Instr.typeAssert (.iface 108 (.pointer (some ⟨px, 0, none⟩))) 60 93 true).run Tryz.prog W = .ok (.tuple #[.pointer none, .bool false]) W := fun W => by kernel_rfl
  have a1 : ∀ W, (Instr.typeAssert (.iface 108 (.pointer (some ⟨px, 0, none⟩))) 60 96 true).run Tryz.prog W = .ok (.tuple #[.pointer none, .bool false]) W := fun W => by kernel_rfl
  have a2 : ∀ W, (Instr.typeAssert (.iface 108 (.pointer (some ⟨px, 0, none⟩))) 60 99 true).run Tryz.prog W = .ok (.tuple #[.pointer none, .bool false]) W := fun W => by kernel_rfl
  have a3 : ∀ W, (Instr.typeAssert (.iface 108 (.pointer (some ⟨px, 0, none⟩))) 60 102 true).run Tryz.prog W = .ok (.tuple #[.pointer none, .bool false]) W := fun W => by kernel_rfl
  have a4 : ∀ W, (Instr.typeAssert (.iface 108 (.pointer (some ⟨px, 0, none⟩))) 60 105 true).run Tryz.prog W = .ok (.tuple #[.pointer none, .bool false]) W := fun W => by kernel_rfl
  have a5 : ∀ W, (Instr.typeAssert (.iface 108 (.pointer (some ⟨px, 0, none⟩))) 60 108 true).run Tryz.prog W = .ok (.tuple #[.pointer (some ⟨px, 0, none⟩), .bool true]) W := fun W => by kernel_rfl
  go_enter Tryz.func28, Tryz.ntmps28
  go_wp2_with fail
  refine h.mono ?_
  rintro e W1 ⟨rfl, hP⟩
  have HP := hid hP
  clear hP a0 a1 a2 a3 a4 a5 h
  go_wp2
  go_ret
  exact ⟨rfl, HP.out⟩

end Go.Proofs.YtclagbakddkjcaaGreat

namespace Go.Proofs.YtclagbakddkjcaaGreat
open Go.RowKit Go.Deep

theorem sea_code {K : SBk} {E : Ev} (hok : sbOk K = true) (hnow : K.now < 1000000) : stewSeaC K E = if seaC K E = 0 then (if sbOk (seaK K E) then 0 else 2) else seaC K E := by
  unfold stewSeaC
  rw [if_pos hok, if_neg (by omega)]
/-- What is asked of stewHappens. -/
def HapsQ (K : SBk) (E : Ev) (lo px : Nat) (R W' : World) : Prop :=
  (∃ sv cp bt p0 p1 p2 n0 n1 n2 q0 q1 q2, XG lo px (hapS E.kind) (hapX E) W' (K.now + 1) sv cp bt p0 p1 p2 n0 n1 n2 q0 q1 q2 ∧ (stewSeaC K E = 0 → seaK K E = ⟨K.now + 1, sv, cp, bt⟩)) ∧ Below lo R W'
theorem happensI (K : SBk) (E : Ev) {lo px : Nat} {R : World} {p0 p1 p2 : Option Addr} {q0 q1 q2 : Nat} (h : XG lo px (hapS E.kind) (hapX E) R (K.now + 1) K.svcs K.cps K.bts p0 p1 p2 K.svcs.length K.cps.length K.bts.length q0 q1 q2) (hok : sbOk K = true) (hnow : K.now < 1000000) (hk : inB E.kind 1 6 = true) (hsz : E.sv.nm.size ≤ maxLen ∧ E.nm.size ≤ maxLen) (hlo : lo ≤ R.heap.size) (hpl : lo ≤ px) :
    Calls Tryz.prog 28 #[.iface (hapP E.kind) (.pointer (some ⟨px, 0, none⟩))] R fun e W' => e = .returned (.int .i64 (stewSeaC K E)) ∧ HapsQ K E lo px R W' := by
  have hC := sea_code (E := E) hok hnow
  have g := (val_iff K).1 hok
  have hap : Apart ⟨K.now + 1, K.svcs, K.cps, K.bts⟩ := apart_of g.asv g.abt
  have hac := (asc_iff _).2 g.ac
  have hl0 := g.l0
  have hl1 := g.l1
  have hl2 := g.l2
  unfold HapsQ
  by_cases k1 : E.kind = 1
  · have eP : hapP E.kind = 93 := by rw [k1]; decide
    have eS : hapS E.kind = 95 := by rw [k1]; decide
    have eX : hapX E = [] := by unfold hapX; rw [k1]; rfl
    rw [eS, eX] at h
    rw [eP, eS, eX]
    have e2 : seaK K E = ⟨K.now + 1, K.svcs, tickOf K (K.now + 1), K.bts⟩ := by unfold seaK; rw [k1]; rfl
    have e1 : seaC K E = 0 := by unfold seaC; rw [k1]; rfl
    rw [e1, if_pos rfl, e2, tick_valid hok hnow, if_pos rfl] at hC
    rw [hC]
    refine happens1 px 0 rfl _ R ((passI K rfl rfl rfl h hlo hpl (berth_names hok) (wait_berths hok)).mono ?_)
    rintro e W' ⟨he, ⟨p1', n1', q1', hX⟩, hb⟩
    exact ⟨he, ⟨_, _, _, _, _, _, _, _, _, _, _, _, hX, fun _ => e2⟩, hb⟩
  by_cases k2 : E.kind = 2
  · have eP : hapP E.kind = 96 := by rw [k2]; decide
    have eS : hapS E.kind = 98 := by rw [k2]; decide
    have eX : hapX E = [.string E.sv.nm, .int .i64 E.sv.ver, .bool E.sv.gone, .int .i64 E.sv.image, .int .i64 E.sv.want, .int .i64 E.sv.down, .int .i64 E.sv.over, .int .i64 E.sv.next, .int .i64 E.sv.per, .int .i64 E.sv.least, .int .i64 E.sv.most, .int .i64 E.sv.load, .int .i64 E.sv.cool] := by unfold hapX; rw [k2]; rfl
    rw [eS, eX] at h
    rw [eP, eS, eX]
    have e2 : seaK K E = ⟨K.now + 1, wishOf K.svcs E.sv (K.now + 1), K.cps, K.bts⟩ := by unfold seaK; rw [k2]; rfl
    have e1 : seaC K E = 0 := by unfold seaC; rw [k2]; rfl
    rw [e1, if_pos rfl, e2] at hC
    refine happens2 px _ _ R ((putI (w0 := E.sv) h g.asv hsz.1 (by omega) hlo hpl).mono ?_)
    rintro e W' ⟨he, ⟨p0', n0', q0', hX⟩, hb⟩
    exact ⟨by rw [hC]; exact he, ⟨_, _, _, _, _, _, _, _, _, _, _, _, hX, fun _ => e2⟩, hb⟩
  by_cases k3 : E.kind = 3
  · have eP : hapP E.kind = 99 := by rw [k3]; decide
    have eS : hapS E.kind = 101 := by rw [k3]; decide
    have eX : hapX E = [.string E.nm, .int .i64 E.num] := by unfold hapX; rw [k3]; rfl
    rw [eS, eX] at h
    rw [eP, eS, eX]
    have e2 : seaK K E = ⟨K.now + 1, K.svcs, K.cps.set (cpIx K.cps E.nm E.num).toNat (failC (cpGet K.cps (cpIx K.cps E.nm E.num)) (K.now + 1)), K.bts⟩ := by unfold seaK; rw [k3]; rfl
    have e1 : seaC K E = (if cpIx K.cps E.nm E.num < 0 then 3 else if (cpGet K.cps (cpIx K.cps E.nm E.num)).state = 3 ∨ (cpGet K.cps (cpIx K.cps E.nm E.num)).state = 2 then 0 else 3) := by unfold seaC; rw [k3]; rfl
    have hpl2 := (cpIx_place hac E.nm E.num).2
    have hcode : stewSeaC K E = (if failOk K.cps E.nm E.num then 0 else 3) ∧ (stewSeaC K E = 0 → seaK K E = ⟨K.now + 1, K.svcs, failTo K.cps (K.now + 1) E.nm E.num, K.bts⟩) := by
      by_cases h0 : 0 ≤ cpIx K.cps E.nm E.num
      · obtain ⟨ep, elt⟩ := hpl2 h0
        have eg : cpGet K.cps (cpIx K.cps E.nm E.num) = K.cps.getD (placeAt K.cps E.nm E.num) Cp.none := by unfold cpGet; rw [ep, Int.toNat_natCast]
        rw [if_neg (by omega), eg] at e1
        rw [eg, ep, Int.toNat_natCast] at e2
        by_cases hs : (K.cps.getD (placeAt K.cps E.nm E.num) Cp.none).state = 2 ∨ (K.cps.getD (placeAt K.cps E.nm E.num) Cp.none).state = 3
        · have hf : failOk K.cps E.nm E.num = true := by
            unfold failOk
            rw [decide_eq_true h0, Bool.true_and, Bool.or_eq_true]
            rcases hs with q | q
            · exact Or.inl (by rw [q]; rfl)
            · exact Or.inr (by rw [q]; rfl)
          rw [if_pos (Or.symm hs)] at e1
          have hv := fail_valid hok hnow _ elt hs
          rw [e1, if_pos rfl, e2, hv, if_pos rfl] at hC
          refine ⟨by rw [hf, hC]; rfl, fun _ => ?_⟩
          rw [e2]
          unfold failTo
          rw [hf]
          rfl
        · have hf : failOk K.cps E.nm E.num = false := by
            unfold failOk
            rw [Bool.eq_false_iff]
            intro q
            rw [Bool.and_eq_true, Bool.or_eq_true] at q
            rcases q.2 with r | r
            · exact hs (Or.inl (by simpa using r))
            · exact hs (Or.inr (by simpa using r))
          rw [if_neg (fun q => hs (Or.symm q))] at e1
          rw [e1, if_neg (by decide)] at hC
          exact ⟨by rw [hf, hC]; rfl, fun q => by rw [hC] at q; exact absurd q (by decide)⟩
      · have hf : failOk K.cps E.nm E.num = false := by unfold failOk; rw [decide_eq_false h0]; rfl
        rw [if_pos (by omega)] at e1
        rw [e1, if_neg (by decide)] at hC
        exact ⟨by rw [hf, hC]; rfl, fun q => by rw [hC] at q; exact absurd q (by decide)⟩
    refine happens3 px _ _ R ((failI (nm := E.nm) (num := E.num) h hac hlo).mono ?_)
    rintro e W' ⟨he, hX, hb⟩
    exact ⟨by rw [hcode.1]; exact he, ⟨_, _, _, _, _, _, _, _, _, _, _, _, hX, hcode.2⟩, hb⟩
  by_cases k4 : E.kind = 4
  · have eP : hapP E.kind = 102 := by rw [k4]; decide
    have eS : hapS E.kind = 104 := by rw [k4]; decide
    have eX : hapX E = [.string E.nm] := by unfold hapX; rw [k4]; rfl
    rw [eS, eX] at h
    rw [eP, eS, eX]
    have e2 : seaK K E = ⟨K.now + 1, K.svcs, awayFrom K.cps E.nm, K.bts.take (btIx K.bts E.nm).toNat ++ K.bts.drop ((btIx K.bts E.nm).toNat + 1)⟩ := by unfold seaK; rw [k4]; rfl
    have e1 : seaC K E = (if btIx K.bts E.nm < 0 then 3 else 0) := by unfold seaC; rw [k4]; rfl
    have hcode : stewSeaC K E = (if 0 ≤ btIx K.bts E.nm then 0 else 3) ∧ (stewSeaC K E = 0 → seaK K E = ⟨K.now + 1, K.svcs, sinkC K.bts K.cps E.nm, sinkB K.bts E.nm⟩) := by
      by_cases h0 : 0 ≤ btIx K.bts E.nm
      · rw [if_neg (by omega)] at e1
        obtain ⟨k, hkk, hlt, hsm⟩ : ∃ k : Nat, btIx K.bts E.nm = k ∧ k < K.bts.length ∧ same (K.bts.getD k Bt.none).nm E.nm = true := by
          rcases firstTo_cases (fun i => same (K.bts.getD i Bt.none).nm E.nm) K.bts.length with ⟨q, _⟩ | ⟨k, w1, w2, w3, _⟩
          · exfalso
            have : btIx K.bts E.nm = -1 := q
            omega
          · exact ⟨k, w2, w1, w3⟩
        have hv := sink_valid hok hnow E.nm k hlt hsm
        rw [hkk, Int.toNat_natCast] at e2
        rw [e1, if_pos rfl, e2, hv, if_pos rfl] at hC
        refine ⟨by rw [if_pos h0, hC], fun _ => ?_⟩
        rw [e2]
        unfold sinkC sinkB
        rw [if_pos h0, if_pos h0, hkk, Int.toNat_natCast]
      · rw [if_pos (by omega)] at e1
        rw [e1, if_neg (by decide)] at hC
        exact ⟨by rw [if_neg h0, hC], fun q => by rw [hC] at q; exact absurd q (by decide)⟩
    refine happens4 px _ _ R ((sinkI (nm := E.nm) h hap hsz.2 hlo hpl).mono ?_)
    rintro e W' ⟨he, ⟨p1', p2', n1', n2', q1', q2', hX⟩, hb⟩
    exact ⟨by rw [hcode.1]; exact he, ⟨_, _, _, _, _, _, _, _, _, _, _, _, hX, hcode.2⟩, hb⟩
  by_cases k5 : E.kind = 5
  · have eP : hapP E.kind = 105 := by rw [k5]; decide
    have eS : hapS E.kind = 107 := by rw [k5]; decide
    have eX : hapX E = [.string E.nm, .bool E.flag] := by unfold hapX; rw [k5]; rfl
    rw [eS, eX] at h
    rw [eP, eS, eX]
    have e2 : seaK K E = ⟨K.now + 1, K.svcs, K.cps, raiseOf K.bts E.nm E.flag⟩ := by unfold seaK; rw [k5]; rfl
    have e1 : seaC K E = 0 := by unfold seaC; rw [k5]; rfl
    rw [e1, if_pos rfl, e2] at hC
    refine happens5 px _ _ R ((raiseI (nm := E.nm) (dr := E.flag) h g.abt hsz.2 (by omega) hlo hpl).mono ?_)
    rintro e W' ⟨he, ⟨p2', n2', q2', hX⟩, hb⟩
    exact ⟨by rw [hC]; exact he, ⟨_, _, _, _, _, _, _, _, _, _, _, _, hX, fun _ => e2⟩, hb⟩
  by_cases k6 : E.kind = 6
  · have eP : hapP E.kind = 108 := by rw [k6]; decide
    have eS : hapS E.kind = 110 := by rw [k6]; decide
    have eX : hapX E = [.string E.nm, .int .i64 E.num] := by unfold hapX; rw [k6]; rfl
    rw [eS, eX] at h
    rw [eP, eS, eX]
    have e2 : seaK K E = ⟨K.now + 1, K.svcs.set (svIx K.svcs E.nm).toNat (loadS (svGet K.svcs (svIx K.svcs E.nm)) (K.now + 1) E.num), K.cps, K.bts⟩ := by unfold seaK; rw [k6]; rfl
    have e1 : seaC K E = (if svIx K.svcs E.nm < 0 then 3 else if (svGet K.svcs (svIx K.svcs E.nm)).per = 0 then 3 else 0) := by unfold seaC; rw [k6]; rfl
    have hcode : stewSeaC K E = (if bearOk K.svcs E.nm then (if sbOk ⟨K.now + 1, bearTo K.svcs (K.now + 1) E.nm E.num, K.cps, K.bts⟩ then 0 else 2) else 3) ∧ (stewSeaC K E = 0 → seaK K E = ⟨K.now + 1, bearTo K.svcs (K.now + 1) E.nm E.num, K.cps, K.bts⟩) := by
      by_cases h0 : 0 ≤ svIx K.svcs E.nm
      · rw [if_neg (by omega)] at e1
        by_cases hp : (svGet K.svcs (svIx K.svcs E.nm)).per = 0
        · have hf : bearOk K.svcs E.nm = false := by
            unfold bearOk
            rw [show ((K.svcs.getD (svIx K.svcs E.nm).toNat Sv.none).per == 0) = true from by simpa [svGet] using hp]
            simp
          rw [if_pos hp] at e1
          rw [e1, if_neg (by decide)] at hC
          exact ⟨by rw [hf, hC]; rfl, fun q => by rw [hC] at q; exact absurd q (by decide)⟩
        · have hf : bearOk K.svcs E.nm = true := by
            unfold bearOk
            rw [show ((K.svcs.getD (svIx K.svcs E.nm).toNat Sv.none).per == 0) = false from by simpa [svGet] using hp, decide_eq_true h0]
            rfl
          have e3 : seaK K E = ⟨K.now + 1, bearTo K.svcs (K.now + 1) E.nm E.num, K.cps, K.bts⟩ := by
            rw [e2]
            unfold bearTo
            rw [hf]
            rfl
          rw [if_neg hp] at e1
          rw [e1, if_pos rfl, e3] at hC
          exact ⟨by rw [hf, hC]; rfl, fun _ => e3⟩
      · have hf : bearOk K.svcs E.nm = false := by unfold bearOk; rw [decide_eq_false h0]; rfl
        rw [if_pos (by omega)] at e1
        rw [e1, if_neg (by decide)] at hC
        exact ⟨by rw [hf, hC]; rfl, fun q => by rw [hC] at q; exact absurd q (by decide)⟩
    refine happens6 px _ _ R ((bearI (nm := E.nm) (ld := E.num) h hap hsz.2 hlo).mono ?_)
    rintro e W' ⟨he, hX, hb⟩
    exact ⟨by rw [hcode.1]; exact he, ⟨_, _, _, _, _, _, _, _, _, _, _, _, hX, hcode.2⟩, hb⟩
  exfalso
  simp only [inB, Bool.and_eq_true, decide_eq_true_eq] at hk
  omega

end Go.Proofs.YtclagbakddkjcaaGreat
