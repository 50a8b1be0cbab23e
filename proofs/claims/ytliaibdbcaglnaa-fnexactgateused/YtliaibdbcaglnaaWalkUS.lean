/-
  What is used.
-/
import Derived.Test.YtliaibdbcaglnaaMemB
import Derived.Test.YtliaibdbcaglnaaWalkWA
import Derived.Test.YtliaibdbcaglnaaWalkUA
namespace Go.Proofs.Ytliaibdbcaglnaa
open Go.RowKit Go.Deep

def usedTo (L : Lw) (os : List Ob) (team res : ByteArray) : Nat → Int
  | 0 => 0
  | k + 1 => if under L.teams (os.getD k Ob.none).team team then wrap64 (usedTo L os team res k + weighs L.shapes (os.getD k Ob.none) res) else usedTo L os team res k

def used (L : Lw) (K : Bk) (team res : ByteArray) : Int := usedTo L K.objects team res K.objects.length

set_option maxHeartbeats 8000000 in
theorem usedS (L : Lw) (K : Bk) (a0 a1 a2 e0 e1 e2 e3 : Nat) (team res : ByteArray) (w : World) (hL : LwIn w a0 a1 a2 L) (hK : BkIn w e0 e1 e2 e3 K) :
    Calls Try.prog 14 #[.agg #[.slice (some ⟨a0, 0, none⟩) L.shapes.length L.shapes.length, .slice (some ⟨a1, 0, none⟩) L.mends.length L.mends.length, .slice (some ⟨a2, 0, none⟩) L.teams.length L.teams.length], .agg #[.int .i64 K.now, .int .i64 K.tick, .int .i64 K.given, .slice (some ⟨e0, 0, none⟩) K.objects.length K.objects.length, .slice (some ⟨e1, 0, none⟩) K.grants.length K.grants.length, .slice (some ⟨e2, 0, none⟩) K.ledgers.length K.ledgers.length, .slice (some ⟨e3, 0, none⟩) K.purses.length K.purses.length], .string team, .string res] w fun e w' => e = .returned (.int .i64 (used L K team res)) ∧ Below w.heap.size w w' := by
  have HA : Hid (LwIn w a0 a1 a2 L ∧ BkIn w e0 e1 e2 e3 K) := ⟨hL, hK⟩
  have hl := hK.o.len
  clear hL hK
  obtain ⟨w1, hw1⟩ : ∃ w1, w1 = (w.alloc (.cells #[.slice (some ⟨a0, 0, none⟩) L.shapes.length L.shapes.length, .slice (some ⟨a1, 0, none⟩) L.mends.length L.mends.length, .slice (some ⟨a2, 0, none⟩) L.teams.length L.teams.length] 37)).alloc (.cells #[.int .i64 K.now, .int .i64 K.tick, .int .i64 K.given, .slice (some ⟨e0, 0, none⟩) K.objects.length K.objects.length, .slice (some ⟨e1, 0, none⟩) K.grants.length K.grants.length, .slice (some ⟨e2, 0, none⟩) K.ledgers.length K.ledgers.length, .slice (some ⟨e3, 0, none⟩) K.purses.length K.purses.length] 57) := ⟨_, rfl⟩
  have HB1 : Hid (Below w.heap.size w w1) := by show Below _ _ _; rw [hw1]; exact blw_alloc (blw_alloc (Below.refl _ _) _) _
  have HX1 : Hid (Box3 w1 w.heap.size (.slice (some ⟨a0, 0, none⟩) L.shapes.length L.shapes.length) (.slice (some ⟨a1, 0, none⟩) L.mends.length L.mends.length) (.slice (some ⟨a2, 0, none⟩) L.teams.length L.teams.length) ∧ Box7 w1 (w.heap.size + 1) (.int .i64 K.now) (.int .i64 K.tick) (.int .i64 K.given) (.slice (some ⟨e0, 0, none⟩) K.objects.length K.objects.length) (.slice (some ⟨e1, 0, none⟩) K.grants.length K.grants.length) (.slice (some ⟨e2, 0, none⟩) K.ledgers.length K.ledgers.length) (.slice (some ⟨e3, 0, none⟩) K.purses.length K.purses.length)) := by show _ ∧ _; rw [hw1]; exact ⟨(Box3.new' w _ _ _ _ _ rfl).past _, Box7.new' _ _ _ _ _ _ _ _ _ _ (by simp)⟩
  obtain ⟨lz, l0, l1, l2⟩ := HX1.out.1
  obtain ⟨kz, k0, k1, k2, k3, k4, k5, k6⟩ := HX1.out.2
  go_enter Try.func14, Try.ntmps14
  go_upto_region 1 with fail
  rw [← hw1]
  clear hw1
  go_wp2
  clear lz l0 l1 l2 kz k0 k1 k2 k3 k4 k5 k6
  go_loopw [9, 10] (fun s9 s10 wr => ∃ q : Nat, q ≤ K.objects.length ∧ s10 = .int .i64 q ∧ s9 = .int .i64 (usedTo L K.objects team res q) ∧ Below w1.heap.size w1 wr) (fun _ s10 _ => K.objects.length - (intOf s10).toNat)
  case atStart => exact ⟨0, Nat.zero_le _, rfl, rfl, Below.refl _ _⟩
  case round =>
      obtain ⟨q, hq, rfl, rfl, hW⟩ := hrel
      obtain ⟨lz, l0, l1, l2⟩ := HX1.out.1.later hW
      obtain ⟨kz, k0, k1, k2, k3, k4, k5, k6⟩ := HX1.out.2.later hW
      obtain ⟨sm, hsm⟩ : ∃ sm, sm = usedTo L K.objects team res q := ⟨_, rfl⟩
      have HSM : Hid (sm = usedTo L K.objects team res q) := hsm
      rw [← hsm]
      clear hsm
      have HWB : Hid (Below w.heap.size w wr) := blw_trans HB1.out hW
      have HWW : Hid (Below w1.heap.size w1 wr) := hW
      by_cases hlt : q < K.objects.length
      · obtain ⟨o, ho⟩ : ∃ o, o = K.objects.getD q Ob.none := ⟨_, rfl⟩
        obtain ⟨b1, b2, _, c0, c1, c2, c3, c4, c5, c6, hoi⟩ := (HA.out.2.later HWB.out).o.at_ q hlt
        rw [← ho] at c0 c1 c2 c3 c4 c5 c6 hoi
        have hez := (HA.out.2.later HWB.out).o.lt
        have HST : Hid (usedTo L K.objects team res (q + 1) = if under L.teams o.team team then wrap64 (usedTo L K.objects team res q + weighs L.shapes o res) else usedTo L K.objects team res q) := by show usedTo _ _ _ _ _ = _; simp only [usedTo]; rw [← ho]
        have HOI : Hid (ObIn wr b1 b2 o ∧ LwIn wr a0 a1 a2 L) := ⟨hoi, HA.out.1.later HWB.out⟩
        have HU : Hid (∀ W, Below wr.heap.size wr W → Calls Try.prog 38 #[.slice (some ⟨a2, 0, none⟩) L.teams.length L.teams.length, .string o.team, .string team] W fun e w' => e = .returned (.bool (under L.teams o.team team)) ∧ W = w') := fun W hW => underS a2 L.teams o.team team W (HOI.out.2.later hW).t
        have HG : Hid (∀ W, Below wr.heap.size wr W → Calls Try.prog 7 #[.agg #[.slice (some ⟨a0, 0, none⟩) L.shapes.length L.shapes.length, .slice (some ⟨a1, 0, none⟩) L.mends.length L.mends.length, .slice (some ⟨a2, 0, none⟩) L.teams.length L.teams.length], .agg #[.string o.kind, .string o.name, .string o.team, .slice (some ⟨b1, 0, none⟩) o.values.length o.values.length, .bool o.ending, .slice (some ⟨b2, 0, none⟩) o.holds.length o.holds.length, .int .i64 o.version], .string res] W fun e w' => e = .returned (.int .i64 (weighs L.shapes o res)) ∧ Below W.heap.size W w') := fun W hW => weighsS a0 _ _ L.shapes o b1 _ b2 _ res W (HOI.out.2.later hW).s (HOI.out.1.later hW).arg HOI.out.1.z1
        obtain ⟨wg, hwg⟩ : ∃ wg, wg = weighs L.shapes o res := ⟨_, rfl⟩
        rw [← hwg] at HG HST
        obtain ⟨bu, hbu⟩ : ∃ bu, bu = under L.teams o.team team := ⟨_, rfl⟩
        rw [← hbu] at HU HST
        clear hwg hbu ho hoi
        go_wp2_with fail
        go_region_with (go_at_call 38; refine (HU.out _ ?_).mono ?_; (repeat (first | exact Below.refl _ _ | refine Below.drew ?_)); rintro e w2 ⟨rfl, rfl⟩)
        all_goals
          cases bu
          · go_wp2
            go_roundw
            case rel => exact ⟨q + 1, by omega, by go_num, by rw [HST.out, HSM.out]; rfl, by repeat (first | exact HWW.out | refine Below.drew ?_)⟩
            case measure => simp [intOf]; omega
          · go_wp2_with fail
            go_region_with (go_at_call 7; refine (HG.out _ ?_).mono ?_; (repeat (first | exact Below.refl _ _ | refine Below.drew ?_)); rintro e w3 ⟨rfl, hb3⟩; have k3' : Below wr.heap.size wr w3 := blw_trans (by repeat (first | exact Below.refl _ _ | refine Below.drew ?_)) hb3; clear hb3)
            all_goals
              go_wp2
              go_roundw
              case rel => exact ⟨q + 1, by omega, by go_num, by rw [HST.out, HSM.out]; rfl, by repeat (first | exact blw_trans HWW.out k3' | refine Below.drew ?_)⟩
              case measure => simp [intOf]; omega
      · obtain rfl : q = K.objects.length := by omega
        go_wp2
        go_ret
        exact ⟨Pl.ret_int (by rw [HSM.out]; rfl), HWB.out⟩

set_option maxHeartbeats 8000000 in
theorem usedI (L : Lw) (K : Bk) (a0 a1 a2 e0 e1 e2 e3 : Nat) (team res : ByteArray) (w : World) (hL : LwIn w a0 a1 a2 L) (hK : BkIn w e0 e1 e2 e3 K) :
    Calls Try.prog 16 #[.agg #[.slice (some ⟨a0, 0, none⟩) L.shapes.length L.shapes.length, .slice (some ⟨a1, 0, none⟩) L.mends.length L.mends.length, .slice (some ⟨a2, 0, none⟩) L.teams.length L.teams.length], .agg #[.int .i64 K.now, .int .i64 K.tick, .int .i64 K.given, .slice (some ⟨e0, 0, none⟩) K.objects.length K.objects.length, .slice (some ⟨e1, 0, none⟩) K.grants.length K.grants.length, .slice (some ⟨e2, 0, none⟩) K.ledgers.length K.ledgers.length, .slice (some ⟨e3, 0, none⟩) K.purses.length K.purses.length], .string team, .string res] w fun e w' => e = .returned (.int .i64 (used L K team res)) ∧ Below w.heap.size w w' := by
  have HA : Hid (LwIn w a0 a1 a2 L ∧ BkIn w e0 e1 e2 e3 K) := ⟨hL, hK⟩
  have hl := hK.o.len
  clear hL hK
  obtain ⟨w1, hw1⟩ : ∃ w1, w1 = (w.alloc (.cells #[.slice (some ⟨a0, 0, none⟩) L.shapes.length L.shapes.length, .slice (some ⟨a1, 0, none⟩) L.mends.length L.mends.length, .slice (some ⟨a2, 0, none⟩) L.teams.length L.teams.length] 37)).alloc (.cells #[.int .i64 K.now, .int .i64 K.tick, .int .i64 K.given, .slice (some ⟨e0, 0, none⟩) K.objects.length K.objects.length, .slice (some ⟨e1, 0, none⟩) K.grants.length K.grants.length, .slice (some ⟨e2, 0, none⟩) K.ledgers.length K.ledgers.length, .slice (some ⟨e3, 0, none⟩) K.purses.length K.purses.length] 57) := ⟨_, rfl⟩
  have HB1 : Hid (Below w.heap.size w w1) := by show Below _ _ _; rw [hw1]; exact blw_alloc (blw_alloc (Below.refl _ _) _) _
  have HX1 : Hid (Box3 w1 w.heap.size (.slice (some ⟨a0, 0, none⟩) L.shapes.length L.shapes.length) (.slice (some ⟨a1, 0, none⟩) L.mends.length L.mends.length) (.slice (some ⟨a2, 0, none⟩) L.teams.length L.teams.length) ∧ Box7 w1 (w.heap.size + 1) (.int .i64 K.now) (.int .i64 K.tick) (.int .i64 K.given) (.slice (some ⟨e0, 0, none⟩) K.objects.length K.objects.length) (.slice (some ⟨e1, 0, none⟩) K.grants.length K.grants.length) (.slice (some ⟨e2, 0, none⟩) K.ledgers.length K.ledgers.length) (.slice (some ⟨e3, 0, none⟩) K.purses.length K.purses.length)) := by show _ ∧ _; rw [hw1]; exact ⟨(Box3.new' w _ _ _ _ _ rfl).past _, Box7.new' _ _ _ _ _ _ _ _ _ _ (by simp)⟩
  obtain ⟨lz, l0, l1, l2⟩ := HX1.out.1
  obtain ⟨kz, k0, k1, k2, k3, k4, k5, k6⟩ := HX1.out.2
  go_enter Try.func16, Try.ntmps16
  go_upto_region 1 with fail
  rw [← hw1]
  clear hw1
  go_wp2
  clear lz l0 l1 l2 kz k0 k1 k2 k3 k4 k5 k6
  go_loopw [9, 11, 15] (fun s9 s11 s15 wr => ∃ q : Nat, q ≤ K.objects.length ∧ s15 = .int .i64 q ∧ s9 = .int .i64 (usedTo L K.objects team res q) ∧ Below w1.heap.size w1 wr) (fun _ _ s15 _ => K.objects.length - (intOf s15).toNat)
  case atStart => exact ⟨0, Nat.zero_le _, rfl, rfl, Below.refl _ _⟩
  case round =>
      obtain ⟨q, hq, rfl, rfl, hW⟩ := hrel
      obtain ⟨lz, l0, l1, l2⟩ := HX1.out.1.later hW
      obtain ⟨kz, k0, k1, k2, k3, k4, k5, k6⟩ := HX1.out.2.later hW
      obtain ⟨sm, hsm⟩ : ∃ sm, sm = usedTo L K.objects team res q := ⟨_, rfl⟩
      have HSM : Hid (sm = usedTo L K.objects team res q) := hsm
      rw [← hsm]
      clear hsm
      have HWB : Hid (Below w.heap.size w wr) := blw_trans HB1.out hW
      have HWW : Hid (Below w1.heap.size w1 wr) := hW
      by_cases hlt : q < K.objects.length
      · obtain ⟨o, ho⟩ : ∃ o, o = K.objects.getD q Ob.none := ⟨_, rfl⟩
        obtain ⟨b1, b2, _, c0, c1, c2, c3, c4, c5, c6, hoi⟩ := (HA.out.2.later HWB.out).o.at_ q hlt
        rw [← ho] at c0 c1 c2 c3 c4 c5 c6 hoi
        have hez := (HA.out.2.later HWB.out).o.lt
        have HST : Hid (usedTo L K.objects team res (q + 1) = if under L.teams o.team team then wrap64 (usedTo L K.objects team res q + weighs L.shapes o res) else usedTo L K.objects team res q) := by show usedTo _ _ _ _ _ = _; simp only [usedTo]; rw [← ho]
        have HOI : Hid (ObIn wr b1 b2 o ∧ LwIn wr a0 a1 a2 L) := ⟨hoi, HA.out.1.later HWB.out⟩
        have HU : Hid (∀ W, Below wr.heap.size wr W → Calls Try.prog 43 #[.slice (some ⟨a2, 0, none⟩) L.teams.length L.teams.length, .string o.team, .string team] W fun e w' => e = .returned (.bool (under L.teams o.team team)) ∧ Below W.heap.size W w') := fun W hW => underI a2 L.teams o.team team W (HOI.out.2.later hW).t
        have HG : Hid (∀ W, Below wr.heap.size wr W → Calls Try.prog 10 #[.agg #[.slice (some ⟨a0, 0, none⟩) L.shapes.length L.shapes.length, .slice (some ⟨a1, 0, none⟩) L.mends.length L.mends.length, .slice (some ⟨a2, 0, none⟩) L.teams.length L.teams.length], .agg #[.string o.kind, .string o.name, .string o.team, .slice (some ⟨b1, 0, none⟩) o.values.length o.values.length, .bool o.ending, .slice (some ⟨b2, 0, none⟩) o.holds.length o.holds.length, .int .i64 o.version], .string res] W fun e w' => e = .returned (.int .i64 (weighs L.shapes o res)) ∧ Below W.heap.size W w') := fun W hW => weighsI a0 _ _ L.shapes o b1 _ b2 _ res W (HOI.out.2.later hW).s (HOI.out.1.later hW).arg HOI.out.1.z1
        obtain ⟨wg, hwg⟩ : ∃ wg, wg = weighs L.shapes o res := ⟨_, rfl⟩
        rw [← hwg] at HG HST
        obtain ⟨bu, hbu⟩ : ∃ bu, bu = under L.teams o.team team := ⟨_, rfl⟩
        rw [← hbu] at HU HST
        clear hwg hbu ho hoi
        obtain ⟨wx, hwx⟩ : ∃ wx, wx = wr.alloc (.cells #[.string o.kind, .string o.name, .string o.team, .slice (some ⟨b1, 0, none⟩) o.values.length o.values.length, .bool o.ending, .slice (some ⟨b2, 0, none⟩) o.holds.length o.holds.length, .int .i64 o.version] 39) := ⟨_, rfl⟩
        have HKX : Hid (Below wr.heap.size wr wx) := by show Below _ _ _; rw [hwx]; exact blw_alloc (Below.refl _ _) _
        have HBX : Hid (Box7 wx wr.heap.size (.string o.kind) (.string o.name) (.string o.team) (.slice (some ⟨b1, 0, none⟩) o.values.length o.values.length) (.bool o.ending) (.slice (some ⟨b2, 0, none⟩) o.holds.length o.holds.length) (.int .i64 o.version) ∧ Box3 wx w.heap.size (.slice (some ⟨a0, 0, none⟩) L.shapes.length L.shapes.length) (.slice (some ⟨a1, 0, none⟩) L.mends.length L.mends.length) (.slice (some ⟨a2, 0, none⟩) L.teams.length L.teams.length)) := by
          show _ ∧ _
          rw [hwx]
          exact ⟨Box7.new' _ _ _ _ _ _ _ _ _ _ rfl, ((HX1.out.1.later HWW.out).later (blw_alloc (Below.refl _ _) _))⟩
        go_upto_region 5 with fail
        rw [← hwx]
        clear hwx lz l0 l1 l2 kz k0 k1 k2 k3 k4 k5 k6 c0 c1 c2 c3 c4 c5 c6 hez
        obtain ⟨xz, x0, x1, x2, x3, x4, x5, x6⟩ := HBX.out.1
        obtain ⟨lz, l0, l1, l2⟩ := HBX.out.2
        go_wp2_with fail
        refine (HU.out _ HKX.out).mono ?_
        rintro e w2 ⟨rfl, hb2⟩
        have HK2 : Hid (Below wr.heap.size wr w2) := blw_trans HKX.out hb2
        have HB2 : Hid (Box7 w2 wr.heap.size (.string o.kind) (.string o.name) (.string o.team) (.slice (some ⟨b1, 0, none⟩) o.values.length o.values.length) (.bool o.ending) (.slice (some ⟨b2, 0, none⟩) o.holds.length o.holds.length) (.int .i64 o.version) ∧ Box3 w2 w.heap.size (.slice (some ⟨a0, 0, none⟩) L.shapes.length L.shapes.length) (.slice (some ⟨a1, 0, none⟩) L.mends.length L.mends.length) (.slice (some ⟨a2, 0, none⟩) L.teams.length L.teams.length)) := ⟨HBX.out.1.later hb2, HBX.out.2.later hb2⟩
        clear hb2 xz x0 x1 x2 x3 x4 x5 x6 lz l0 l1 l2 HBX HKX
        cases bu
        · go_wp2
          go_roundw
          case rel => exact ⟨q + 1, by omega, by go_num, by rw [HST.out, HSM.out]; rfl, blw_trans HWW.out HK2.out⟩
          case measure => simp [intOf]; omega
        · obtain ⟨xz, x0, x1, x2, x3, x4, x5, x6⟩ := HB2.out.1
          obtain ⟨lz, l0, l1, l2⟩ := HB2.out.2
          go_wp2_with fail
          refine (HG.out _ HK2.out).mono ?_
          rintro e w3 ⟨rfl, hb3⟩
          have HK3 : Hid (Below wr.heap.size wr w3) := blw_trans HK2.out hb3
          clear hb3 xz x0 x1 x2 x3 x4 x5 x6 lz l0 l1 l2
          go_wp2
          go_roundw
          case rel => exact ⟨q + 1, by omega, by go_num, by rw [HST.out, HSM.out]; rfl, blw_trans HWW.out HK3.out⟩
          case measure => simp [intOf]; omega
      · obtain rfl : q = K.objects.length := by omega
        go_wp2
        go_ret
        exact ⟨Pl.ret_int (by rw [HSM.out]; rfl), HWB.out⟩

end Go.Proofs.Ytliaibdbcaglnaa
