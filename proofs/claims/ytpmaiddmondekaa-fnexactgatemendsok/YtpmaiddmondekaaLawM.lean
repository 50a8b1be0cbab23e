/-
  The walk over the law of GateMendsOk.
-/
import Derived.Test.YtpmaiddmondekaaWalkM
import Derived.Test.YtpmaiddmondekaaWalkMB
import Derived.Test.YtpmaiddmondekaaWalkMP
namespace Go.Proofs.Ytpmaiddmondekaa
open Go.RowKit Go.Deep

set_option maxHeartbeats 1000000 in
theorem szMend (m : Mnd) (left : Int) (w : World) (h0 : 0 ≤ left) (h1 : left ≤ 1048576) (hs : m.sized) :
    Calls Try.prog 13 #[.agg #[.string m.kind, .string m.field, .string m.whn, .string m.is_, .string m.put, .string m.frm], .int .i64 left] w fun e w' => (∃ r : Int, e = .returned (.int .i64 r) ∧ -1 ≤ r ∧ r ≤ left) ∧ Below w.heap.size w w' := by
  obtain ⟨s0, s1, s2, s3, s4, s5⟩ := hs
  unfold maxLen at s0 s1 s2 s3 s4 s5
  by_cases c1 : left < (m.kind.size : Int)
  · go_enter Try.func13, Try.ntmps13
    go_wp2
    go_ret
    exact ⟨⟨_, rfl, by omega, by omega⟩, blw_alloc (Below.refl _ _) _⟩
  by_cases c2 : left - m.kind.size < (m.field.size : Int)
  · go_enter Try.func13, Try.ntmps13
    go_wp2
    go_ret
    exact ⟨⟨_, rfl, by omega, by omega⟩, blw_alloc (Below.refl _ _) _⟩
  by_cases c3 : left - m.kind.size - m.field.size < (m.whn.size : Int)
  · go_enter Try.func13, Try.ntmps13
    go_wp2
    go_ret
    exact ⟨⟨_, rfl, by omega, by omega⟩, blw_alloc (Below.refl _ _) _⟩
  by_cases c4 : left - m.kind.size - m.field.size - m.whn.size < (m.is_.size : Int)
  · go_enter Try.func13, Try.ntmps13
    go_wp2
    go_ret
    exact ⟨⟨_, rfl, by omega, by omega⟩, blw_alloc (Below.refl _ _) _⟩
  by_cases c5 : left - m.kind.size - m.field.size - m.whn.size - m.is_.size < (m.put.size : Int)
  · go_enter Try.func13, Try.ntmps13
    go_wp2
    go_ret
    exact ⟨⟨_, rfl, by omega, by omega⟩, blw_alloc (Below.refl _ _) _⟩
  by_cases c6 : left - m.kind.size - m.field.size - m.whn.size - m.is_.size - m.put.size < (m.frm.size : Int)
  all_goals
    go_enter Try.func13, Try.ntmps13
    go_wp2
    go_ret
    exact ⟨⟨_, rfl, by omega, by omega⟩, blw_alloc (Below.refl _ _) _⟩

set_option maxHeartbeats 1000000 in
theorem szMends_row (b off cap : Nat) (ms : List Mnd) (left : Int) (w : World) (h0 : 0 ≤ left) (h1 : left ≤ 1048576) (hb : b < w.heap.size) (hl : ms.length ≤ maxLen)
    (hc : ∀ i, i < ms.length → MndIs w b (off + i * 6) (ms.getD i Mnd.none)) :
    Calls Try.prog 5 #[.slice (some ⟨b, off, none⟩) ms.length cap, .int .i64 left] w fun e w' => (∃ r : Int, e = .returned (.int .i64 r) ∧ szP ((ms.length : Int) ≤ left) left r) ∧ Below w.heap.size w w' := by
  unfold maxLen at hl
  by_cases hneg : left < (ms.length : Int)
  · go_enter Try.func5, Try.ntmps5
    go_wp2
    go_ret
    exact ⟨⟨_, rfl, by unfold szP; refine ⟨by omega, by omega, by omega⟩⟩, Below.refl _ _⟩
  · go_enter Try.func5, Try.ntmps5
    go_wp2
    go_loopw [1, 5] (fun l i wr => ∃ (k : Nat) (r : Int), k ≤ ms.length ∧ i = .int .i64 k ∧ l = .int .i64 r ∧ 0 ≤ r ∧ r ≤ left ∧ Below w.heap.size w wr) (fun _ i _ => ms.length - (intOf i).toNat)
    case atStart => exact ⟨0, _, Nat.zero_le _, rfl, rfl, by omega, by omega, Below.refl _ _⟩
    case round =>
      obtain ⟨k, r, hk, rfl, rfl, r0, r1, hB⟩ := hrel
      by_cases hlt : k < ms.length
      · have hf := (hc k hlt).later hB hb
        obtain ⟨m, hm⟩ : ∃ m, m = ms.getD k Mnd.none := ⟨_, rfl⟩
        rw [← hm] at hf
        have HX : Hid (Calls Try.prog 13 #[.agg #[.string m.kind, .string m.field, .string m.whn, .string m.is_, .string m.put, .string m.frm], .int .i64 r] wr fun e w' => (∃ r' : Int, e = .returned (.int .i64 r') ∧ -1 ≤ r' ∧ r' ≤ r) ∧ Below wr.heap.size wr w') :=
          szMend m r wr r0 (by omega) hf.sized
        obtain ⟨c0, c1, c2, c3, c4, c5, _⟩ := hf
        clear hm hc
        go_wp2_with fail
        refine HX.out.mono ?_
        rintro e w2 ⟨⟨r', rfl, q1, q2⟩, hb2⟩
        have hB2 := blw_trans hB hb2
        clear hb2 c0 c1 c2 c3 c4 c5 HX
        by_cases c2 : r' < 0
        · go_wp2
          go_ret
          exact ⟨⟨_, rfl, by unfold szP; refine ⟨by omega, by omega, by omega⟩⟩, hB2⟩
        · go_wp2
          go_roundw
          case rel => exact ⟨k + 1, _, by omega, by go_num, rfl, by omega, by omega, hB2⟩
          case measure => simp [intOf]; omega
      · go_wp2
        go_ret
        exact ⟨⟨_, rfl, by unfold szP; exact ⟨by omega, by omega, fun _ => by omega⟩⟩, hB⟩

set_option maxHeartbeats 400000 in
theorem szMends_nil (a : Option Addr) (cap : Nat) (left : Int) (w : World) (h0 : 0 ≤ left) (h1 : left ≤ 1048576) :
    Calls Try.prog 5 #[.slice a 0 cap, .int .i64 left] w fun e w' => e = .returned (.int .i64 left) ∧ w = w' := by
  go_enter Try.func5, Try.ntmps5
  go_wp2
  refine wp_loop_rounds 1 ?_
  rw [rounds_succ]
  go_wp2
  go_ret
  exact ⟨Pl.ret_int (by omega), rfl⟩

theorem szMends (v : Value) (ms : List Mnd) (left : Int) (w : World) (h0 : 0 ≤ left) (h1 : left ≤ 1048576) (h : MndsAt w v ms) :
    Calls Try.prog 5 #[v, .int .i64 left] w fun e w' => (∃ r : Int, e = .returned (.int .i64 r) ∧ szP ((ms.length : Int) ≤ left) left r) ∧ Below w.heap.size w w' := by
  rcases h with ⟨a, cap, rfl, rfl⟩ | ⟨b, off, cap, rfl, hb, hl, hc⟩
  · refine (szMends_nil a cap left w h0 h1).mono ?_
    rintro e w' ⟨rfl, rfl⟩
    exact ⟨⟨_, rfl, by unfold szP; exact ⟨by omega, by omega, fun _ => by simpa using h0⟩⟩, Below.refl _ _⟩
  · exact szMends_row b off cap ms left w h0 h1 hb hl hc


set_option maxHeartbeats 4000000 in
theorem lawMends (v u : Value) (ss : List Shp) (ms : List Mnd) (w : World) (h : ShpsAt w v ss) (hm : MndsAt w u ms) :
    Calls Try.prog 3 #[v, u] w fun e w' => e = .returned (.bool true) ∧ Below w.heap.size w w' := by
  have HH : Hid (ShpsAt w v ss ∧ MndsAt w u ms) := ⟨h, hm⟩
  clear h hm
  go_enter Try.func3, Try.ntmps3
  go_wp2_with fail
  refine (szShapes v ss 1048576 w (by omega) (by omega) HH.out.1).mono ?_
  rintro e w1 ⟨⟨r, rfl, hr⟩, hB1⟩
  have HR : Hid (szP (((ss.length : Int) ≤ 1048576) ∧ ∀ s ∈ ss, s.small) 1048576 r) := hr
  have hr1 : r ≤ 1048576 := hr.2.1
  clear hr
  by_cases c1 : r < 0
  · go_wp2
    go_ret
    exact ⟨rfl, hB1⟩
  have HL : Hid (ss.length ≤ 1048576 ∧ ∀ s ∈ ss, s.small) := by have := HR.out.2.2 (by omega); exact ⟨by omega, this.2⟩
  clear HR
  go_wp2_with fail
  refine (szMends u ms r w1 (by omega) hr1 (HH.out.2.later hB1)).mono ?_
  rintro e w2 ⟨⟨r2, rfl, hr2⟩, hb2⟩
  have HR2 : Hid (szP ((ms.length : Int) ≤ r) r r2) := hr2
  have HB2 : Hid (Below w.heap.size w w2) := blw_trans hB1 hb2
  clear hr2 hb2 hB1
  by_cases c2 : r2 < 0
  · go_wp2
    go_ret
    exact ⟨rfl, HB2.out⟩
  have HLM : Hid (ms.length ≤ 1048576) := by have := HR2.out.2.2 (by omega); show ms.length ≤ 1048576; omega
  clear HR2
  have HT : Hid (∀ W, Below w.heap.size w W → Calls Try.prog 7 #[v] W fun e w' => e = .returned (.slice (some ⟨W.heap.size, 0, none⟩) ss.length ss.length) ∧ Below W.heap.size W w' ∧ ShpsIn w' W.heap.size ss) := by
    intro W hW
    refine (toShapes v ss W HL.out.1 HL.out.2 (HH.out.1.later hW)).mono ?_
    rintro e w' ⟨rfl, h1, h2, h3⟩
    exact ⟨rfl, h1, ⟨h2.lt, HL.out.1, HL.out.2, h3, h2⟩⟩
  have HU : Hid (∀ W, Below w.heap.size w W → Calls Try.prog 8 #[u] W fun e w' => e = .returned (.slice (some ⟨W.heap.size, 0, none⟩) ms.length ms.length) ∧ Below W.heap.size W w' ∧ MndsIn w' W.heap.size ms) :=
    fun W hW => toMends u ms W HLM.out (HH.out.2.later hW)
  go_wp2_with fail
  refine (HT.out _ HB2.out).mono ?_
  rintro e w3 ⟨rfl, hb3, hi3⟩
  have HB3 : Hid (Below w.heap.size w w3) := blw_trans HB2.out hb3
  have HI3 : Hid (ShpsIn w3 w2.heap.size ss) := hi3
  clear hb3 hi3
  go_wp2_with fail
  refine (HU.out _ HB3.out).mono ?_
  rintro e w4 ⟨rfl, hb4, hi4⟩
  have HB4 : Hid (Below w.heap.size w w4) := blw_trans HB3.out hb4
  have HI4 : Hid (ShpsIn w4 w2.heap.size ss ∧ MndsIn w4 w3.heap.size ms) := ⟨HI3.out.later hb4, hi4⟩
  clear hb4 hi4
  go_wp2_with fail
  refine (mendsOkS _ _ ss ms w4 HI4.out.1 HI4.out.2).mono ?_
  rintro e w5 ⟨rfl, hb5⟩
  have HB5 : Hid (Below w.heap.size w w5) := blw_trans HB4.out hb5
  clear hb5 HI3 HI4
  go_wp2_with fail
  refine (HT.out _ HB5.out).mono ?_
  rintro e w6 ⟨rfl, hb6, hi6⟩
  have HB6 : Hid (Below w.heap.size w w6) := blw_trans HB5.out hb6
  have HI6 : Hid (ShpsIn w6 w5.heap.size ss) := hi6
  clear hb6 hi6
  go_wp2_with fail
  refine (HU.out _ HB6.out).mono ?_
  rintro e w7 ⟨rfl, hb7, hi7⟩
  have HB7 : Hid (Below w.heap.size w w7) := blw_trans HB6.out hb7
  have HI7 : Hid (ShpsIn w7 w5.heap.size ss ∧ MndsIn w7 w6.heap.size ms) := ⟨HI6.out.later hb7, hi7⟩
  clear hb7 hi7
  go_wp2_with fail
  refine (mendsOkI _ _ ss ms w7 HI7.out.1 HI7.out.2).mono ?_
  rintro e w8 ⟨rfl, hb8⟩
  have HB8 : Hid (Below w.heap.size w w8) := blw_trans HB7.out hb8
  have HI8 : Hid (ShpsIn w8 w5.heap.size ss ∧ MndsIn w8 w6.heap.size ms) := ⟨HI7.out.1.later hb8, HI7.out.2.later hb8⟩
  obtain ⟨R, hR⟩ : ∃ R, R = mendsOk ss ms := ⟨_, rfl⟩
  rw [← hR]
  clear hb8 hR HI6 HI7
  go_wp2_with fail
  refine (HT.out _ HB8.out).mono ?_
  rintro e w9 ⟨rfl, hb9, hi9⟩
  have HB9 : Hid (Below w.heap.size w w9) := blw_trans HB8.out hb9
  have HI9 : Hid (ShpsIn w9 w5.heap.size ss ∧ MndsIn w9 w6.heap.size ms ∧ ShpsIn w9 w8.heap.size ss) := ⟨HI8.out.1.later hb9, HI8.out.2.later hb9, hi9⟩
  clear hb9 hi9 HI8
  go_wp2_with fail
  refine (eqShapes w5.heap.size w8.heap.size ss w9 HL.out.1 HL.out.2 HI9.out.1.lt HI9.out.2.2.lt HI9.out.1.at_ HI9.out.2.2.at_).mono ?_
  rintro e w10 ⟨rfl, hb10⟩
  have HB10 : Hid (Below w.heap.size w w10) := blw_trans HB9.out hb10
  have HI10 : Hid (MndsIn w10 w6.heap.size ms) := HI9.out.2.1.later hb10
  clear hb10 HI9
  go_wp2_with fail
  refine (HU.out _ HB10.out).mono ?_
  rintro e w11 ⟨rfl, hb11, hi11⟩
  have HB11 : Hid (Below w.heap.size w w11) := blw_trans HB10.out hb11
  have HI11 : Hid (MndsIn w11 w6.heap.size ms ∧ MndsIn w11 w10.heap.size ms) := ⟨HI10.out.later hb11, hi11⟩
  clear hb11 hi11 HI10
  go_wp2_with fail
  refine (eqMends _ _ ms w11 HI11.out.1 HI11.out.2).mono ?_
  rintro e w12 ⟨rfl, hb12⟩
  have hB12 := blw_trans HB11.out hb12
  go_wp2
  go_ret
  exact ⟨rfl, hB12⟩

end Go.Proofs.Ytpmaiddmondekaa
