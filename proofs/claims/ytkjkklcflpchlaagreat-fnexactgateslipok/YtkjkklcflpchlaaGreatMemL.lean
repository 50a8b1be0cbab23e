/-
  A law in memory: sizes, copies, equality.
-/
import Derived.Deep.DeepCutAuto
import Derived.Test.YtkjkklcflpchlaaGreatMem
import Derived.Test.YtkjkklcflpchlaaGreatMemM
import Derived.Test.YtkjkklcflpchlaaGreatMemT
import Derived.Test.YtkjkklcflpchlaaGreatPlain
import Derived.Test.YtkjkklcflpchlaaGreatWalkP
import Derived.Test.YtkjkklcflpchlaaGreatPlainC
namespace Go.Proofs.YtkjkklcflpchlaaGreat
open Go.RowKit Go.Deep

set_option maxHeartbeats 1000000 in
theorem szFields_row (b off cap : Nat) (fs : List Fld) (left : Int) (w : World) (h0 : 0 ≤ left) (h1 : left ≤ 1048576) (hb : b < w.heap.size) (hl : fs.length ≤ maxLen)
    (hc : ∀ i, i < fs.length → ∃ vs, FldIs w b (off + i * 11) (fs.getD i Fld.none) vs) :
    Calls Tryz.prog 75 #[.slice (some ⟨b, off, none⟩) fs.length cap, .int .i64 left] w fun e w' => (∃ r : Int, e = .returned (.int .i64 r) ∧ szP ((fs.length : Int) ≤ left ∧ ∀ f ∈ fs, f.small) left r) ∧ Below w.heap.size w w' := by
  unfold maxLen at hl
  by_cases hneg : left < (fs.length : Int)
  · go_enter Tryz.func75, Tryz.ntmps75
    go_wp2
    go_ret
    exact ⟨⟨_, rfl, by unfold szP; refine ⟨by omega, by omega, by omega⟩⟩, Below.refl _ _⟩
  · go_enter Tryz.func75, Tryz.ntmps75
    go_wp2
    go_loopw [1, 5] (fun l i wr => ∃ (k : Nat) (r : Int), k ≤ fs.length ∧ i = .int .i64 k ∧ l = .int .i64 r ∧ 0 ≤ r ∧ r ≤ left ∧ Below w.heap.size w wr ∧ ∀ f ∈ fs.take k, f.small) (fun _ i _ => fs.length - (intOf i).toNat)
    case atStart => exact ⟨0, _, Nat.zero_le _, rfl, rfl, by omega, by omega, Below.refl _ _, by simp⟩
    case round =>
      obtain ⟨k, r, hk, rfl, rfl, r0, r1, hB, hsm⟩ := hrel
      have HS : Hid (∀ f ∈ fs.take k, f.small) := hsm
      clear hsm
      by_cases hlt : k < fs.length
      · obtain ⟨vs, hf⟩ := hc k hlt
        have hf' := hf.later hB hb
        have HX : Hid (∀ f : Fld, f = fs.getD k Fld.none → Calls Tryz.prog 94 #[.agg #[.string f.nm, .int .i64 f.kind, .int .i64 f.least, .int .i64 f.most, vs, .string f.to, .int .i64 f.role, .bool f.must, .bool f.fixed, .string f.de, .string f.we], .int .i64 r] wr fun e w' => (∃ r' : Int, e = .returned (.int .i64 r') ∧ szPost f.words.length r r') ∧ Below wr.heap.size wr w') := by
          intro f hff
          subst hff
          exact szField _ _ _ _ vs _ _ _ _ _ _ wr _ r r0 (by omega) hf'.texts hf'.sized.1 hf'.sized.2.1 hf'.sized.2.2.1 hf'.sized.2.2.2
        obtain ⟨f, hff⟩ : ∃ f, f = fs.getD k Fld.none := ⟨_, rfl⟩
        rw [← hff] at hf'
        obtain ⟨c0, c1, c2, c3, c4, c5, c6, c7, c8, c9, c10, _, _⟩ := hf'
        have HFF : Hid (f = fs.getD k Fld.none) := hff
        clear hff hf hc
        go_wp2_with fail
        refine (HX.out f HFF.out).mono ?_
        rintro e w2 ⟨⟨r', rfl, hr⟩, hb2⟩
        have HR : Hid (szPost f.words.length r r') := hr
        have hB2 := blw_trans hB hb2
        have q1 : -1 ≤ r' := hr.1
        have q2 : r' ≤ r := hr.2.1
        clear hr hb2 c0 c1 c2 c3 c4 c5 c6 c7 c8 c9 c10 HX
        by_cases c2 : r' < 0
        · go_wp2
          go_ret
          exact ⟨⟨_, rfl, by unfold szP; refine ⟨by omega, by omega, by omega⟩⟩, hB2⟩
        · have HSm : Hid (∀ f ∈ fs.take (k + 1), f.small) := by
            refine small_take HS.out hlt ?_
            rw [← HFF.out]
            have := HR.out.2.2 (by omega)
            show f.words.length ≤ 1048576
            omega
          go_wp2
          go_roundw
          case rel => exact ⟨k + 1, _, by omega, by go_num, rfl, by omega, by omega, hB2, HSm.out⟩
          case measure => simp [intOf]; omega
      · have HW : Hid (∀ f ∈ fs, f.small) := small_whole HS.out (by omega)
        go_wp2
        go_ret
        exact ⟨⟨_, rfl, by unfold szP; exact ⟨by omega, by omega, fun _ => ⟨by omega, HW.out⟩⟩⟩, hB⟩

set_option maxHeartbeats 400000 in
theorem szFields_nil (a : Option Addr) (cap : Nat) (left : Int) (w : World) (h0 : 0 ≤ left) (h1 : left ≤ 1048576) :
    Calls Tryz.prog 75 #[.slice a 0 cap, .int .i64 left] w fun e w' => e = .returned (.int .i64 left) ∧ w = w' := by
  go_enter Tryz.func75, Tryz.ntmps75
  go_wp2
  refine wp_loop_rounds 1 ?_
  rw [rounds_succ]
  go_wp2
  go_ret
  exact ⟨Pl.ret_int (by omega), rfl⟩

theorem szFields (v : Value) (fs : List Fld) (left : Int) (w : World) (h0 : 0 ≤ left) (h1 : left ≤ 1048576) (h : FldsAt w v fs) :
    Calls Tryz.prog 75 #[v, .int .i64 left] w fun e w' => (∃ r : Int, e = .returned (.int .i64 r) ∧ szP ((fs.length : Int) ≤ left ∧ ∀ f ∈ fs, f.small) left r) ∧ Below w.heap.size w w' := by
  rcases h with ⟨a, cap, rfl, rfl⟩ | ⟨b, off, cap, rfl, hb, hl, hc⟩
  · refine (szFields_nil a cap left w h0 h1).mono ?_
    rintro e w' ⟨rfl, rfl⟩
    exact ⟨⟨_, rfl, by unfold szP; exact ⟨by omega, by omega, fun _ => ⟨by simpa using h0, by simp⟩⟩⟩, Below.refl _ _⟩
  · exact szFields_row b off cap fs left w h0 h1 hb hl hc

set_option maxHeartbeats 1000000 in
theorem szShape (s : Shp) (v : Value) (left : Int) (w : World) (h0 : 0 ≤ left) (h1 : left ≤ 1048576) (h : FldsAt w v s.fields) (hk : s.kind.size ≤ maxLen) :
    Calls Tryz.prog 42 #[.agg #[.string s.kind, v], .int .i64 left] w fun e w' => (∃ r : Int, e = .returned (.int .i64 r) ∧ szP s.small left r) ∧ Below w.heap.size w w' := by
  unfold maxLen at hk
  have HX : Hid (∀ (o : Obj) (l : Int), 0 ≤ l → l ≤ 1048576 → Calls Tryz.prog 75 #[v, .int .i64 l] (w.alloc o) fun e w' => (∃ r : Int, e = .returned (.int .i64 r) ∧ szP ((s.fields.length : Int) ≤ l ∧ ∀ f ∈ s.fields, f.small) l r) ∧ Below (w.alloc o).heap.size (w.alloc o) w') :=
    fun o l l0 l1 => szFields v s.fields l _ l0 l1 (h.later (blw_alloc (Below.refl _ _) o))
  clear h
  by_cases c1 : left < (s.kind.size : Int)
  · go_enter Tryz.func42, Tryz.ntmps42
    go_wp2
    go_ret
    exact ⟨⟨_, rfl, by unfold szP; exact ⟨by omega, by omega, by omega⟩⟩, blw_alloc (Below.refl _ _) _⟩
  · go_enter Tryz.func42, Tryz.ntmps42
    go_wp2_with fail
    refine (HX.out _ _ (by omega) (by omega)).mono ?_
    rintro e w2 ⟨⟨r, rfl, hr⟩, hb2⟩
    have hB2 := blw_trans (blw_alloc (Below.refl _ _) _) hb2
    have HR : Hid (szP ((s.fields.length : Int) ≤ left - s.kind.size ∧ ∀ f ∈ s.fields, f.small) (left - s.kind.size) r) := hr
    have q1 : -1 ≤ r := hr.1
    have q2 : r ≤ left - s.kind.size := hr.2.1
    clear hr HX hb2
    by_cases c2 : r < 0
    all_goals
      go_wp2
      go_ret
      refine ⟨⟨_, rfl, ?_⟩, hB2⟩
      unfold szP
      exact ⟨by omega, by omega, fun h => ⟨by have := (HR.out.2.2 (by omega)).1; omega, (HR.out.2.2 (by omega)).2⟩⟩

set_option maxHeartbeats 1000000 in
theorem szShapes_row (b off cap : Nat) (ss : List Shp) (left : Int) (w : World) (h0 : 0 ≤ left) (h1 : left ≤ 1048576) (hb : b < w.heap.size) (hl : ss.length ≤ maxLen)
    (hc : ∀ i, i < ss.length → ∃ x, ShpIs w b (off + i * 2) (ss.getD i Shp.none) x) :
    Calls Tryz.prog 18 #[.slice (some ⟨b, off, none⟩) ss.length cap, .int .i64 left] w fun e w' => (∃ r : Int, e = .returned (.int .i64 r) ∧ szP ((ss.length : Int) ≤ left ∧ ∀ s ∈ ss, s.small) left r) ∧ Below w.heap.size w w' := by
  unfold maxLen at hl
  by_cases hneg : left < (ss.length : Int)
  · go_enter Tryz.func18, Tryz.ntmps18
    go_wp2
    go_ret
    exact ⟨⟨_, rfl, by unfold szP; refine ⟨by omega, by omega, by omega⟩⟩, Below.refl _ _⟩
  · go_enter Tryz.func18, Tryz.ntmps18
    go_wp2
    go_loopw [1, 5] (fun l i wr => ∃ (k : Nat) (r : Int), k ≤ ss.length ∧ i = .int .i64 k ∧ l = .int .i64 r ∧ 0 ≤ r ∧ r ≤ left ∧ Below w.heap.size w wr ∧ ∀ s ∈ ss.take k, s.small) (fun _ i _ => ss.length - (intOf i).toNat)
    case atStart => exact ⟨0, _, Nat.zero_le _, rfl, rfl, by omega, by omega, Below.refl _ _, by simp⟩
    case round =>
      obtain ⟨k, r, hk, rfl, rfl, r0, r1, hB, hsm⟩ := hrel
      have HS : Hid (∀ s ∈ ss.take k, s.small) := hsm
      clear hsm
      by_cases hlt : k < ss.length
      · obtain ⟨vs, hf⟩ := hc k hlt
        have hf' := hf.later hB hb
        obtain ⟨s, hss⟩ : ∃ s, s = ss.getD k Shp.none := ⟨_, rfl⟩
        rw [← hss] at hf'
        have HX : Hid (Calls Tryz.prog 42 #[.agg #[.string s.kind, vs], .int .i64 r] wr fun e w' => (∃ r' : Int, e = .returned (.int .i64 r') ∧ szP s.small r r') ∧ Below wr.heap.size wr w') :=
          szShape s vs r wr r0 (by omega) hf'.fields hf'.sized
        obtain ⟨c0, c1, _, _⟩ := hf'
        have HFF : Hid (s = ss.getD k Shp.none) := hss
        clear hss hf hc
        go_wp2_with fail
        refine HX.out.mono ?_
        rintro e w2 ⟨⟨r', rfl, hr⟩, hb2⟩
        have HR : Hid (szP s.small r r') := hr
        have hB2 := blw_trans hB hb2
        have q1 : -1 ≤ r' := hr.1
        have q2 : r' ≤ r := hr.2.1
        clear hr hb2 c0 c1 HX
        by_cases c2 : r' < 0
        · go_wp2
          go_ret
          exact ⟨⟨_, rfl, by unfold szP; refine ⟨by omega, by omega, by omega⟩⟩, hB2⟩
        · have HSm : Hid (∀ s ∈ ss.take (k + 1), s.small) := by
            refine shp_take HS.out hlt ?_
            rw [← HFF.out]
            exact HR.out.2.2 (by omega)
          go_wp2
          go_roundw
          case rel => exact ⟨k + 1, _, by omega, by go_num, rfl, by omega, by omega, hB2, HSm.out⟩
          case measure => simp [intOf]; omega
      · have HW : Hid (∀ s ∈ ss, s.small) := shp_whole HS.out (by omega)
        go_wp2
        go_ret
        exact ⟨⟨_, rfl, by unfold szP; exact ⟨by omega, by omega, fun _ => ⟨by omega, HW.out⟩⟩⟩, hB⟩

set_option maxHeartbeats 400000 in
theorem szShapes_nil (a : Option Addr) (cap : Nat) (left : Int) (w : World) (h0 : 0 ≤ left) (h1 : left ≤ 1048576) :
    Calls Tryz.prog 18 #[.slice a 0 cap, .int .i64 left] w fun e w' => e = .returned (.int .i64 left) ∧ w = w' := by
  go_enter Tryz.func18, Tryz.ntmps18
  go_wp2
  refine wp_loop_rounds 1 ?_
  rw [rounds_succ]
  go_wp2
  go_ret
  exact ⟨Pl.ret_int (by omega), rfl⟩

theorem szShapes (v : Value) (ss : List Shp) (left : Int) (w : World) (h0 : 0 ≤ left) (h1 : left ≤ 1048576) (h : ShpsAt w v ss) :
    Calls Tryz.prog 18 #[v, .int .i64 left] w fun e w' => (∃ r : Int, e = .returned (.int .i64 r) ∧ szP ((ss.length : Int) ≤ left ∧ ∀ s ∈ ss, s.small) left r) ∧ Below w.heap.size w w' := by
  rcases h with ⟨a, cap, rfl, rfl⟩ | ⟨b, off, cap, rfl, hb, hl, hc⟩
  · refine (szShapes_nil a cap left w h0 h1).mono ?_
    rintro e w' ⟨rfl, rfl⟩
    exact ⟨⟨_, rfl, by unfold szP; exact ⟨by omega, by omega, fun _ => ⟨by simpa using h0, by simp⟩⟩⟩, Below.refl _ _⟩
  · exact szShapes_row b off cap ss left w h0 h1 hb hl hc

end Go.Proofs.YtkjkklcflpchlaaGreat

namespace Go.Proofs.YtkjkklcflpchlaaGreat
open Go.RowKit Go.Deep

theorem Tryz.info104 : (Tryz.prog.info? 104).map (fun i => (i.zero, i.size, i.bytes)) = some (some (.agg #[.string ByteArray.empty, .string ByteArray.empty, .string ByteArray.empty, .string ByteArray.empty, .string ByteArray.empty, .string ByteArray.empty]), 6, 96) := by kernel_rfl

theorem make_mnds (n : Nat) (h : n ≤ 1048576) : ∃ cs : Array Value, cs.size = n * 6 ∧ ∀ W : World,
    (Instr.makeSlice 37 (.int .i64 (n : Int)) (.int .i64 (n : Int))).run Tryz.prog W = .ok (.slice (some ⟨W.heap.size, 0, none⟩) n n) (W.alloc (.cells cs 104)) := by
  obtain ⟨i, hi, hzz⟩ := Option.map_eq_some_iff.1 Tryz.info104
  simp only [Prod.mk.injEq] at hzz
  obtain ⟨hz, hs, hb⟩ := hzz
  refine ⟨madeCells (Value.agg #[.string ByteArray.empty, .string ByteArray.empty, .string ByteArray.empty, .string ByteArray.empty, .string ByteArray.empty, .string ByteArray.empty]).cells (n * 6), size_madeCells _ _, fun W => ?_⟩
  have hr := run_make (P := Tryz.prog) W 37 104 i _ Tryz.underlying37 hi hz .i64 .i64 n n (by omega) (Int.le_refl _) (by rw [hb]; omega) (by omega)
  simp only [Int.toNat_natCast, hs] at hr
  exact hr

set_option maxHeartbeats 1000000 in
theorem toMend (m : Mnd) (w : World) :
    Calls Tryz.prog 57 #[.agg #[.string m.kind, .string m.field, .string m.whn, .string m.is_, .string m.put, .string m.frm]] w fun e w' => e = .returned (.agg #[.string m.kind, .string m.field, .string m.whn, .string m.is_, .string m.put, .string m.frm]) ∧ Below w.heap.size w w' := by
  go_enter Tryz.func57, Tryz.ntmps57
  go_wp2
  refine bodyPost_ret (v := .agg #[.string m.kind, .string m.field, .string m.whn, .string m.is_, .string m.put, .string m.frm]) (by simp [results, Tryz.results57, go_sem]) rfl ⟨rfl, ?_⟩
  repeat (first | exact Below.refl _ _ | refine blw_alloc ?_ _ | refine Below.setCell ?_ (by simp) _)

set_option maxHeartbeats 1000000 in
theorem toMends_row (b off cap : Nat) (ms : List Mnd) (w : World) (hl : ms.length ≤ 1048576) (hb : b < w.heap.size)
    (hc : ∀ i, i < ms.length → MndIs w b (off + i * 6) (ms.getD i Mnd.none)) :
    Calls Tryz.prog 26 #[.slice (some ⟨b, off, none⟩) ms.length cap] w fun e w' => e = .returned (.slice (some ⟨w.heap.size, 0, none⟩) ms.length ms.length) ∧ Below w.heap.size w w' ∧ OwnBlk w' w.heap.size 104 (ms.length * 6) ∧
      ∀ i, i < ms.length → MndIs w' w.heap.size (i * 6) (ms.getD i Mnd.none) := by
  obtain ⟨cs, hcs, hmk⟩ := make_mnds ms.length hl
  go_enter Tryz.func26, Tryz.ntmps26
  go_wp2
  go_loopw [4] (fun i wr => ∃ k : Nat, k ≤ ms.length ∧ i = .int .i64 k ∧ Below w.heap.size w wr ∧ OwnBlk wr w.heap.size 104 (ms.length * 6) ∧ ∀ i, i < k → MndIs wr w.heap.size (i * 6) (ms.getD i Mnd.none)) (fun i _ => ms.length - (intOf i).toNat)
  case atStart => exact ⟨0, Nat.zero_le _, rfl, blw_alloc (Below.refl _ _) _, OwnBlk.alloc w cs 104 _ hcs, fun i hi => absurd hi (Nat.not_lt_zero i)⟩
  case round =>
    obtain ⟨k, hk, rfl, hB, hO, hall⟩ := hrel
    have HA : Hid (∀ i, i < k → MndIs wr w.heap.size (i * 6) (ms.getD i Mnd.none)) := hall
    have HO : Hid (OwnBlk wr w.heap.size 104 (ms.length * 6)) := hO
    clear hall hmk hcs hO
    by_cases hlt : k < ms.length
    · have hf := (hc k hlt).later hB hb
      obtain ⟨m, hm⟩ : ∃ m, m = ms.getD k Mnd.none := ⟨_, rfl⟩
      rw [← hm] at hf
      have HX : Hid (m.sized ∧ m = ms.getD k Mnd.none) := ⟨hf.sized, hm⟩
      obtain ⟨c0, c1, c2, c3, c4, c5, _⟩ := hf
      clear hm hc
      go_wp2_with fail
      refine (toMend m wr).mono ?_
      rintro e w2 ⟨rfl, hb2⟩
      have hB2 := blw_trans hB hb2
      have hO2 := HO.out.later hb2
      have HP : Hid (∀ v, v = [.string m.kind, .string m.field, .string m.whn, .string m.is_, .string m.put, .string m.frm] →
          Below w.heap.size w (puts w2 w.heap.size (k * 6) 0 v) ∧ OwnBlk (puts w2 w.heap.size (k * 6) 0 v) w.heap.size 104 (ms.length * 6) ∧ ∀ i, i < k + 1 → MndIs (puts w2 w.heap.size (k * 6) 0 v) w.heap.size (i * 6) (ms.getD i Mnd.none)) := by
        intro v hv
        subst hv
        refine ⟨puts_below (a := w) _ (Nat.le_refl _) _ _ _ hB2, puts_own _ _ _ _ hO2, fun i hi => ?_⟩
        by_cases hik : i < k
        · exact ((HA.out i hik).later hb2 HO.out.lt).puts (k * 6) _ (by omega)
        · obtain rfl : i = k := by omega
          rw [← HX.out.2]
          exact own_put_mnd hO2 (i * 6) (by omega) m HX.out.1
      clear c0 c1 c2 c3 c4 c5 HX
      have hfz := hO2.frozen
      obtain ⟨v0, o0⟩ := hO2.cell (k * 6) (by omega)
      obtain ⟨v1, o1⟩ := hO2.cell (k * 6 + 1) (by omega)
      obtain ⟨v2, o2⟩ := hO2.cell (k * 6 + 2) (by omega)
      obtain ⟨v3, o3⟩ := hO2.cell (k * 6 + 3) (by omega)
      obtain ⟨v4, o4⟩ := hO2.cell (k * 6 + 4) (by omega)
      obtain ⟨v5, o5⟩ := hO2.cell (k * 6 + 5) (by omega)
      clear hO2 hB2 hb2
      go_wp2
      go_roundw
      case rel => exact ⟨k + 1, by omega, by go_num, (HP.out _ rfl).1, (HP.out _ rfl).2.1, (HP.out _ rfl).2.2⟩
      case measure => simp [intOf]; omega
    · obtain rfl : k = ms.length := by omega
      go_wp2
      go_ret
      exact ⟨rfl, hB, HO.out, HA.out⟩

set_option maxHeartbeats 400000 in
theorem toMends_nil (a : Option Addr) (cap : Nat) (w : World) :
    Calls Tryz.prog 26 #[.slice a 0 cap] w fun e w' => e = .returned (.slice (some ⟨w.heap.size, 0, none⟩) 0 0) ∧ ∃ cs : Array Value, cs.size = 0 ∧ w' = w.alloc (.cells cs 104) := by
  obtain ⟨cs, hcs0, hmk0⟩ := make_mnds 0 (by omega)
  have hmk : ∀ W : World, (Instr.makeSlice 37 (.int .i64 0) (.int .i64 0)).run Tryz.prog W = .ok (.slice (some ⟨W.heap.size, 0, none⟩) 0 0) (W.alloc (.cells cs 104)) := hmk0
  clear hmk0
  go_enter Tryz.func26, Tryz.ntmps26
  go_wp2
  refine wp_loop_rounds 1 ?_
  rw [rounds_succ]
  go_wp2
  go_ret
  exact ⟨rfl, _, by omega, rfl⟩

theorem toMends (v : Value) (ms : List Mnd) (w : World) (hl : ms.length ≤ 1048576) (h : MndsAt w v ms) :
    Calls Tryz.prog 26 #[v] w fun e w' => e = .returned (.slice (some ⟨w.heap.size, 0, none⟩) ms.length ms.length) ∧ Below w.heap.size w w' ∧ MndsIn w' w.heap.size ms := by
  rcases h with ⟨a, cap, rfl, rfl⟩ | ⟨b, off, cap, rfl, hb, _, hc⟩
  · refine (toMends_nil a cap w).mono ?_
    rintro e w' ⟨rfl, cs, hcs, rfl⟩
    exact ⟨rfl, blw_alloc (Below.refl _ _) _, ⟨by simp, by simp, fun i hi => absurd hi (Nat.not_lt_zero i)⟩⟩
  · refine (toMends_row b off cap ms w hl hb hc).mono ?_
    rintro e w' ⟨rfl, h1, h2, h3⟩
    exact ⟨rfl, h1, h2.lt, hl, h3⟩

set_option maxHeartbeats 1000000 in
theorem eqMend (m : Mnd) (w : World) :
    Calls Tryz.prog 67 #[.agg #[.string m.kind, .string m.field, .string m.whn, .string m.is_, .string m.put, .string m.frm], .agg #[.string m.kind, .string m.field, .string m.whn, .string m.is_, .string m.put, .string m.frm]] w fun e w' => e = .returned (.bool true) ∧ Below w.heap.size w w' := by
  go_enter Tryz.func67, Tryz.ntmps67
  go_wp2
  go_ret
  exact ⟨rfl, blw_alloc (blw_alloc (Below.refl _ _) _) _⟩

set_option maxHeartbeats 2000000 in
theorem eqMends (B B' : Nat) (ms : List Mnd) (w : World) (h : MndsIn w B ms) (h' : MndsIn w B' ms) :
    Calls Tryz.prog 33 #[.slice (some ⟨B, 0, none⟩) ms.length ms.length, .slice (some ⟨B', 0, none⟩) ms.length ms.length] w fun e w' => e = .returned (.bool true) ∧ Below w.heap.size w w' := by
  have hl := h.len
  have HH : Hid (MndsIn w B ms ∧ MndsIn w B' ms) := ⟨h, h'⟩
  clear h h'
  go_enter Tryz.func33, Tryz.ntmps33
  go_wp2
  go_loopw [5] (fun i wr => ∃ k : Nat, k ≤ ms.length ∧ i = .int .i64 k ∧ Below w.heap.size w wr) (fun i _ => ms.length - (intOf i).toNat)
  case atStart => exact ⟨0, Nat.zero_le _, rfl, Below.refl _ _⟩
  case round =>
    obtain ⟨k, hk, rfl, hW⟩ := hrel
    by_cases hlt : k < ms.length
    · have q := (HH.out.1.later hW).at_ k hlt
      have q' := (HH.out.2.later hW).at_ k hlt
      obtain ⟨m, hm⟩ : ∃ m, m = ms.getD k Mnd.none := ⟨_, rfl⟩
      rw [← hm] at q q'
      obtain ⟨c0, c1, c2, c3, c4, c5, _⟩ := q
      obtain ⟨d0, d1, d2, d3, d4, d5, _⟩ := q'
      have HX : Hid (∀ W, Below wr.heap.size wr W → Calls Tryz.prog 67 #[.agg #[.string m.kind, .string m.field, .string m.whn, .string m.is_, .string m.put, .string m.frm], .agg #[.string m.kind, .string m.field, .string m.whn, .string m.is_, .string m.put, .string m.frm]] W fun e w' => e = .returned (.bool true) ∧ Below W.heap.size W w') := fun W _ => eqMend m W
      clear hm
      go_wp2_with fail
      go_region_with (go_at_call 67; refine (HX.out _ ?_).mono ?_; (repeat (first | exact Below.refl _ _ | refine Below.drew ?_)); rintro e w2 ⟨rfl, hb2⟩)
      all_goals
        go_wp2
        go_roundw
        case rel =>
          refine ⟨k + 1, by omega, by go_num, ?_⟩
          repeat (first | exact blw_trans hW hb2 | exact blw_trans hW.drew hb2 | exact blw_trans hW.drew.drew hb2 | refine Below.drew ?_)
        case measure => simp [intOf]; omega
    · go_wp2
      go_ret
      exact ⟨rfl, hW⟩

end Go.Proofs.YtkjkklcflpchlaaGreat

namespace Go.Proofs.YtkjkklcflpchlaaGreat
open Go.RowKit Go.Deep

set_option maxHeartbeats 1000000 in
theorem szMend (m : Mnd) (left : Int) (w : World) (h0 : 0 ≤ left) (h1 : left ≤ 1048576) (hs : m.sized) :
    Calls Tryz.prog 43 #[.agg #[.string m.kind, .string m.field, .string m.whn, .string m.is_, .string m.put, .string m.frm], .int .i64 left] w fun e w' => (∃ r : Int, e = .returned (.int .i64 r) ∧ -1 ≤ r ∧ r ≤ left) ∧ Below w.heap.size w w' := by
  obtain ⟨s0, s1, s2, s3, s4, s5⟩ := hs
  unfold maxLen at s0 s1 s2 s3 s4 s5
  by_cases c1 : left < (m.kind.size : Int)
  · go_enter Tryz.func43, Tryz.ntmps43
    go_wp2
    go_ret
    exact ⟨⟨_, rfl, by omega, by omega⟩, blw_alloc (Below.refl _ _) _⟩
  by_cases c2 : left - m.kind.size < (m.field.size : Int)
  · go_enter Tryz.func43, Tryz.ntmps43
    go_wp2
    go_ret
    exact ⟨⟨_, rfl, by omega, by omega⟩, blw_alloc (Below.refl _ _) _⟩
  by_cases c3 : left - m.kind.size - m.field.size < (m.whn.size : Int)
  · go_enter Tryz.func43, Tryz.ntmps43
    go_wp2
    go_ret
    exact ⟨⟨_, rfl, by omega, by omega⟩, blw_alloc (Below.refl _ _) _⟩
  by_cases c4 : left - m.kind.size - m.field.size - m.whn.size < (m.is_.size : Int)
  · go_enter Tryz.func43, Tryz.ntmps43
    go_wp2
    go_ret
    exact ⟨⟨_, rfl, by omega, by omega⟩, blw_alloc (Below.refl _ _) _⟩
  by_cases c5 : left - m.kind.size - m.field.size - m.whn.size - m.is_.size < (m.put.size : Int)
  · go_enter Tryz.func43, Tryz.ntmps43
    go_wp2
    go_ret
    exact ⟨⟨_, rfl, by omega, by omega⟩, blw_alloc (Below.refl _ _) _⟩
  by_cases c6 : left - m.kind.size - m.field.size - m.whn.size - m.is_.size - m.put.size < (m.frm.size : Int)
  all_goals
    go_enter Tryz.func43, Tryz.ntmps43
    go_wp2
    go_ret
    exact ⟨⟨_, rfl, by omega, by omega⟩, blw_alloc (Below.refl _ _) _⟩

set_option maxHeartbeats 1000000 in
theorem szMends_row (b off cap : Nat) (ms : List Mnd) (left : Int) (w : World) (h0 : 0 ≤ left) (h1 : left ≤ 1048576) (hb : b < w.heap.size) (hl : ms.length ≤ maxLen)
    (hc : ∀ i, i < ms.length → MndIs w b (off + i * 6) (ms.getD i Mnd.none)) :
    Calls Tryz.prog 19 #[.slice (some ⟨b, off, none⟩) ms.length cap, .int .i64 left] w fun e w' => (∃ r : Int, e = .returned (.int .i64 r) ∧ szP ((ms.length : Int) ≤ left) left r) ∧ Below w.heap.size w w' := by
  unfold maxLen at hl
  by_cases hneg : left < (ms.length : Int)
  · go_enter Tryz.func19, Tryz.ntmps19
    go_wp2
    go_ret
    exact ⟨⟨_, rfl, by unfold szP; refine ⟨by omega, by omega, by omega⟩⟩, Below.refl _ _⟩
  · go_enter Tryz.func19, Tryz.ntmps19
    go_wp2
    go_loopw [1, 5] (fun l i wr => ∃ (k : Nat) (r : Int), k ≤ ms.length ∧ i = .int .i64 k ∧ l = .int .i64 r ∧ 0 ≤ r ∧ r ≤ left ∧ Below w.heap.size w wr) (fun _ i _ => ms.length - (intOf i).toNat)
    case atStart => exact ⟨0, _, Nat.zero_le _, rfl, rfl, by omega, by omega, Below.refl _ _⟩
    case round =>
      obtain ⟨k, r, hk, rfl, rfl, r0, r1, hB⟩ := hrel
      by_cases hlt : k < ms.length
      · have hf := (hc k hlt).later hB hb
        obtain ⟨m, hm⟩ : ∃ m, m = ms.getD k Mnd.none := ⟨_, rfl⟩
        rw [← hm] at hf
        have HX : Hid (Calls Tryz.prog 43 #[.agg #[.string m.kind, .string m.field, .string m.whn, .string m.is_, .string m.put, .string m.frm], .int .i64 r] wr fun e w' => (∃ r' : Int, e = .returned (.int .i64 r') ∧ -1 ≤ r' ∧ r' ≤ r) ∧ Below wr.heap.size wr w') :=
          szMend m r wr r0 (by omega) hf.sized
        obtain ⟨c0, c1, c2, c3, c4, c5, _⟩ := hf
        clear hm hc
        go_wp2_with fail
        refine HX.out.mono ?_
        rintro e w2 ⟨⟨r', rfl, q1, q2⟩, hb2⟩
        have hB2 := blw_trans hB hb2
        clear hb2 c0 c1 c2 c3 c4 c5 HX
        by_cases c2 : r' < 0
        · go_wp2
          go_ret
          exact ⟨⟨_, rfl, by unfold szP; refine ⟨by omega, by omega, by omega⟩⟩, hB2⟩
        · go_wp2
          go_roundw
          case rel => exact ⟨k + 1, _, by omega, by go_num, rfl, by omega, by omega, hB2⟩
          case measure => simp [intOf]; omega
      · go_wp2
        go_ret
        exact ⟨⟨_, rfl, by unfold szP; exact ⟨by omega, by omega, fun _ => by omega⟩⟩, hB⟩

set_option maxHeartbeats 400000 in
theorem szMends_nil (a : Option Addr) (cap : Nat) (left : Int) (w : World) (h0 : 0 ≤ left) (h1 : left ≤ 1048576) :
    Calls Tryz.prog 19 #[.slice a 0 cap, .int .i64 left] w fun e w' => e = .returned (.int .i64 left) ∧ w = w' := by
  go_enter Tryz.func19, Tryz.ntmps19
  go_wp2
  refine wp_loop_rounds 1 ?_
  rw [rounds_succ]
  go_wp2
  go_ret
  exact ⟨Pl.ret_int (by omega), rfl⟩

theorem szMends (v : Value) (ms : List Mnd) (left : Int) (w : World) (h0 : 0 ≤ left) (h1 : left ≤ 1048576) (h : MndsAt w v ms) :
    Calls Tryz.prog 19 #[v, .int .i64 left] w fun e w' => (∃ r : Int, e = .returned (.int .i64 r) ∧ szP ((ms.length : Int) ≤ left) left r) ∧ Below w.heap.size w w' := by
  rcases h with ⟨a, cap, rfl, rfl⟩ | ⟨b, off, cap, rfl, hb, hl, hc⟩
  · refine (szMends_nil a cap left w h0 h1).mono ?_
    rintro e w' ⟨rfl, rfl⟩
    exact ⟨⟨_, rfl, by unfold szP; exact ⟨by omega, by omega, fun _ => by simpa using h0⟩⟩, Below.refl _ _⟩
  · exact szMends_row b off cap ms left w h0 h1 hb hl hc

end Go.Proofs.YtkjkklcflpchlaaGreat

namespace Go.Proofs.YtkjkklcflpchlaaGreat
open Go.RowKit Go.Deep

theorem Tryz.info106 : (Tryz.prog.info? 106).map (fun i => (i.zero, i.size, i.bytes)) = some (some (.agg #[.string ByteArray.empty, .string ByteArray.empty]), 2, 32) := by kernel_rfl

theorem make_tms (n : Nat) (h : n ≤ 1048576) : ∃ cs : Array Value, cs.size = n * 2 ∧ ∀ W : World,
    (Instr.makeSlice 38 (.int .i64 (n : Int)) (.int .i64 (n : Int))).run Tryz.prog W = .ok (.slice (some ⟨W.heap.size, 0, none⟩) n n) (W.alloc (.cells cs 106)) := by
  obtain ⟨i, hi, hzz⟩ := Option.map_eq_some_iff.1 Tryz.info106
  simp only [Prod.mk.injEq] at hzz
  obtain ⟨hz, hs, hb⟩ := hzz
  refine ⟨madeCells (Value.agg #[.string ByteArray.empty, .string ByteArray.empty]).cells (n * 2), size_madeCells _ _, fun W => ?_⟩
  have hr := run_make (P := Tryz.prog) W 38 106 i _ Tryz.underlying38 hi hz .i64 .i64 n n (by omega) (Int.le_refl _) (by rw [hb]; omega) (by omega)
  simp only [Int.toNat_natCast, hs] at hr
  exact hr

set_option maxHeartbeats 1000000 in
theorem toTeam (m : Tm) (w : World) :
    Calls Tryz.prog 58 #[.agg #[.string m.nm, .string m.ov]] w fun e w' => e = .returned (.agg #[.string m.nm, .string m.ov]) ∧ Below w.heap.size w w' := by
  go_enter Tryz.func58, Tryz.ntmps58
  go_wp2
  refine bodyPost_ret (v := .agg #[.string m.nm, .string m.ov]) (by simp [results, Tryz.results58, go_sem]) rfl ⟨rfl, ?_⟩
  repeat (first | exact Below.refl _ _ | refine blw_alloc ?_ _ | refine Below.setCell ?_ (by simp) _)

set_option maxHeartbeats 1000000 in
theorem toTeams_row (b off cap : Nat) (ms : List Tm) (w : World) (hl : ms.length ≤ 1048576) (hb : b < w.heap.size)
    (hc : ∀ i, i < ms.length → TmIs w b (off + i * 2) (ms.getD i Tm.none)) :
    Calls Tryz.prog 27 #[.slice (some ⟨b, off, none⟩) ms.length cap] w fun e w' => e = .returned (.slice (some ⟨w.heap.size, 0, none⟩) ms.length ms.length) ∧ Below w.heap.size w w' ∧ OwnBlk w' w.heap.size 106 (ms.length * 2) ∧
      ∀ i, i < ms.length → TmIs w' w.heap.size (i * 2) (ms.getD i Tm.none) := by
  obtain ⟨cs, hcs, hmk⟩ := make_tms ms.length hl
  go_enter Tryz.func27, Tryz.ntmps27
  go_wp2
  go_loopw [4] (fun i wr => ∃ k : Nat, k ≤ ms.length ∧ i = .int .i64 k ∧ Below w.heap.size w wr ∧ OwnBlk wr w.heap.size 106 (ms.length * 2) ∧ ∀ i, i < k → TmIs wr w.heap.size (i * 2) (ms.getD i Tm.none)) (fun i _ => ms.length - (intOf i).toNat)
  case atStart => exact ⟨0, Nat.zero_le _, rfl, blw_alloc (Below.refl _ _) _, OwnBlk.alloc w cs 106 _ hcs, fun i hi => absurd hi (Nat.not_lt_zero i)⟩
  case round =>
    obtain ⟨k, hk, rfl, hB, hO, hall⟩ := hrel
    have HA : Hid (∀ i, i < k → TmIs wr w.heap.size (i * 2) (ms.getD i Tm.none)) := hall
    have HO : Hid (OwnBlk wr w.heap.size 106 (ms.length * 2)) := hO
    clear hall hmk hcs hO
    by_cases hlt : k < ms.length
    · have hf := (hc k hlt).later hB hb
      obtain ⟨m, hm⟩ : ∃ m, m = ms.getD k Tm.none := ⟨_, rfl⟩
      rw [← hm] at hf
      have HX : Hid (m.sized ∧ m = ms.getD k Tm.none) := ⟨hf.sized, hm⟩
      obtain ⟨c0, c1, _⟩ := hf
      clear hm hc
      go_wp2_with fail
      refine (toTeam m wr).mono ?_
      rintro e w2 ⟨rfl, hb2⟩
      have hB2 := blw_trans hB hb2
      have hO2 := HO.out.later hb2
      have HP : Hid (∀ v, v = [.string m.nm, .string m.ov] →
          Below w.heap.size w (puts w2 w.heap.size (k * 2) 0 v) ∧ OwnBlk (puts w2 w.heap.size (k * 2) 0 v) w.heap.size 106 (ms.length * 2) ∧ ∀ i, i < k + 1 → TmIs (puts w2 w.heap.size (k * 2) 0 v) w.heap.size (i * 2) (ms.getD i Tm.none)) := by
        intro v hv
        subst hv
        refine ⟨puts_below (a := w) _ (Nat.le_refl _) _ _ _ hB2, puts_own _ _ _ _ hO2, fun i hi => ?_⟩
        by_cases hik : i < k
        · exact ((HA.out i hik).later hb2 HO.out.lt).puts (k * 2) _ (by omega)
        · obtain rfl : i = k := by omega
          rw [← HX.out.2]
          exact own_put_tm hO2 (i * 2) (by omega) m HX.out.1
      clear c0 c1 HX
      have hfz := hO2.frozen
      obtain ⟨v0, o0⟩ := hO2.cell (k * 2) (by omega)
      obtain ⟨v1, o1⟩ := hO2.cell (k * 2 + 1) (by omega)
      clear hO2 hB2 hb2
      go_wp2
      go_roundw
      case rel => exact ⟨k + 1, by omega, by go_num, (HP.out _ rfl).1, (HP.out _ rfl).2.1, (HP.out _ rfl).2.2⟩
      case measure => simp [intOf]; omega
    · obtain rfl : k = ms.length := by omega
      go_wp2
      go_ret
      exact ⟨rfl, hB, HO.out, HA.out⟩

set_option maxHeartbeats 400000 in
theorem toTeams_nil (a : Option Addr) (cap : Nat) (w : World) :
    Calls Tryz.prog 27 #[.slice a 0 cap] w fun e w' => e = .returned (.slice (some ⟨w.heap.size, 0, none⟩) 0 0) ∧ ∃ cs : Array Value, cs.size = 0 ∧ w' = w.alloc (.cells cs 106) := by
  obtain ⟨cs, hcs0, hmk0⟩ := make_tms 0 (by omega)
  have hmk : ∀ W : World, (Instr.makeSlice 38 (.int .i64 0) (.int .i64 0)).run Tryz.prog W = .ok (.slice (some ⟨W.heap.size, 0, none⟩) 0 0) (W.alloc (.cells cs 106)) := hmk0
  clear hmk0
  go_enter Tryz.func27, Tryz.ntmps27
  go_wp2
  refine wp_loop_rounds 1 ?_
  rw [rounds_succ]
  go_wp2
  go_ret
  exact ⟨rfl, _, by omega, rfl⟩

theorem toTeams (v : Value) (ms : List Tm) (w : World) (hl : ms.length ≤ 1048576) (h : TmsAt w v ms) :
    Calls Tryz.prog 27 #[v] w fun e w' => e = .returned (.slice (some ⟨w.heap.size, 0, none⟩) ms.length ms.length) ∧ Below w.heap.size w w' ∧ TmsIn w' w.heap.size ms := by
  rcases h with ⟨a, cap, rfl, rfl⟩ | ⟨b, off, cap, rfl, hb, _, hc⟩
  · refine (toTeams_nil a cap w).mono ?_
    rintro e w' ⟨rfl, cs, hcs, rfl⟩
    exact ⟨rfl, blw_alloc (Below.refl _ _) _, ⟨by simp, by simp, fun i hi => absurd hi (Nat.not_lt_zero i)⟩⟩
  · refine (toTeams_row b off cap ms w hl hb hc).mono ?_
    rintro e w' ⟨rfl, h1, h2, h3⟩
    exact ⟨rfl, h1, h2.lt, hl, h3⟩

set_option maxHeartbeats 1000000 in
theorem eqTeam (m : Tm) (w : World) :
    Calls Tryz.prog 68 #[.agg #[.string m.nm, .string m.ov], .agg #[.string m.nm, .string m.ov]] w fun e w' => e = .returned (.bool true) ∧ Below w.heap.size w w' := by
  go_enter Tryz.func68, Tryz.ntmps68
  go_wp2
  go_ret
  exact ⟨rfl, blw_alloc (blw_alloc (Below.refl _ _) _) _⟩

set_option maxHeartbeats 2000000 in
theorem eqTeams (B B' : Nat) (ms : List Tm) (w : World) (h : TmsIn w B ms) (h' : TmsIn w B' ms) :
    Calls Tryz.prog 34 #[.slice (some ⟨B, 0, none⟩) ms.length ms.length, .slice (some ⟨B', 0, none⟩) ms.length ms.length] w fun e w' => e = .returned (.bool true) ∧ Below w.heap.size w w' := by
  have hl := h.len
  have HH : Hid (TmsIn w B ms ∧ TmsIn w B' ms) := ⟨h, h'⟩
  clear h h'
  go_enter Tryz.func34, Tryz.ntmps34
  go_wp2
  go_loopw [5] (fun i wr => ∃ k : Nat, k ≤ ms.length ∧ i = .int .i64 k ∧ Below w.heap.size w wr) (fun i _ => ms.length - (intOf i).toNat)
  case atStart => exact ⟨0, Nat.zero_le _, rfl, Below.refl _ _⟩
  case round =>
    obtain ⟨k, hk, rfl, hW⟩ := hrel
    by_cases hlt : k < ms.length
    · have q := (HH.out.1.later hW).at_ k hlt
      have q' := (HH.out.2.later hW).at_ k hlt
      obtain ⟨m, hm⟩ : ∃ m, m = ms.getD k Tm.none := ⟨_, rfl⟩
      rw [← hm] at q q'
      obtain ⟨c0, c1, _⟩ := q
      obtain ⟨d0, d1, _⟩ := q'
      have HX : Hid (∀ W, Below wr.heap.size wr W → Calls Tryz.prog 68 #[.agg #[.string m.nm, .string m.ov], .agg #[.string m.nm, .string m.ov]] W fun e w' => e = .returned (.bool true) ∧ Below W.heap.size W w') := fun W _ => eqTeam m W
      clear hm
      go_wp2_with fail
      go_region_with (go_at_call 68; refine (HX.out _ ?_).mono ?_; (repeat (first | exact Below.refl _ _ | refine Below.drew ?_)); rintro e w2 ⟨rfl, hb2⟩)
      all_goals
        go_wp2
        go_roundw
        case rel =>
          refine ⟨k + 1, by omega, by go_num, ?_⟩
          repeat (first | exact blw_trans hW hb2 | exact blw_trans hW.drew hb2 | exact blw_trans hW.drew.drew hb2 | refine Below.drew ?_)
        case measure => simp [intOf]; omega
    · go_wp2
      go_ret
      exact ⟨rfl, hW⟩

set_option maxHeartbeats 1000000 in
theorem szTeam (m : Tm) (left : Int) (w : World) (h0 : 0 ≤ left) (h1 : left ≤ 1048576) (hs : m.sized) :
    Calls Tryz.prog 44 #[.agg #[.string m.nm, .string m.ov], .int .i64 left] w fun e w' => (∃ r : Int, e = .returned (.int .i64 r) ∧ -1 ≤ r ∧ r ≤ left) ∧ Below w.heap.size w w' := by
  obtain ⟨s0, s1⟩ := hs
  unfold maxLen at s0 s1
  by_cases c1 : left < (m.nm.size : Int)
  · go_enter Tryz.func44, Tryz.ntmps44
    go_wp2
    go_ret
    exact ⟨⟨_, rfl, by omega, by omega⟩, blw_alloc (Below.refl _ _) _⟩
  by_cases c2 : left - m.nm.size < (m.ov.size : Int)
  all_goals
    go_enter Tryz.func44, Tryz.ntmps44
    go_wp2
    go_ret
    exact ⟨⟨_, rfl, by omega, by omega⟩, blw_alloc (Below.refl _ _) _⟩

set_option maxHeartbeats 1000000 in
theorem szTeams_row (b off cap : Nat) (ms : List Tm) (left : Int) (w : World) (h0 : 0 ≤ left) (h1 : left ≤ 1048576) (hb : b < w.heap.size) (hl : ms.length ≤ maxLen)
    (hc : ∀ i, i < ms.length → TmIs w b (off + i * 2) (ms.getD i Tm.none)) :
    Calls Tryz.prog 20 #[.slice (some ⟨b, off, none⟩) ms.length cap, .int .i64 left] w fun e w' => (∃ r : Int, e = .returned (.int .i64 r) ∧ szP ((ms.length : Int) ≤ left) left r) ∧ Below w.heap.size w w' := by
  unfold maxLen at hl
  by_cases hneg : left < (ms.length : Int)
  · go_enter Tryz.func20, Tryz.ntmps20
    go_wp2
    go_ret
    exact ⟨⟨_, rfl, by unfold szP; refine ⟨by omega, by omega, by omega⟩⟩, Below.refl _ _⟩
  · go_enter Tryz.func20, Tryz.ntmps20
    go_wp2
    go_loopw [1, 5] (fun l i wr => ∃ (k : Nat) (r : Int), k ≤ ms.length ∧ i = .int .i64 k ∧ l = .int .i64 r ∧ 0 ≤ r ∧ r ≤ left ∧ Below w.heap.size w wr) (fun _ i _ => ms.length - (intOf i).toNat)
    case atStart => exact ⟨0, _, Nat.zero_le _, rfl, rfl, by omega, by omega, Below.refl _ _⟩
    case round =>
      obtain ⟨k, r, hk, rfl, rfl, r0, r1, hB⟩ := hrel
      by_cases hlt : k < ms.length
      · have hf := (hc k hlt).later hB hb
        obtain ⟨m, hm⟩ : ∃ m, m = ms.getD k Tm.none := ⟨_, rfl⟩
        rw [← hm] at hf
        have HX : Hid (Calls Tryz.prog 44 #[.agg #[.string m.nm, .string m.ov], .int .i64 r] wr fun e w' => (∃ r' : Int, e = .returned (.int .i64 r') ∧ -1 ≤ r' ∧ r' ≤ r) ∧ Below wr.heap.size wr w') :=
          szTeam m r wr r0 (by omega) hf.sized
        obtain ⟨c0, c1, _⟩ := hf
        clear hm hc
        go_wp2_with fail
        refine HX.out.mono ?_
        rintro e w2 ⟨⟨r', rfl, q1, q2⟩, hb2⟩
        have hB2 := blw_trans hB hb2
        clear hb2 c0 c1 HX
        by_cases c2 : r' < 0
        · go_wp2
          go_ret
          exact ⟨⟨_, rfl, by unfold szP; refine ⟨by omega, by omega, by omega⟩⟩, hB2⟩
        · go_wp2
          go_roundw
          case rel => exact ⟨k + 1, _, by omega, by go_num, rfl, by omega, by omega, hB2⟩
          case measure => simp [intOf]; omega
      · go_wp2
        go_ret
        exact ⟨⟨_, rfl, by unfold szP; exact ⟨by omega, by omega, fun _ => by omega⟩⟩, hB⟩

set_option maxHeartbeats 400000 in
theorem szTeams_nil (a : Option Addr) (cap : Nat) (left : Int) (w : World) (h0 : 0 ≤ left) (h1 : left ≤ 1048576) :
    Calls Tryz.prog 20 #[.slice a 0 cap, .int .i64 left] w fun e w' => e = .returned (.int .i64 left) ∧ w = w' := by
  go_enter Tryz.func20, Tryz.ntmps20
  go_wp2
  refine wp_loop_rounds 1 ?_
  rw [rounds_succ]
  go_wp2
  go_ret
  exact ⟨Pl.ret_int (by omega), rfl⟩

theorem szTeams (v : Value) (ms : List Tm) (left : Int) (w : World) (h0 : 0 ≤ left) (h1 : left ≤ 1048576) (h : TmsAt w v ms) :
    Calls Tryz.prog 20 #[v, .int .i64 left] w fun e w' => (∃ r : Int, e = .returned (.int .i64 r) ∧ szP ((ms.length : Int) ≤ left) left r) ∧ Below w.heap.size w w' := by
  rcases h with ⟨a, cap, rfl, rfl⟩ | ⟨b, off, cap, rfl, hb, hl, hc⟩
  · refine (szTeams_nil a cap left w h0 h1).mono ?_
    rintro e w' ⟨rfl, rfl⟩
    exact ⟨⟨_, rfl, by unfold szP; exact ⟨by omega, by omega, fun _ => by simpa using h0⟩⟩, Below.refl _ _⟩
  · exact szTeams_row b off cap ms left w h0 h1 hb hl hc



end Go.Proofs.YtkjkklcflpchlaaGreat

namespace Go.Proofs.YtkjkklcflpchlaaGreat
open Go.RowKit Go.Deep

structure Lw where
  shapes : List Shp
  mends : List Mnd
  teams : List Tm

structure LwAt (w : World) (v0 v1 v2 : Value) (L : Lw) : Prop where
  s : ShpsAt w v0 L.shapes
  m : MndsAt w v1 L.mends
  t : TmsAt w v2 L.teams

structure LwIn (w : World) (b0 b1 b2 : Nat) (L : Lw) : Prop where
  s : ShpsIn w b0 L.shapes
  m : MndsIn w b1 L.mends
  t : TmsIn w b2 L.teams

def Lw.small (L : Lw) : Prop := (L.shapes.length ≤ 1048576 ∧ ∀ s ∈ L.shapes, s.small) ∧ L.mends.length ≤ 1048576 ∧ L.teams.length ≤ 1048576

theorem LwAt.later {w w' : World} {v0 v1 v2 : Value} {L : Lw} (h : LwAt w v0 v1 v2 L) (hb : Below w.heap.size w w') : LwAt w' v0 v1 v2 L := ⟨h.s.later hb, h.m.later hb, h.t.later hb⟩
theorem LwIn.later {w w' : World} {b0 b1 b2 : Nat} {L : Lw} (h : LwIn w b0 b1 b2 L) (hb : Below w.heap.size w w') : LwIn w' b0 b1 b2 L := ⟨h.s.later hb, h.m.later hb, h.t.later hb⟩

theorem OwnBlk.alloc_at2 (W : World) (cs : Array Value) (t : TypeId) (m n : Nat) (h : cs.size = m) (hn : n = W.heap.size) : OwnBlk (W.alloc (.cells cs t)) n t m := by
  subst hn; exact OwnBlk.alloc W cs t m h

/-- Three cells of the block p. -/
structure Box3 (W : World) (p : Nat) (v0 v1 v2 : Value) : Prop where
  lt : p < W.heap.size
  x0 : W.cell? ⟨p, 0, none⟩ = some v0
  x1 : W.cell? ⟨p, 1, none⟩ = some v1
  x2 : W.cell? ⟨p, 2, none⟩ = some v2

theorem Box3.later {W W' : World} {p : Nat} {v0 v1 v2 : Value} (h : Box3 W p v0 v1 v2) (hb : Below W.heap.size W W') : Box3 W' p v0 v1 v2 := by
  have c : ∀ j, W'.cell? ⟨p, j, none⟩ = W.cell? ⟨p, j, none⟩ := fun j => hb.cell (p := ⟨p, j, none⟩) h.lt
  exact ⟨Nat.lt_of_lt_of_le h.lt hb.size, (c 0).trans h.x0, (c 1).trans h.x1, (c 2).trans h.x2⟩
theorem Box3.new (W : World) (v0 v1 v2 : Value) (t : TypeId) : Box3 (W.alloc (.cells #[v0, v1, v2] t)) W.heap.size v0 v1 v2 := ⟨by simp, by simp, by simp, by simp⟩
theorem Box3.new' (W : World) (p : Nat) (v0 v1 v2 : Value) (t : TypeId) (hp : p = W.heap.size) : Box3 (W.alloc (.cells #[v0, v1, v2] t)) p v0 v1 v2 := by
  subst hp; exact Box3.new W v0 v1 v2 t
theorem Box3.past {W : World} {p : Nat} {v0 v1 v2 : Value} (h : Box3 W p v0 v1 v2) (o : Obj) : Box3 (W.alloc o) p v0 v1 v2 := h.later (blw_alloc (Below.refl _ _) o)

/- A store into a block below. -/
theorem OwnShp.sc {w : World} {B o p : Nat} {s : Shp} (h : OwnShp w B o s) (hp : p < B) (j : Nat) (v : Value) : OwnShp (w.setCell ⟨p, j, none⟩ v) B o s := by
  obtain ⟨b, h1, h2, h3, h4, h5, h6, h7⟩ := h
  have hb := h1.1
  exact ⟨b, ⟨h1.1, h1.2.sc_other (by omega) _ _⟩, by rw [sc_size]; exact h2, h3, h4, (sc_ne _ _ _ _ _ _ (by omega)).trans h5, (sc_ne _ _ _ _ _ _ (by omega)).trans h6, fun i hi => (h7 i hi).sc (by omega) _ _⟩
theorem ShpsIn.sc {w : World} {B p : Nat} {ss : List Shp} (h : ShpsIn w B ss) (hp : p < B) (j : Nat) (v : Value) : ShpsIn (w.setCell ⟨p, j, none⟩ v) B ss :=
  ⟨by rw [sc_size]; exact h.lt, h.len, h.small, fun i hi => (h.at_ i hi).sc hp j v, h.own.sc_other (by omega) _ _⟩
theorem MndsIn.sc {w : World} {B p : Nat} {ms : List Mnd} (h : MndsIn w B ms) (hp : p < B) (j : Nat) (v : Value) : MndsIn (w.setCell ⟨p, j, none⟩ v) B ms := by
  have c : ∀ q, (w.setCell ⟨p, j, none⟩ v).cell? ⟨B, q, none⟩ = w.cell? ⟨B, q, none⟩ := fun q => sc_ne _ _ _ _ _ _ (by omega)
  exact ⟨by rw [sc_size]; exact h.lt, h.len, fun i hi => by obtain ⟨c0, c1, c2, c3, c4, c5, hs⟩ := h.at_ i hi; exact ⟨(c _).trans c0, (c _).trans c1, (c _).trans c2, (c _).trans c3, (c _).trans c4, (c _).trans c5, hs⟩⟩
theorem TmsIn.sc {w : World} {B p : Nat} {ms : List Tm} (h : TmsIn w B ms) (hp : p < B) (j : Nat) (v : Value) : TmsIn (w.setCell ⟨p, j, none⟩ v) B ms := by
  have c : ∀ q, (w.setCell ⟨p, j, none⟩ v).cell? ⟨B, q, none⟩ = w.cell? ⟨B, q, none⟩ := fun q => sc_ne _ _ _ _ _ _ (by omega)
  exact ⟨by rw [sc_size]; exact h.lt, h.len, fun i hi => by obtain ⟨c0, c1, hs⟩ := h.at_ i hi; exact ⟨(c _).trans c0, (c _).trans c1, hs⟩⟩

theorem toShapesI (v : Value) (ss : List Shp) (w : World) (hl : ss.length ≤ 1048576) (hsm : ∀ s ∈ ss, s.small) (h : ShpsAt w v ss) :
    Calls Tryz.prog 25 #[v] w fun e w' => e = .returned (.slice (some ⟨w.heap.size, 0, none⟩) ss.length ss.length) ∧ Below w.heap.size w w' ∧ ShpsIn w' w.heap.size ss := by
  refine (toShapes v ss w hl hsm h).mono ?_
  rintro e w' ⟨rfl, h1, h2, h3⟩
  exact ⟨rfl, h1, ⟨h2.lt, hl, hsm, h3, h2⟩⟩

set_option maxHeartbeats 2000000 in
theorem szLaw (L : Lw) (v0 v1 v2 : Value) (left : Int) (w : World) (h0 : 0 ≤ left) (h1 : left ≤ 1048576) (h : LwAt w v0 v1 v2 L) :
    Calls Tryz.prog 5 #[.agg #[v0, v1, v2], .int .i64 left] w fun e w' => (∃ r : Int, e = .returned (.int .i64 r) ∧ szP L.small left r) ∧ Below w.heap.size w w' := by
  have HH : Hid (LwAt w v0 v1 v2 L) := h
  clear h
  obtain ⟨wa, hwa⟩ : ∃ wa, wa = w.alloc (.cells #[v0, v1, v2] 26) := ⟨_, rfl⟩
  have HBa : Hid (Below w.heap.size w wa) := by show Below _ _ _; rw [hwa]; exact blw_alloc (Below.refl _ _) _
  have HXa : Hid (Box3 wa w.heap.size v0 v1 v2) := by show Box3 _ _ _ _ _; rw [hwa]; exact Box3.new w v0 v1 v2 _
  have ya := HXa.out
  obtain ⟨yz, y0, y1, y2⟩ := ya
  go_enter Tryz.func5, Tryz.ntmps5
  go_upto_region 1 with fail
  rw [← hwa]
  clear hwa
  go_wp2_with fail
  refine (szShapes v0 L.shapes left wa h0 h1 (HH.out.later HBa.out).s).mono ?_
  rintro e wb ⟨⟨r, rfl, hr⟩, hb⟩
  have HR : Hid (szP ((L.shapes.length : Int) ≤ left ∧ ∀ s ∈ L.shapes, s.small) left r) := hr
  have q1 : -1 ≤ r := hr.1
  have q2 : r ≤ left := hr.2.1
  have HBb : Hid (Below w.heap.size w wb) := blw_trans HBa.out hb
  have HXb : Hid (Box3 wb w.heap.size v0 v1 v2) := HXa.out.later hb
  clear hr hb yz y0 y1 y2 HXa HBa
  by_cases c1 : r < 0
  · go_wp2
    go_ret
    exact ⟨⟨_, rfl, by unfold szP; exact ⟨by omega, by omega, by omega⟩⟩, HBb.out⟩
  obtain ⟨yz, y0, y1, y2⟩ := HXb.out
  go_wp2_with fail
  refine (szMends v1 L.mends r wb (by omega) (by omega) (HH.out.later HBb.out).m).mono ?_
  rintro e wc ⟨⟨r2, rfl, hr⟩, hb⟩
  have HR2 : Hid (szP ((L.mends.length : Int) ≤ r) r r2) := hr
  have q3 : -1 ≤ r2 := hr.1
  have q4 : r2 ≤ r := hr.2.1
  have HBc : Hid (Below w.heap.size w wc) := blw_trans HBb.out hb
  have HXc : Hid (Box3 wc w.heap.size v0 v1 v2) := HXb.out.later hb
  clear hr hb yz y0 y1 y2 HXb HBb
  by_cases c2 : r2 < 0
  · go_wp2
    go_ret
    exact ⟨⟨_, rfl, by unfold szP; exact ⟨by omega, by omega, by omega⟩⟩, HBc.out⟩
  obtain ⟨yz, y0, y1, y2⟩ := HXc.out
  go_wp2_with fail
  refine (szTeams v2 L.teams r2 wc (by omega) (by omega) (HH.out.later HBc.out).t).mono ?_
  rintro e wd ⟨⟨r3, rfl, hr⟩, hb⟩
  have HR3 : Hid (szP ((L.teams.length : Int) ≤ r2) r2 r3) := hr
  have q5 : -1 ≤ r3 := hr.1
  have q6 : r3 ≤ r2 := hr.2.1
  have HBd : Hid (Below w.heap.size w wd) := blw_trans HBc.out hb
  clear hr hb yz y0 y1 y2 HXc HBc
  by_cases c3 : r3 < 0
  · go_wp2
    go_ret
    exact ⟨⟨_, rfl, by unfold szP; exact ⟨by omega, by omega, by omega⟩⟩, HBd.out⟩
  go_wp2
  go_ret
  refine ⟨⟨_, rfl, ?_⟩, HBd.out⟩
  have k1 := HR.out.2.2 (by omega)
  have k2 := HR2.out.2.2 (by omega)
  have k3 := HR3.out.2.2 (by omega)
  unfold szP
  exact ⟨by omega, by omega, fun _ => ⟨⟨by omega, k1.2⟩, by omega, by omega⟩⟩

set_option maxHeartbeats 4000000 in
theorem toLaw (L : Lw) (v0 v1 v2 : Value) (w : World) (hs : L.small) (h : LwAt w v0 v1 v2 L) :
    Calls Tryz.prog 8 #[.agg #[v0, v1, v2]] w fun e w' => (∃ b0 b1 b2, e = .returned (.agg #[.slice (some ⟨b0, 0, none⟩) L.shapes.length L.shapes.length, .slice (some ⟨b1, 0, none⟩) L.mends.length L.mends.length, .slice (some ⟨b2, 0, none⟩) L.teams.length L.teams.length]) ∧ LwIn w' b0 b1 b2 L ∧ w.heap.size ≤ b0 ∧ w.heap.size ≤ b1 ∧ w.heap.size ≤ b2) ∧ Below w.heap.size w w' := by
  have HH : Hid (LwAt w v0 v1 v2 L ∧ L.small) := ⟨h, hs⟩
  clear h hs
  obtain ⟨wa, hwa⟩ : ∃ wa, wa = ((w.alloc (.cells #[v0, v1, v2] 26)).alloc (.cells #[.slice none 0 0, .slice none 0 0, .slice none 0 0] 40)).alloc (.cells #[.slice none 0 0, .slice none 0 0, .slice none 0 0] 40) := ⟨_, rfl⟩
  have HBa : Hid (Below w.heap.size w wa) := by show Below _ _ _; rw [hwa]; exact blw_alloc (blw_alloc (blw_alloc (Below.refl _ _) _) _) _
  have HXa : Hid (Box3 wa w.heap.size v0 v1 v2) := by show Box3 _ _ _ _ _; rw [hwa]; exact ((Box3.new w v0 v1 v2 _).past _).past _
  have HOa : Hid (OwnBlk wa (w.heap.size + 2) 40 3) := by show OwnBlk _ _ _ _; rw [hwa]; exact OwnBlk.alloc_at2 _ _ _ _ _ rfl (by simp)
  have HRa : Hid (OwnBlk wa (w.heap.size + 1) 40 3) := by show OwnBlk _ _ _ _; rw [hwa]; exact (OwnBlk.alloc_at2 _ _ _ _ _ rfl (by simp)).past _
  have HZa : Hid (w.heap.size + 3 ≤ wa.heap.size) := by show _ ≤ _; rw [hwa]; simp
  obtain ⟨yz, y0, y1, y2⟩ := HXa.out
  go_enter Tryz.func8, Tryz.ntmps8
  go_upto_region 2 with fail
  rw [← hwa]
  clear hwa
  go_wp2_with fail
  refine (toShapesI v0 L.shapes wa HH.out.2.1.1 HH.out.2.1.2 (HH.out.1.later HBa.out).s).mono ?_
  rintro e wb ⟨rfl, hb, hi⟩
  obtain ⟨p0, hp0⟩ : ∃ p0, p0 = wa.heap.size := ⟨_, rfl⟩
  rw [← hp0] at hi ⊢
  have HP0 : Hid (w.heap.size + 3 ≤ p0) := by show _ ≤ _; rw [hp0]; exact HZa.out
  have HIb : Hid (ShpsIn wb p0 L.shapes) := hi
  have HBb : Hid (Below w.heap.size w wb) := blw_trans HBa.out hb
  have HRb : Hid (OwnBlk wb (w.heap.size + 1) 40 3) := HRa.out.later hb
  have HXb : Hid (Box3 wb w.heap.size v0 v1 v2) := HXa.out.later hb
  have HOb : Hid (OwnBlk wb (w.heap.size + 2) 40 3) := HOa.out.later hb
  have HZb : Hid (w.heap.size + 3 ≤ wb.heap.size) := Nat.le_trans HZa.out hb.size
  clear hi hb hp0 yz y0 y1 y2 HXa HBa HOa HZa
  obtain ⟨yz, y0, y1, y2⟩ := HXb.out
  have hfz := HOb.out.frozen
  have hz := HOb.out.lt
  obtain ⟨z0, e0⟩ := HOb.out.cell 0 (by omega)
  obtain ⟨z1, e1⟩ := HOb.out.cell 1 (by omega)
  obtain ⟨z2, e2⟩ := HOb.out.cell 2 (by omega)
  obtain ⟨wc, hwc⟩ : ∃ wc, wc = wb.setCell ⟨w.heap.size + 2, 0, none⟩ (.slice (some ⟨p0, 0, none⟩) L.shapes.length L.shapes.length) := ⟨_, rfl⟩
  have HBc : Hid (Below w.heap.size w wc) := by show Below _ _ _; rw [hwc]; exact HBb.out.setCell (p := ⟨w.heap.size + 2, 0, none⟩) (by show w.heap.size ≤ w.heap.size + 2; omega) _
  have HXc : Hid (Box3 wc w.heap.size v0 v1 v2) := by
    show Box3 _ _ _ _ _
    rw [hwc]
    exact ⟨by rw [sc_size]; exact yz, (sc_ne _ _ _ _ _ _ (by omega)).trans y0, (sc_ne _ _ _ _ _ _ (by omega)).trans y1, (sc_ne _ _ _ _ _ _ (by omega)).trans y2⟩
  have HOc : Hid (OwnBlk wc (w.heap.size + 2) 40 3 ∧ wc.cell? ⟨w.heap.size + 2, 0, none⟩ = some (.slice (some ⟨p0, 0, none⟩) L.shapes.length L.shapes.length)) := by
    show _ ∧ _
    rw [hwc]
    exact ⟨HOb.out.setCell 0 _, sc_eq HOb.out 0 (by omega) _⟩
  have HIc : Hid (ShpsIn wc p0 L.shapes) := by show ShpsIn _ _ _; rw [hwc]; exact HIb.out.sc (by have := HP0.out; omega) _ _
  have HRc : Hid (OwnBlk wc (w.heap.size + 1) 40 3) := by show OwnBlk _ _ _ _; rw [hwc]; exact HRb.out.sc_other (by omega) _ _
  have HZc : Hid (w.heap.size + 3 ≤ wc.heap.size) := by show _ ≤ _; rw [hwc, sc_size]; exact HZb.out
  go_upto_region 3 with fail
  rw [← hwc]
  clear hwc yz y0 y1 y2 hfz hz e0 e1 e2 HBb HXb HOb HIb HZb
  obtain ⟨yz, y0, y1, y2⟩ := HXc.out
  go_wp2_with fail
  refine (toMends v1 L.mends wc HH.out.2.2.1 (HH.out.1.later HBc.out).m).mono ?_
  rintro e wd ⟨rfl, hb, hi⟩
  obtain ⟨p1, hp1⟩ : ∃ p1, p1 = wc.heap.size := ⟨_, rfl⟩
  rw [← hp1] at hi ⊢
  have HP1 : Hid (w.heap.size + 3 ≤ p1) := by show _ ≤ _; rw [hp1]; exact HZc.out
  have HId : Hid (ShpsIn wd p0 L.shapes ∧ MndsIn wd p1 L.mends) := ⟨HIc.out.later hb, hi⟩
  have HBd : Hid (Below w.heap.size w wd) := blw_trans HBc.out hb
  have HRd : Hid (OwnBlk wd (w.heap.size + 1) 40 3) := HRc.out.later hb
  have HXd : Hid (Box3 wd w.heap.size v0 v1 v2) := HXc.out.later hb
  have HOd : Hid (OwnBlk wd (w.heap.size + 2) 40 3 ∧ wd.cell? ⟨w.heap.size + 2, 0, none⟩ = some (.slice (some ⟨p0, 0, none⟩) L.shapes.length L.shapes.length)) := ⟨HOc.out.1.later hb, (hb.cell (p := ⟨w.heap.size + 2, 0, none⟩) HOc.out.1.lt).trans HOc.out.2⟩
  have HZd : Hid (w.heap.size + 3 ≤ wd.heap.size) := Nat.le_trans HZc.out hb.size
  clear hi hb hp1 yz y0 y1 y2 HXc HBc HOc HZc HIc
  obtain ⟨yz, y0, y1, y2⟩ := HXd.out
  have hfz := HOd.out.1.frozen
  have hz := HOd.out.1.lt
  obtain ⟨z0, e0⟩ := HOd.out.1.cell 0 (by omega)
  obtain ⟨z1, e1⟩ := HOd.out.1.cell 1 (by omega)
  obtain ⟨z2, e2⟩ := HOd.out.1.cell 2 (by omega)
  obtain ⟨we, hwe⟩ : ∃ we, we = wd.setCell ⟨w.heap.size + 2, 1, none⟩ (.slice (some ⟨p1, 0, none⟩) L.mends.length L.mends.length) := ⟨_, rfl⟩
  have HBe : Hid (Below w.heap.size w we) := by show Below _ _ _; rw [hwe]; exact HBd.out.setCell (p := ⟨w.heap.size + 2, 1, none⟩) (by show w.heap.size ≤ w.heap.size + 2; omega) _
  have HXe : Hid (Box3 we w.heap.size v0 v1 v2) := by
    show Box3 _ _ _ _ _
    rw [hwe]
    exact ⟨by rw [sc_size]; exact yz, (sc_ne _ _ _ _ _ _ (by omega)).trans y0, (sc_ne _ _ _ _ _ _ (by omega)).trans y1, (sc_ne _ _ _ _ _ _ (by omega)).trans y2⟩
  have HOe : Hid (OwnBlk we (w.heap.size + 2) 40 3 ∧ we.cell? ⟨w.heap.size + 2, 0, none⟩ = some (.slice (some ⟨p0, 0, none⟩) L.shapes.length L.shapes.length) ∧ we.cell? ⟨w.heap.size + 2, 1, none⟩ = some (.slice (some ⟨p1, 0, none⟩) L.mends.length L.mends.length)) := by
    show _ ∧ _ ∧ _
    rw [hwe]
    exact ⟨HOd.out.1.setCell 1 _, (sc_ne _ _ _ _ _ _ (by omega)).trans HOd.out.2, sc_eq HOd.out.1 1 (by omega) _⟩
  have HIe : Hid (ShpsIn we p0 L.shapes ∧ MndsIn we p1 L.mends) := by show _ ∧ _; rw [hwe]; exact ⟨HId.out.1.sc (by have := HP0.out; omega) _ _, HId.out.2.sc (by have := HP1.out; omega) _ _⟩
  have HRe : Hid (OwnBlk we (w.heap.size + 1) 40 3) := by show OwnBlk _ _ _ _; rw [hwe]; exact HRd.out.sc_other (by omega) _ _
  have HZe : Hid (w.heap.size + 3 ≤ we.heap.size) := by show _ ≤ _; rw [hwe, sc_size]; exact HZd.out
  go_upto_region 4 with fail
  rw [← hwe]
  clear hwe yz y0 y1 y2 hfz hz e0 e1 e2 HBd HXd HOd HId HZd
  obtain ⟨yz, y0, y1, y2⟩ := HXe.out
  go_wp2_with fail
  refine (toTeams v2 L.teams we HH.out.2.2.2 (HH.out.1.later HBe.out).t).mono ?_
  rintro e wf ⟨rfl, hb, hi⟩
  obtain ⟨p2, hp2⟩ : ∃ p2, p2 = we.heap.size := ⟨_, rfl⟩
  rw [← hp2] at hi ⊢
  have HP2 : Hid (w.heap.size + 3 ≤ p2) := by show _ ≤ _; rw [hp2]; exact HZe.out
  have HIf : Hid (ShpsIn wf p0 L.shapes ∧ MndsIn wf p1 L.mends ∧ TmsIn wf p2 L.teams) := ⟨HIe.out.1.later hb, HIe.out.2.later hb, hi⟩
  have HBf : Hid (Below w.heap.size w wf) := blw_trans HBe.out hb
  have HRf : Hid (OwnBlk wf (w.heap.size + 1) 40 3) := HRe.out.later hb
  have HOf : Hid (OwnBlk wf (w.heap.size + 2) 40 3) := HOe.out.1.later hb
  have c0 := (hb.cell (p := ⟨w.heap.size + 2, 0, none⟩) HOe.out.1.lt).trans HOe.out.2.1
  have c1 := (hb.cell (p := ⟨w.heap.size + 2, 1, none⟩) HOe.out.1.lt).trans HOe.out.2.2
  clear hi hb hp2 yz y0 y1 y2 HXe HBe HOe HZe HIe
  have hfz := HOf.out.frozen
  have hz := HOf.out.lt
  obtain ⟨z2, e2⟩ := HOf.out.cell 2 (by omega)
  obtain ⟨wg, hwg⟩ : ∃ wg, wg = wf.setCell ⟨w.heap.size + 2, 2, none⟩ (.slice (some ⟨p2, 0, none⟩) L.teams.length L.teams.length) := ⟨_, rfl⟩
  have HBg : Hid (Below w.heap.size w wg) := by show Below _ _ _; rw [hwg]; exact HBf.out.setCell (p := ⟨w.heap.size + 2, 2, none⟩) (by show w.heap.size ≤ w.heap.size + 2; omega) _
  have HRg : Hid (OwnBlk wg (w.heap.size + 1) 40 3) := by show OwnBlk _ _ _ _; rw [hwg]; exact HRf.out.sc_other (by omega) _ _
  have HIg : Hid (ShpsIn wg p0 L.shapes ∧ MndsIn wg p1 L.mends ∧ TmsIn wg p2 L.teams) := by show _ ∧ _ ∧ _; rw [hwg]; exact ⟨HIf.out.1.sc (by have := HP0.out; omega) _ _, HIf.out.2.1.sc (by have := HP1.out; omega) _ _, HIf.out.2.2.sc (by have := HP2.out; omega) _ _⟩
  have d0 : wg.cell? ⟨w.heap.size + 2, 0, none⟩ = some (.slice (some ⟨p0, 0, none⟩) L.shapes.length L.shapes.length) := by rw [hwg]; exact (sc_ne _ _ _ _ _ _ (by omega)).trans c0
  have d1 : wg.cell? ⟨w.heap.size + 2, 1, none⟩ = some (.slice (some ⟨p1, 0, none⟩) L.mends.length L.mends.length) := by rw [hwg]; exact (sc_ne _ _ _ _ _ _ (by omega)).trans c1
  have d2 : wg.cell? ⟨w.heap.size + 2, 2, none⟩ = some (.slice (some ⟨p2, 0, none⟩) L.teams.length L.teams.length) := by rw [hwg]; exact sc_eq HOf.out 2 (by omega) _
  have gz : w.heap.size + 2 < wg.heap.size := by rw [hwg, sc_size]; exact hz
  go_upto_region 5 with fail
  rw [← hwg]
  clear hwg hfz hz e2 c0 c1 HBf HRf HIf HOf
  have hfz := HRg.out.frozen
  have hz := HRg.out.lt
  obtain ⟨z0, e0⟩ := HRg.out.cell 0 (by omega)
  obtain ⟨z1, e1⟩ := HRg.out.cell 1 (by omega)
  obtain ⟨z2, e2⟩ := HRg.out.cell 2 (by omega)
  go_wp2
  have t0 : (((wg.setCell ⟨w.heap.size + 1, 0, none⟩ (.slice (some ⟨p0, 0, none⟩) L.shapes.length L.shapes.length)).setCell ⟨w.heap.size + 1, 1, none⟩ (.slice (some ⟨p1, 0, none⟩) L.mends.length L.mends.length)).setCell ⟨w.heap.size + 1, 2, none⟩ (.slice (some ⟨p2, 0, none⟩) L.teams.length L.teams.length)).cell? ⟨w.heap.size + 1, 0, none⟩ = some (.slice (some ⟨p0, 0, none⟩) L.shapes.length L.shapes.length) := by
    rw [sc_ne _ _ _ _ _ _ (by omega), sc_ne _ _ _ _ _ _ (by omega)]; exact sc_eq HRg.out 0 (by omega) _
  have t1 : (((wg.setCell ⟨w.heap.size + 1, 0, none⟩ (.slice (some ⟨p0, 0, none⟩) L.shapes.length L.shapes.length)).setCell ⟨w.heap.size + 1, 1, none⟩ (.slice (some ⟨p1, 0, none⟩) L.mends.length L.mends.length)).setCell ⟨w.heap.size + 1, 2, none⟩ (.slice (some ⟨p2, 0, none⟩) L.teams.length L.teams.length)).cell? ⟨w.heap.size + 1, 1, none⟩ = some (.slice (some ⟨p1, 0, none⟩) L.mends.length L.mends.length) := by
    rw [sc_ne _ _ _ _ _ _ (by omega)]; exact sc_eq (HRg.out.setCell 0 _) 1 (by omega) _
  have t2 : (((wg.setCell ⟨w.heap.size + 1, 0, none⟩ (.slice (some ⟨p0, 0, none⟩) L.shapes.length L.shapes.length)).setCell ⟨w.heap.size + 1, 1, none⟩ (.slice (some ⟨p1, 0, none⟩) L.mends.length L.mends.length)).setCell ⟨w.heap.size + 1, 2, none⟩ (.slice (some ⟨p2, 0, none⟩) L.teams.length L.teams.length)).cell? ⟨w.heap.size + 1, 2, none⟩ = some (.slice (some ⟨p2, 0, none⟩) L.teams.length L.teams.length) := sc_eq ((HRg.out.setCell 0 _).setCell 1 _) 2 (by omega) _
  refine bodyPost_ret (v := .agg #[.slice (some ⟨p0, 0, none⟩) L.shapes.length L.shapes.length, .slice (some ⟨p1, 0, none⟩) L.mends.length L.mends.length, .slice (some ⟨p2, 0, none⟩) L.teams.length L.teams.length]) (by simp [results, Tryz.results8, go_sem, t0, t1, t2]) rfl ⟨⟨p0, p1, p2, rfl, ⟨((HIg.out.1.sc (by have := HP0.out; omega) _ _).sc (by have := HP0.out; omega) _ _).sc (by have := HP0.out; omega) _ _, ((HIg.out.2.1.sc (by have := HP1.out; omega) _ _).sc (by have := HP1.out; omega) _ _).sc (by have := HP1.out; omega) _ _, ((HIg.out.2.2.sc (by have := HP2.out; omega) _ _).sc (by have := HP2.out; omega) _ _).sc (by have := HP2.out; omega) _ _⟩, by have := HP0.out; omega, by have := HP1.out; omega, by have := HP2.out; omega⟩, ?_⟩
  exact ((HBg.out.setCell (p := ⟨w.heap.size + 1, 0, none⟩) (Nat.le_succ _) _).setCell (p := ⟨w.heap.size + 1, 1, none⟩) (Nat.le_succ _) _).setCell (p := ⟨w.heap.size + 1, 2, none⟩) (Nat.le_succ _) _

set_option maxHeartbeats 2000000 in
theorem eqLaw (L : Lw) (b0 b1 b2 q0 q1 q2 : Nat) (w : World) (h : LwIn w b0 b1 b2 L) (h' : LwIn w q0 q1 q2 L) :
    Calls Tryz.prog 11 #[.agg #[.slice (some ⟨b0, 0, none⟩) L.shapes.length L.shapes.length, .slice (some ⟨b1, 0, none⟩) L.mends.length L.mends.length, .slice (some ⟨b2, 0, none⟩) L.teams.length L.teams.length], .agg #[.slice (some ⟨q0, 0, none⟩) L.shapes.length L.shapes.length, .slice (some ⟨q1, 0, none⟩) L.mends.length L.mends.length, .slice (some ⟨q2, 0, none⟩) L.teams.length L.teams.length]] w fun e w' => e = .returned (.bool true) ∧ Below w.heap.size w w' := by
  have HH : Hid (LwIn w b0 b1 b2 L ∧ LwIn w q0 q1 q2 L) := ⟨h, h'⟩
  clear h h'
  obtain ⟨wa, hwa⟩ : ∃ wa, wa = (w.alloc (.cells #[.slice (some ⟨b0, 0, none⟩) L.shapes.length L.shapes.length, .slice (some ⟨b1, 0, none⟩) L.mends.length L.mends.length, .slice (some ⟨b2, 0, none⟩) L.teams.length L.teams.length] 40)).alloc (.cells #[.slice (some ⟨q0, 0, none⟩) L.shapes.length L.shapes.length, .slice (some ⟨q1, 0, none⟩) L.mends.length L.mends.length, .slice (some ⟨q2, 0, none⟩) L.teams.length L.teams.length] 40) := ⟨_, rfl⟩
  have HBa : Hid (Below w.heap.size w wa) := by show Below _ _ _; rw [hwa]; exact blw_alloc (blw_alloc (Below.refl _ _) _) _
  have HXa : Hid (Box3 wa w.heap.size (.slice (some ⟨b0, 0, none⟩) L.shapes.length L.shapes.length) (.slice (some ⟨b1, 0, none⟩) L.mends.length L.mends.length) (.slice (some ⟨b2, 0, none⟩) L.teams.length L.teams.length)) := by show Box3 _ _ _ _ _; rw [hwa]; exact (Box3.new w _ _ _ _).past _
  have HYa : Hid (Box3 wa (w.heap.size + 1) (.slice (some ⟨q0, 0, none⟩) L.shapes.length L.shapes.length) (.slice (some ⟨q1, 0, none⟩) L.mends.length L.mends.length) (.slice (some ⟨q2, 0, none⟩) L.teams.length L.teams.length)) := by
    show Box3 _ _ _ _ _
    rw [hwa]
    have := Box3.new (w.alloc (.cells #[.slice (some ⟨b0, 0, none⟩) L.shapes.length L.shapes.length, .slice (some ⟨b1, 0, none⟩) L.mends.length L.mends.length, .slice (some ⟨b2, 0, none⟩) L.teams.length L.teams.length] 40)) (.slice (some ⟨q0, 0, none⟩) L.shapes.length L.shapes.length) (.slice (some ⟨q1, 0, none⟩) L.mends.length L.mends.length) (.slice (some ⟨q2, 0, none⟩) L.teams.length L.teams.length) 40
    simpa using this
  obtain ⟨yz, y0, y1, y2⟩ := HXa.out
  obtain ⟨xz, x0, x1, x2⟩ := HYa.out
  go_enter Tryz.func11, Tryz.ntmps11
  go_upto_region 1 with fail
  rw [← hwa]
  clear hwa
  have HI := (HH.out.1.later HBa.out).s
  have HJ := (HH.out.2.later HBa.out).s
  go_wp2_with fail
  refine (eqShapes b0 q0 L.shapes wa HI.len HI.small HI.lt HJ.lt HI.at_ HJ.at_).mono ?_
  rintro e wb ⟨rfl, hb⟩
  have HBb : Hid (Below w.heap.size w wb) := blw_trans HBa.out hb
  have HXb := HXa.out.later hb
  have HYb := HYa.out.later hb
  clear hb yz y0 y1 y2 xz x0 x1 x2 HXa HYa HBa HI HJ
  have HX : Hid (Box3 wb w.heap.size (.slice (some ⟨b0, 0, none⟩) L.shapes.length L.shapes.length) (.slice (some ⟨b1, 0, none⟩) L.mends.length L.mends.length) (.slice (some ⟨b2, 0, none⟩) L.teams.length L.teams.length) ∧ Box3 wb (w.heap.size + 1) (.slice (some ⟨q0, 0, none⟩) L.shapes.length L.shapes.length) (.slice (some ⟨q1, 0, none⟩) L.mends.length L.mends.length) (.slice (some ⟨q2, 0, none⟩) L.teams.length L.teams.length)) := ⟨HXb, HYb⟩
  obtain ⟨yz, y0, y1, y2⟩ := HXb
  obtain ⟨xz, x0, x1, x2⟩ := HYb
  go_wp2_with fail
  refine (eqMends b1 q1 L.mends wb (HH.out.1.later HBb.out).m (HH.out.2.later HBb.out).m).mono ?_
  rintro e wc ⟨rfl, hb⟩
  have HBc : Hid (Below w.heap.size w wc) := blw_trans HBb.out hb
  have HXc := HX.out.1.later hb
  have HYc := HX.out.2.later hb
  clear hb yz y0 y1 y2 xz x0 x1 x2 HX HBb
  obtain ⟨yz, y0, y1, y2⟩ := HXc
  obtain ⟨xz, x0, x1, x2⟩ := HYc
  go_wp2_with fail
  refine (eqTeams b2 q2 L.teams wc (HH.out.1.later HBc.out).t (HH.out.2.later HBc.out).t).mono ?_
  rintro e wd ⟨rfl, hb⟩
  have HBd : Hid (Below w.heap.size w wd) := blw_trans HBc.out hb
  clear hb yz y0 y1 y2 xz x0 x1 x2
  go_wp2
  go_ret
  exact ⟨rfl, HBd.out⟩

end Go.Proofs.YtkjkklcflpchlaaGreat
