/-
  Walks over mends: copies, equality.
-/
import Derived.Test.YtfdahoekjpobaaaGreatMemM
import Derived.Test.YtfdahoekjpobaaaGreatWalkP
namespace Go.Proofs.YtfdahoekjpobaaaGreat
open Go.RowKit Go.Deep

theorem Tryz.info58 : (Tryz.prog.info? 58).map (fun i => (i.zero, i.size, i.bytes)) = some (some (.agg #[.string ByteArray.empty, .string ByteArray.empty, .string ByteArray.empty, .string ByteArray.empty, .string ByteArray.empty, .string ByteArray.empty]), 6, 96) := by kernel_rfl

theorem make_mnds (n : Nat) (h : n ≤ 1048576) : ∃ cs : Array Value, cs.size = n * 6 ∧ ∀ W : World,
    (Instr.makeSlice 34 (.int .i64 (n : Int)) (.int .i64 (n : Int))).run Tryz.prog W = .ok (.slice (some ⟨W.heap.size, 0, none⟩) n n) (W.alloc (.cells cs 58)) := by
  obtain ⟨i, hi, hzz⟩ := Option.map_eq_some_iff.1 Tryz.info58
  simp only [Prod.mk.injEq] at hzz
  obtain ⟨hz, hs, hb⟩ := hzz
  refine ⟨madeCells (Value.agg #[.string ByteArray.empty, .string ByteArray.empty, .string ByteArray.empty, .string ByteArray.empty, .string ByteArray.empty, .string ByteArray.empty]).cells (n * 6), size_madeCells _ _, fun W => ?_⟩
  have hr := run_make (P := Tryz.prog) W 34 58 i _ Tryz.underlying34 hi hz .i64 .i64 n n (by omega) (Int.le_refl _) (by rw [hb]; omega) (by omega)
  simp only [Int.toNat_natCast, hs] at hr
  exact hr

set_option maxHeartbeats 1000000 in
theorem toMend (m : Mnd) (w : World) :
    Calls Tryz.prog 26 #[.agg #[.string m.kind, .string m.field, .string m.whn, .string m.is_, .string m.put, .string m.frm]] w fun e w' => e = .returned (.agg #[.string m.kind, .string m.field, .string m.whn, .string m.is_, .string m.put, .string m.frm]) ∧ Below w.heap.size w w' := by
  go_enter Tryz.func26, Tryz.ntmps26
  go_wp2
  refine bodyPost_ret (v := .agg #[.string m.kind, .string m.field, .string m.whn, .string m.is_, .string m.put, .string m.frm]) (by simp [results, Tryz.results26, go_sem]) rfl ⟨rfl, ?_⟩
  repeat (first | exact Below.refl _ _ | refine blw_alloc ?_ _ | refine Below.setCell ?_ (by simp) _)

set_option maxHeartbeats 1000000 in
theorem toMends_row (b off cap : Nat) (ms : List Mnd) (w : World) (hl : ms.length ≤ 1048576) (hb : b < w.heap.size)
    (hc : ∀ i, i < ms.length → MndIs w b (off + i * 6) (ms.getD i Mnd.none)) :
    Calls Tryz.prog 9 #[.slice (some ⟨b, off, none⟩) ms.length cap] w fun e w' => e = .returned (.slice (some ⟨w.heap.size, 0, none⟩) ms.length ms.length) ∧ Below w.heap.size w w' ∧ OwnBlk w' w.heap.size 58 (ms.length * 6) ∧
      ∀ i, i < ms.length → MndIs w' w.heap.size (i * 6) (ms.getD i Mnd.none) := by
  obtain ⟨cs, hcs, hmk⟩ := make_mnds ms.length hl
  go_enter Tryz.func9, Tryz.ntmps9
  go_wp2
  go_loopw [4] (fun i wr => ∃ k : Nat, k ≤ ms.length ∧ i = .int .i64 k ∧ Below w.heap.size w wr ∧ OwnBlk wr w.heap.size 58 (ms.length * 6) ∧ ∀ i, i < k → MndIs wr w.heap.size (i * 6) (ms.getD i Mnd.none)) (fun i _ => ms.length - (intOf i).toNat)
  case atStart => exact ⟨0, Nat.zero_le _, rfl, blw_alloc (Below.refl _ _) _, OwnBlk.alloc w cs 58 _ hcs, fun i hi => absurd hi (Nat.not_lt_zero i)⟩
  case round =>
    obtain ⟨k, hk, rfl, hB, hO, hall⟩ := hrel
    have HA : Hid (∀ i, i < k → MndIs wr w.heap.size (i * 6) (ms.getD i Mnd.none)) := hall
    have HO : Hid (OwnBlk wr w.heap.size 58 (ms.length * 6)) := hO
    clear hall hmk hcs hO
    by_cases hlt : k < ms.length
    · have hf := (hc k hlt).later hB hb
      obtain ⟨m, hm⟩ : ∃ m, m = ms.getD k Mnd.none := ⟨_, rfl⟩
      rw [← hm] at hf
      have HX : Hid (m.sized ∧ m = ms.getD k Mnd.none) := ⟨hf.sized, hm⟩
      obtain ⟨c0, c1, c2, c3, c4, c5, _⟩ := hf
      clear hm hc
      go_wp2_with fail
      refine (toMend m wr).mono ?_
      rintro e w2 ⟨rfl, hb2⟩
      have hB2 := blw_trans hB hb2
      have hO2 := HO.out.later hb2
      have HP : Hid (∀ v, v = [.string m.kind, .string m.field, .string m.whn, .string m.is_, .string m.put, .string m.frm] →
          Below w.heap.size w (puts w2 w.heap.size (k * 6) 0 v) ∧ OwnBlk (puts w2 w.heap.size (k * 6) 0 v) w.heap.size 58 (ms.length * 6) ∧ ∀ i, i < k + 1 → MndIs (puts w2 w.heap.size (k * 6) 0 v) w.heap.size (i * 6) (ms.getD i Mnd.none)) := by
        intro v hv
        subst hv
        refine ⟨puts_below (a := w) _ (Nat.le_refl _) _ _ _ hB2, puts_own _ _ _ _ hO2, fun i hi => ?_⟩
        by_cases hik : i < k
        · exact ((HA.out i hik).later hb2 HO.out.lt).puts (k * 6) _ (by omega)
        · obtain rfl : i = k := by omega
          rw [← HX.out.2]
          exact own_put_mnd hO2 (i * 6) (by omega) m HX.out.1
      clear c0 c1 c2 c3 c4 c5 HX
      have hfz := hO2.frozen
      obtain ⟨v0, o0⟩ := hO2.cell (k * 6) (by omega)
      obtain ⟨v1, o1⟩ := hO2.cell (k * 6 + 1) (by omega)
      obtain ⟨v2, o2⟩ := hO2.cell (k * 6 + 2) (by omega)
      obtain ⟨v3, o3⟩ := hO2.cell (k * 6 + 3) (by omega)
      obtain ⟨v4, o4⟩ := hO2.cell (k * 6 + 4) (by omega)
      obtain ⟨v5, o5⟩ := hO2.cell (k * 6 + 5) (by omega)
      clear hO2 hB2 hb2
      go_wp2
      go_roundw
      case rel => exact ⟨k + 1, by omega, by go_num, (HP.out _ rfl).1, (HP.out _ rfl).2.1, (HP.out _ rfl).2.2⟩
      case measure => simp [intOf]; omega
    · obtain rfl : k = ms.length := by omega
      go_wp2
      go_ret
      exact ⟨rfl, hB, HO.out, HA.out⟩

set_option maxHeartbeats 400000 in
theorem toMends_nil (a : Option Addr) (cap : Nat) (w : World) :
    Calls Tryz.prog 9 #[.slice a 0 cap] w fun e w' => e = .returned (.slice (some ⟨w.heap.size, 0, none⟩) 0 0) ∧ ∃ cs : Array Value, cs.size = 0 ∧ w' = w.alloc (.cells cs 58) := by
  obtain ⟨cs, hcs0, hmk0⟩ := make_mnds 0 (by omega)
  have hmk : ∀ W : World, (Instr.makeSlice 34 (.int .i64 0) (.int .i64 0)).run Tryz.prog W = .ok (.slice (some ⟨W.heap.size, 0, none⟩) 0 0) (W.alloc (.cells cs 58)) := hmk0
  clear hmk0
  go_enter Tryz.func9, Tryz.ntmps9
  go_wp2
  refine wp_loop_rounds 1 ?_
  rw [rounds_succ]
  go_wp2
  go_ret
  exact ⟨rfl, _, by omega, rfl⟩

theorem toMends (v : Value) (ms : List Mnd) (w : World) (hl : ms.length ≤ 1048576) (h : MndsAt w v ms) :
    Calls Tryz.prog 9 #[v] w fun e w' => e = .returned (.slice (some ⟨w.heap.size, 0, none⟩) ms.length ms.length) ∧ Below w.heap.size w w' ∧ MndsIn w' w.heap.size ms := by
  rcases h with ⟨a, cap, rfl, rfl⟩ | ⟨b, off, cap, rfl, hb, _, hc⟩
  · refine (toMends_nil a cap w).mono ?_
    rintro e w' ⟨rfl, cs, hcs, rfl⟩
    exact ⟨rfl, blw_alloc (Below.refl _ _) _, ⟨by simp, by simp, fun i hi => absurd hi (Nat.not_lt_zero i)⟩⟩
  · refine (toMends_row b off cap ms w hl hb hc).mono ?_
    rintro e w' ⟨rfl, h1, h2, h3⟩
    exact ⟨rfl, h1, h2.lt, hl, h3⟩

set_option maxHeartbeats 1000000 in
theorem eqMend (m : Mnd) (w : World) :
    Calls Tryz.prog 33 #[.agg #[.string m.kind, .string m.field, .string m.whn, .string m.is_, .string m.put, .string m.frm], .agg #[.string m.kind, .string m.field, .string m.whn, .string m.is_, .string m.put, .string m.frm]] w fun e w' => e = .returned (.bool true) ∧ Below w.heap.size w w' := by
  go_enter Tryz.func33, Tryz.ntmps33
  go_wp2
  go_ret
  exact ⟨rfl, blw_alloc (blw_alloc (Below.refl _ _) _) _⟩

set_option maxHeartbeats 2000000 in
theorem eqMends (B B' : Nat) (ms : List Mnd) (w : World) (h : MndsIn w B ms) (h' : MndsIn w B' ms) :
    Calls Tryz.prog 14 #[.slice (some ⟨B, 0, none⟩) ms.length ms.length, .slice (some ⟨B', 0, none⟩) ms.length ms.length] w fun e w' => e = .returned (.bool true) ∧ Below w.heap.size w w' := by
  have hl := h.len
  have HH : Hid (MndsIn w B ms ∧ MndsIn w B' ms) := ⟨h, h'⟩
  clear h h'
  go_enter Tryz.func14, Tryz.ntmps14
  go_wp2
  go_loopw [5] (fun i wr => ∃ k : Nat, k ≤ ms.length ∧ i = .int .i64 k ∧ Below w.heap.size w wr) (fun i _ => ms.length - (intOf i).toNat)
  case atStart => exact ⟨0, Nat.zero_le _, rfl, Below.refl _ _⟩
  case round =>
    obtain ⟨k, hk, rfl, hW⟩ := hrel
    by_cases hlt : k < ms.length
    · have q := (HH.out.1.later hW).at_ k hlt
      have q' := (HH.out.2.later hW).at_ k hlt
      obtain ⟨m, hm⟩ : ∃ m, m = ms.getD k Mnd.none := ⟨_, rfl⟩
      rw [← hm] at q q'
      obtain ⟨c0, c1, c2, c3, c4, c5, _⟩ := q
      obtain ⟨d0, d1, d2, d3, d4, d5, _⟩ := q'
      have HX : Hid (∀ W, Below wr.heap.size wr W → Calls Tryz.prog 33 #[.agg #[.string m.kind, .string m.field, .string m.whn, .string m.is_, .string m.put, .string m.frm], .agg #[.string m.kind, .string m.field, .string m.whn, .string m.is_, .string m.put, .string m.frm]] W fun e w' => e = .returned (.bool true) ∧ Below W.heap.size W w') := fun W _ => eqMend m W
      clear hm
      go_wp2_with fail
      go_region_with (go_at_call 33; refine (HX.out _ ?_).mono ?_; (repeat (first | exact Below.refl _ _ | refine Below.drew ?_)); rintro e w2 ⟨rfl, hb2⟩)
      all_goals
        go_wp2
        go_roundw
        case rel =>
          refine ⟨k + 1, by omega, by go_num, ?_⟩
          repeat (first | exact blw_trans hW hb2 | exact blw_trans hW.drew hb2 | exact blw_trans hW.drew.drew hb2 | refine Below.drew ?_)
        case measure => simp [intOf]; omega
    · go_wp2
      go_ret
      exact ⟨rfl, hW⟩

end Go.Proofs.YtfdahoekjpobaaaGreat
