/-
  A steward's book in memory: sizes, copies, equality.
-/
import Derived.Deep.DeepCutAuto
import Derived.Test.YtclagbakddkjcaaGreatMemBt
import Derived.Test.YtclagbakddkjcaaGreatMemSv
namespace Go.Proofs.YtclagbakddkjcaaGreat
open Go.RowKit Go.Deep


structure Cp where
  svc : ByteArray
  num : Int
  ver : Int
  image : Int
  state : Int
  ending : Bool
  berth : ByteArray

def Cp.none : Cp := ⟨ByteArray.empty, 0, 0, 0, 0, false, ByteArray.empty⟩

def Cp.sized (m : Cp) : Prop := m.svc.size ≤ maxLen ∧ m.berth.size ≤ maxLen

structure CpIs (w : World) (b o : Nat) (m : Cp) : Prop where
  c0 : w.cell? ⟨b, o, none⟩ = some (.string m.svc)
  c1 : w.cell? ⟨b, o + 1, none⟩ = some (.int .i64 m.num)
  c2 : w.cell? ⟨b, o + 2, none⟩ = some (.int .i64 m.ver)
  c3 : w.cell? ⟨b, o + 3, none⟩ = some (.int .i64 m.image)
  c4 : w.cell? ⟨b, o + 4, none⟩ = some (.int .i64 m.state)
  c5 : w.cell? ⟨b, o + 5, none⟩ = some (.bool m.ending)
  c6 : w.cell? ⟨b, o + 6, none⟩ = some (.string m.berth)
  sized : m.sized

theorem CpIs.later {w w' : World} {b o : Nat} {m : Cp} (h : CpIs w b o m) (hb : Below w.heap.size w w') (hlt : b < w.heap.size) : CpIs w' b o m := by
  have c : ∀ j, w'.cell? ⟨b, j, none⟩ = w.cell? ⟨b, j, none⟩ := fun j => hb.cell (p := ⟨b, j, none⟩) hlt
  exact ⟨(c _).trans h.c0, (c _).trans h.c1, (c _).trans h.c2, (c _).trans h.c3, (c _).trans h.c4, (c _).trans h.c5, (c _).trans h.c6, h.sized⟩

def CpsAt (w : World) (v : Value) (ms : List Cp) : Prop :=
  (∃ a cap, v = .slice a 0 cap ∧ ms = []) ∨ ∃ b off cap, v = .slice (some ⟨b, off, none⟩) ms.length cap ∧ b < w.heap.size ∧ ms.length ≤ maxLen ∧ ∀ i, i < ms.length → CpIs w b (off + i * 7) (ms.getD i Cp.none)

theorem CpsAt.later {w w' : World} {v : Value} {ms : List Cp} (h : CpsAt w v ms) (hb : Below w.heap.size w w') : CpsAt w' v ms := by
  rcases h with h | ⟨b, off, cap, rfl, h1, h2, h3⟩
  · exact Or.inl h
  · exact Or.inr ⟨b, off, cap, rfl, Nat.lt_of_lt_of_le h1 hb.size, h2, fun i hi => (h3 i hi).later hb h1⟩

structure CpsIn (w : World) (B : Nat) (ms : List Cp) : Prop where
  lt : B < w.heap.size
  len : ms.length ≤ 1048576
  at_ : ∀ i, i < ms.length → CpIs w B (i * 7) (ms.getD i Cp.none)
  own : OwnBlk w B 81 (ms.length * 7)

theorem CpsIn.later {w w' : World} {B : Nat} {ms : List Cp} (h : CpsIn w B ms) (hb : Below w.heap.size w w') : CpsIn w' B ms :=
  ⟨Nat.lt_of_lt_of_le h.lt hb.size, h.len, fun i hi => (h.at_ i hi).later hb h.lt, h.own.later hb⟩

theorem CpsIn.sc {w : World} {B p : Nat} {ms : List Cp} (h : CpsIn w B ms) (hp : p < B) (j : Nat) (v : Value) : CpsIn (w.setCell ⟨p, j, none⟩ v) B ms := by
  have c : ∀ q, (w.setCell ⟨p, j, none⟩ v).cell? ⟨B, q, none⟩ = w.cell? ⟨B, q, none⟩ := fun q => sc_ne _ _ _ _ _ _ (by omega)
  exact ⟨by rw [sc_size]; exact h.lt, h.len, fun i hi => by have h := h.at_ i hi; exact ⟨(c _).trans h.c0, (c _).trans h.c1, (c _).trans h.c2, (c _).trans h.c3, (c _).trans h.c4, (c _).trans h.c5, (c _).trans h.c6, h.sized⟩, h.own.sc_other (by omega) _ _⟩

theorem CpIs.puts {w : World} {B o : Nat} {m : Cp} (h : CpIs w B o m) (o' : Nat) (vs : List Value) (ho : o + 7 ≤ o') : CpIs (puts w B o' 0 vs) B o m := by
  have c : ∀ j, j < o' → (YtclagbakddkjcaaGreat.puts w B o' 0 vs).cell? ⟨B, j, none⟩ = w.cell? ⟨B, j, none⟩ := fun j hj => puts_other B o' B j vs w 0 (by omega)
  exact ⟨(c _ (by omega)).trans h.c0, (c _ (by omega)).trans h.c1, (c _ (by omega)).trans h.c2, (c _ (by omega)).trans h.c3, (c _ (by omega)).trans h.c4, (c _ (by omega)).trans h.c5, (c _ (by omega)).trans h.c6, h.sized⟩

theorem own_put_cp {w : World} {B : Nat} {t : TypeId} {n : Nat} (hO : OwnBlk w B t n) (o : Nat) (ho : o + 7 ≤ n) (m : Cp) (hs : m.sized) :
    CpIs (puts w B o 0 [.string m.svc, .int .i64 m.num, .int .i64 m.ver, .int .i64 m.image, .int .i64 m.state, .bool m.ending, .string m.berth]) B o m := by
  have c := fun i hi => puts_at o [.string m.svc, .int .i64 m.num, .int .i64 m.ver, .int .i64 m.image, .int .i64 m.state, .bool m.ending, .string m.berth] w 0 hO (by simp; omega) i hi
  exact ⟨c 0 (by simp), c 1 (by simp), c 2 (by simp), c 3 (by simp), c 4 (by simp), c 5 (by simp), c 6 (by simp), hs⟩

theorem Tryz.info81 : (Tryz.prog.info? 81).map (fun i => (i.zero, i.size, i.bytes)) = some (some (.agg #[.string ByteArray.empty, .int .i64 0, .int .i64 0, .int .i64 0, .int .i64 0, .bool false, .string ByteArray.empty]), 7, 72) := by kernel_rfl

theorem Tryz.underlying34' : Tryz.prog.underlying 34 = some (.slice 81) := by kernel_rfl

theorem make_cp (n : Nat) (h : n ≤ 1048576) : ∃ cs : Array Value, cs.size = n * 7 ∧ ∀ W : World,
    (Instr.makeSlice 34 (.int .i64 (n : Int)) (.int .i64 (n : Int))).run Tryz.prog W = .ok (.slice (some ⟨W.heap.size, 0, none⟩) n n) (W.alloc (.cells cs 81)) := by
  obtain ⟨i, hi, hzz⟩ := Option.map_eq_some_iff.1 Tryz.info81
  simp only [Prod.mk.injEq] at hzz
  obtain ⟨hz, hs, hb⟩ := hzz
  refine ⟨madeCells (Value.agg #[.string ByteArray.empty, .int .i64 0, .int .i64 0, .int .i64 0, .int .i64 0, .bool false, .string ByteArray.empty]).cells (n * 7), size_madeCells _ _, fun W => ?_⟩
  have hr := run_make (P := Tryz.prog) W 34 81 i _ Tryz.underlying34' hi hz .i64 .i64 n n (by omega) (Int.le_refl _) (by rw [hb]; omega) (by omega)
  simp only [Int.toNat_natCast, hs] at hr
  exact hr

set_option maxHeartbeats 1000000 in
theorem toCp (m : Cp) (w : World) :
    Calls Tryz.prog 50 #[.agg #[.string m.svc, .int .i64 m.num, .int .i64 m.ver, .int .i64 m.image, .int .i64 m.state, .bool m.ending, .string m.berth]] w fun e w' => e = .returned (.agg #[.string m.svc, .int .i64 m.num, .int .i64 m.ver, .int .i64 m.image, .int .i64 m.state, .bool m.ending, .string m.berth]) ∧ Below w.heap.size w w' := by
  go_enter Tryz.func50, Tryz.ntmps50
  go_wp2
  refine bodyPost_ret (v := .agg #[.string m.svc, .int .i64 m.num, .int .i64 m.ver, .int .i64 m.image, .int .i64 m.state, .bool m.ending, .string m.berth]) (by simp [results, Tryz.results50, go_sem]) rfl ⟨rfl, ?_⟩
  repeat (first | exact Below.refl _ _ | refine blw_alloc ?_ _ | refine Below.setCell ?_ (by simp) _)

set_option maxHeartbeats 1000000 in
theorem toCps_row (b off cap : Nat) (ms : List Cp) (w : World) (hl : ms.length ≤ 1048576) (hb : b < w.heap.size)
    (hc : ∀ i, i < ms.length → CpIs w b (off + i * 7) (ms.getD i Cp.none)) :
    Calls Tryz.prog 22 #[.slice (some ⟨b, off, none⟩) ms.length cap] w fun e w' => e = .returned (.slice (some ⟨w.heap.size, 0, none⟩) ms.length ms.length) ∧ Below w.heap.size w w' ∧ OwnBlk w' w.heap.size 81 (ms.length * 7) ∧
      ∀ i, i < ms.length → CpIs w' w.heap.size (i * 7) (ms.getD i Cp.none) := by
  obtain ⟨cs, hcs, hmk⟩ := make_cp ms.length hl
  go_enter Tryz.func22, Tryz.ntmps22
  go_wp2
  go_loopw [4] (fun i wr => ∃ k : Nat, k ≤ ms.length ∧ i = .int .i64 k ∧ Below w.heap.size w wr ∧ OwnBlk wr w.heap.size 81 (ms.length * 7) ∧ ∀ i, i < k → CpIs wr w.heap.size (i * 7) (ms.getD i Cp.none)) (fun i _ => ms.length - (intOf i).toNat)
  case atStart => exact ⟨0, Nat.zero_le _, rfl, blw_alloc (Below.refl _ _) _, OwnBlk.alloc w cs 81 _ hcs, fun i hi => absurd hi (Nat.not_lt_zero i)⟩
  case round =>
    obtain ⟨k, hk, rfl, hB, hO, hall⟩ := hrel
    have HA : Hid (∀ i, i < k → CpIs wr w.heap.size (i * 7) (ms.getD i Cp.none)) := hall
    have HO : Hid (OwnBlk wr w.heap.size 81 (ms.length * 7)) := hO
    clear hall hmk hcs hO
    by_cases hlt : k < ms.length
    · have hf := (hc k hlt).later hB hb
      obtain ⟨m, hm⟩ : ∃ m, m = ms.getD k Cp.none := ⟨_, rfl⟩
      rw [← hm] at hf
      have HX : Hid (m.sized ∧ m = ms.getD k Cp.none) := ⟨hf.sized, hm⟩
      obtain ⟨c0, c1, c2, c3, c4, c5, c6, _⟩ := hf
      clear hm hc
      go_wp2_with fail
      refine (toCp m wr).mono ?_
      rintro e w2 ⟨rfl, hb2⟩
      have hB2 := blw_trans hB hb2
      have hO2 := HO.out.later hb2
      have HP : Hid (∀ v, v = [.string m.svc, .int .i64 m.num, .int .i64 m.ver, .int .i64 m.image, .int .i64 m.state, .bool m.ending, .string m.berth] →
          Below w.heap.size w (puts w2 w.heap.size (k * 7) 0 v) ∧ OwnBlk (puts w2 w.heap.size (k * 7) 0 v) w.heap.size 81 (ms.length * 7) ∧ ∀ i, i < k + 1 → CpIs (puts w2 w.heap.size (k * 7) 0 v) w.heap.size (i * 7) (ms.getD i Cp.none)) := by
        intro v hv
        subst hv
        refine ⟨puts_below (a := w) _ (Nat.le_refl _) _ _ _ hB2, puts_own _ _ _ _ hO2, fun i hi => ?_⟩
        by_cases hik : i < k
        · exact ((HA.out i hik).later hb2 HO.out.lt).puts (k * 7) _ (by omega)
        · obtain rfl : i = k := by omega
          rw [← HX.out.2]
          exact own_put_cp hO2 (i * 7) (by omega) m HX.out.1
      clear c0 c1 c2 c3 c4 c5 c6 HX
      have hfz := hO2.frozen
      obtain ⟨v0, o0⟩ := hO2.cell (k * 7) (by omega)
      obtain ⟨v1, o1⟩ := hO2.cell (k * 7 + 1) (by omega)
      obtain ⟨v2, o2⟩ := hO2.cell (k * 7 + 2) (by omega)
      obtain ⟨v3, o3⟩ := hO2.cell (k * 7 + 3) (by omega)
      obtain ⟨v4, o4⟩ := hO2.cell (k * 7 + 4) (by omega)
      obtain ⟨v5, o5⟩ := hO2.cell (k * 7 + 5) (by omega)
      obtain ⟨v6, o6⟩ := hO2.cell (k * 7 + 6) (by omega)
      clear hO2 hB2 hb2
      go_wp2
      go_roundw
      case rel => exact ⟨k + 1, by omega, by go_num, (HP.out _ rfl).1, (HP.out _ rfl).2.1, (HP.out _ rfl).2.2⟩
      case measure => simp [intOf]; omega
    · obtain rfl : k = ms.length := by omega
      go_wp2
      go_ret
      exact ⟨rfl, hB, HO.out, HA.out⟩

set_option maxHeartbeats 400000 in
theorem toCps_nil (a : Option Addr) (cap : Nat) (w : World) :
    Calls Tryz.prog 22 #[.slice a 0 cap] w fun e w' => e = .returned (.slice (some ⟨w.heap.size, 0, none⟩) 0 0) ∧ ∃ cs : Array Value, cs.size = 0 ∧ w' = w.alloc (.cells cs 81) := by
  obtain ⟨cs, hcs0, hmk0⟩ := make_cp 0 (by omega)
  have hmk : ∀ W : World, (Instr.makeSlice 34 (.int .i64 0) (.int .i64 0)).run Tryz.prog W = .ok (.slice (some ⟨W.heap.size, 0, none⟩) 0 0) (W.alloc (.cells cs 81)) := hmk0
  clear hmk0
  go_enter Tryz.func22, Tryz.ntmps22
  go_wp2
  refine wp_loop_rounds 1 ?_
  rw [rounds_succ]
  go_wp2
  go_ret
  exact ⟨rfl, _, by omega, rfl⟩

theorem toCps (v : Value) (ms : List Cp) (w : World) (hl : ms.length ≤ 1048576) (h : CpsAt w v ms) :
    Calls Tryz.prog 22 #[v] w fun e w' => e = .returned (.slice (some ⟨w.heap.size, 0, none⟩) ms.length ms.length) ∧ Below w.heap.size w w' ∧ CpsIn w' w.heap.size ms := by
  rcases h with ⟨a, cap, rfl, rfl⟩ | ⟨b, off, cap, rfl, hb, _, hc⟩
  · refine (toCps_nil a cap w).mono ?_
    rintro e w' ⟨rfl, cs, hcs, rfl⟩
    exact ⟨rfl, blw_alloc (Below.refl _ _) _, ⟨by simp, by simp, fun i hi => absurd hi (Nat.not_lt_zero i), OwnBlk.alloc w cs _ _ (by simpa using hcs)⟩⟩
  · refine (toCps_row b off cap ms w hl hb hc).mono ?_
    rintro e w' ⟨rfl, h1, h2, h3⟩
    exact ⟨rfl, h1, h2.lt, hl, h3, h2⟩

set_option maxHeartbeats 1000000 in
theorem eqCp (m : Cp) (w : World) :
    Calls Tryz.prog 63 #[.agg #[.string m.svc, .int .i64 m.num, .int .i64 m.ver, .int .i64 m.image, .int .i64 m.state, .bool m.ending, .string m.berth], .agg #[.string m.svc, .int .i64 m.num, .int .i64 m.ver, .int .i64 m.image, .int .i64 m.state, .bool m.ending, .string m.berth]] w fun e w' => e = .returned (.bool true) ∧ Below w.heap.size w w' := by
  go_enter Tryz.func63, Tryz.ntmps63
  go_wp2
  go_ret
  exact ⟨rfl, blw_alloc (blw_alloc (Below.refl _ _) _) _⟩

set_option maxHeartbeats 2000000 in
theorem eqCps (B B' : Nat) (ms : List Cp) (w : World) (h : CpsIn w B ms) (h' : CpsIn w B' ms) :
    Calls Tryz.prog 30 #[.slice (some ⟨B, 0, none⟩) ms.length ms.length, .slice (some ⟨B', 0, none⟩) ms.length ms.length] w fun e w' => e = .returned (.bool true) ∧ Below w.heap.size w w' := by
  have hl := h.len
  have HH : Hid (CpsIn w B ms ∧ CpsIn w B' ms) := ⟨h, h'⟩
  clear h h'
  go_enter Tryz.func30, Tryz.ntmps30
  go_wp2
  go_loopw [5] (fun i wr => ∃ k : Nat, k ≤ ms.length ∧ i = .int .i64 k ∧ Below w.heap.size w wr) (fun i _ => ms.length - (intOf i).toNat)
  case atStart => exact ⟨0, Nat.zero_le _, rfl, Below.refl _ _⟩
  case round =>
    obtain ⟨k, hk, rfl, hW⟩ := hrel
    by_cases hlt : k < ms.length
    · have q := (HH.out.1.later hW).at_ k hlt
      have q' := (HH.out.2.later hW).at_ k hlt
      obtain ⟨m, hm⟩ : ∃ m, m = ms.getD k Cp.none := ⟨_, rfl⟩
      rw [← hm] at q q'
      obtain ⟨c0, c1, c2, c3, c4, c5, c6, _⟩ := q
      obtain ⟨d0, d1, d2, d3, d4, d5, d6, _⟩ := q'
      have HX : Hid (∀ W, Below wr.heap.size wr W → Calls Tryz.prog 63 #[.agg #[.string m.svc, .int .i64 m.num, .int .i64 m.ver, .int .i64 m.image, .int .i64 m.state, .bool m.ending, .string m.berth], .agg #[.string m.svc, .int .i64 m.num, .int .i64 m.ver, .int .i64 m.image, .int .i64 m.state, .bool m.ending, .string m.berth]] W fun e w' => e = .returned (.bool true) ∧ Below W.heap.size W w') := fun W _ => eqCp m W
      clear hm
      go_wp2_with fail
      go_region_with (go_at_call 63; refine (HX.out _ ?_).mono ?_; (repeat (first | exact Below.refl _ _ | refine Below.drew ?_)); rintro e w2 ⟨rfl, hb2⟩)
      all_goals
        go_wp2
        go_roundw
        case rel =>
          refine ⟨k + 1, by omega, by go_num, ?_⟩
          repeat (first | exact blw_trans hW hb2 | exact blw_trans hW.drew hb2 | exact blw_trans hW.drew.drew hb2 | refine Below.drew ?_)
        case measure => simp [intOf]; omega
    · go_wp2
      go_ret
      exact ⟨rfl, hW⟩

set_option maxHeartbeats 1000000 in
theorem szCp (m : Cp) (left : Int) (w : World) (h0 : 0 ≤ left) (h1 : left ≤ 1048576) (hs : m.sized) :
    Calls Tryz.prog 38 #[.agg #[.string m.svc, .int .i64 m.num, .int .i64 m.ver, .int .i64 m.image, .int .i64 m.state, .bool m.ending, .string m.berth], .int .i64 left] w fun e w' => (∃ r : Int, e = .returned (.int .i64 r) ∧ -1 ≤ r ∧ r ≤ left) ∧ Below w.heap.size w w' := by
  obtain ⟨s0, s1⟩ := hs
  unfold maxLen at s0 s1
  by_cases c0 : left < (m.svc.size : Int)
  · go_enter Tryz.func38, Tryz.ntmps38
    go_wp2
    go_ret
    exact ⟨⟨_, rfl, by omega, by omega⟩, blw_alloc (Below.refl _ _) _⟩
  by_cases c1 : left - m.svc.size < (m.berth.size : Int)
  all_goals
    go_enter Tryz.func38, Tryz.ntmps38
    go_wp2
    go_ret
    exact ⟨⟨_, rfl, by omega, by omega⟩, blw_alloc (Below.refl _ _) _⟩

set_option maxHeartbeats 1000000 in
theorem szCps_row (b off cap : Nat) (ms : List Cp) (left : Int) (w : World) (h0 : 0 ≤ left) (h1 : left ≤ 1048576) (hb : b < w.heap.size) (hl : ms.length ≤ maxLen)
    (hc : ∀ i, i < ms.length → CpIs w b (off + i * 7) (ms.getD i Cp.none)) :
    Calls Tryz.prog 14 #[.slice (some ⟨b, off, none⟩) ms.length cap, .int .i64 left] w fun e w' => (∃ r : Int, e = .returned (.int .i64 r) ∧ szP ((ms.length : Int) ≤ left) left r) ∧ Below w.heap.size w w' := by
  unfold maxLen at hl
  by_cases hneg : left < (ms.length : Int)
  · go_enter Tryz.func14, Tryz.ntmps14
    go_wp2
    go_ret
    exact ⟨⟨_, rfl, by unfold szP; refine ⟨by omega, by omega, by omega⟩⟩, Below.refl _ _⟩
  · go_enter Tryz.func14, Tryz.ntmps14
    go_wp2
    go_loopw [1, 5] (fun l i wr => ∃ (k : Nat) (r : Int), k ≤ ms.length ∧ i = .int .i64 k ∧ l = .int .i64 r ∧ 0 ≤ r ∧ r ≤ left ∧ Below w.heap.size w wr) (fun _ i _ => ms.length - (intOf i).toNat)
    case atStart => exact ⟨0, _, Nat.zero_le _, rfl, rfl, by omega, by omega, Below.refl _ _⟩
    case round =>
      obtain ⟨k, r, hk, rfl, rfl, r0, r1, hB⟩ := hrel
      by_cases hlt : k < ms.length
      · have hf := (hc k hlt).later hB hb
        obtain ⟨m, hm⟩ : ∃ m, m = ms.getD k Cp.none := ⟨_, rfl⟩
        rw [← hm] at hf
        have HX : Hid (Calls Tryz.prog 38 #[.agg #[.string m.svc, .int .i64 m.num, .int .i64 m.ver, .int .i64 m.image, .int .i64 m.state, .bool m.ending, .string m.berth], .int .i64 r] wr fun e w' => (∃ r' : Int, e = .returned (.int .i64 r') ∧ -1 ≤ r' ∧ r' ≤ r) ∧ Below wr.heap.size wr w') :=
          szCp m r wr r0 (by omega) hf.sized
        obtain ⟨c0, c1, c2, c3, c4, c5, c6, _⟩ := hf
        clear hm hc
        go_wp2_with fail
        refine HX.out.mono ?_
        rintro e w2 ⟨⟨r', rfl, q1, q2⟩, hb2⟩
        have hB2 := blw_trans hB hb2
        clear hb2 c0 c1 c2 c3 c4 c5 c6 HX
        by_cases c2 : r' < 0
        · go_wp2
          go_ret
          exact ⟨⟨_, rfl, by unfold szP; refine ⟨by omega, by omega, by omega⟩⟩, hB2⟩
        · go_wp2
          go_roundw
          case rel => exact ⟨k + 1, _, by omega, by go_num, rfl, by omega, by omega, hB2⟩
          case measure => simp [intOf]; omega
      · go_wp2
        go_ret
        exact ⟨⟨_, rfl, by unfold szP; exact ⟨by omega, by omega, fun _ => by omega⟩⟩, hB⟩

set_option maxHeartbeats 400000 in
theorem szCps_nil (a : Option Addr) (cap : Nat) (left : Int) (w : World) (h0 : 0 ≤ left) (h1 : left ≤ 1048576) :
    Calls Tryz.prog 14 #[.slice a 0 cap, .int .i64 left] w fun e w' => e = .returned (.int .i64 left) ∧ w = w' := by
  go_enter Tryz.func14, Tryz.ntmps14
  go_wp2
  refine wp_loop_rounds 1 ?_
  rw [rounds_succ]
  go_wp2
  go_ret
  exact ⟨Pl.ret_int (by omega), rfl⟩

theorem szCps (v : Value) (ms : List Cp) (left : Int) (w : World) (h0 : 0 ≤ left) (h1 : left ≤ 1048576) (h : CpsAt w v ms) :
    Calls Tryz.prog 14 #[v, .int .i64 left] w fun e w' => (∃ r : Int, e = .returned (.int .i64 r) ∧ szP ((ms.length : Int) ≤ left) left r) ∧ Below w.heap.size w w' := by
  rcases h with ⟨a, cap, rfl, rfl⟩ | ⟨b, off, cap, rfl, hb, hl, hc⟩
  · refine (szCps_nil a cap left w h0 h1).mono ?_
    rintro e w' ⟨rfl, rfl⟩
    exact ⟨⟨_, rfl, by unfold szP; exact ⟨by omega, by omega, fun _ => by simpa using h0⟩⟩, Below.refl _ _⟩
  · exact szCps_row b off cap ms left w h0 h1 hb hl hc




end Go.Proofs.YtclagbakddkjcaaGreat

namespace Go.Proofs.YtclagbakddkjcaaGreat
open Go.RowKit Go.Deep

structure Box4 (W : World) (p : Nat) (v0 v1 v2 v3 : Value) : Prop where
  lt : p < W.heap.size
  x0 : W.cell? ⟨p, 0, none⟩ = some v0
  x1 : W.cell? ⟨p, 1, none⟩ = some v1
  x2 : W.cell? ⟨p, 2, none⟩ = some v2
  x3 : W.cell? ⟨p, 3, none⟩ = some v3

theorem Box4.later {W W' : World} {p : Nat} {v0 v1 v2 v3 : Value} (h : Box4 W p v0 v1 v2 v3) (hb : Below W.heap.size W W') : Box4 W' p v0 v1 v2 v3 := by
  have c : ∀ j, W'.cell? ⟨p, j, none⟩ = W.cell? ⟨p, j, none⟩ := fun j => hb.cell (p := ⟨p, j, none⟩) h.lt
  exact ⟨Nat.lt_of_lt_of_le h.lt hb.size, (c 0).trans h.x0, (c 1).trans h.x1, (c 2).trans h.x2, (c 3).trans h.x3⟩
theorem Box4.new' (W : World) (p : Nat) (v0 v1 v2 v3 : Value) (t : TypeId) (hp : p = W.heap.size) : Box4 (W.alloc (.cells #[v0, v1, v2, v3] t)) p v0 v1 v2 v3 := by
  subst hp
  have c : ∀ j, (W.alloc (.cells #[v0, v1, v2, v3] t)).cell? ⟨W.heap.size, j, none⟩ = (#[v0, v1, v2, v3])[j]? := fun j => World.cell?_alloc_at _ _ _ _ rfl
  exact ⟨by simp, c 0, c 1, c 2, c 3⟩
theorem Box4.past {W : World} {p : Nat} {v0 v1 v2 v3 : Value} (h : Box4 W p v0 v1 v2 v3) (o : Obj) : Box4 (W.alloc o) p v0 v1 v2 v3 := h.later (blw_alloc (Below.refl _ _) o)

theorem OwnBlk.alloc_at2 (W : World) (cs : Array Value) (t : TypeId) (m n : Nat) (h : cs.size = m) (hn : n = W.heap.size) : OwnBlk (W.alloc (.cells cs t)) n t m := by
  subst hn
  exact OwnBlk.alloc W cs t m h

structure SBk where
  now : Int
  svcs : List Sv
  cps : List Cp
  bts : List Bt

structure SBkAt (w : World) (v0 v1 v2 : Value) (K : SBk) : Prop where
  l0 : SvsAt w v0 K.svcs
  l1 : CpsAt w v1 K.cps
  l2 : BtsAt w v2 K.bts

structure SBkIn (w : World) (b0 b1 b2 : Nat) (K : SBk) : Prop where
  l0 : SvsIn w b0 K.svcs
  l1 : CpsIn w b1 K.cps
  l2 : BtsIn w b2 K.bts

def SBk.small (K : SBk) : Prop := K.svcs.length ≤ 1048576 ∧ K.cps.length ≤ 1048576 ∧ K.bts.length ≤ 1048576

theorem SBkAt.later {w w' : World} {v0 v1 v2 : Value} {K : SBk} (h : SBkAt w v0 v1 v2 K) (hb : Below w.heap.size w w') : SBkAt w' v0 v1 v2 K := ⟨h.l0.later hb, h.l1.later hb, h.l2.later hb⟩
theorem SBkIn.later {w w' : World} {b0 b1 b2 : Nat} {K : SBk} (h : SBkIn w b0 b1 b2 K) (hb : Below w.heap.size w w') : SBkIn w' b0 b1 b2 K := ⟨h.l0.later hb, h.l1.later hb, h.l2.later hb⟩

set_option maxHeartbeats 4000000 in
theorem szSB (K : SBk) (v0 v1 v2 : Value) (left : Int) (w : World) (h0 : 0 ≤ left) (h1 : left ≤ 1048576) (h : SBkAt w v0 v1 v2 K) :
    Calls Tryz.prog 4 #[.agg #[.int .i64 K.now, v0, v1, v2], .int .i64 left] w fun e w' => (∃ r : Int, e = .returned (.int .i64 r) ∧ szP K.small left r) ∧ Below w.heap.size w w' := by
  have HH : Hid (SBkAt w v0 v1 v2 K) := h
  clear h
  obtain ⟨wa, hwa⟩ : ∃ wa, wa = w.alloc (.cells #[.int .i64 K.now, v0, v1, v2] 26) := ⟨_, rfl⟩
  have HBa : Hid (Below w.heap.size w wa) := by show Below _ _ _; rw [hwa]; exact blw_alloc (Below.refl _ _) _
  have HXa : Hid (Box4 wa w.heap.size (.int .i64 K.now) (v0) (v1) (v2)) := by show Box4 _ _ _ _ _ _ ; rw [hwa]; exact Box4.new' w _ _ _ _ _ _ rfl
  go_enter Tryz.func4, Tryz.ntmps4
  go_upto_region 1 with fail
  rw [← hwa]
  clear hwa
  obtain ⟨yz, y0, y1, y2, y3⟩ := HXa.out
  go_wp2_with fail
  refine (szSvs v0 K.svcs left wa (by omega) (by omega) (HH.out.later HBa.out).l0).mono ?_
  rintro e wb ⟨⟨r0, rfl, hr⟩, hb⟩
  have HR0 : Hid (szP ((K.svcs.length : Int) ≤ left) left r0) := hr
  have q0 : -1 ≤ r0 := hr.1
  have q0' : r0 ≤ left := hr.2.1
  have HBb : Hid (Below w.heap.size w wb) := blw_trans HBa.out hb
  have HXb : Hid (Box4 wb w.heap.size (.int .i64 K.now) (v0) (v1) (v2)) := HXa.out.later hb
  clear hr hb yz y0 y1 y2 y3 HXa HBa
  by_cases c0 : r0 < 0
  · go_wp2
    go_ret
    exact ⟨⟨_, rfl, by unfold szP; exact ⟨by omega, by omega, by omega⟩⟩, HBb.out⟩
  obtain ⟨yz, y0, y1, y2, y3⟩ := HXb.out
  go_wp2_with fail
  refine (szCps v1 K.cps r0 wb (by omega) (by omega) (HH.out.later HBb.out).l1).mono ?_
  rintro e wc ⟨⟨r1, rfl, hr⟩, hb⟩
  have HR1 : Hid (szP ((K.cps.length : Int) ≤ r0) r0 r1) := hr
  have q1 : -1 ≤ r1 := hr.1
  have q1' : r1 ≤ r0 := hr.2.1
  have HBc : Hid (Below w.heap.size w wc) := blw_trans HBb.out hb
  have HXc : Hid (Box4 wc w.heap.size (.int .i64 K.now) (v0) (v1) (v2)) := HXb.out.later hb
  clear hr hb yz y0 y1 y2 y3 HXb HBb
  by_cases c1 : r1 < 0
  · go_wp2
    go_ret
    exact ⟨⟨_, rfl, by unfold szP; exact ⟨by omega, by omega, by omega⟩⟩, HBc.out⟩
  obtain ⟨yz, y0, y1, y2, y3⟩ := HXc.out
  go_wp2_with fail
  refine (szBts v2 K.bts r1 wc (by omega) (by omega) (HH.out.later HBc.out).l2).mono ?_
  rintro e wd ⟨⟨r2, rfl, hr⟩, hb⟩
  have HR2 : Hid (szP ((K.bts.length : Int) ≤ r1) r1 r2) := hr
  have q2 : -1 ≤ r2 := hr.1
  have q2' : r2 ≤ r1 := hr.2.1
  have HBd : Hid (Below w.heap.size w wd) := blw_trans HBc.out hb
  have HXd : Hid (Box4 wd w.heap.size (.int .i64 K.now) (v0) (v1) (v2)) := HXc.out.later hb
  clear hr hb yz y0 y1 y2 y3 HXc HBc
  by_cases c2 : r2 < 0
  · go_wp2
    go_ret
    exact ⟨⟨_, rfl, by unfold szP; exact ⟨by omega, by omega, by omega⟩⟩, HBd.out⟩
  go_wp2
  go_ret
  refine ⟨⟨_, rfl, ?_⟩, HBd.out⟩
  have k0 := HR0.out.2.2 (by omega)
  have k1 := HR1.out.2.2 (by omega)
  have k2 := HR2.out.2.2 (by omega)
  unfold szP
  exact ⟨by omega, by omega, fun _ => ⟨by omega, by omega, by omega⟩⟩

set_option maxHeartbeats 8000000 in
theorem toSB (K : SBk) (v0 v1 v2 : Value) (w : World) (hs : K.small) (h : SBkAt w v0 v1 v2 K) :
    Calls Tryz.prog 7 #[.agg #[.int .i64 K.now, v0, v1, v2]] w fun e w' => (∃ b0 b1 b2, e = .returned (.agg #[.int .i64 K.now, .slice (some ⟨b0, 0, none⟩) K.svcs.length K.svcs.length, .slice (some ⟨b1, 0, none⟩) K.cps.length K.cps.length, .slice (some ⟨b2, 0, none⟩) K.bts.length K.bts.length]) ∧ SBkIn w' b0 b1 b2 K ∧ w.heap.size ≤ b0 ∧ w.heap.size ≤ b1 ∧ w.heap.size ≤ b2) ∧ Below w.heap.size w w' := by
  have HH : Hid (SBkAt w v0 v1 v2 K ∧ K.small) := ⟨h, hs⟩
  clear h hs
  obtain ⟨wa, hwa⟩ : ∃ wa, wa = ((w.alloc (.cells #[.int .i64 K.now, v0, v1, v2] 26)).alloc (.cells #[.int .i64 0, .slice none 0 0, .slice none 0 0, .slice none 0 0] 37)).alloc (.cells #[.int .i64 K.now, .slice none 0 0, .slice none 0 0, .slice none 0 0] 37) := ⟨_, rfl⟩
  have HBa : Hid (Below w.heap.size w wa) := by show Below _ _ _; rw [hwa]; exact blw_alloc (blw_alloc (blw_alloc (Below.refl _ _) _) _) _
  have HXa : Hid (Box4 wa w.heap.size (.int .i64 K.now) (v0) (v1) (v2)) := by show Box4 _ _ _ _ _ _ ; rw [hwa]; exact ((Box4.new' w _ _ _ _ _ _ rfl).past _).past _
  have HOa : Hid (OwnBlk wa (w.heap.size + 2) 37 4) := by show OwnBlk _ _ _ _; rw [hwa]; exact OwnBlk.alloc_at2 _ _ _ _ _ rfl (by simp)
  have HRa : Hid (OwnBlk wa (w.heap.size + 1) 37 4) := by show OwnBlk _ _ _ _; rw [hwa]; exact (OwnBlk.alloc_at2 _ _ _ _ _ rfl (by simp)).past _
  have HCa : Hid (wa.cell? ⟨w.heap.size + 2, 0, none⟩ = some (.int .i64 K.now)) := by show _ = _; rw [hwa]; exact World.cell?_alloc_at _ _ _ _ (by simp)
  have HZa : Hid (w.heap.size + 3 ≤ wa.heap.size) := by show _ ≤ _; rw [hwa]; simp
  go_enter Tryz.func7, Tryz.ntmps7
  go_upto_region 3 with fail
  rw [← hwa]
  clear hwa
  obtain ⟨yz, y0, y1, y2, y3⟩ := HXa.out
  go_wp2_with fail
  refine (toSvs v0 K.svcs wa HH.out.2.1 (HH.out.1.later HBa.out).l0).mono ?_
  rintro e wb ⟨rfl, hb, hi⟩
  obtain ⟨p0, hp⟩ : ∃ p0, p0 = wa.heap.size := ⟨_, rfl⟩
  rw [← hp] at hi ⊢
  have HP0 : Hid (w.heap.size + 3 ≤ p0) := by show _ ≤ _; rw [hp]; exact HZa.out
  have HIb : Hid (SvsIn wb p0 K.svcs) := hi
  have HBb : Hid (Below w.heap.size w wb) := blw_trans HBa.out hb
  have HXb : Hid (Box4 wb w.heap.size (.int .i64 K.now) (v0) (v1) (v2)) := HXa.out.later hb
  have HOb : Hid (OwnBlk wb (w.heap.size + 2) 37 4) := HOa.out.later hb
  have HRb : Hid (OwnBlk wb (w.heap.size + 1) 37 4) := HRa.out.later hb
  have HCb : Hid (wb.cell? ⟨w.heap.size + 2, 0, none⟩ = some (.int .i64 K.now)) := (hb.cell (p := ⟨w.heap.size + 2, 0, none⟩) HOa.out.lt).trans HCa.out
  have HZb : Hid (w.heap.size + 3 ≤ wb.heap.size) := Nat.le_trans HZa.out hb.size
  clear hi hb hp yz y0 y1 y2 y3 HXa HBa HOa HRa HCa HZa
  have hfz := HOb.out.frozen
  have hz := HOb.out.lt
  obtain ⟨z, ez⟩ := HOb.out.cell 1 (by omega)
  obtain ⟨wc, hw⟩ : ∃ wc, wc = wb.setCell ⟨w.heap.size + 2, 1, none⟩ (.slice (some ⟨p0, 0, none⟩) K.svcs.length K.svcs.length) := ⟨_, rfl⟩
  have HBc : Hid (Below w.heap.size w wc) := by show Below _ _ _; rw [hw]; exact HBb.out.setCell (p := ⟨w.heap.size + 2, 1, none⟩) (by show w.heap.size ≤ w.heap.size + 2; omega) _
  have HXc : Hid (Box4 wc w.heap.size (.int .i64 K.now) (v0) (v1) (v2)) := by
    show Box4 _ _ _ _ _ _ 
    rw [hw]
    obtain ⟨yz, y0, y1, y2, y3⟩ := HXb.out
    exact ⟨by rw [sc_size]; exact yz, (sc_ne _ _ _ _ _ _ (by omega)).trans y0, (sc_ne _ _ _ _ _ _ (by omega)).trans y1, (sc_ne _ _ _ _ _ _ (by omega)).trans y2, (sc_ne _ _ _ _ _ _ (by omega)).trans y3⟩
  have HOc : Hid (OwnBlk wc (w.heap.size + 2) 37 4) := by show OwnBlk _ _ _ _; rw [hw]; exact HOb.out.setCell 1 _
  have HRc : Hid (OwnBlk wc (w.heap.size + 1) 37 4) := by show OwnBlk _ _ _ _; rw [hw]; exact HRb.out.sc_other (by omega) _ _
  have HCc : Hid (wc.cell? ⟨w.heap.size + 2, 0, none⟩ = some (.int .i64 K.now) ∧ wc.cell? ⟨w.heap.size + 2, 1, none⟩ = some (.slice (some ⟨p0, 0, none⟩) K.svcs.length K.svcs.length)) := by
    show _ ∧ _
    rw [hw]
    exact ⟨(sc_ne _ _ _ _ _ _ (by omega)).trans HCb.out, sc_eq HOb.out 1 (by omega) _⟩
  have HIc : Hid (SvsIn wc p0 K.svcs) := by
    show SvsIn _ _ _
    rw [hw]
    exact HIb.out.sc (by have := HP0.out; omega) _ _
  have HZc : Hid (w.heap.size + 3 ≤ wc.heap.size) := by show _ ≤ _; rw [hw, sc_size]; exact HZb.out
  go_upto_region 4 with fail
  rw [← hw]
  clear hw hfz hz ez HBb HXb HOb HRb HCb HIb HZb
  obtain ⟨yz, y0, y1, y2, y3⟩ := HXc.out
  go_wp2_with fail
  refine (toCps v1 K.cps wc HH.out.2.2.1 (HH.out.1.later HBc.out).l1).mono ?_
  rintro e wd ⟨rfl, hb, hi⟩
  obtain ⟨p1, hp⟩ : ∃ p1, p1 = wc.heap.size := ⟨_, rfl⟩
  rw [← hp] at hi ⊢
  have HP1 : Hid (w.heap.size + 3 ≤ p1) := by show _ ≤ _; rw [hp]; exact HZc.out
  have HId : Hid (SvsIn wd p0 K.svcs ∧ CpsIn wd p1 K.cps) := ⟨HIc.out.later hb, hi⟩
  have HBd : Hid (Below w.heap.size w wd) := blw_trans HBc.out hb
  have HXd : Hid (Box4 wd w.heap.size (.int .i64 K.now) (v0) (v1) (v2)) := HXc.out.later hb
  have HOd : Hid (OwnBlk wd (w.heap.size + 2) 37 4) := HOc.out.later hb
  have HRd : Hid (OwnBlk wd (w.heap.size + 1) 37 4) := HRc.out.later hb
  have HCd : Hid (wd.cell? ⟨w.heap.size + 2, 0, none⟩ = some (.int .i64 K.now) ∧ wd.cell? ⟨w.heap.size + 2, 1, none⟩ = some (.slice (some ⟨p0, 0, none⟩) K.svcs.length K.svcs.length)) := ⟨(hb.cell (p := ⟨w.heap.size + 2, 0, none⟩) HOc.out.lt).trans HCc.out.1, (hb.cell (p := ⟨w.heap.size + 2, 1, none⟩) HOc.out.lt).trans HCc.out.2⟩
  have HZd : Hid (w.heap.size + 3 ≤ wd.heap.size) := Nat.le_trans HZc.out hb.size
  clear hi hb hp yz y0 y1 y2 y3 HXc HBc HOc HRc HCc HZc HIc
  have hfz := HOd.out.frozen
  have hz := HOd.out.lt
  obtain ⟨z, ez⟩ := HOd.out.cell 2 (by omega)
  obtain ⟨we, hw⟩ : ∃ we, we = wd.setCell ⟨w.heap.size + 2, 2, none⟩ (.slice (some ⟨p1, 0, none⟩) K.cps.length K.cps.length) := ⟨_, rfl⟩
  have HBe : Hid (Below w.heap.size w we) := by show Below _ _ _; rw [hw]; exact HBd.out.setCell (p := ⟨w.heap.size + 2, 2, none⟩) (by show w.heap.size ≤ w.heap.size + 2; omega) _
  have HXe : Hid (Box4 we w.heap.size (.int .i64 K.now) (v0) (v1) (v2)) := by
    show Box4 _ _ _ _ _ _ 
    rw [hw]
    obtain ⟨yz, y0, y1, y2, y3⟩ := HXd.out
    exact ⟨by rw [sc_size]; exact yz, (sc_ne _ _ _ _ _ _ (by omega)).trans y0, (sc_ne _ _ _ _ _ _ (by omega)).trans y1, (sc_ne _ _ _ _ _ _ (by omega)).trans y2, (sc_ne _ _ _ _ _ _ (by omega)).trans y3⟩
  have HOe : Hid (OwnBlk we (w.heap.size + 2) 37 4) := by show OwnBlk _ _ _ _; rw [hw]; exact HOd.out.setCell 2 _
  have HRe : Hid (OwnBlk we (w.heap.size + 1) 37 4) := by show OwnBlk _ _ _ _; rw [hw]; exact HRd.out.sc_other (by omega) _ _
  have HCe : Hid (we.cell? ⟨w.heap.size + 2, 0, none⟩ = some (.int .i64 K.now) ∧ we.cell? ⟨w.heap.size + 2, 1, none⟩ = some (.slice (some ⟨p0, 0, none⟩) K.svcs.length K.svcs.length) ∧ we.cell? ⟨w.heap.size + 2, 2, none⟩ = some (.slice (some ⟨p1, 0, none⟩) K.cps.length K.cps.length)) := by
    show _ ∧ _ ∧ _
    rw [hw]
    exact ⟨(sc_ne _ _ _ _ _ _ (by omega)).trans HCd.out.1, (sc_ne _ _ _ _ _ _ (by omega)).trans HCd.out.2, sc_eq HOd.out 2 (by omega) _⟩
  have HIe : Hid (SvsIn we p0 K.svcs ∧ CpsIn we p1 K.cps) := by
    show _ ∧ _
    rw [hw]
    exact ⟨HId.out.1.sc (by have := HP0.out; omega) _ _, HId.out.2.sc (by have := HP1.out; omega) _ _⟩
  have HZe : Hid (w.heap.size + 3 ≤ we.heap.size) := by show _ ≤ _; rw [hw, sc_size]; exact HZd.out
  go_upto_region 5 with fail
  rw [← hw]
  clear hw hfz hz ez HBd HXd HOd HRd HCd HId HZd
  obtain ⟨yz, y0, y1, y2, y3⟩ := HXe.out
  go_wp2_with fail
  refine (toBts v2 K.bts we HH.out.2.2.2 (HH.out.1.later HBe.out).l2).mono ?_
  rintro e wf ⟨rfl, hb, hi⟩
  obtain ⟨p2, hp⟩ : ∃ p2, p2 = we.heap.size := ⟨_, rfl⟩
  rw [← hp] at hi ⊢
  have HP2 : Hid (w.heap.size + 3 ≤ p2) := by show _ ≤ _; rw [hp]; exact HZe.out
  have HIf : Hid (SvsIn wf p0 K.svcs ∧ CpsIn wf p1 K.cps ∧ BtsIn wf p2 K.bts) := ⟨HIe.out.1.later hb, HIe.out.2.later hb, hi⟩
  have HBf : Hid (Below w.heap.size w wf) := blw_trans HBe.out hb
  have HXf : Hid (Box4 wf w.heap.size (.int .i64 K.now) (v0) (v1) (v2)) := HXe.out.later hb
  have HOf : Hid (OwnBlk wf (w.heap.size + 2) 37 4) := HOe.out.later hb
  have HRf : Hid (OwnBlk wf (w.heap.size + 1) 37 4) := HRe.out.later hb
  have HCf : Hid (wf.cell? ⟨w.heap.size + 2, 0, none⟩ = some (.int .i64 K.now) ∧ wf.cell? ⟨w.heap.size + 2, 1, none⟩ = some (.slice (some ⟨p0, 0, none⟩) K.svcs.length K.svcs.length) ∧ wf.cell? ⟨w.heap.size + 2, 2, none⟩ = some (.slice (some ⟨p1, 0, none⟩) K.cps.length K.cps.length)) := ⟨(hb.cell (p := ⟨w.heap.size + 2, 0, none⟩) HOe.out.lt).trans HCe.out.1, (hb.cell (p := ⟨w.heap.size + 2, 1, none⟩) HOe.out.lt).trans HCe.out.2.1, (hb.cell (p := ⟨w.heap.size + 2, 2, none⟩) HOe.out.lt).trans HCe.out.2.2⟩
  have HZf : Hid (w.heap.size + 3 ≤ wf.heap.size) := Nat.le_trans HZe.out hb.size
  clear hi hb hp yz y0 y1 y2 y3 HXe HBe HOe HRe HCe HZe HIe
  have hfz := HOf.out.frozen
  have hz := HOf.out.lt
  obtain ⟨z, ez⟩ := HOf.out.cell 3 (by omega)
  obtain ⟨wg, hw⟩ : ∃ wg, wg = wf.setCell ⟨w.heap.size + 2, 3, none⟩ (.slice (some ⟨p2, 0, none⟩) K.bts.length K.bts.length) := ⟨_, rfl⟩
  have HBg : Hid (Below w.heap.size w wg) := by show Below _ _ _; rw [hw]; exact HBf.out.setCell (p := ⟨w.heap.size + 2, 3, none⟩) (by show w.heap.size ≤ w.heap.size + 2; omega) _
  have HXg : Hid (Box4 wg w.heap.size (.int .i64 K.now) (v0) (v1) (v2)) := by
    show Box4 _ _ _ _ _ _ 
    rw [hw]
    obtain ⟨yz, y0, y1, y2, y3⟩ := HXf.out
    exact ⟨by rw [sc_size]; exact yz, (sc_ne _ _ _ _ _ _ (by omega)).trans y0, (sc_ne _ _ _ _ _ _ (by omega)).trans y1, (sc_ne _ _ _ _ _ _ (by omega)).trans y2, (sc_ne _ _ _ _ _ _ (by omega)).trans y3⟩
  have HOg : Hid (OwnBlk wg (w.heap.size + 2) 37 4) := by show OwnBlk _ _ _ _; rw [hw]; exact HOf.out.setCell 3 _
  have HRg : Hid (OwnBlk wg (w.heap.size + 1) 37 4) := by show OwnBlk _ _ _ _; rw [hw]; exact HRf.out.sc_other (by omega) _ _
  have HCg : Hid (wg.cell? ⟨w.heap.size + 2, 0, none⟩ = some (.int .i64 K.now) ∧ wg.cell? ⟨w.heap.size + 2, 1, none⟩ = some (.slice (some ⟨p0, 0, none⟩) K.svcs.length K.svcs.length) ∧ wg.cell? ⟨w.heap.size + 2, 2, none⟩ = some (.slice (some ⟨p1, 0, none⟩) K.cps.length K.cps.length) ∧ wg.cell? ⟨w.heap.size + 2, 3, none⟩ = some (.slice (some ⟨p2, 0, none⟩) K.bts.length K.bts.length)) := by
    show _ ∧ _ ∧ _ ∧ _
    rw [hw]
    exact ⟨(sc_ne _ _ _ _ _ _ (by omega)).trans HCf.out.1, (sc_ne _ _ _ _ _ _ (by omega)).trans HCf.out.2.1, (sc_ne _ _ _ _ _ _ (by omega)).trans HCf.out.2.2, sc_eq HOf.out 3 (by omega) _⟩
  have HIg : Hid (SvsIn wg p0 K.svcs ∧ CpsIn wg p1 K.cps ∧ BtsIn wg p2 K.bts) := by
    show _ ∧ _ ∧ _
    rw [hw]
    exact ⟨HIf.out.1.sc (by have := HP0.out; omega) _ _, HIf.out.2.1.sc (by have := HP1.out; omega) _ _, HIf.out.2.2.sc (by have := HP2.out; omega) _ _⟩
  have HZg : Hid (w.heap.size + 3 ≤ wg.heap.size) := by show _ ≤ _; rw [hw, sc_size]; exact HZf.out
  go_upto_region 6 with fail
  rw [← hw]
  clear hw hfz hz ez HBf HXf HOf HRf HCf HIf HZf
  have d0 := HCg.out.1
  have d1 := HCg.out.2.1
  have d2 := HCg.out.2.2.1
  have d3 := HCg.out.2.2.2
  have dz := HOg.out.lt
  have hfz := HRg.out.frozen
  have hz := HRg.out.lt
  obtain ⟨z0, e0⟩ := HRg.out.cell 0 (by omega)
  obtain ⟨z1, e1⟩ := HRg.out.cell 1 (by omega)
  obtain ⟨z2, e2⟩ := HRg.out.cell 2 (by omega)
  obtain ⟨z3, e3⟩ := HRg.out.cell 3 (by omega)
  go_wp2
  have p := fun i hi => puts_at 0 [.int .i64 K.now, .slice (some ⟨p0, 0, none⟩) K.svcs.length K.svcs.length, .slice (some ⟨p1, 0, none⟩) K.cps.length K.cps.length, .slice (some ⟨p2, 0, none⟩) K.bts.length K.bts.length] wg 0 HRg.out (by simp) i hi
  have t0 := p 0 (by simp)
  have t1 := p 1 (by simp)
  have t2 := p 2 (by simp)
  have t3 := p 3 (by simp)
  have HPP : Hid (Below w.heap.size w (puts wg (w.heap.size + 1) 0 0 [.int .i64 K.now, .slice (some ⟨p0, 0, none⟩) K.svcs.length K.svcs.length, .slice (some ⟨p1, 0, none⟩) K.cps.length K.cps.length, .slice (some ⟨p2, 0, none⟩) K.bts.length K.bts.length])) := puts_below (a := w) _ (by omega) _ _ _ HBg.out
  have hsc : ∀ (W : World) (j : Nat) (v : Value), (SvsIn W p0 K.svcs ∧ CpsIn W p1 K.cps ∧ BtsIn W p2 K.bts) → (SvsIn (W.setCell ⟨w.heap.size + 1, j, none⟩ v) p0 K.svcs ∧ CpsIn (W.setCell ⟨w.heap.size + 1, j, none⟩ v) p1 K.cps ∧ BtsIn (W.setCell ⟨w.heap.size + 1, j, none⟩ v) p2 K.bts) := fun W j v hh => ⟨hh.1.sc (by have := HP0.out; omega) _ _, hh.2.1.sc (by have := HP1.out; omega) _ _, hh.2.2.sc (by have := HP2.out; omega) _ _⟩
  simp only [puts, Nat.add_zero, Nat.zero_add, Nat.reduceAdd, List.getElem?_cons_zero, List.getElem?_cons_succ] at t0 t1 t2 t3
  have HQ := hsc _ 3 (.slice (some ⟨p2, 0, none⟩) K.bts.length K.bts.length) (hsc _ 2 (.slice (some ⟨p1, 0, none⟩) K.cps.length K.cps.length) (hsc _ 1 (.slice (some ⟨p0, 0, none⟩) K.svcs.length K.svcs.length) (hsc _ 0 (.int .i64 K.now) HIg.out)))
  refine bodyPost_ret (v := .agg #[.int .i64 K.now, .slice (some ⟨p0, 0, none⟩) K.svcs.length K.svcs.length, .slice (some ⟨p1, 0, none⟩) K.cps.length K.cps.length, .slice (some ⟨p2, 0, none⟩) K.bts.length K.bts.length]) (by simp [results, Tryz.results7, go_sem, t0, t1, t2, t3]) rfl ⟨⟨p0, p1, p2, rfl, ⟨HQ.1, HQ.2.1, HQ.2.2⟩, by have := HP0.out; omega, by have := HP1.out; omega, by have := HP2.out; omega⟩, ?_⟩
  exact HPP.out

set_option maxHeartbeats 4000000 in
theorem eqSB (K : SBk) (b0 b1 b2 q0 q1 q2 : Nat) (w : World) (h : SBkIn w b0 b1 b2 K) (h' : SBkIn w q0 q1 q2 K) :
    Calls Tryz.prog 10 #[.agg #[.int .i64 K.now, .slice (some ⟨b0, 0, none⟩) K.svcs.length K.svcs.length, .slice (some ⟨b1, 0, none⟩) K.cps.length K.cps.length, .slice (some ⟨b2, 0, none⟩) K.bts.length K.bts.length], .agg #[.int .i64 K.now, .slice (some ⟨q0, 0, none⟩) K.svcs.length K.svcs.length, .slice (some ⟨q1, 0, none⟩) K.cps.length K.cps.length, .slice (some ⟨q2, 0, none⟩) K.bts.length K.bts.length]] w fun e w' => e = .returned (.bool true) ∧ Below w.heap.size w w' := by
  have HH : Hid (SBkIn w b0 b1 b2 K ∧ SBkIn w q0 q1 q2 K) := ⟨h, h'⟩
  clear h h'
  obtain ⟨wa, hwa⟩ : ∃ wa, wa = (w.alloc (.cells #[.int .i64 K.now, .slice (some ⟨b0, 0, none⟩) K.svcs.length K.svcs.length, .slice (some ⟨b1, 0, none⟩) K.cps.length K.cps.length, .slice (some ⟨b2, 0, none⟩) K.bts.length K.bts.length] 37)).alloc (.cells #[.int .i64 K.now, .slice (some ⟨q0, 0, none⟩) K.svcs.length K.svcs.length, .slice (some ⟨q1, 0, none⟩) K.cps.length K.cps.length, .slice (some ⟨q2, 0, none⟩) K.bts.length K.bts.length] 37) := ⟨_, rfl⟩
  have HBa : Hid (Below w.heap.size w wa) := by show Below _ _ _; rw [hwa]; exact blw_alloc (blw_alloc (Below.refl _ _) _) _
  have HXa : Hid (Box4 wa w.heap.size (.int .i64 K.now) (.slice (some ⟨b0, 0, none⟩) K.svcs.length K.svcs.length) (.slice (some ⟨b1, 0, none⟩) K.cps.length K.cps.length) (.slice (some ⟨b2, 0, none⟩) K.bts.length K.bts.length) ∧ Box4 wa (w.heap.size + 1) (.int .i64 K.now) (.slice (some ⟨q0, 0, none⟩) K.svcs.length K.svcs.length) (.slice (some ⟨q1, 0, none⟩) K.cps.length K.cps.length) (.slice (some ⟨q2, 0, none⟩) K.bts.length K.bts.length)) := by show _ ∧ _; rw [hwa]; exact ⟨(Box4.new' w _ _ _ _ _ _ rfl).past _, Box4.new' _ _ _ _ _ _ _ (by simp)⟩
  go_enter Tryz.func10, Tryz.ntmps10
  go_upto_region 1 with fail
  rw [← hwa]
  clear hwa
  obtain ⟨yz, y0, y1, y2, y3⟩ := HXa.out.1
  obtain ⟨xz, x0, x1, x2, x3⟩ := HXa.out.2
  go_wp2_with fail
  refine (eqSvs b0 q0 K.svcs wa (HH.out.1.later HBa.out).l0 (HH.out.2.later HBa.out).l0).mono ?_
  rintro e wb ⟨rfl, hb⟩
  have HBb : Hid (Below w.heap.size w wb) := blw_trans HBa.out hb
  have HXb : Hid (Box4 wb w.heap.size (.int .i64 K.now) (.slice (some ⟨b0, 0, none⟩) K.svcs.length K.svcs.length) (.slice (some ⟨b1, 0, none⟩) K.cps.length K.cps.length) (.slice (some ⟨b2, 0, none⟩) K.bts.length K.bts.length) ∧ Box4 wb (w.heap.size + 1) (.int .i64 K.now) (.slice (some ⟨q0, 0, none⟩) K.svcs.length K.svcs.length) (.slice (some ⟨q1, 0, none⟩) K.cps.length K.cps.length) (.slice (some ⟨q2, 0, none⟩) K.bts.length K.bts.length)) := ⟨HXa.out.1.later hb, HXa.out.2.later hb⟩
  clear hb yz y0 y1 y2 y3 xz x0 x1 x2 x3 HXa HBa
  obtain ⟨yz, y0, y1, y2, y3⟩ := HXb.out.1
  obtain ⟨xz, x0, x1, x2, x3⟩ := HXb.out.2
  go_wp2_with fail
  refine (eqCps b1 q1 K.cps wb (HH.out.1.later HBb.out).l1 (HH.out.2.later HBb.out).l1).mono ?_
  rintro e wc ⟨rfl, hb⟩
  have HBc : Hid (Below w.heap.size w wc) := blw_trans HBb.out hb
  have HXc : Hid (Box4 wc w.heap.size (.int .i64 K.now) (.slice (some ⟨b0, 0, none⟩) K.svcs.length K.svcs.length) (.slice (some ⟨b1, 0, none⟩) K.cps.length K.cps.length) (.slice (some ⟨b2, 0, none⟩) K.bts.length K.bts.length) ∧ Box4 wc (w.heap.size + 1) (.int .i64 K.now) (.slice (some ⟨q0, 0, none⟩) K.svcs.length K.svcs.length) (.slice (some ⟨q1, 0, none⟩) K.cps.length K.cps.length) (.slice (some ⟨q2, 0, none⟩) K.bts.length K.bts.length)) := ⟨HXb.out.1.later hb, HXb.out.2.later hb⟩
  clear hb yz y0 y1 y2 y3 xz x0 x1 x2 x3 HXb HBb
  obtain ⟨yz, y0, y1, y2, y3⟩ := HXc.out.1
  obtain ⟨xz, x0, x1, x2, x3⟩ := HXc.out.2
  go_wp2_with fail
  refine (eqBts b2 q2 K.bts wc (HH.out.1.later HBc.out).l2 (HH.out.2.later HBc.out).l2).mono ?_
  rintro e wd ⟨rfl, hb⟩
  have HBd : Hid (Below w.heap.size w wd) := blw_trans HBc.out hb
  have HXd : Hid (Box4 wd w.heap.size (.int .i64 K.now) (.slice (some ⟨b0, 0, none⟩) K.svcs.length K.svcs.length) (.slice (some ⟨b1, 0, none⟩) K.cps.length K.cps.length) (.slice (some ⟨b2, 0, none⟩) K.bts.length K.bts.length) ∧ Box4 wd (w.heap.size + 1) (.int .i64 K.now) (.slice (some ⟨q0, 0, none⟩) K.svcs.length K.svcs.length) (.slice (some ⟨q1, 0, none⟩) K.cps.length K.cps.length) (.slice (some ⟨q2, 0, none⟩) K.bts.length K.bts.length)) := ⟨HXc.out.1.later hb, HXc.out.2.later hb⟩
  clear hb yz y0 y1 y2 y3 xz x0 x1 x2 x3 HXc HBc
  go_wp2
  go_ret
  exact ⟨rfl, HBd.out⟩

end Go.Proofs.YtclagbakddkjcaaGreat
