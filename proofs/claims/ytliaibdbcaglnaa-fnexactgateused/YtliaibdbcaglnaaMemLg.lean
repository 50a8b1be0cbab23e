/-
  Ledgers: as they lie in memory; sizes, copies, equality.
-/
import Derived.Test.YtliaibdbcaglnaaWalkTB
import Derived.Test.YtliaibdbcaglnaaMemL
namespace Go.Proofs.Ytliaibdbcaglnaa
open Go.RowKit Go.Deep

structure Lg where
  team : ByteArray
  res : ByteArray
  most : Int
  free : Int

def Lg.none : Lg := ⟨ByteArray.empty, ByteArray.empty, 0, 0⟩

def Lg.sized (m : Lg) : Prop := m.team.size ≤ maxLen ∧ m.res.size ≤ maxLen

structure LgIs (w : World) (b o : Nat) (m : Lg) : Prop where
  c0 : w.cell? ⟨b, o, none⟩ = some (.string m.team)
  c1 : w.cell? ⟨b, o + 1, none⟩ = some (.string m.res)
  c2 : w.cell? ⟨b, o + 2, none⟩ = some (.int .i64 m.most)
  c3 : w.cell? ⟨b, o + 3, none⟩ = some (.int .i64 m.free)
  sized : m.sized

theorem LgIs.later {w w' : World} {b o : Nat} {m : Lg} (h : LgIs w b o m) (hb : Below w.heap.size w w') (hlt : b < w.heap.size) : LgIs w' b o m := by
  have c : ∀ j, w'.cell? ⟨b, j, none⟩ = w.cell? ⟨b, j, none⟩ := fun j => hb.cell (p := ⟨b, j, none⟩) hlt
  exact ⟨(c _).trans h.c0, (c _).trans h.c1, (c _).trans h.c2, (c _).trans h.c3, h.sized⟩

def LgsAt (w : World) (v : Value) (ms : List Lg) : Prop :=
  (∃ a cap, v = .slice a 0 cap ∧ ms = []) ∨ ∃ b off cap, v = .slice (some ⟨b, off, none⟩) ms.length cap ∧ b < w.heap.size ∧ ms.length ≤ maxLen ∧ ∀ i, i < ms.length → LgIs w b (off + i * 4) (ms.getD i Lg.none)

theorem LgsAt.later {w w' : World} {v : Value} {ms : List Lg} (h : LgsAt w v ms) (hb : Below w.heap.size w w') : LgsAt w' v ms := by
  rcases h with h | ⟨b, off, cap, rfl, h1, h2, h3⟩
  · exact Or.inl h
  · exact Or.inr ⟨b, off, cap, rfl, Nat.lt_of_lt_of_le h1 hb.size, h2, fun i hi => (h3 i hi).later hb h1⟩

structure LgsIn (w : World) (B : Nat) (ms : List Lg) : Prop where
  lt : B < w.heap.size
  len : ms.length ≤ 1048576
  at_ : ∀ i, i < ms.length → LgIs w B (i * 4) (ms.getD i Lg.none)
  own : OwnBlk w B 135 (ms.length * 4)

theorem LgsIn.later {w w' : World} {B : Nat} {ms : List Lg} (h : LgsIn w B ms) (hb : Below w.heap.size w w') : LgsIn w' B ms :=
  ⟨Nat.lt_of_lt_of_le h.lt hb.size, h.len, fun i hi => (h.at_ i hi).later hb h.lt, h.own.later hb⟩

theorem LgsIn.sc {w : World} {B p : Nat} {ms : List Lg} (h : LgsIn w B ms) (hp : p < B) (j : Nat) (v : Value) : LgsIn (w.setCell ⟨p, j, none⟩ v) B ms := by
  have c : ∀ q, (w.setCell ⟨p, j, none⟩ v).cell? ⟨B, q, none⟩ = w.cell? ⟨B, q, none⟩ := fun q => sc_ne _ _ _ _ _ _ (by omega)
  exact ⟨by rw [sc_size]; exact h.lt, h.len, fun i hi => by have h := h.at_ i hi; exact ⟨(c _).trans h.c0, (c _).trans h.c1, (c _).trans h.c2, (c _).trans h.c3, h.sized⟩, h.own.sc_other (by omega) _ _⟩

theorem LgIs.puts {w : World} {B o : Nat} {m : Lg} (h : LgIs w B o m) (o' : Nat) (vs : List Value) (ho : o + 4 ≤ o') : LgIs (puts w B o' 0 vs) B o m := by
  have c : ∀ j, j < o' → (Ytliaibdbcaglnaa.puts w B o' 0 vs).cell? ⟨B, j, none⟩ = w.cell? ⟨B, j, none⟩ := fun j hj => puts_other B o' B j vs w 0 (by omega)
  exact ⟨(c _ (by omega)).trans h.c0, (c _ (by omega)).trans h.c1, (c _ (by omega)).trans h.c2, (c _ (by omega)).trans h.c3, h.sized⟩

theorem own_put_lg {w : World} {B : Nat} {t : TypeId} {n : Nat} (hO : OwnBlk w B t n) (o : Nat) (ho : o + 4 ≤ n) (m : Lg) (hs : m.sized) :
    LgIs (puts w B o 0 [.string m.team, .string m.res, .int .i64 m.most, .int .i64 m.free]) B o m := by
  have c := fun i hi => puts_at o [.string m.team, .string m.res, .int .i64 m.most, .int .i64 m.free] w 0 hO (by simp; omega) i hi
  exact ⟨c 0 (by simp), c 1 (by simp), c 2 (by simp), c 3 (by simp), hs⟩

theorem Try.info135 : (Try.prog.info? 135).map (fun i => (i.zero, i.size, i.bytes)) = some (some (.agg #[.string ByteArray.empty, .string ByteArray.empty, .int .i64 0, .int .i64 0]), 4, 48) := by kernel_rfl

theorem make_lg (n : Nat) (h : n ≤ 1048576) : ∃ cs : Array Value, cs.size = n * 4 ∧ ∀ W : World,
    (Instr.makeSlice 54 (.int .i64 (n : Int)) (.int .i64 (n : Int))).run Try.prog W = .ok (.slice (some ⟨W.heap.size, 0, none⟩) n n) (W.alloc (.cells cs 135)) := by
  obtain ⟨i, hi, hzz⟩ := Option.map_eq_some_iff.1 Try.info135
  simp only [Prod.mk.injEq] at hzz
  obtain ⟨hz, hs, hb⟩ := hzz
  refine ⟨madeCells (Value.agg #[.string ByteArray.empty, .string ByteArray.empty, .int .i64 0, .int .i64 0]).cells (n * 4), size_madeCells _ _, fun W => ?_⟩
  have hr := run_make (P := Try.prog) W 54 135 i _ Try.underlying54 hi hz .i64 .i64 n n (by omega) (Int.le_refl _) (by rw [hb]; omega) (by omega)
  simp only [Int.toNat_natCast, hs] at hr
  exact hr

set_option maxHeartbeats 1000000 in
theorem toLg (m : Lg) (w : World) :
    Calls Try.prog 64 #[.agg #[.string m.team, .string m.res, .int .i64 m.most, .int .i64 m.free]] w fun e w' => e = .returned (.agg #[.string m.team, .string m.res, .int .i64 m.most, .int .i64 m.free]) ∧ Below w.heap.size w w' := by
  go_enter Try.func64, Try.ntmps64
  go_wp2
  refine bodyPost_ret (v := .agg #[.string m.team, .string m.res, .int .i64 m.most, .int .i64 m.free]) (by simp [results, Try.results64, go_sem]) rfl ⟨rfl, ?_⟩
  repeat (first | exact Below.refl _ _ | refine blw_alloc ?_ _ | refine Below.setCell ?_ (by simp) _)

set_option maxHeartbeats 1000000 in
theorem toLgs_row (b off cap : Nat) (ms : List Lg) (w : World) (hl : ms.length ≤ 1048576) (hb : b < w.heap.size)
    (hc : ∀ i, i < ms.length → LgIs w b (off + i * 4) (ms.getD i Lg.none)) :
    Calls Try.prog 41 #[.slice (some ⟨b, off, none⟩) ms.length cap] w fun e w' => e = .returned (.slice (some ⟨w.heap.size, 0, none⟩) ms.length ms.length) ∧ Below w.heap.size w w' ∧ OwnBlk w' w.heap.size 135 (ms.length * 4) ∧
      ∀ i, i < ms.length → LgIs w' w.heap.size (i * 4) (ms.getD i Lg.none) := by
  obtain ⟨cs, hcs, hmk⟩ := make_lg ms.length hl
  go_enter Try.func41, Try.ntmps41
  go_wp2
  go_loopw [4] (fun i wr => ∃ k : Nat, k ≤ ms.length ∧ i = .int .i64 k ∧ Below w.heap.size w wr ∧ OwnBlk wr w.heap.size 135 (ms.length * 4) ∧ ∀ i, i < k → LgIs wr w.heap.size (i * 4) (ms.getD i Lg.none)) (fun i _ => ms.length - (intOf i).toNat)
  case atStart => exact ⟨0, Nat.zero_le _, rfl, blw_alloc (Below.refl _ _) _, OwnBlk.alloc w cs 135 _ hcs, fun i hi => absurd hi (Nat.not_lt_zero i)⟩
  case round =>
    obtain ⟨k, hk, rfl, hB, hO, hall⟩ := hrel
    have HA : Hid (∀ i, i < k → LgIs wr w.heap.size (i * 4) (ms.getD i Lg.none)) := hall
    have HO : Hid (OwnBlk wr w.heap.size 135 (ms.length * 4)) := hO
    clear hall hmk hcs hO
    by_cases hlt : k < ms.length
    · have hf := (hc k hlt).later hB hb
      obtain ⟨m, hm⟩ : ∃ m, m = ms.getD k Lg.none := ⟨_, rfl⟩
      rw [← hm] at hf
      have HX : Hid (m.sized ∧ m = ms.getD k Lg.none) := ⟨hf.sized, hm⟩
      obtain ⟨c0, c1, c2, c3, _⟩ := hf
      clear hm hc
      go_wp2_with fail
      refine (toLg m wr).mono ?_
      rintro e w2 ⟨rfl, hb2⟩
      have hB2 := blw_trans hB hb2
      have hO2 := HO.out.later hb2
      have HP : Hid (∀ v, v = [.string m.team, .string m.res, .int .i64 m.most, .int .i64 m.free] →
          Below w.heap.size w (puts w2 w.heap.size (k * 4) 0 v) ∧ OwnBlk (puts w2 w.heap.size (k * 4) 0 v) w.heap.size 135 (ms.length * 4) ∧ ∀ i, i < k + 1 → LgIs (puts w2 w.heap.size (k * 4) 0 v) w.heap.size (i * 4) (ms.getD i Lg.none)) := by
        intro v hv
        subst hv
        refine ⟨puts_below (a := w) _ (Nat.le_refl _) _ _ _ hB2, puts_own _ _ _ _ hO2, fun i hi => ?_⟩
        by_cases hik : i < k
        · exact ((HA.out i hik).later hb2 HO.out.lt).puts (k * 4) _ (by omega)
        · obtain rfl : i = k := by omega
          rw [← HX.out.2]
          exact own_put_lg hO2 (i * 4) (by omega) m HX.out.1
      clear c0 c1 c2 c3 HX
      have hfz := hO2.frozen
      obtain ⟨v0, o0⟩ := hO2.cell (k * 4) (by omega)
      obtain ⟨v1, o1⟩ := hO2.cell (k * 4 + 1) (by omega)
      obtain ⟨v2, o2⟩ := hO2.cell (k * 4 + 2) (by omega)
      obtain ⟨v3, o3⟩ := hO2.cell (k * 4 + 3) (by omega)
      clear hO2 hB2 hb2
      go_wp2
      go_roundw
      case rel => exact ⟨k + 1, by omega, by go_num, (HP.out _ rfl).1, (HP.out _ rfl).2.1, (HP.out _ rfl).2.2⟩
      case measure => simp [intOf]; omega
    · obtain rfl : k = ms.length := by omega
      go_wp2
      go_ret
      exact ⟨rfl, hB, HO.out, HA.out⟩

set_option maxHeartbeats 400000 in
theorem toLgs_nil (a : Option Addr) (cap : Nat) (w : World) :
    Calls Try.prog 41 #[.slice a 0 cap] w fun e w' => e = .returned (.slice (some ⟨w.heap.size, 0, none⟩) 0 0) ∧ ∃ cs : Array Value, cs.size = 0 ∧ w' = w.alloc (.cells cs 135) := by
  obtain ⟨cs, hcs0, hmk0⟩ := make_lg 0 (by omega)
  have hmk : ∀ W : World, (Instr.makeSlice 54 (.int .i64 0) (.int .i64 0)).run Try.prog W = .ok (.slice (some ⟨W.heap.size, 0, none⟩) 0 0) (W.alloc (.cells cs 135)) := hmk0
  clear hmk0
  go_enter Try.func41, Try.ntmps41
  go_wp2
  refine wp_loop_rounds 1 ?_
  rw [rounds_succ]
  go_wp2
  go_ret
  exact ⟨rfl, _, by omega, rfl⟩

theorem toLgs (v : Value) (ms : List Lg) (w : World) (hl : ms.length ≤ 1048576) (h : LgsAt w v ms) :
    Calls Try.prog 41 #[v] w fun e w' => e = .returned (.slice (some ⟨w.heap.size, 0, none⟩) ms.length ms.length) ∧ Below w.heap.size w w' ∧ LgsIn w' w.heap.size ms := by
  rcases h with ⟨a, cap, rfl, rfl⟩ | ⟨b, off, cap, rfl, hb, _, hc⟩
  · refine (toLgs_nil a cap w).mono ?_
    rintro e w' ⟨rfl, cs, hcs, rfl⟩
    exact ⟨rfl, blw_alloc (Below.refl _ _) _, ⟨by simp, by simp, fun i hi => absurd hi (Nat.not_lt_zero i), OwnBlk.alloc w cs _ _ (by simpa using hcs)⟩⟩
  · refine (toLgs_row b off cap ms w hl hb hc).mono ?_
    rintro e w' ⟨rfl, h1, h2, h3⟩
    exact ⟨rfl, h1, h2.lt, hl, h3, h2⟩

set_option maxHeartbeats 1000000 in
theorem eqLg (m : Lg) (w : World) :
    Calls Try.prog 68 #[.agg #[.string m.team, .string m.res, .int .i64 m.most, .int .i64 m.free], .agg #[.string m.team, .string m.res, .int .i64 m.most, .int .i64 m.free]] w fun e w' => e = .returned (.bool true) ∧ Below w.heap.size w w' := by
  go_enter Try.func68, Try.ntmps68
  go_wp2
  go_ret
  exact ⟨rfl, blw_alloc (blw_alloc (Below.refl _ _) _) _⟩

set_option maxHeartbeats 2000000 in
theorem eqLgs (B B' : Nat) (ms : List Lg) (w : World) (h : LgsIn w B ms) (h' : LgsIn w B' ms) :
    Calls Try.prog 46 #[.slice (some ⟨B, 0, none⟩) ms.length ms.length, .slice (some ⟨B', 0, none⟩) ms.length ms.length] w fun e w' => e = .returned (.bool true) ∧ Below w.heap.size w w' := by
  have hl := h.len
  have HH : Hid (LgsIn w B ms ∧ LgsIn w B' ms) := ⟨h, h'⟩
  clear h h'
  go_enter Try.func46, Try.ntmps46
  go_wp2
  go_loopw [5] (fun i wr => ∃ k : Nat, k ≤ ms.length ∧ i = .int .i64 k ∧ Below w.heap.size w wr) (fun i _ => ms.length - (intOf i).toNat)
  case atStart => exact ⟨0, Nat.zero_le _, rfl, Below.refl _ _⟩
  case round =>
    obtain ⟨k, hk, rfl, hW⟩ := hrel
    by_cases hlt : k < ms.length
    · have q := (HH.out.1.later hW).at_ k hlt
      have q' := (HH.out.2.later hW).at_ k hlt
      obtain ⟨m, hm⟩ : ∃ m, m = ms.getD k Lg.none := ⟨_, rfl⟩
      rw [← hm] at q q'
      obtain ⟨c0, c1, c2, c3, _⟩ := q
      obtain ⟨d0, d1, d2, d3, _⟩ := q'
      have HX : Hid (∀ W, Below wr.heap.size wr W → Calls Try.prog 68 #[.agg #[.string m.team, .string m.res, .int .i64 m.most, .int .i64 m.free], .agg #[.string m.team, .string m.res, .int .i64 m.most, .int .i64 m.free]] W fun e w' => e = .returned (.bool true) ∧ Below W.heap.size W w') := fun W _ => eqLg m W
      clear hm
      go_wp2_with fail
      go_region_with (go_at_call 68; refine (HX.out _ ?_).mono ?_; (repeat (first | exact Below.refl _ _ | refine Below.drew ?_)); rintro e w2 ⟨rfl, hb2⟩)
      all_goals
        go_wp2
        go_roundw
        case rel =>
          refine ⟨k + 1, by omega, by go_num, ?_⟩
          repeat (first | exact blw_trans hW hb2 | exact blw_trans hW.drew hb2 | exact blw_trans hW.drew.drew hb2 | refine Below.drew ?_)
        case measure => simp [intOf]; omega
    · go_wp2
      go_ret
      exact ⟨rfl, hW⟩

set_option maxHeartbeats 1000000 in
theorem szLg (m : Lg) (left : Int) (w : World) (h0 : 0 ≤ left) (h1 : left ≤ 1048576) (hs : m.sized) :
    Calls Try.prog 60 #[.agg #[.string m.team, .string m.res, .int .i64 m.most, .int .i64 m.free], .int .i64 left] w fun e w' => (∃ r : Int, e = .returned (.int .i64 r) ∧ -1 ≤ r ∧ r ≤ left) ∧ Below w.heap.size w w' := by
  obtain ⟨s0, s1⟩ := hs
  unfold maxLen at s0 s1
  by_cases c0 : left < (m.team.size : Int)
  · go_enter Try.func60, Try.ntmps60
    go_wp2
    go_ret
    exact ⟨⟨_, rfl, by omega, by omega⟩, blw_alloc (Below.refl _ _) _⟩
  by_cases c1 : left - m.team.size < (m.res.size : Int)
  all_goals
    go_enter Try.func60, Try.ntmps60
    go_wp2
    go_ret
    exact ⟨⟨_, rfl, by omega, by omega⟩, blw_alloc (Below.refl _ _) _⟩

set_option maxHeartbeats 1000000 in
theorem szLgs_row (b off cap : Nat) (ms : List Lg) (left : Int) (w : World) (h0 : 0 ≤ left) (h1 : left ≤ 1048576) (hb : b < w.heap.size) (hl : ms.length ≤ maxLen)
    (hc : ∀ i, i < ms.length → LgIs w b (off + i * 4) (ms.getD i Lg.none)) :
    Calls Try.prog 36 #[.slice (some ⟨b, off, none⟩) ms.length cap, .int .i64 left] w fun e w' => (∃ r : Int, e = .returned (.int .i64 r) ∧ szP ((ms.length : Int) ≤ left) left r) ∧ Below w.heap.size w w' := by
  unfold maxLen at hl
  by_cases hneg : left < (ms.length : Int)
  · go_enter Try.func36, Try.ntmps36
    go_wp2
    go_ret
    exact ⟨⟨_, rfl, by unfold szP; refine ⟨by omega, by omega, by omega⟩⟩, Below.refl _ _⟩
  · go_enter Try.func36, Try.ntmps36
    go_wp2
    go_loopw [1, 5] (fun l i wr => ∃ (k : Nat) (r : Int), k ≤ ms.length ∧ i = .int .i64 k ∧ l = .int .i64 r ∧ 0 ≤ r ∧ r ≤ left ∧ Below w.heap.size w wr) (fun _ i _ => ms.length - (intOf i).toNat)
    case atStart => exact ⟨0, _, Nat.zero_le _, rfl, rfl, by omega, by omega, Below.refl _ _⟩
    case round =>
      obtain ⟨k, r, hk, rfl, rfl, r0, r1, hB⟩ := hrel
      by_cases hlt : k < ms.length
      · have hf := (hc k hlt).later hB hb
        obtain ⟨m, hm⟩ : ∃ m, m = ms.getD k Lg.none := ⟨_, rfl⟩
        rw [← hm] at hf
        have HX : Hid (Calls Try.prog 60 #[.agg #[.string m.team, .string m.res, .int .i64 m.most, .int .i64 m.free], .int .i64 r] wr fun e w' => (∃ r' : Int, e = .returned (.int .i64 r') ∧ -1 ≤ r' ∧ r' ≤ r) ∧ Below wr.heap.size wr w') :=
          szLg m r wr r0 (by omega) hf.sized
        obtain ⟨c0, c1, c2, c3, _⟩ := hf
        clear hm hc
        go_wp2_with fail
        refine HX.out.mono ?_
        rintro e w2 ⟨⟨r', rfl, q1, q2⟩, hb2⟩
        have hB2 := blw_trans hB hb2
        clear hb2 c0 c1 c2 c3 HX
        by_cases c2 : r' < 0
        · go_wp2
          go_ret
          exact ⟨⟨_, rfl, by unfold szP; refine ⟨by omega, by omega, by omega⟩⟩, hB2⟩
        · go_wp2
          go_roundw
          case rel => exact ⟨k + 1, _, by omega, by go_num, rfl, by omega, by omega, hB2⟩
          case measure => simp [intOf]; omega
      · go_wp2
        go_ret
        exact ⟨⟨_, rfl, by unfold szP; exact ⟨by omega, by omega, fun _ => by omega⟩⟩, hB⟩

set_option maxHeartbeats 400000 in
theorem szLgs_nil (a : Option Addr) (cap : Nat) (left : Int) (w : World) (h0 : 0 ≤ left) (h1 : left ≤ 1048576) :
    Calls Try.prog 36 #[.slice a 0 cap, .int .i64 left] w fun e w' => e = .returned (.int .i64 left) ∧ w = w' := by
  go_enter Try.func36, Try.ntmps36
  go_wp2
  refine wp_loop_rounds 1 ?_
  rw [rounds_succ]
  go_wp2
  go_ret
  exact ⟨Pl.ret_int (by omega), rfl⟩

theorem szLgs (v : Value) (ms : List Lg) (left : Int) (w : World) (h0 : 0 ≤ left) (h1 : left ≤ 1048576) (h : LgsAt w v ms) :
    Calls Try.prog 36 #[v, .int .i64 left] w fun e w' => (∃ r : Int, e = .returned (.int .i64 r) ∧ szP ((ms.length : Int) ≤ left) left r) ∧ Below w.heap.size w w' := by
  rcases h with ⟨a, cap, rfl, rfl⟩ | ⟨b, off, cap, rfl, hb, hl, hc⟩
  · refine (szLgs_nil a cap left w h0 h1).mono ?_
    rintro e w' ⟨rfl, rfl⟩
    exact ⟨⟨_, rfl, by unfold szP; exact ⟨by omega, by omega, fun _ => by simpa using h0⟩⟩, Below.refl _ _⟩
  · exact szLgs_row b off cap ms left w h0 h1 hb hl hc




end Go.Proofs.Ytliaibdbcaglnaa
