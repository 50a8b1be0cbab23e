/-
  A slip in memory: its size (over opaque cells of its ask).
-/
import Derived.Test.YtkjkklcflpchlaaGreatMemL
import Derived.Test.YtkjkklcflpchlaaGreatMemAT
namespace Go.Proofs.YtkjkklcflpchlaaGreat
open Go.RowKit Go.Deep

structure Wn where
  kind : ByteArray
  name : ByteArray
  version : Int

def Wn.none : Wn := ⟨ByteArray.empty, ByteArray.empty, 0⟩

def Wn.sized (m : Wn) : Prop := m.kind.size ≤ maxLen ∧ m.name.size ≤ maxLen

structure WnIs (w : World) (b o : Nat) (m : Wn) : Prop where
  c0 : w.cell? ⟨b, o, none⟩ = some (.string m.kind)
  c1 : w.cell? ⟨b, o + 1, none⟩ = some (.string m.name)
  c2 : w.cell? ⟨b, o + 2, none⟩ = some (.int .i64 m.version)
  sized : m.sized

theorem WnIs.later {w w' : World} {b o : Nat} {m : Wn} (h : WnIs w b o m) (hb : Below w.heap.size w w') (hlt : b < w.heap.size) : WnIs w' b o m := by
  have c : ∀ j, w'.cell? ⟨b, j, none⟩ = w.cell? ⟨b, j, none⟩ := fun j => hb.cell (p := ⟨b, j, none⟩) hlt
  exact ⟨(c _).trans h.c0, (c _).trans h.c1, (c _).trans h.c2, h.sized⟩

def WnsAt (w : World) (v : Value) (ms : List Wn) : Prop :=
  (∃ a cap, v = .slice a 0 cap ∧ ms = []) ∨ ∃ b off cap, v = .slice (some ⟨b, off, none⟩) ms.length cap ∧ b < w.heap.size ∧ ms.length ≤ maxLen ∧ ∀ i, i < ms.length → WnIs w b (off + i * 3) (ms.getD i Wn.none)

theorem WnsAt.later {w w' : World} {v : Value} {ms : List Wn} (h : WnsAt w v ms) (hb : Below w.heap.size w w') : WnsAt w' v ms := by
  rcases h with h | ⟨b, off, cap, rfl, h1, h2, h3⟩
  · exact Or.inl h
  · exact Or.inr ⟨b, off, cap, rfl, Nat.lt_of_lt_of_le h1 hb.size, h2, fun i hi => (h3 i hi).later hb h1⟩

structure WnsIn (w : World) (B : Nat) (ms : List Wn) : Prop where
  lt : B < w.heap.size
  len : ms.length ≤ 1048576
  at_ : ∀ i, i < ms.length → WnIs w B (i * 3) (ms.getD i Wn.none)
  own : OwnBlk w B 124 (ms.length * 3)

theorem WnsIn.later {w w' : World} {B : Nat} {ms : List Wn} (h : WnsIn w B ms) (hb : Below w.heap.size w w') : WnsIn w' B ms :=
  ⟨Nat.lt_of_lt_of_le h.lt hb.size, h.len, fun i hi => (h.at_ i hi).later hb h.lt, h.own.later hb⟩

theorem WnsIn.sc {w : World} {B p : Nat} {ms : List Wn} (h : WnsIn w B ms) (hp : p < B) (j : Nat) (v : Value) : WnsIn (w.setCell ⟨p, j, none⟩ v) B ms := by
  have c : ∀ q, (w.setCell ⟨p, j, none⟩ v).cell? ⟨B, q, none⟩ = w.cell? ⟨B, q, none⟩ := fun q => sc_ne _ _ _ _ _ _ (by omega)
  exact ⟨by rw [sc_size]; exact h.lt, h.len, fun i hi => by have h := h.at_ i hi; exact ⟨(c _).trans h.c0, (c _).trans h.c1, (c _).trans h.c2, h.sized⟩, h.own.sc_other (by omega) _ _⟩

theorem WnIs.puts {w : World} {B o : Nat} {m : Wn} (h : WnIs w B o m) (o' : Nat) (vs : List Value) (ho : o + 3 ≤ o') : WnIs (puts w B o' 0 vs) B o m := by
  have c : ∀ j, j < o' → (YtkjkklcflpchlaaGreat.puts w B o' 0 vs).cell? ⟨B, j, none⟩ = w.cell? ⟨B, j, none⟩ := fun j hj => puts_other B o' B j vs w 0 (by omega)
  exact ⟨(c _ (by omega)).trans h.c0, (c _ (by omega)).trans h.c1, (c _ (by omega)).trans h.c2, h.sized⟩

theorem own_put_wn {w : World} {B : Nat} {t : TypeId} {n : Nat} (hO : OwnBlk w B t n) (o : Nat) (ho : o + 3 ≤ n) (m : Wn) (hs : m.sized) :
    WnIs (puts w B o 0 [.string m.kind, .string m.name, .int .i64 m.version]) B o m := by
  have c := fun i hi => puts_at o [.string m.kind, .string m.name, .int .i64 m.version] w 0 hO (by simp; omega) i hi
  exact ⟨c 0 (by simp), c 1 (by simp), c 2 (by simp), hs⟩

theorem Tryz.info124 : (Tryz.prog.info? 124).map (fun i => (i.zero, i.size, i.bytes)) = some (some (.agg #[.string ByteArray.empty, .string ByteArray.empty, .int .i64 0]), 3, 40) := by kernel_rfl

theorem make_wn (n : Nat) (h : n ≤ 1048576) : ∃ cs : Array Value, cs.size = n * 3 ∧ ∀ W : World,
    (Instr.makeSlice 54 (.int .i64 (n : Int)) (.int .i64 (n : Int))).run Tryz.prog W = .ok (.slice (some ⟨W.heap.size, 0, none⟩) n n) (W.alloc (.cells cs 124)) := by
  obtain ⟨i, hi, hzz⟩ := Option.map_eq_some_iff.1 Tryz.info124
  simp only [Prod.mk.injEq] at hzz
  obtain ⟨hz, hs, hb⟩ := hzz
  refine ⟨madeCells (Value.agg #[.string ByteArray.empty, .string ByteArray.empty, .int .i64 0]).cells (n * 3), size_madeCells _ _, fun W => ?_⟩
  have hr := run_make (P := Tryz.prog) W 54 124 i _ Tryz.underlying54 hi hz .i64 .i64 n n (by omega) (Int.le_refl _) (by rw [hb]; omega) (by omega)
  simp only [Int.toNat_natCast, hs] at hr
  exact hr

set_option maxHeartbeats 1000000 in
theorem toWn (m : Wn) (w : World) :
    Calls Tryz.prog 71 #[.agg #[.string m.kind, .string m.name, .int .i64 m.version]] w fun e w' => e = .returned (.agg #[.string m.kind, .string m.name, .int .i64 m.version]) ∧ Below w.heap.size w w' := by
  go_enter Tryz.func71, Tryz.ntmps71
  go_wp2
  refine bodyPost_ret (v := .agg #[.string m.kind, .string m.name, .int .i64 m.version]) (by simp [results, Tryz.results71, go_sem]) rfl ⟨rfl, ?_⟩
  repeat (first | exact Below.refl _ _ | refine blw_alloc ?_ _ | refine Below.setCell ?_ (by simp) _)

set_option maxHeartbeats 1000000 in
theorem toWns_row (b off cap : Nat) (ms : List Wn) (w : World) (hl : ms.length ≤ 1048576) (hb : b < w.heap.size)
    (hc : ∀ i, i < ms.length → WnIs w b (off + i * 3) (ms.getD i Wn.none)) :
    Calls Tryz.prog 39 #[.slice (some ⟨b, off, none⟩) ms.length cap] w fun e w' => e = .returned (.slice (some ⟨w.heap.size, 0, none⟩) ms.length ms.length) ∧ Below w.heap.size w w' ∧ OwnBlk w' w.heap.size 124 (ms.length * 3) ∧
      ∀ i, i < ms.length → WnIs w' w.heap.size (i * 3) (ms.getD i Wn.none) := by
  obtain ⟨cs, hcs, hmk⟩ := make_wn ms.length hl
  go_enter Tryz.func39, Tryz.ntmps39
  go_wp2
  go_loopw [4] (fun i wr => ∃ k : Nat, k ≤ ms.length ∧ i = .int .i64 k ∧ Below w.heap.size w wr ∧ OwnBlk wr w.heap.size 124 (ms.length * 3) ∧ ∀ i, i < k → WnIs wr w.heap.size (i * 3) (ms.getD i Wn.none)) (fun i _ => ms.length - (intOf i).toNat)
  case atStart => exact ⟨0, Nat.zero_le _, rfl, blw_alloc (Below.refl _ _) _, OwnBlk.alloc w cs 124 _ hcs, fun i hi => absurd hi (Nat.not_lt_zero i)⟩
  case round =>
    obtain ⟨k, hk, rfl, hB, hO, hall⟩ := hrel
    have HA : Hid (∀ i, i < k → WnIs wr w.heap.size (i * 3) (ms.getD i Wn.none)) := hall
    have HO : Hid (OwnBlk wr w.heap.size 124 (ms.length * 3)) := hO
    clear hall hmk hcs hO
    by_cases hlt : k < ms.length
    · have hf := (hc k hlt).later hB hb
      obtain ⟨m, hm⟩ : ∃ m, m = ms.getD k Wn.none := ⟨_, rfl⟩
      rw [← hm] at hf
      have HX : Hid (m.sized ∧ m = ms.getD k Wn.none) := ⟨hf.sized, hm⟩
      obtain ⟨c0, c1, c2, _⟩ := hf
      clear hm hc
      go_wp2_with fail
      refine (toWn m wr).mono ?_
      rintro e w2 ⟨rfl, hb2⟩
      have hB2 := blw_trans hB hb2
      have hO2 := HO.out.later hb2
      have HP : Hid (∀ v, v = [.string m.kind, .string m.name, .int .i64 m.version] →
          Below w.heap.size w (puts w2 w.heap.size (k * 3) 0 v) ∧ OwnBlk (puts w2 w.heap.size (k * 3) 0 v) w.heap.size 124 (ms.length * 3) ∧ ∀ i, i < k + 1 → WnIs (puts w2 w.heap.size (k * 3) 0 v) w.heap.size (i * 3) (ms.getD i Wn.none)) := by
        intro v hv
        subst hv
        refine ⟨puts_below (a := w) _ (Nat.le_refl _) _ _ _ hB2, puts_own _ _ _ _ hO2, fun i hi => ?_⟩
        by_cases hik : i < k
        · exact ((HA.out i hik).later hb2 HO.out.lt).puts (k * 3) _ (by omega)
        · obtain rfl : i = k := by omega
          rw [← HX.out.2]
          exact own_put_wn hO2 (i * 3) (by omega) m HX.out.1
      clear c0 c1 c2 HX
      have hfz := hO2.frozen
      obtain ⟨v0, o0⟩ := hO2.cell (k * 3) (by omega)
      obtain ⟨v1, o1⟩ := hO2.cell (k * 3 + 1) (by omega)
      obtain ⟨v2, o2⟩ := hO2.cell (k * 3 + 2) (by omega)
      clear hO2 hB2 hb2
      go_wp2
      go_roundw
      case rel => exact ⟨k + 1, by omega, by go_num, (HP.out _ rfl).1, (HP.out _ rfl).2.1, (HP.out _ rfl).2.2⟩
      case measure => simp [intOf]; omega
    · obtain rfl : k = ms.length := by omega
      go_wp2
      go_ret
      exact ⟨rfl, hB, HO.out, HA.out⟩

set_option maxHeartbeats 400000 in
theorem toWns_nil (a : Option Addr) (cap : Nat) (w : World) :
    Calls Tryz.prog 39 #[.slice a 0 cap] w fun e w' => e = .returned (.slice (some ⟨w.heap.size, 0, none⟩) 0 0) ∧ ∃ cs : Array Value, cs.size = 0 ∧ w' = w.alloc (.cells cs 124) := by
  obtain ⟨cs, hcs0, hmk0⟩ := make_wn 0 (by omega)
  have hmk : ∀ W : World, (Instr.makeSlice 54 (.int .i64 0) (.int .i64 0)).run Tryz.prog W = .ok (.slice (some ⟨W.heap.size, 0, none⟩) 0 0) (W.alloc (.cells cs 124)) := hmk0
  clear hmk0
  go_enter Tryz.func39, Tryz.ntmps39
  go_wp2
  refine wp_loop_rounds 1 ?_
  rw [rounds_succ]
  go_wp2
  go_ret
  exact ⟨rfl, _, by omega, rfl⟩

theorem toWns (v : Value) (ms : List Wn) (w : World) (hl : ms.length ≤ 1048576) (h : WnsAt w v ms) :
    Calls Tryz.prog 39 #[v] w fun e w' => e = .returned (.slice (some ⟨w.heap.size, 0, none⟩) ms.length ms.length) ∧ Below w.heap.size w w' ∧ WnsIn w' w.heap.size ms := by
  rcases h with ⟨a, cap, rfl, rfl⟩ | ⟨b, off, cap, rfl, hb, _, hc⟩
  · refine (toWns_nil a cap w).mono ?_
    rintro e w' ⟨rfl, cs, hcs, rfl⟩
    exact ⟨rfl, blw_alloc (Below.refl _ _) _, ⟨by simp, by simp, fun i hi => absurd hi (Nat.not_lt_zero i), OwnBlk.alloc w cs _ _ (by simpa using hcs)⟩⟩
  · refine (toWns_row b off cap ms w hl hb hc).mono ?_
    rintro e w' ⟨rfl, h1, h2, h3⟩
    exact ⟨rfl, h1, h2.lt, hl, h3, h2⟩

set_option maxHeartbeats 1000000 in
theorem eqWn (m : Wn) (w : World) :
    Calls Tryz.prog 74 #[.agg #[.string m.kind, .string m.name, .int .i64 m.version], .agg #[.string m.kind, .string m.name, .int .i64 m.version]] w fun e w' => e = .returned (.bool true) ∧ Below w.heap.size w w' := by
  go_enter Tryz.func74, Tryz.ntmps74
  go_wp2
  go_ret
  exact ⟨rfl, blw_alloc (blw_alloc (Below.refl _ _) _) _⟩

set_option maxHeartbeats 2000000 in
theorem eqWns (B B' : Nat) (ms : List Wn) (w : World) (h : WnsIn w B ms) (h' : WnsIn w B' ms) :
    Calls Tryz.prog 41 #[.slice (some ⟨B, 0, none⟩) ms.length ms.length, .slice (some ⟨B', 0, none⟩) ms.length ms.length] w fun e w' => e = .returned (.bool true) ∧ Below w.heap.size w w' := by
  have hl := h.len
  have HH : Hid (WnsIn w B ms ∧ WnsIn w B' ms) := ⟨h, h'⟩
  clear h h'
  go_enter Tryz.func41, Tryz.ntmps41
  go_wp2
  go_loopw [5] (fun i wr => ∃ k : Nat, k ≤ ms.length ∧ i = .int .i64 k ∧ Below w.heap.size w wr) (fun i _ => ms.length - (intOf i).toNat)
  case atStart => exact ⟨0, Nat.zero_le _, rfl, Below.refl _ _⟩
  case round =>
    obtain ⟨k, hk, rfl, hW⟩ := hrel
    by_cases hlt : k < ms.length
    · have q := (HH.out.1.later hW).at_ k hlt
      have q' := (HH.out.2.later hW).at_ k hlt
      obtain ⟨m, hm⟩ : ∃ m, m = ms.getD k Wn.none := ⟨_, rfl⟩
      rw [← hm] at q q'
      obtain ⟨c0, c1, c2, _⟩ := q
      obtain ⟨d0, d1, d2, _⟩ := q'
      have HX : Hid (∀ W, Below wr.heap.size wr W → Calls Tryz.prog 74 #[.agg #[.string m.kind, .string m.name, .int .i64 m.version], .agg #[.string m.kind, .string m.name, .int .i64 m.version]] W fun e w' => e = .returned (.bool true) ∧ Below W.heap.size W w') := fun W _ => eqWn m W
      clear hm
      go_wp2_with fail
      go_region_with (go_at_call 74; refine (HX.out _ ?_).mono ?_; (repeat (first | exact Below.refl _ _ | refine Below.drew ?_)); rintro e w2 ⟨rfl, hb2⟩)
      all_goals
        go_wp2
        go_roundw
        case rel =>
          refine ⟨k + 1, by omega, by go_num, ?_⟩
          repeat (first | exact blw_trans hW hb2 | exact blw_trans hW.drew hb2 | exact blw_trans hW.drew.drew hb2 | refine Below.drew ?_)
        case measure => simp [intOf]; omega
    · go_wp2
      go_ret
      exact ⟨rfl, hW⟩

set_option maxHeartbeats 1000000 in
theorem szWn (m : Wn) (left : Int) (w : World) (h0 : 0 ≤ left) (h1 : left ≤ 1048576) (hs : m.sized) :
    Calls Tryz.prog 70 #[.agg #[.string m.kind, .string m.name, .int .i64 m.version], .int .i64 left] w fun e w' => (∃ r : Int, e = .returned (.int .i64 r) ∧ -1 ≤ r ∧ r ≤ left) ∧ Below w.heap.size w w' := by
  obtain ⟨s0, s1⟩ := hs
  unfold maxLen at s0 s1
  by_cases c0 : left < (m.kind.size : Int)
  · go_enter Tryz.func70, Tryz.ntmps70
    go_wp2
    go_ret
    exact ⟨⟨_, rfl, by omega, by omega⟩, blw_alloc (Below.refl _ _) _⟩
  by_cases c1 : left - m.kind.size < (m.name.size : Int)
  all_goals
    go_enter Tryz.func70, Tryz.ntmps70
    go_wp2
    go_ret
    exact ⟨⟨_, rfl, by omega, by omega⟩, blw_alloc (Below.refl _ _) _⟩

set_option maxHeartbeats 1000000 in
theorem szWns_row (b off cap : Nat) (ms : List Wn) (left : Int) (w : World) (h0 : 0 ≤ left) (h1 : left ≤ 1048576) (hb : b < w.heap.size) (hl : ms.length ≤ maxLen)
    (hc : ∀ i, i < ms.length → WnIs w b (off + i * 3) (ms.getD i Wn.none)) :
    Calls Tryz.prog 37 #[.slice (some ⟨b, off, none⟩) ms.length cap, .int .i64 left] w fun e w' => (∃ r : Int, e = .returned (.int .i64 r) ∧ szP ((ms.length : Int) ≤ left) left r) ∧ Below w.heap.size w w' := by
  unfold maxLen at hl
  by_cases hneg : left < (ms.length : Int)
  · go_enter Tryz.func37, Tryz.ntmps37
    go_wp2
    go_ret
    exact ⟨⟨_, rfl, by unfold szP; refine ⟨by omega, by omega, by omega⟩⟩, Below.refl _ _⟩
  · go_enter Tryz.func37, Tryz.ntmps37
    go_wp2
    go_loopw [1, 5] (fun l i wr => ∃ (k : Nat) (r : Int), k ≤ ms.length ∧ i = .int .i64 k ∧ l = .int .i64 r ∧ 0 ≤ r ∧ r ≤ left ∧ Below w.heap.size w wr) (fun _ i _ => ms.length - (intOf i).toNat)
    case atStart => exact ⟨0, _, Nat.zero_le _, rfl, rfl, by omega, by omega, Below.refl _ _⟩
    case round =>
      obtain ⟨k, r, hk, rfl, rfl, r0, r1, hB⟩ := hrel
      by_cases hlt : k < ms.length
      · have hf := (hc k hlt).later hB hb
        obtain ⟨m, hm⟩ : ∃ m, m = ms.getD k Wn.none := ⟨_, rfl⟩
        rw [← hm] at hf
        have HX : Hid (Calls Tryz.prog 70 #[.agg #[.string m.kind, .string m.name, .int .i64 m.version], .int .i64 r] wr fun e w' => (∃ r' : Int, e = .returned (.int .i64 r') ∧ -1 ≤ r' ∧ r' ≤ r) ∧ Below wr.heap.size wr w') :=
          szWn m r wr r0 (by omega) hf.sized
        obtain ⟨c0, c1, c2, _⟩ := hf
        clear hm hc
        go_wp2_with fail
        refine HX.out.mono ?_
        rintro e w2 ⟨⟨r', rfl, q1, q2⟩, hb2⟩
        have hB2 := blw_trans hB hb2
        clear hb2 c0 c1 c2 HX
        by_cases c2 : r' < 0
        · go_wp2
          go_ret
          exact ⟨⟨_, rfl, by unfold szP; refine ⟨by omega, by omega, by omega⟩⟩, hB2⟩
        · go_wp2
          go_roundw
          case rel => exact ⟨k + 1, _, by omega, by go_num, rfl, by omega, by omega, hB2⟩
          case measure => simp [intOf]; omega
      · go_wp2
        go_ret
        exact ⟨⟨_, rfl, by unfold szP; exact ⟨by omega, by omega, fun _ => by omega⟩⟩, hB⟩

set_option maxHeartbeats 400000 in
theorem szWns_nil (a : Option Addr) (cap : Nat) (left : Int) (w : World) (h0 : 0 ≤ left) (h1 : left ≤ 1048576) :
    Calls Tryz.prog 37 #[.slice a 0 cap, .int .i64 left] w fun e w' => e = .returned (.int .i64 left) ∧ w = w' := by
  go_enter Tryz.func37, Tryz.ntmps37
  go_wp2
  refine wp_loop_rounds 1 ?_
  rw [rounds_succ]
  go_wp2
  go_ret
  exact ⟨Pl.ret_int (by omega), rfl⟩

theorem szWns (v : Value) (ms : List Wn) (left : Int) (w : World) (h0 : 0 ≤ left) (h1 : left ≤ 1048576) (h : WnsAt w v ms) :
    Calls Tryz.prog 37 #[v, .int .i64 left] w fun e w' => (∃ r : Int, e = .returned (.int .i64 r) ∧ szP ((ms.length : Int) ≤ left) left r) ∧ Below w.heap.size w w' := by
  rcases h with ⟨a, cap, rfl, rfl⟩ | ⟨b, off, cap, rfl, hb, hl, hc⟩
  · refine (szWns_nil a cap left w h0 h1).mono ?_
    rintro e w' ⟨rfl, rfl⟩
    exact ⟨⟨_, rfl, by unfold szP; exact ⟨by omega, by omega, fun _ => by simpa using h0⟩⟩, Below.refl _ _⟩
  · exact szWns_row b off cap ms left w h0 h1 hb hl hc




end Go.Proofs.YtkjkklcflpchlaaGreat

namespace Go.Proofs.YtkjkklcflpchlaaGreat
open Go.RowKit Go.Deep

structure Sl where
  door : ByteArray
  ask : Ak
  given : Int
  wants : List Wn

structure SlAt (w : World) (v1 v2 : Value) (ra : Option Addr) (rc : Nat) (wv : Value) (s : Sl) : Prop where
  ak : AkAt w v1 v2 ra rc s.ask
  wn : WnsAt w wv s.wants
  sz : s.door.size ≤ maxLen

structure SlIn (w : World) (b1 b2 b3 b4 : Nat) (s : Sl) : Prop where
  ak : AkIn w b1 b2 b3 s.ask
  wn : WnsIn w b4 s.wants
  sz : s.door.size ≤ maxLen

def Sl.small (s : Sl) : Prop := s.ask.small ∧ s.wants.length ≤ 1048576

theorem SlAt.later {w w' : World} {v1 v2 : Value} {ra : Option Addr} {rc : Nat} {wv : Value} {s : Sl} (h : SlAt w v1 v2 ra rc wv s) (hb : Below w.heap.size w w') : SlAt w' v1 v2 ra rc wv s := ⟨h.ak.later hb, h.wn.later hb, h.sz⟩
theorem SlIn.later {w w' : World} {b1 b2 b3 b4 : Nat} {s : Sl} (h : SlIn w b1 b2 b3 b4 s) (hb : Below w.heap.size w w') : SlIn w' b1 b2 b3 b4 s := ⟨h.ak.later hb, h.wn.later hb, h.sz⟩

set_option maxRecDepth 8000 in
set_option maxHeartbeats 8000000 in
theorem szSlO (door : ByteArray) (x0 x1 x2 x3 x4 x5 x6 x7 x8 x9 x10 x11 x12 x13 x14 : Value) (given : Int) (wv : Value) (left : Int) (w : World) (SA SW : Prop) (hd : door.size ≤ maxLen) (h0 : 0 ≤ left) (h1 : left ≤ 1048576)
    (HA : Hid (∀ W l, Below w.heap.size w W → 0 ≤ l → l ≤ 1048576 → Calls Tryz.prog 6 #[.agg #[x0, x1, x2, x3, x4, x5, x6, x7, x8, x9, x10, x11, x12, x13, x14], .int .i64 l] W fun e w' => (∃ r : Int, e = .returned (.int .i64 r) ∧ szP SA l r) ∧ Below W.heap.size W w')) (HW : Hid (∀ W l, Below w.heap.size w W → 0 ≤ l → l ≤ 1048576 → Calls Tryz.prog 37 #[wv, .int .i64 l] W fun e w' => (∃ r : Int, e = .returned (.int .i64 r) ∧ szP SW l r) ∧ Below W.heap.size W w')) :
    Calls Tryz.prog 13 #[.agg #[.string door, x0, x1, x2, x3, x4, x5, x6, x7, x8, x9, x10, x11, x12, x13, x14, .int .i64 given, wv], .int .i64 left] w fun e w' => (∃ r : Int, e = .returned (.int .i64 r) ∧ szP (SA ∧ SW) left r) ∧ Below w.heap.size w w' := by
  unfold maxLen at hd
  have HB0 : Hid (∀ o, Below w.heap.size w (w.alloc o)) := fun o => blw_alloc (Below.refl _ _) o
  have HX0 : Hid (BoxV (w.alloc (.cells #[.string door, x0, x1, x2, x3, x4, x5, x6, x7, x8, x9, x10, x11, x12, x13, x14, .int .i64 given, wv] 51)) w.heap.size #[.string door, x0, x1, x2, x3, x4, x5, x6, x7, x8, x9, x10, x11, x12, x13, x14, .int .i64 given, wv]) := BoxV.new' _ _ _ _ rfl
  by_cases c1 : left < (door.size : Int)
  · go_enter Tryz.func13, Tryz.ntmps13
    go_wp2
    go_ret
    exact ⟨⟨_, rfl, by unfold szP; exact ⟨by omega, by omega, by omega⟩⟩, HB0.out _⟩
  go_enter Tryz.func13, Tryz.ntmps13
  go_wp2_with fail
  refine (HA.out _ _ (HB0.out _) (by omega) (by omega)).mono ?_
  rintro e wb ⟨⟨r, rfl, hr⟩, hb⟩
  have q1 : -1 ≤ r := hr.1
  have q2 : r ≤ left - door.size := hr.2.1
  have HR : Hid (0 ≤ r → SA) := hr.2.2
  have HBb : Hid (Below w.heap.size w wb) := blw_trans (HB0.out _) hb
  have HXb : Hid (BoxV wb w.heap.size #[.string door, x0, x1, x2, x3, x4, x5, x6, x7, x8, x9, x10, x11, x12, x13, x14, .int .i64 given, wv]) := HX0.out.later hb
  clear hr hb HX0
  by_cases c2 : r < 0
  · go_wp2
    go_ret
    exact ⟨⟨_, rfl, by unfold szP; exact ⟨by omega, by omega, by omega⟩⟩, HBb.out⟩
  have yz := HXb.out.lt
  have y17 : wb.cell? ⟨w.heap.size, 17, none⟩ = some wv := HXb.out.at_ 17
  go_wp2_with fail
  refine (HW.out _ _ HBb.out (by omega) (by omega)).mono ?_
  rintro e wc ⟨⟨r2, rfl, hr⟩, hb⟩
  have q3 : -1 ≤ r2 := hr.1
  have q4 : r2 ≤ r := hr.2.1
  have HR2 : Hid (0 ≤ r2 → SW) := hr.2.2
  have HBc : Hid (Below w.heap.size w wc) := blw_trans HBb.out hb
  clear hr hb yz y17 HXb HBb
  by_cases c3 : r2 < 0
  all_goals
    go_wp2
    go_ret
    refine ⟨⟨_, rfl, ?_⟩, HBc.out⟩
    unfold szP
    exact ⟨by omega, by omega, fun h => ⟨HR.out (by omega), HR2.out (by omega)⟩⟩

theorem szSl (s : Sl) (v1 v2 : Value) (ra : Option Addr) (rc : Nat) (wv : Value) (left : Int) (w : World) (h0 : 0 ≤ left) (h1 : left ≤ 1048576) (h : SlAt w v1 v2 ra rc wv s) :
    Calls Tryz.prog 13 #[.agg #[.string s.door, .string s.ask.who, .int .i64 s.ask.verb, .string s.ask.kind, .string s.ask.name, .string s.ask.team, v1, v2, .int .i64 s.ask.seen, .string s.ask.hold, .string s.ask.to_, .slice ra s.ask.rule.verbs.length rc, .string s.ask.rule.kind, .string s.ask.rule.team, .string s.ask.rule.pre, .int .i64 s.ask.number, .int .i64 s.given, wv], .int .i64 left] w fun e w' => (∃ r : Int, e = .returned (.int .i64 r) ∧ szP s.small left r) ∧ Below w.heap.size w w' := by
  refine szSlO s.door (.string s.ask.who) (.int .i64 s.ask.verb) (.string s.ask.kind) (.string s.ask.name) (.string s.ask.team) (v1) (v2) (.int .i64 s.ask.seen) (.string s.ask.hold) (.string s.ask.to_) (.slice ra s.ask.rule.verbs.length rc) (.string s.ask.rule.kind) (.string s.ask.rule.team) (.string s.ask.rule.pre) (.int .i64 s.ask.number) s.given wv left w s.ask.small (s.wants.length ≤ 1048576) h.sz h0 h1 ?_ ?_
  · exact fun W l hW k0 k1 => szAk s.ask v1 v2 ra rc l W k0 k1 (h.ak.later hW)
  · intro W l hW k0 k1
    refine (szWns wv s.wants l W k0 k1 (h.wn.later hW)).mono ?_
    rintro e w' ⟨⟨r, rfl, q1, q2, q3⟩, hb⟩
    exact ⟨⟨r, rfl, q1, q2, fun hr => by have := q3 hr; omega⟩, hb⟩

end Go.Proofs.YtkjkklcflpchlaaGreat
