/-
  Slots: as they lie in memory; sizes, copies, equality.
-/
import Derived.Test.YtcefgacmagobnaaOwn
import Derived.Test.YtcefgacmagobnaaPlain
namespace Go.Proofs.Ytcefgacmagobnaa
open Go.RowKit Go.Deep

theorem sc_size (w : World) (a : Addr) (v : Value) : (w.setCell a v).heap.size = w.heap.size := by simp [World.setCell]

structure Rs where
  bal : Int
  txt : ByteArray

def Rs.none : Rs := ⟨0, ByteArray.empty⟩

def Rs.sized (m : Rs) : Prop := m.txt.size ≤ maxLen

structure RsIs (w : World) (b o : Nat) (m : Rs) : Prop where
  c0 : w.cell? ⟨b, o, none⟩ = some (.int .i64 m.bal)
  c1 : w.cell? ⟨b, o + 1, none⟩ = some (.string m.txt)
  sized : m.sized

theorem RsIs.later {w w' : World} {b o : Nat} {m : Rs} (h : RsIs w b o m) (hb : Below w.heap.size w w') (hlt : b < w.heap.size) : RsIs w' b o m := by
  have c : ∀ j, w'.cell? ⟨b, j, none⟩ = w.cell? ⟨b, j, none⟩ := fun j => hb.cell (p := ⟨b, j, none⟩) hlt
  exact ⟨(c _).trans h.c0, (c _).trans h.c1, h.sized⟩

def RssAt (w : World) (v : Value) (ms : List Rs) : Prop :=
  (∃ a cap, v = .slice a 0 cap ∧ ms = []) ∨ ∃ b off cap, v = .slice (some ⟨b, off, none⟩) ms.length cap ∧ b < w.heap.size ∧ ms.length ≤ maxLen ∧ ∀ i, i < ms.length → RsIs w b (off + i * 2) (ms.getD i Rs.none)

theorem RssAt.later {w w' : World} {v : Value} {ms : List Rs} (h : RssAt w v ms) (hb : Below w.heap.size w w') : RssAt w' v ms := by
  rcases h with h | ⟨b, off, cap, rfl, h1, h2, h3⟩
  · exact Or.inl h
  · exact Or.inr ⟨b, off, cap, rfl, Nat.lt_of_lt_of_le h1 hb.size, h2, fun i hi => (h3 i hi).later hb h1⟩

structure RssIn (w : World) (B : Nat) (ms : List Rs) : Prop where
  lt : B < w.heap.size
  len : ms.length ≤ 1048576
  at_ : ∀ i, i < ms.length → RsIs w B (i * 2) (ms.getD i Rs.none)
  own : OwnBlk w B 110 (ms.length * 2)

theorem RssIn.later {w w' : World} {B : Nat} {ms : List Rs} (h : RssIn w B ms) (hb : Below w.heap.size w w') : RssIn w' B ms :=
  ⟨Nat.lt_of_lt_of_le h.lt hb.size, h.len, fun i hi => (h.at_ i hi).later hb h.lt, h.own.later hb⟩

theorem RssIn.sc {w : World} {B p : Nat} {ms : List Rs} (h : RssIn w B ms) (hp : p < B) (j : Nat) (v : Value) : RssIn (w.setCell ⟨p, j, none⟩ v) B ms := by
  have c : ∀ q, (w.setCell ⟨p, j, none⟩ v).cell? ⟨B, q, none⟩ = w.cell? ⟨B, q, none⟩ := fun q => sc_ne _ _ _ _ _ _ (by omega)
  exact ⟨by rw [sc_size]; exact h.lt, h.len, fun i hi => by have h := h.at_ i hi; exact ⟨(c _).trans h.c0, (c _).trans h.c1, h.sized⟩, h.own.sc_other (by omega) _ _⟩

theorem RsIs.puts {w : World} {B o : Nat} {m : Rs} (h : RsIs w B o m) (o' : Nat) (vs : List Value) (ho : o + 2 ≤ o') : RsIs (puts w B o' 0 vs) B o m := by
  have c : ∀ j, j < o' → (Ytcefgacmagobnaa.puts w B o' 0 vs).cell? ⟨B, j, none⟩ = w.cell? ⟨B, j, none⟩ := fun j hj => puts_other B o' B j vs w 0 (by omega)
  exact ⟨(c _ (by omega)).trans h.c0, (c _ (by omega)).trans h.c1, h.sized⟩

theorem own_put_rs {w : World} {B : Nat} {t : TypeId} {n : Nat} (hO : OwnBlk w B t n) (o : Nat) (ho : o + 2 ≤ n) (m : Rs) (hs : m.sized) :
    RsIs (puts w B o 0 [.int .i64 m.bal, .string m.txt]) B o m := by
  have c := fun i hi => puts_at o [.int .i64 m.bal, .string m.txt] w 0 hO (by simp; omega) i hi
  exact ⟨c 0 (by simp), c 1 (by simp), hs⟩

theorem Try.info110 : (Try.prog.info? 110).map (fun i => (i.zero, i.size, i.bytes)) = some (some (.agg #[.int .i64 0, .string ByteArray.empty]), 2, 24) := by kernel_rfl

theorem Try.underlying45' : Try.prog.underlying 45 = some (.slice 110) := by kernel_rfl

theorem make_rs (n : Nat) (h : n ≤ 1048576) : ∃ cs : Array Value, cs.size = n * 2 ∧ ∀ W : World,
    (Instr.makeSlice 45 (.int .i64 (n : Int)) (.int .i64 (n : Int))).run Try.prog W = .ok (.slice (some ⟨W.heap.size, 0, none⟩) n n) (W.alloc (.cells cs 110)) := by
  obtain ⟨i, hi, hzz⟩ := Option.map_eq_some_iff.1 Try.info110
  simp only [Prod.mk.injEq] at hzz
  obtain ⟨hz, hs, hb⟩ := hzz
  refine ⟨madeCells (Value.agg #[.int .i64 0, .string ByteArray.empty]).cells (n * 2), size_madeCells _ _, fun W => ?_⟩
  have hr := run_make (P := Try.prog) W 45 110 i _ Try.underlying45' hi hz .i64 .i64 n n (by omega) (Int.le_refl _) (by rw [hb]; omega) (by omega)
  simp only [Int.toNat_natCast, hs] at hr
  exact hr

set_option maxHeartbeats 1000000 in
theorem toRs (m : Rs) (w : World) :
    Calls Try.prog 95 #[.agg #[.int .i64 m.bal, .string m.txt]] w fun e w' => e = .returned (.agg #[.int .i64 m.bal, .string m.txt]) ∧ Below w.heap.size w w' := by
  go_enter Try.func95, Try.ntmps95
  go_wp2
  refine bodyPost_ret (v := .agg #[.int .i64 m.bal, .string m.txt]) (by simp [results, Try.results95, go_sem]) rfl ⟨rfl, ?_⟩
  repeat (first | exact Below.refl _ _ | refine blw_alloc ?_ _ | refine Below.setCell ?_ (by simp) _)

set_option maxHeartbeats 1000000 in
theorem toRss_row (b off cap : Nat) (ms : List Rs) (w : World) (hl : ms.length ≤ 1048576) (hb : b < w.heap.size)
    (hc : ∀ i, i < ms.length → RsIs w b (off + i * 2) (ms.getD i Rs.none)) :
    Calls Try.prog 79 #[.slice (some ⟨b, off, none⟩) ms.length cap] w fun e w' => e = .returned (.slice (some ⟨w.heap.size, 0, none⟩) ms.length ms.length) ∧ Below w.heap.size w w' ∧ OwnBlk w' w.heap.size 110 (ms.length * 2) ∧
      ∀ i, i < ms.length → RsIs w' w.heap.size (i * 2) (ms.getD i Rs.none) := by
  obtain ⟨cs, hcs, hmk⟩ := make_rs ms.length hl
  go_enter Try.func79, Try.ntmps79
  go_wp2
  go_loopw [4] (fun i wr => ∃ k : Nat, k ≤ ms.length ∧ i = .int .i64 k ∧ Below w.heap.size w wr ∧ OwnBlk wr w.heap.size 110 (ms.length * 2) ∧ ∀ i, i < k → RsIs wr w.heap.size (i * 2) (ms.getD i Rs.none)) (fun i _ => ms.length - (intOf i).toNat)
  case atStart => exact ⟨0, Nat.zero_le _, rfl, blw_alloc (Below.refl _ _) _, OwnBlk.alloc w cs 110 _ hcs, fun i hi => absurd hi (Nat.not_lt_zero i)⟩
  case round =>
    obtain ⟨k, hk, rfl, hB, hO, hall⟩ := hrel
    have HA : Hid (∀ i, i < k → RsIs wr w.heap.size (i * 2) (ms.getD i Rs.none)) := hall
    have HO : Hid (OwnBlk wr w.heap.size 110 (ms.length * 2)) := hO
    clear hall hmk hcs hO
    by_cases hlt : k < ms.length
    · have hf := (hc k hlt).later hB hb
      obtain ⟨m, hm⟩ : ∃ m, m = ms.getD k Rs.none := ⟨_, rfl⟩
      rw [← hm] at hf
      have HX : Hid (m.sized ∧ m = ms.getD k Rs.none) := ⟨hf.sized, hm⟩
      obtain ⟨c0, c1, _⟩ := hf
      clear hm hc
      go_wp2_with fail
      refine (toRs m wr).mono ?_
      rintro e w2 ⟨rfl, hb2⟩
      have hB2 := blw_trans hB hb2
      have hO2 := HO.out.later hb2
      have HP : Hid (∀ v, v = [.int .i64 m.bal, .string m.txt] →
          Below w.heap.size w (puts w2 w.heap.size (k * 2) 0 v) ∧ OwnBlk (puts w2 w.heap.size (k * 2) 0 v) w.heap.size 110 (ms.length * 2) ∧ ∀ i, i < k + 1 → RsIs (puts w2 w.heap.size (k * 2) 0 v) w.heap.size (i * 2) (ms.getD i Rs.none)) := by
        intro v hv
        subst hv
        refine ⟨puts_below (a := w) _ (Nat.le_refl _) _ _ _ hB2, puts_own _ _ _ _ hO2, fun i hi => ?_⟩
        by_cases hik : i < k
        · exact ((HA.out i hik).later hb2 HO.out.lt).puts (k * 2) _ (by omega)
        · obtain rfl : i = k := by omega
          rw [← HX.out.2]
          exact own_put_rs hO2 (i * 2) (by omega) m HX.out.1
      clear c0 c1 HX
      have hfz := hO2.frozen
      obtain ⟨v0, o0⟩ := hO2.cell (k * 2) (by omega)
      obtain ⟨v1, o1⟩ := hO2.cell (k * 2 + 1) (by omega)
      clear hO2 hB2 hb2
      go_wp2
      go_roundw
      case rel => exact ⟨k + 1, by omega, by go_num, (HP.out _ rfl).1, (HP.out _ rfl).2.1, (HP.out _ rfl).2.2⟩
      case measure => simp [intOf]; omega
    · obtain rfl : k = ms.length := by omega
      go_wp2
      go_ret
      exact ⟨rfl, hB, HO.out, HA.out⟩

set_option maxHeartbeats 400000 in
theorem toRss_nil (a : Option Addr) (cap : Nat) (w : World) :
    Calls Try.prog 79 #[.slice a 0 cap] w fun e w' => e = .returned (.slice (some ⟨w.heap.size, 0, none⟩) 0 0) ∧ ∃ cs : Array Value, cs.size = 0 ∧ w' = w.alloc (.cells cs 110) := by
  obtain ⟨cs, hcs0, hmk0⟩ := make_rs 0 (by omega)
  have hmk : ∀ W : World, (Instr.makeSlice 45 (.int .i64 0) (.int .i64 0)).run Try.prog W = .ok (.slice (some ⟨W.heap.size, 0, none⟩) 0 0) (W.alloc (.cells cs 110)) := hmk0
  clear hmk0
  go_enter Try.func79, Try.ntmps79
  go_wp2
  refine wp_loop_rounds 1 ?_
  rw [rounds_succ]
  go_wp2
  go_ret
  exact ⟨rfl, _, by omega, rfl⟩

theorem toRss (v : Value) (ms : List Rs) (w : World) (hl : ms.length ≤ 1048576) (h : RssAt w v ms) :
    Calls Try.prog 79 #[v] w fun e w' => e = .returned (.slice (some ⟨w.heap.size, 0, none⟩) ms.length ms.length) ∧ Below w.heap.size w w' ∧ RssIn w' w.heap.size ms := by
  rcases h with ⟨a, cap, rfl, rfl⟩ | ⟨b, off, cap, rfl, hb, _, hc⟩
  · refine (toRss_nil a cap w).mono ?_
    rintro e w' ⟨rfl, cs, hcs, rfl⟩
    exact ⟨rfl, blw_alloc (Below.refl _ _) _, ⟨by simp, by simp, fun i hi => absurd hi (Nat.not_lt_zero i), OwnBlk.alloc w cs _ _ (by simpa using hcs)⟩⟩
  · refine (toRss_row b off cap ms w hl hb hc).mono ?_
    rintro e w' ⟨rfl, h1, h2, h3⟩
    exact ⟨rfl, h1, h2.lt, hl, h3, h2⟩

set_option maxHeartbeats 1000000 in
theorem eqRs (m : Rs) (w : World) :
    Calls Try.prog 100 #[.agg #[.int .i64 m.bal, .string m.txt], .agg #[.int .i64 m.bal, .string m.txt]] w fun e w' => e = .returned (.bool true) ∧ Below w.heap.size w w' := by
  go_enter Try.func100, Try.ntmps100
  go_wp2
  go_ret
  exact ⟨rfl, blw_alloc (blw_alloc (Below.refl _ _) _) _⟩

set_option maxHeartbeats 2000000 in
theorem eqRss (B B' : Nat) (ms : List Rs) (w : World) (h : RssIn w B ms) (h' : RssIn w B' ms) :
    Calls Try.prog 91 #[.slice (some ⟨B, 0, none⟩) ms.length ms.length, .slice (some ⟨B', 0, none⟩) ms.length ms.length] w fun e w' => e = .returned (.bool true) ∧ Below w.heap.size w w' := by
  have hl := h.len
  have HH : Hid (RssIn w B ms ∧ RssIn w B' ms) := ⟨h, h'⟩
  clear h h'
  go_enter Try.func91, Try.ntmps91
  go_wp2
  go_loopw [5] (fun i wr => ∃ k : Nat, k ≤ ms.length ∧ i = .int .i64 k ∧ Below w.heap.size w wr) (fun i _ => ms.length - (intOf i).toNat)
  case atStart => exact ⟨0, Nat.zero_le _, rfl, Below.refl _ _⟩
  case round =>
    obtain ⟨k, hk, rfl, hW⟩ := hrel
    by_cases hlt : k < ms.length
    · have q := (HH.out.1.later hW).at_ k hlt
      have q' := (HH.out.2.later hW).at_ k hlt
      obtain ⟨m, hm⟩ : ∃ m, m = ms.getD k Rs.none := ⟨_, rfl⟩
      rw [← hm] at q q'
      obtain ⟨c0, c1, _⟩ := q
      obtain ⟨d0, d1, _⟩ := q'
      have HX : Hid (∀ W, Below wr.heap.size wr W → Calls Try.prog 100 #[.agg #[.int .i64 m.bal, .string m.txt], .agg #[.int .i64 m.bal, .string m.txt]] W fun e w' => e = .returned (.bool true) ∧ Below W.heap.size W w') := fun W _ => eqRs m W
      clear hm
      go_wp2_with fail
      go_region_with (go_at_call 100; refine (HX.out _ ?_).mono ?_; (repeat (first | exact Below.refl _ _ | refine Below.drew ?_)); rintro e w2 ⟨rfl, hb2⟩)
      all_goals
        go_wp2
        go_roundw
        case rel =>
          refine ⟨k + 1, by omega, by go_num, ?_⟩
          repeat (first | exact blw_trans hW hb2 | exact blw_trans hW.drew hb2 | exact blw_trans hW.drew.drew hb2 | refine Below.drew ?_)
        case measure => simp [intOf]; omega
    · go_wp2
      go_ret
      exact ⟨rfl, hW⟩

set_option maxHeartbeats 1000000 in
theorem szRs (m : Rs) (left : Int) (w : World) (h0 : 0 ≤ left) (h1 : left ≤ 1048576) (hs : m.sized) :
    Calls Try.prog 93 #[.agg #[.int .i64 m.bal, .string m.txt], .int .i64 left] w fun e w' => (∃ r : Int, e = .returned (.int .i64 r) ∧ -1 ≤ r ∧ r ≤ left) ∧ Below w.heap.size w w' := by
  have s0 : m.txt.size ≤ maxLen := hs
  unfold maxLen at s0
  by_cases c0 : left < (m.txt.size : Int)
  all_goals
    go_enter Try.func93, Try.ntmps93
    go_wp2
    go_ret
    exact ⟨⟨_, rfl, by omega, by omega⟩, blw_alloc (Below.refl _ _) _⟩

set_option maxHeartbeats 1000000 in
theorem szRss_row (b off cap : Nat) (ms : List Rs) (left : Int) (w : World) (h0 : 0 ≤ left) (h1 : left ≤ 1048576) (hb : b < w.heap.size) (hl : ms.length ≤ maxLen)
    (hc : ∀ i, i < ms.length → RsIs w b (off + i * 2) (ms.getD i Rs.none)) :
    Calls Try.prog 74 #[.slice (some ⟨b, off, none⟩) ms.length cap, .int .i64 left] w fun e w' => (∃ r : Int, e = .returned (.int .i64 r) ∧ szP ((ms.length : Int) ≤ left) left r) ∧ Below w.heap.size w w' := by
  unfold maxLen at hl
  by_cases hneg : left < (ms.length : Int)
  · go_enter Try.func74, Try.ntmps74
    go_wp2
    go_ret
    exact ⟨⟨_, rfl, by unfold szP; refine ⟨by omega, by omega, by omega⟩⟩, Below.refl _ _⟩
  · go_enter Try.func74, Try.ntmps74
    go_wp2
    go_loopw [1, 5] (fun l i wr => ∃ (k : Nat) (r : Int), k ≤ ms.length ∧ i = .int .i64 k ∧ l = .int .i64 r ∧ 0 ≤ r ∧ r ≤ left ∧ Below w.heap.size w wr) (fun _ i _ => ms.length - (intOf i).toNat)
    case atStart => exact ⟨0, _, Nat.zero_le _, rfl, rfl, by omega, by omega, Below.refl _ _⟩
    case round =>
      obtain ⟨k, r, hk, rfl, rfl, r0, r1, hB⟩ := hrel
      by_cases hlt : k < ms.length
      · have hf := (hc k hlt).later hB hb
        obtain ⟨m, hm⟩ : ∃ m, m = ms.getD k Rs.none := ⟨_, rfl⟩
        rw [← hm] at hf
        have HX : Hid (Calls Try.prog 93 #[.agg #[.int .i64 m.bal, .string m.txt], .int .i64 r] wr fun e w' => (∃ r' : Int, e = .returned (.int .i64 r') ∧ -1 ≤ r' ∧ r' ≤ r) ∧ Below wr.heap.size wr w') :=
          szRs m r wr r0 (by omega) hf.sized
        obtain ⟨c0, c1, _⟩ := hf
        clear hm hc
        go_wp2_with fail
        refine HX.out.mono ?_
        rintro e w2 ⟨⟨r', rfl, q1, q2⟩, hb2⟩
        have hB2 := blw_trans hB hb2
        clear hb2 c0 c1 HX
        by_cases c2 : r' < 0
        · go_wp2
          go_ret
          exact ⟨⟨_, rfl, by unfold szP; refine ⟨by omega, by omega, by omega⟩⟩, hB2⟩
        · go_wp2
          go_roundw
          case rel => exact ⟨k + 1, _, by omega, by go_num, rfl, by omega, by omega, hB2⟩
          case measure => simp [intOf]; omega
      · go_wp2
        go_ret
        exact ⟨⟨_, rfl, by unfold szP; exact ⟨by omega, by omega, fun _ => by omega⟩⟩, hB⟩

set_option maxHeartbeats 400000 in
theorem szRss_nil (a : Option Addr) (cap : Nat) (left : Int) (w : World) (h0 : 0 ≤ left) (h1 : left ≤ 1048576) :
    Calls Try.prog 74 #[.slice a 0 cap, .int .i64 left] w fun e w' => e = .returned (.int .i64 left) ∧ w = w' := by
  go_enter Try.func74, Try.ntmps74
  go_wp2
  refine wp_loop_rounds 1 ?_
  rw [rounds_succ]
  go_wp2
  go_ret
  exact ⟨Pl.ret_int (by omega), rfl⟩

theorem szRss (v : Value) (ms : List Rs) (left : Int) (w : World) (h0 : 0 ≤ left) (h1 : left ≤ 1048576) (h : RssAt w v ms) :
    Calls Try.prog 74 #[v, .int .i64 left] w fun e w' => (∃ r : Int, e = .returned (.int .i64 r) ∧ szP ((ms.length : Int) ≤ left) left r) ∧ Below w.heap.size w w' := by
  rcases h with ⟨a, cap, rfl, rfl⟩ | ⟨b, off, cap, rfl, hb, hl, hc⟩
  · refine (szRss_nil a cap left w h0 h1).mono ?_
    rintro e w' ⟨rfl, rfl⟩
    exact ⟨⟨_, rfl, by unfold szP; exact ⟨by omega, by omega, fun _ => by simpa using h0⟩⟩, Below.refl _ _⟩
  · exact szRss_row b off cap ms left w h0 h1 hb hl hc




end Go.Proofs.Ytcefgacmagobnaa
