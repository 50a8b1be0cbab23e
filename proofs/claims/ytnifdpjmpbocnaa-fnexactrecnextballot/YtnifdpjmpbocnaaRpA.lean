/-
  Recorders: comparing, bounds, slots: the program's.
-/
import Derived.StillTailTactics
import Derived.WalkSpells
import Derived.WalkLawsBesides
import Derived.Deep.DeepCutAuto
import Derived.Test.YtnifdpjmpbocnaaClr
namespace Go.Proofs.Ytnifdpjmpbocnaa
open Go.RowKit Go.Deep

def numCmp (a b : Int) : Int := if a < b then -1 else if b < a then 1 else 0

set_option maxHeartbeats 400000 in
theorem isNaNi (a : Int) (w : World) : Calls Try.prog 102 #[.int .i64 a] w fun e w' => e = .returned (.bool false) ∧ w = w' := by
  go_enter Try.func102, Try.ntmps102
  go_wp2
  go_ret
  exact ⟨Pl.ret_bool (by simp), rfl⟩

set_option maxHeartbeats 1000000 in
theorem cmpI (a b : Int) (w : World) : Calls Try.prog 101 #[.int .i64 a, .int .i64 b] w fun e w' => e = .returned (.int .i64 (numCmp a b)) ∧ w = w' := by
  obtain ⟨R, hR⟩ : ∃ R, R = numCmp a b := ⟨_, rfl⟩
  have HR : Hid (R = numCmp a b) := hR
  rw [← hR]
  clear hR
  go_enter Try.func101, Try.ntmps101
  by_cases h1 : a < b
  · have HE : Hid (R = -1) := by show R = _; rw [HR.out]; unfold numCmp; rw [if_pos h1]
    go_wp2_with (go_at_call 102; refine (isNaNi _ _).mono ?_; rintro e w' ⟨rfl, rfl⟩)
    go_ret
    exact ⟨Pl.ret_int HE.out.symm, rfl⟩
  · by_cases h2 : b < a
    · have HE : Hid (R = 1) := by show R = _; rw [HR.out]; unfold numCmp; rw [if_neg h1, if_pos h2]
      go_wp2_with (go_at_call 102; refine (isNaNi _ _).mono ?_; rintro e w' ⟨rfl, rfl⟩)
      go_ret
      exact ⟨Pl.ret_int HE.out.symm, rfl⟩
    · have HE : Hid (R = 0) := by show R = _; rw [HR.out]; unfold numCmp; rw [if_neg h1, if_neg h2]
      go_wp2_with (go_at_call 102; refine (isNaNi _ _).mono ?_; rintro e w' ⟨rfl, rfl⟩)
      go_ret
      exact ⟨Pl.ret_int HE.out.symm, rfl⟩

theorem wrapI (n : Int) (h0 : 0 ≤ n) (h1 : n ≤ 9223372036854775807) : IntKind.i64.wrap n = n := by
  simp [IntKind.wrap, IntKind.bits, IntKind.signed]; omega

set_option maxHeartbeats 1000000 in
theorem withinI (x lo hi : Int) (w : World) : Calls Try.prog 15 #[.int .i64 x, .int .i64 lo, .int .i64 hi] w fun e w' => e = .returned (.bool (inB x lo hi)) ∧ w = w' := by
  obtain ⟨R, hR⟩ : ∃ R, R = inB x lo hi := ⟨_, rfl⟩
  have HR : Hid (R = inB x lo hi) := hR
  rw [← hR]
  clear hR
  go_enter Try.func15, Try.ntmps15
  by_cases h1 : lo ≤ x
  · by_cases h2 : x ≤ hi
    · have HE : Hid (R = true) := by show R = _; rw [HR.out]; simp [inB, h1, h2]
      go_wp2
      go_ret
      exact ⟨Pl.ret_bool HE.out.symm, rfl⟩
    · have HE : Hid (R = false) := by show R = _; rw [HR.out]; simp [inB, h2]
      go_wp2
      go_ret
      exact ⟨Pl.ret_bool HE.out.symm, rfl⟩
  · have HE : Hid (R = false) := by show R = _; rw [HR.out]; simp [inB, h1]
    go_wp2
    go_ret
    exact ⟨Pl.ret_bool HE.out.symm, rfl⟩

/-- A region that draws its order: a head that leaves the world, then a tail that is forced. -/
theorem region_tail {P : Program} {id : Nat} {Q : Exit → Act → World → Prop} {a : Act} {w : World} {l : List Oper} (n : Nat) (hm : P.follows .mixedOrders = true) (hB : Region.lexTailB .any l.toArray n = true)
    (h : ∀ W, W = w.drew → wpStill P l.toArray W (fun a' => wpList P l.toArray Q (l.drop n) a' W) (l.take n) a) : (Code.region id l.toArray true).wp P Q a w :=
  wp_region_still_tail n hm hB (h _ rfl)

theorem allTo_step {p : Nat → Bool} {k : Nat} (h : allTo p k = true) (hp : p k = true) : allTo p (k + 1) = true := by rw [allTo, h, hp]; rfl

set_option maxHeartbeats 400000 in
theorem isEmptyI (m : Rs) (w : World) :
    Calls Try.prog 87 #[.agg #[.int .i64 m.bal, .string m.txt]] w fun e w' => e = .returned (.bool (m.bal == 0)) ∧ Below w.heap.size w w' := by
  go_enter Try.func87, Try.ntmps87
  go_wp2
  go_ret
  exact ⟨Pl.ret_bool rfl, blw_alloc (Below.refl _ _) _⟩

/-- A slot that is ok, under no ballot above m. -/
def slotM (m : Int) (s : Rs) : Bool := inB s.bal 0 m && decide (s.txt.size ≤ 160) && !((s.bal == 0) && !s.txt.toList.isEmpty)
def slotsM (l : List Rs) (m : Int) : Bool := decide (l.length ≤ 120) && allTo (fun i => slotM m (l.getD i Rs.none)) l.length

set_option maxRecDepth 8000 in
set_option maxHeartbeats 8000000 in
theorem slotsOkI (l : List Rs) (a : Option Addr) (c : Nat) (m : Int) (w : World) (h : RssV w a l) :
    Calls Try.prog 72 #[.slice a l.length c, .int .i64 m] w fun e w' => e = .returned (.bool (slotsM l m)) ∧ Below w.heap.size w w' := by
  have HH := hid h
  have hl := h.len
  unfold maxLen at hl
  clear h
  obtain ⟨R, hR⟩ : ∃ R, R = slotsM l m := ⟨_, rfl⟩
  have HR : Hid (R = (decide (l.length ≤ 120) && allTo (fun i => slotM m (l.getD i Rs.none)) l.length)) := hR
  rw [← hR]
  clear hR
  by_cases h1 : l.length ≤ 120
  · have HS : Hid (R = allTo (fun i => slotM m (l.getD i Rs.none)) l.length) := by show R = _; rw [HR.out, decide_eq_true h1]; rfl
    have h1i : ¬ ((120 : Int) < (l.length : Int)) := by omega
    clear HR
    go_enter Try.func72, Try.ntmps72
    go_wp2
    go_loopw [12] (fun i wr => ∃ q : Nat, q ≤ l.length ∧ i = .int .i64 q ∧ allTo (fun i => slotM m (l.getD i Rs.none)) q = true ∧ Below w.heap.size w wr) (fun i _ => l.length - (intOf i).toNat)
    case atStart => exact ⟨0, Nat.zero_le _, rfl, rfl, Below.refl _ _⟩
    case round =>
      obtain ⟨q, hq, rfl, ha, hW⟩ := hrel
      have HQ := hid ha
      have HW := hid hW
      clear ha hW
      by_cases hlt : q < l.length
      · obtain ⟨b, off, ha, hbl, hf⟩ := (HH.out.later HW.out).at_ q hlt
        subst ha
        obtain ⟨x, hx⟩ : ∃ x, x = l.getD q Rs.none := ⟨_, rfl⟩
        rw [← hx] at hf
        obtain ⟨f0, f1, fs⟩ := hf
        have HPQ : Hid (slotM m (l.getD q Rs.none) = (inB x.bal 0 m && decide (x.txt.size ≤ 160) && !((x.bal == 0) && !x.txt.toList.isEmpty))) := by show _ = _; rw [← hx]; rfl
        clear hx
        have hm0 : (0 : Int) ≤ (q : Int) := by omega
        have hm3 : (q : Int) < (l.length : Int) := by omega
        have hsz : x.txt.size ≤ maxLen := fs
        unfold maxLen at hsz
        obtain ⟨w2, hw2⟩ : ∃ w2, w2 = wr.alloc (.cells #[.int .i64 x.bal, .string x.txt] 98) := ⟨_, rfl⟩
        have HW2 : Hid (Below wr.heap.size wr w2) := by show Below _ _ _; rw [hw2]; exact blw_alloc (Below.refl _ _) _
        have z0 : w2.cell? ⟨wr.heap.size, 0, none⟩ = some (.int .i64 x.bal) := by rw [hw2]; exact World.cell?_alloc_at _ _ _ _ rfl
        have z1 : w2.cell? ⟨wr.heap.size, 1, none⟩ = some (.string x.txt) := by rw [hw2]; exact World.cell?_alloc_at _ _ _ _ rfl
        have zz : wr.heap.size < w2.heap.size := by rw [hw2]; simp
        go_upto_region 6 with fail
        rw [← hw2]
        clear hw2 f0 f1 hbl
        have HB2 := hid (blw_trans HW.out HW2.out)
        cases hin : inB x.bal 0 m
        · have HF : Hid (R = false) := by show R = false; rw [HS.out]; exact allTo_false (k := q) (by rw [HPQ.out, hin]; rfl) _ hlt
          go_wp2_with (go_at_call 15; refine (withinI _ _ _ _).mono ?_; rintro e w' ⟨rfl, rfl⟩)
          go_ret
          exact ⟨Pl.ret_bool HF.out.symm, HB2.out⟩
        by_cases hs : x.txt.size ≤ 160
        · have hsi : ¬ ((160 : Int) < (x.txt.size : Int)) := by omega
          go_wp2_with (go_at_call 15; refine (withinI _ _ _ _).mono ?_; rintro e w' ⟨rfl, rfl⟩)
          refine (isEmptyI x _).mono ?_
          rintro e w3 ⟨rfl, hb3⟩
          have z1' := (hb3.cell (p := ⟨wr.heap.size, 1, none⟩) zz).trans z1
          have zz' := Nat.lt_of_lt_of_le zz hb3.size
          have HB3 := hid (blw_trans HB2.out hb3)
          clear z0 z1 zz hb3
          cases hz : (x.bal == 0)
          · have HT : Hid (slotM m (l.getD q Rs.none) = true) := by show _ = true; rw [HPQ.out, hin, decide_eq_true hs, hz]; rfl
            go_wp2
            go_roundw
            case rel => exact ⟨q + 1, by omega, by go_num, allTo_step HQ.out HT.out, HB3.out⟩
            case measure => simp [intOf]; omega
          · by_cases he : x.txt.toList = []
            · have HT : Hid (slotM m (l.getD q Rs.none) = true) := by show _ = true; rw [HPQ.out, hin, decide_eq_true hs, hz, he]; rfl
              go_wp2
              go_roundw
              case rel => exact ⟨q + 1, by omega, by go_num, allTo_step HQ.out HT.out, HB3.out⟩
              case measure => simp [intOf]; omega
            · have HF : Hid (R = false) := by show R = false; rw [HS.out]; exact allTo_false (k := q) (by rw [HPQ.out, hin, decide_eq_true hs, hz, show x.txt.toList.isEmpty = false by cases e : x.txt.toList with | nil => exact absurd e he | cons _ _ => rfl]; rfl) _ hlt
              have he2 : (x.txt.toList == []) = false := by simpa using he
              go_wp2
              go_ret
              exact ⟨Pl.ret_bool HF.out.symm, HB3.out⟩
        · have hsi : (160 : Int) < (x.txt.size : Int) := by omega
          have HF : Hid (R = false) := by show R = false; rw [HS.out]; exact allTo_false (k := q) (by rw [HPQ.out, hin, decide_eq_false hs]; rfl) _ hlt
          clear hs
          go_wp2_with (go_at_call 15; refine (withinI _ _ _ _).mono ?_; rintro e w' ⟨rfl, rfl⟩)
          go_ret
          exact ⟨Pl.ret_bool HF.out.symm, HB2.out⟩
      · obtain rfl : q = l.length := by omega
        go_wp2
        go_ret
        exact ⟨Pl.ret_bool (by rw [HS.out, HQ.out]), HW.out⟩
  · have h1i : (120 : Int) < (l.length : Int) := by omega
    have HE : Hid (R = false) := by show R = _; rw [HR.out, decide_eq_false h1]; rfl
    go_enter Try.func72, Try.ntmps72
    go_wp2
    go_ret
    exact ⟨Pl.ret_bool HE.out.symm, Below.refl _ _⟩

end Go.Proofs.Ytnifdpjmpbocnaa
