/-
  RecMessageOk by the program.
-/
import Derived.StillTailTactics
import Derived.WalkSpells
import Derived.WalkLawsBesides
import Derived.Deep.DeepCutAuto
import Derived.Test.YtcefgacmagobnaaRcB
namespace Go.Proofs.Ytcefgacmagobnaa
open Go.RowKit Go.Deep

def numCmp (a b : Int) : Int := if a < b then -1 else if b < a then 1 else 0

set_option maxHeartbeats 400000 in
theorem isNaNi (a : Int) (w : World) : Calls Try.prog 102 #[.int .i64 a] w fun e w' => e = .returned (.bool false) ∧ w = w' := by
  go_enter Try.func102, Try.ntmps102
  go_wp2
  go_ret
  exact ⟨Pl.ret_bool (by simp), rfl⟩

set_option maxHeartbeats 1000000 in
theorem cmpI (a b : Int) (w : World) : Calls Try.prog 99 #[.int .i64 a, .int .i64 b] w fun e w' => e = .returned (.int .i64 (numCmp a b)) ∧ w = w' := by
  obtain ⟨R, hR⟩ : ∃ R, R = numCmp a b := ⟨_, rfl⟩
  have HR : Hid (R = numCmp a b) := hR
  rw [← hR]
  clear hR
  go_enter Try.func99, Try.ntmps99
  by_cases h1 : a < b
  · have HE : Hid (R = -1) := by show R = _; rw [HR.out]; unfold numCmp; rw [if_pos h1]
    go_wp2_with (go_at_call 102; refine (isNaNi _ _).mono ?_; rintro e w' ⟨rfl, rfl⟩)
    go_ret
    exact ⟨Pl.ret_int HE.out.symm, rfl⟩
  · by_cases h2 : b < a
    · have HE : Hid (R = 1) := by show R = _; rw [HR.out]; unfold numCmp; rw [if_neg h1, if_pos h2]
      go_wp2_with (go_at_call 102; refine (isNaNi _ _).mono ?_; rintro e w' ⟨rfl, rfl⟩)
      go_ret
      exact ⟨Pl.ret_int HE.out.symm, rfl⟩
    · have HE : Hid (R = 0) := by show R = _; rw [HR.out]; unfold numCmp; rw [if_neg h1, if_neg h2]
      go_wp2_with (go_at_call 102; refine (isNaNi _ _).mono ?_; rintro e w' ⟨rfl, rfl⟩)
      go_ret
      exact ⟨Pl.ret_int HE.out.symm, rfl⟩

theorem wrapI (n : Int) (h0 : 0 ≤ n) (h1 : n ≤ 9223372036854775807) : IntKind.i64.wrap n = n := by
  simp [IntKind.wrap, IntKind.bits, IntKind.signed]; omega

set_option maxHeartbeats 1000000 in
theorem withinI (x lo hi : Int) (w : World) : Calls Try.prog 24 #[.int .i64 x, .int .i64 lo, .int .i64 hi] w fun e w' => e = .returned (.bool (inB x lo hi)) ∧ w = w' := by
  obtain ⟨R, hR⟩ : ∃ R, R = inB x lo hi := ⟨_, rfl⟩
  have HR : Hid (R = inB x lo hi) := hR
  rw [← hR]
  clear hR
  go_enter Try.func24, Try.ntmps24
  by_cases h1 : lo ≤ x
  · by_cases h2 : x ≤ hi
    · have HE : Hid (R = true) := by show R = _; rw [HR.out]; simp [inB, h1, h2]
      go_wp2
      go_ret
      exact ⟨Pl.ret_bool HE.out.symm, rfl⟩
    · have HE : Hid (R = false) := by show R = _; rw [HR.out]; simp [inB, h2]
      go_wp2
      go_ret
      exact ⟨Pl.ret_bool HE.out.symm, rfl⟩
  · have HE : Hid (R = false) := by show R = _; rw [HR.out]; simp [inB, h1]
    go_wp2
    go_ret
    exact ⟨Pl.ret_bool HE.out.symm, rfl⟩

/-- A region that draws its order: a head that leaves the world, then a tail that is forced. -/
theorem region_tail {P : Program} {id : Nat} {Q : Exit → Act → World → Prop} {a : Act} {w : World} {l : List Oper} (n : Nat) (hm : P.follows .mixedOrders = true) (hB : Region.lexTailB .any l.toArray n = true)
    (h : ∀ W, W = w.drew → wpStill P l.toArray W (fun a' => wpList P l.toArray Q (l.drop n) a' W) (l.take n) a) : (Code.region id l.toArray true).wp P Q a w :=
  wp_region_still_tail n hm hB (h _ rfl)

theorem allTo_step {p : Nat → Bool} {k : Nat} (h : allTo p k = true) (hp : p k = true) : allTo p (k + 1) = true := by rw [allTo, h, hp]; rfl

set_option maxHeartbeats 400000 in
theorem isEmptyI (m : Rs) (w : World) :
    Calls Try.prog 67 #[.agg #[.int .i64 m.bal, .string m.txt]] w fun e w' => e = .returned (.bool (m.bal == 0)) ∧ Below w.heap.size w w' := by
  go_enter Try.func67, Try.ntmps67
  go_wp2
  go_ret
  exact ⟨Pl.ret_bool rfl, blw_alloc (Below.refl _ _) _⟩

/-- A slot that is ok, under no ballot above m. -/
def slotM (m : Int) (s : Rs) : Bool := inB s.bal 0 m && decide (s.txt.size ≤ 160) && !((s.bal == 0) && !s.txt.toList.isEmpty)
def slotsM (l : List Rs) (m : Int) : Bool := decide (l.length ≤ 120) && allTo (fun i => slotM m (l.getD i Rs.none)) l.length

set_option maxRecDepth 8000 in
set_option maxHeartbeats 8000000 in
theorem slotsOkI (l : List Rs) (a : Option Addr) (c : Nat) (m : Int) (w : World) (h : RssV w a l) :
    Calls Try.prog 57 #[.slice a l.length c, .int .i64 m] w fun e w' => e = .returned (.bool (slotsM l m)) ∧ Below w.heap.size w w' := by
  have HH := hid h
  have hl := h.len
  unfold maxLen at hl
  clear h
  obtain ⟨R, hR⟩ : ∃ R, R = slotsM l m := ⟨_, rfl⟩
  have HR : Hid (R = (decide (l.length ≤ 120) && allTo (fun i => slotM m (l.getD i Rs.none)) l.length)) := hR
  rw [← hR]
  clear hR
  by_cases h1 : l.length ≤ 120
  · have HS : Hid (R = allTo (fun i => slotM m (l.getD i Rs.none)) l.length) := by show R = _; rw [HR.out, decide_eq_true h1]; rfl
    have h1i : ¬ ((120 : Int) < (l.length : Int)) := by omega
    clear HR
    go_enter Try.func57, Try.ntmps57
    go_wp2
    go_loopw [12] (fun i wr => ∃ q : Nat, q ≤ l.length ∧ i = .int .i64 q ∧ allTo (fun i => slotM m (l.getD i Rs.none)) q = true ∧ Below w.heap.size w wr) (fun i _ => l.length - (intOf i).toNat)
    case atStart => exact ⟨0, Nat.zero_le _, rfl, rfl, Below.refl _ _⟩
    case round =>
      obtain ⟨q, hq, rfl, ha, hW⟩ := hrel
      have HQ := hid ha
      have HW := hid hW
      clear ha hW
      by_cases hlt : q < l.length
      · obtain ⟨b, off, ha, hbl, hf⟩ := (HH.out.later HW.out).at_ q hlt
        subst ha
        obtain ⟨x, hx⟩ : ∃ x, x = l.getD q Rs.none := ⟨_, rfl⟩
        rw [← hx] at hf
        obtain ⟨f0, f1, fs⟩ := hf
        have HPQ : Hid (slotM m (l.getD q Rs.none) = (inB x.bal 0 m && decide (x.txt.size ≤ 160) && !((x.bal == 0) && !x.txt.toList.isEmpty))) := by show _ = _; rw [← hx]; rfl
        clear hx
        have hm0 : (0 : Int) ≤ (q : Int) := by omega
        have hm3 : (q : Int) < (l.length : Int) := by omega
        have hsz : x.txt.size ≤ maxLen := fs
        unfold maxLen at hsz
        obtain ⟨w2, hw2⟩ : ∃ w2, w2 = wr.alloc (.cells #[.int .i64 x.bal, .string x.txt] 110) := ⟨_, rfl⟩
        have HW2 : Hid (Below wr.heap.size wr w2) := by show Below _ _ _; rw [hw2]; exact blw_alloc (Below.refl _ _) _
        have z0 : w2.cell? ⟨wr.heap.size, 0, none⟩ = some (.int .i64 x.bal) := by rw [hw2]; exact World.cell?_alloc_at _ _ _ _ rfl
        have z1 : w2.cell? ⟨wr.heap.size, 1, none⟩ = some (.string x.txt) := by rw [hw2]; exact World.cell?_alloc_at _ _ _ _ rfl
        have zz : wr.heap.size < w2.heap.size := by rw [hw2]; simp
        go_upto_region 6 with fail
        rw [← hw2]
        clear hw2 f0 f1 hbl
        have HB2 := hid (blw_trans HW.out HW2.out)
        cases hin : inB x.bal 0 m
        · have HF : Hid (R = false) := by show R = false; rw [HS.out]; exact allTo_false (k := q) (by rw [HPQ.out, hin]; rfl) _ hlt
          go_wp2_with (go_at_call 24; refine (withinI _ _ _ _).mono ?_; rintro e w' ⟨rfl, rfl⟩)
          go_ret
          exact ⟨Pl.ret_bool HF.out.symm, HB2.out⟩
        by_cases hs : x.txt.size ≤ 160
        · have hsi : ¬ ((160 : Int) < (x.txt.size : Int)) := by omega
          go_wp2_with (go_at_call 24; refine (withinI _ _ _ _).mono ?_; rintro e w' ⟨rfl, rfl⟩)
          refine (isEmptyI x _).mono ?_
          rintro e w3 ⟨rfl, hb3⟩
          have z1' := (hb3.cell (p := ⟨wr.heap.size, 1, none⟩) zz).trans z1
          have zz' := Nat.lt_of_lt_of_le zz hb3.size
          have HB3 := hid (blw_trans HB2.out hb3)
          clear z0 z1 zz hb3
          cases hz : (x.bal == 0)
          · have HT : Hid (slotM m (l.getD q Rs.none) = true) := by show _ = true; rw [HPQ.out, hin, decide_eq_true hs, hz]; rfl
            go_wp2
            go_roundw
            case rel => exact ⟨q + 1, by omega, by go_num, allTo_step HQ.out HT.out, HB3.out⟩
            case measure => simp [intOf]; omega
          · by_cases he : x.txt.toList = []
            · have HT : Hid (slotM m (l.getD q Rs.none) = true) := by show _ = true; rw [HPQ.out, hin, decide_eq_true hs, hz, he]; rfl
              go_wp2
              go_roundw
              case rel => exact ⟨q + 1, by omega, by go_num, allTo_step HQ.out HT.out, HB3.out⟩
              case measure => simp [intOf]; omega
            · have HF : Hid (R = false) := by show R = false; rw [HS.out]; exact allTo_false (k := q) (by rw [HPQ.out, hin, decide_eq_true hs, hz, show x.txt.toList.isEmpty = false by cases e : x.txt.toList with | nil => exact absurd e he | cons _ _ => rfl]; rfl) _ hlt
              have he2 : (x.txt.toList == []) = false := by simpa using he
              go_wp2
              go_ret
              exact ⟨Pl.ret_bool HF.out.symm, HB3.out⟩
        · have hsi : (160 : Int) < (x.txt.size : Int) := by omega
          have HF : Hid (R = false) := by show R = false; rw [HS.out]; exact allTo_false (k := q) (by rw [HPQ.out, hin, decide_eq_false hs]; rfl) _ hlt
          clear hs
          go_wp2_with (go_at_call 24; refine (withinI _ _ _ _).mono ?_; rintro e w' ⟨rfl, rfl⟩)
          go_ret
          exact ⟨Pl.ret_bool HF.out.symm, HB2.out⟩
      · obtain rfl : q = l.length := by omega
        go_wp2
        go_ret
        exact ⟨Pl.ret_bool (by rw [HS.out, HQ.out]), HW.out⟩
  · have h1i : (120 : Int) < (l.length : Int) := by omega
    have HE : Hid (R = false) := by show R = _; rw [HR.out, decide_eq_false h1]; rfl
    go_enter Try.func57, Try.ntmps57
    go_wp2
    go_ret
    exact ⟨Pl.ret_bool HE.out.symm, Below.refl _ _⟩

end Go.Proofs.Ytcefgacmagobnaa

namespace Go.Proofs.Ytcefgacmagobnaa
open Go.RowKit Go.Deep

theorem RssV.take {w : World} {a : Option Addr} {l : List Rs} (h : RssV w a l) (k : Nat) (hk : k ≤ l.length) : RssV w a (l.take k) :=
  ⟨by have := h.len; rw [List.length_take]; omega, fun i hi => by
    rw [List.length_take] at hi
    obtain ⟨b, off, e, hl, hf⟩ := h.at_ i (by omega)
    refine ⟨b, off, e, hl, ?_⟩
    have : (l.take k).getD i Rs.none = l.getD i Rs.none := by
      rw [List.getD_eq_getElem?_getD, List.getElem?_take_of_lt (by omega), ← List.getD_eq_getElem?_getD]
    rw [this]; exact hf⟩

set_option maxRecDepth 8000 in
set_option maxHeartbeats 8000000 in
theorem idxFnRs (l : List Rs) (a : Option Addr) (c : Nat) (w : World) (hC : RssV w a l) :
    Calls Try.prog 97 #[.slice a l.length c, .func (.func 67) #[] #[]] w fun e w' => e = .returned (.int .i64 (firstTo (fun i => (l.getD i Rs.none).bal == 0) l.length)) ∧ Below w.heap.size w w' := by
  have HL := hid hC
  have hl := hC.len
  unfold maxLen at hl
  clear hC
  go_enter Try.func97, Try.ntmps97
  go_wp2
  go_loopw [8] (fun i wr => ∃ k : Nat, k ≤ l.length ∧ i = .int .i64 k ∧ (∀ j, j < k → ((l.getD j Rs.none).bal == 0) = false) ∧ Below w.heap.size w wr) (fun i _ => l.length - (intOf i).toNat)
  case atStart => exact ⟨0, Nat.zero_le _, rfl, fun j hj => absurd hj (Nat.not_lt_zero j), Below.refl _ _⟩
  case round =>
    obtain ⟨k, hk, rfl, hall, hW⟩ := hrel
    have HA := hid hall
    have HW := hid hW
    clear hall hW
    by_cases hlt : k < l.length
    · obtain ⟨b1, off1, ha1, hbl1, hf1⟩ := (HL.out.later HW.out).at_ k hlt
      subst ha1
      obtain ⟨x, hx⟩ : ∃ x, x = l.getD k Rs.none := ⟨_, rfl⟩
      rw [← hx] at hf1
      have HXE := hid hx
      clear hx
      obtain ⟨e0, e1, _⟩ := hf1
      have hm0 : (0 : Int) ≤ (k : Int) := by omega
      have hm3 : (k : Int) < (l.length : Int) := by omega
      go_wp2_with fail
      refine (isEmptyI x wr).mono ?_
      rintro e w1 ⟨rfl, hb⟩
      have HW1 := hid (blw_trans HW.out hb)
      clear e0 e1 hb HW hbl1
      cases hd : (x.bal == 0)
      · have HN : Hid (∀ j, j < k + 1 → ((l.getD j Rs.none).bal == 0) = false) := fun j hj => by
          by_cases e : j = k
          · subst e; rw [← HXE.out]; exact hd
          · exact HA.out j (by omega)
        go_wp2
        go_roundw
        case rel => exact ⟨k + 1, by omega, by go_num, HN.out, HW1.out⟩
        case measure => simp [intOf]; omega
      · have HN : Hid (firstTo (fun i => (l.getD i Rs.none).bal == 0) l.length = k) := firstTo_hit hlt (by rw [← HXE.out]; exact hd) HA.out
        go_wp2
        go_ret
        exact ⟨by rw [HN.out]; rfl, HW1.out⟩
    · obtain rfl : k = l.length := by omega
      have HN : Hid (firstTo (fun i => (l.getD i Rs.none).bal == 0) l.length = -1) := firstTo_none HA.out
      go_wp2
      go_ret
      exact ⟨by rw [HN.out]; rfl, HW.out⟩

/-- Whether there is an empty one among them. -/
def someEmp (l : List Rs) : Bool := decide (0 ≤ firstTo (fun i => (l.getD i Rs.none).bal == 0) l.length)

set_option maxHeartbeats 4000000 in
theorem containsRs (l : List Rs) (a : Option Addr) (c : Nat) (w : World) (h : RssV w a l) :
    Calls Try.prog 81 #[.slice a l.length c, .func (.func 67) #[] #[]] w fun e w' => e = .returned (.bool (someEmp l)) ∧ Below w.heap.size w w' := by
  have HH := hid (idxFnRs l a c w h)
  clear h
  unfold someEmp
  obtain ⟨x, hx⟩ : ∃ x, x = firstTo (fun i => (l.getD i Rs.none).bal == 0) l.length := ⟨_, rfl⟩
  rw [← hx] at HH ⊢
  clear hx
  go_enter Try.func81, Try.ntmps81
  go_wp2_with fail
  refine HH.out.mono ?_
  rintro e w2 ⟨rfl, hb⟩
  go_wp2
  go_ret
  exact ⟨rfl, hb⟩

theorem slotM_eq (s : Rs) : slotM 1000000 s = slotOk s := by
  unfold slotM slotOk
  congr 2
theorem slotsM_eq (l : List Rs) : slotsM l 1000000 = slotsOk l := by
  unfold slotsM slotsOk
  rw [allTo_congr (q := fun i => slotOk (l.getD i Rs.none)) fun i _ => slotM_eq _]

theorem someEmp_iff (l : List Rs) : someEmp l = true ↔ ∃ i, i < l.length ∧ (l.getD i Rs.none).bal = 0 := by
  unfold someEmp
  rcases firstTo_cases (fun i => (l.getD i Rs.none).bal == 0) l.length with ⟨h, hn⟩ | ⟨k, hk, h, hp, hn⟩
  · rw [h]
    constructor
    · intro q; simp at q
    · rintro ⟨i, hi, he⟩
      have := hn i hi
      rw [he] at this
      cases this
  · rw [h]
    constructor
    · intro _; exact ⟨k, hk, by simpa using hp⟩
    · intro _; simp

theorem diskOk_eq (K : Rd) : (inB K.prom 0 1000000 && slotsM K.slots K.prom && inB K.known 0 K.slots.length && !someEmp (K.slots.take K.known.toNat)) = diskOk K := by
  unfold diskOk
  rw [Bool.eq_iff_iff]
  simp only [Bool.and_eq_true, Bool.not_eq_true', slotsM, slotsOk, decide_eq_true_eq, allTo_iff]
  unfold inB slotM slotOk dslot
  constructor
  · rintro ⟨⟨⟨hp, hl, hs⟩, hk⟩, he⟩
    simp only [Bool.and_eq_true, decide_eq_true_eq] at hp hk
    refine ⟨⟨⟨by simp [hp], hl, fun i hi => ?_⟩, by simp [hk]⟩, fun i hi => ?_⟩
    · have := hs i hi
      unfold inB at this ⊢
      simp only [Bool.and_eq_true, decide_eq_true_eq] at this ⊢
      refine ⟨⟨⟨this.1.1.1, by omega⟩, this.1.2⟩, ?_⟩
      have q := this.2
      rw [← q]; rfl
    · have := hs i hi
      unfold inB at this
      simp only [Bool.and_eq_true, decide_eq_true_eq] at this ⊢
      refine ⟨this.1.1.2, ?_⟩
      rw [Bool.not_eq_true', Bool.and_eq_false_iff]
      by_cases q : (i : Int) < K.known
      · right
        rw [decide_eq_false_iff_not]
        intro z
        have e : someEmp (K.slots.take K.known.toNat) = true := (someEmp_iff _).2 ⟨i, by rw [List.length_take]; omega, by rw [List.getD_eq_getElem?_getD, List.getElem?_take_of_lt (by omega), ← List.getD_eq_getElem?_getD]; exact z⟩
        rw [e] at he; cases he
      · left; rw [decide_eq_false_iff_not]; exact q
  · rintro ⟨⟨⟨hp, hl, hs⟩, hk⟩, hd⟩
    simp only [Bool.and_eq_true, decide_eq_true_eq] at hp hk
    refine ⟨⟨⟨by simp [hp], hl, fun i hi => ?_⟩, by simp [hk]⟩, ?_⟩
    · have := hs i hi
      have d := hd i hi
      unfold inB at this ⊢
      simp only [Bool.and_eq_true, decide_eq_true_eq] at this d ⊢
      refine ⟨⟨⟨this.1.1.1, d.1⟩, this.1.2⟩, ?_⟩
      have q := this.2
      rw [← q]; rfl
    · rw [Bool.eq_false_iff]
      intro e
      obtain ⟨i, hi, z⟩ := (someEmp_iff _).1 e
      rw [List.length_take] at hi
      rw [List.getD_eq_getElem?_getD, List.getElem?_take_of_lt (by omega), ← List.getD_eq_getElem?_getD] at z
      have d := hd i (by omega)
      simp only [Bool.and_eq_true, decide_eq_true_eq, Bool.not_eq_true', Bool.and_eq_false_iff, decide_eq_false_iff_not] at d
      rcases d.2 with q | q
      · omega
      · exact q z

set_option maxRecDepth 8000 in
set_option maxHeartbeats 8000000 in
theorem recDiskOkV (K : Rd) (a : Option Addr) (c : Nat) (w : World) (h : RssV w a K.slots) (hc : K.slots.length ≤ c) :
    Calls Try.prog 53 #[.agg #[.int .i64 K.prom, .int .i64 K.known, .slice a K.slots.length c]] w fun e w' => e = .returned (.bool (diskOk K)) ∧ Below w.heap.size w w' := by
  have HH := hid h
  have hl := h.len
  unfold maxLen at hl
  clear h
  obtain ⟨R, hR⟩ : ∃ R, R = diskOk K := ⟨_, rfl⟩
  have HR : Hid (R = (inB K.prom 0 1000000 && slotsM K.slots K.prom && inB K.known 0 K.slots.length && !someEmp (K.slots.take K.known.toNat))) := by show R = _; rw [diskOk_eq]; exact hR
  rw [← hR]
  clear hR
  obtain ⟨wa, hwa⟩ : ∃ wa, wa = w.alloc (.cells #[.int .i64 K.prom, .int .i64 K.known, .slice a K.slots.length c] 47) := ⟨_, rfl⟩
  have HB : Hid (Below w.heap.size w wa) := by show Below _ _ _; rw [hwa]; exact blw_alloc (Below.refl _ _) _
  have HX : Hid (Box3 wa w.heap.size (.int .i64 K.prom) (.int .i64 K.known) (.slice a K.slots.length c)) := by show Box3 _ _ _ _ _ ; rw [hwa]; exact Box3.new' w _ _ _ _ _ rfl
  go_enter Try.func53, Try.ntmps53
  go_upto_region 1 with fail
  rw [← hwa]
  clear hwa
  obtain ⟨yz, y0, y1, y2⟩ := HX.out
  cases h0 : inB K.prom 0 1000000
  · have HE : Hid (R = false) := by show R = _; rw [HR.out, h0]; rfl
    clear HR
    go_wp2_with (go_at_call 24; refine (withinI _ _ _ _).mono ?_; rintro e w' ⟨rfl, rfl⟩)
    go_ret
    exact ⟨Pl.ret_bool HE.out.symm, HB.out⟩
  go_wp2_with (go_at_call 24; refine (withinI _ _ _ _).mono ?_; rintro e w' ⟨rfl, rfl⟩)
  refine (slotsOkI K.slots a c K.prom wa (HH.out.later HB.out)).mono ?_
  rintro e w1 ⟨rfl, hb1⟩
  have HB1 := hid (blw_trans HB.out hb1)
  have HX1 := hid (HX.out.later hb1)
  clear yz y0 y1 y2 hb1
  obtain ⟨yz, y0, y1, y2⟩ := HX1.out
  cases h1 : slotsM K.slots K.prom
  · have HE : Hid (R = false) := by show R = _; rw [HR.out, h0, h1]; rfl
    clear HR
    go_wp2
    go_ret
    exact ⟨Pl.ret_bool HE.out.symm, HB1.out⟩
  cases h2 : inB K.known 0 K.slots.length
  · have HE : Hid (R = false) := by show R = _; rw [HR.out, h0, h1, h2]; rfl
    clear HR
    go_wp2_with (go_at_call 24; refine (withinI _ _ _ _).mono ?_; rintro e w' ⟨rfl, rfl⟩)
    go_ret
    exact ⟨Pl.ret_bool HE.out.symm, HB1.out⟩
  have hk : 0 ≤ K.known ∧ K.known ≤ K.slots.length := by have q := h2; unfold inB at q; simp at q; exact q
  obtain ⟨kn, hkn⟩ : ∃ kn : Nat, K.known = kn := ⟨K.known.toNat, by omega⟩
  have HE : Hid (R = !someEmp (K.slots.take kn)) := by show R = _; rw [HR.out, h0, h1, h2, hkn]; rfl
  have hkl : kn ≤ K.slots.length := by omega
  rw [hkn] at y1 h2
  clear HR hkn hk
  have hm0 : (0 : Int) ≤ (kn : Int) := by omega
  have hm1 : (kn : Int) ≤ (c : Int) := by omega
  have hm2 : kn ≤ c := by omega
  go_wp2_with (go_at_call 24; refine (withinI _ _ _ _).mono ?_; rintro e w' ⟨rfl, rfl⟩)
  have HC := containsRs (K.slots.take kn) a c w1 ((HH.out.later HB1.out).take kn hkl)
  rw [List.length_take, Nat.min_eq_left hkl] at HC
  refine HC.mono ?_
  rintro e w2 ⟨rfl, hb2⟩
  have HB2 := hid (blw_trans HB1.out hb2)
  clear hb2
  go_wp2
  go_ret
  exact ⟨Pl.ret_bool HE.out.symm, HB2.out⟩

theorem recDiskOkI (K : Rd) (b0 : Nat) (w : World) (h : RdIn w b0 K) :
    Calls Try.prog 53 #[.agg #[.int .i64 K.prom, .int .i64 K.known, .slice (some ⟨b0, 0, none⟩) K.slots.length K.slots.length]] w fun e w' => e = .returned (.bool (diskOk K)) ∧ Below w.heap.size w w' :=
  recDiskOkV K (some ⟨b0, 0, none⟩) K.slots.length w h.v (Nat.le_refl _)

end Go.Proofs.Ytcefgacmagobnaa

namespace Go.Proofs.Ytcefgacmagobnaa
open Go.RowKit Go.Deep

set_option maxRecDepth 8000 in
set_option maxHeartbeats 8000000 in
theorem recMessageOkV (K : Rm) (a : Option Addr) (c : Nat) (of : Int) (w : World) (h : RssV w a K.slots) :
    Calls Try.prog 28 #[.agg #[.int .i64 K.kind, .int .i64 K.frm, .int .i64 K.to_, .int .i64 K.bal, .int .i64 K.ix, .int .i64 K.known, .string K.txt, .slice a K.slots.length c], .int .i64 of] w fun e w' => e = .returned (.bool (msgOk K of)) ∧ Below w.heap.size w w' := by
  have HH := hid h
  have hl := h.len
  unfold maxLen at hl
  clear h
  obtain ⟨R, hR⟩ : ∃ R, R = msgOk K of := ⟨_, rfl⟩
  have HR : Hid (R = (inB K.kind 1 9 && inB K.frm 1 of && inB K.to_ 1 of && inB K.bal 0 1000000 && inB K.ix 0 120 && inB K.known 0 120 && decide (K.txt.size ≤ 160) && slotsOk K.slots)) := hR
  rw [← hR]
  clear hR
  obtain ⟨wa, hwa⟩ : ∃ wa, wa = w.alloc (.cells #[.int .i64 K.kind, .int .i64 K.frm, .int .i64 K.to_, .int .i64 K.bal, .int .i64 K.ix, .int .i64 K.known, .string K.txt, .slice a K.slots.length c] 55) := ⟨_, rfl⟩
  have HB : Hid (Below w.heap.size w wa) := by show Below _ _ _; rw [hwa]; exact blw_alloc (Below.refl _ _) _
  have HX : Hid (Box8 wa w.heap.size (.int .i64 K.kind) (.int .i64 K.frm) (.int .i64 K.to_) (.int .i64 K.bal) (.int .i64 K.ix) (.int .i64 K.known) (.string K.txt) (.slice a K.slots.length c)) := by show Box8 _ _ _ _ _ _ _ _ _ _ ; rw [hwa]; exact Box8.new' w _ _ _ _ _ _ _ _ _ _ rfl
  go_enter Try.func28, Try.ntmps28
  go_upto_region 1 with fail
  rw [← hwa]
  clear hwa
  have HSL := slotsOkI K.slots a c 1000000 wa (HH.out.later HB.out)
  obtain ⟨yz, y0, y1, y2, y3, y4, y5, y6, y7⟩ := HX.out
  cases h0 : inB K.kind 1 9
  · have HE : Hid (R = false) := by show R = _; rw [HR.out, h0]; rfl
    clear HR
    go_wp2_with (go_at_call 24; refine (withinI _ _ _ _).mono ?_; rintro e w' ⟨rfl, rfl⟩)
    go_ret
    exact ⟨Pl.ret_bool HE.out.symm, HB.out⟩
  cases h1 : inB K.frm 1 of
  · have HE : Hid (R = false) := by show R = _; rw [HR.out, h0, h1]; rfl
    clear HR
    go_wp2_with (go_at_call 24; refine (withinI _ _ _ _).mono ?_; rintro e w' ⟨rfl, rfl⟩)
    go_ret
    exact ⟨Pl.ret_bool HE.out.symm, HB.out⟩
  cases h2 : inB K.to_ 1 of
  · have HE : Hid (R = false) := by show R = _; rw [HR.out, h0, h1, h2]; rfl
    clear HR
    go_wp2_with (go_at_call 24; refine (withinI _ _ _ _).mono ?_; rintro e w' ⟨rfl, rfl⟩)
    go_ret
    exact ⟨Pl.ret_bool HE.out.symm, HB.out⟩
  cases h3 : inB K.bal 0 1000000
  · have HE : Hid (R = false) := by show R = _; rw [HR.out, h0, h1, h2, h3]; rfl
    clear HR
    go_wp2_with (go_at_call 24; refine (withinI _ _ _ _).mono ?_; rintro e w' ⟨rfl, rfl⟩)
    go_ret
    exact ⟨Pl.ret_bool HE.out.symm, HB.out⟩
  cases h4 : inB K.ix 0 120
  · have HE : Hid (R = false) := by show R = _; rw [HR.out, h0, h1, h2, h3, h4]; rfl
    clear HR
    go_wp2_with (go_at_call 24; refine (withinI _ _ _ _).mono ?_; rintro e w' ⟨rfl, rfl⟩)
    go_ret
    exact ⟨Pl.ret_bool HE.out.symm, HB.out⟩
  cases h5 : inB K.known 0 120
  · have HE : Hid (R = false) := by show R = _; rw [HR.out, h0, h1, h2, h3, h4, h5]; rfl
    clear HR
    go_wp2_with (go_at_call 24; refine (withinI _ _ _ _).mono ?_; rintro e w' ⟨rfl, rfl⟩)
    go_ret
    exact ⟨Pl.ret_bool HE.out.symm, HB.out⟩
  by_cases h6 : K.txt.size ≤ 160
  · have h6i : (K.txt.size : Int) ≤ 160 := by omega
    have HE : Hid (R = slotsM K.slots 1000000) := by show R = _; rw [HR.out, h0, h1, h2, h3, h4, h5, decide_eq_true h6, slotsM_eq]; rfl
    clear HR
    go_wp2_with (go_at_call 24; refine (withinI _ _ _ _).mono ?_; rintro e w' ⟨rfl, rfl⟩)
    refine HSL.mono ?_
    rintro e w1 ⟨rfl, hb1⟩
    have HB1 := hid (blw_trans HB.out hb1)
    clear hb1
    go_wp2
    go_ret
    exact ⟨Pl.ret_bool HE.out.symm, HB1.out⟩
  · have h6i : ¬ ((K.txt.size : Int) ≤ 160) := by omega
    have HE : Hid (R = false) := by show R = _; rw [HR.out, h0, h1, h2, h3, h4, h5, decide_eq_false h6]; rfl
    clear HR
    go_wp2_with (go_at_call 24; refine (withinI _ _ _ _).mono ?_; rintro e w' ⟨rfl, rfl⟩)
    go_ret
    exact ⟨Pl.ret_bool HE.out.symm, HB.out⟩

theorem recMessageOkI (K : Rm) (b0 : Nat) (of : Int) (w : World) (h : RmIn w b0 K) :
    Calls Try.prog 28 #[.agg #[.int .i64 K.kind, .int .i64 K.frm, .int .i64 K.to_, .int .i64 K.bal, .int .i64 K.ix, .int .i64 K.known, .string K.txt, .slice (some ⟨b0, 0, none⟩) K.slots.length K.slots.length], .int .i64 of] w fun e w' => e = .returned (.bool (msgOk K of)) ∧ Below w.heap.size w w' :=
  recMessageOkV K (some ⟨b0, 0, none⟩) K.slots.length of w h.v

end Go.Proofs.Ytcefgacmagobnaa
