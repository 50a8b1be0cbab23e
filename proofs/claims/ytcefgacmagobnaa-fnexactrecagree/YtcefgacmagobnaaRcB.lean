/-
  Recorders: a message that is ok, by the specification.
-/
import Derived.BigQuiet
import Derived.Deep.RegionWith
import Derived.Test.YtcefgacmagobnaaMemRd
import Derived.Test.YtcefgacmagobnaaMemRm
namespace Go.Proofs.Ytcefgacmagobnaa
open Go.RowKit Go.Deep

theorem hid {p : Prop} (h : p) : Hid p := h

namespace Pl
def less (a b : ByteArray) : Bool := Op.bytesLess a.toList b.toList
theorem to_succ (p : Nat → Bool) (k : Nat) : (List.range (k + 1)).all p = ((List.range k).all p && p k) := by
  rw [List.range_succ, List.all_append]; simp
theorem to_false (p : Nat → Bool) (n k : Nat) (h : k < n) (hp : p k = false) : (List.range n).all p = false := by
  rw [List.all_eq_false]
  exact ⟨k, List.mem_range.2 h, by simp [hp]⟩
end Pl

/-- All below k. -/
def allTo (p : Nat → Bool) : Nat → Bool
  | 0 => true
  | n + 1 => allTo p n && p n
theorem allTo_false {p : Nat → Bool} {k : Nat} (hp : p k = false) : ∀ n, k < n → allTo p n = false
  | 0, h => absurd h (Nat.not_lt_zero _)
  | n + 1, h => by
    rw [allTo]
    by_cases e : k = n
    · subst e; simp [hp]
    · rw [allTo_false hp n (by omega)]; rfl
theorem allTo_iff (p : Nat → Bool) : ∀ n, allTo p n = true ↔ ∀ i, i < n → p i = true
  | 0 => by simp [allTo]
  | n + 1 => by
    rw [allTo, Bool.and_eq_true, allTo_iff p n]
    constructor
    · intro h i hi
      by_cases e : i = n
      · subst e; exact h.2
      · exact h.1 i (by omega)
    · intro h
      exact ⟨fun i hi => h i (by omega), h n (by omega)⟩
theorem allTo_congr {p q : Nat → Bool} : ∀ {n : Nat}, (∀ i, i < n → p i = q i) → allTo p n = allTo q n
  | 0, _ => rfl
  | n + 1, h => by rw [allTo, allTo, allTo_congr (n := n) (fun i hi => h i (by omega)), h n (by omega)]

/-- The first below k that p holds of; -1, if there is none. -/
def firstTo (p : Nat → Bool) : Nat → Int
  | 0 => -1
  | n + 1 => if 0 ≤ firstTo p n then firstTo p n else if p n then (n : Int) else -1
theorem firstTo_cases (p : Nat → Bool) : ∀ n, firstTo p n = -1 ∧ (∀ i, i < n → p i = false) ∨ ∃ k : Nat, k < n ∧ firstTo p n = k ∧ p k = true ∧ ∀ i, i < k → p i = false
  | 0 => Or.inl ⟨rfl, fun i hi => absurd hi (Nat.not_lt_zero i)⟩
  | n + 1 => by
    rcases firstTo_cases p n with ⟨h, hn⟩ | ⟨k, hk, h, hp, hn⟩
    · by_cases e : p n = true
      · refine Or.inr ⟨n, by omega, ?_, e, hn⟩
        rw [firstTo, h]; simp [e]
      · refine Or.inl ⟨?_, fun i hi => ?_⟩
        · rw [firstTo, h]; simp [e]
        · by_cases q : i = n
          · subst q; simpa using e
          · exact hn i (by omega)
    · refine Or.inr ⟨k, by omega, ?_, hp, hn⟩
      rw [firstTo, h, if_pos (by omega)]
theorem firstTo_none {p : Nat → Bool} {n : Nat} (h : ∀ i, i < n → p i = false) : firstTo p n = -1 := by
  rcases firstTo_cases p n with ⟨e, _⟩ | ⟨k, hk, _, hp, _⟩
  · exact e
  · rw [h k hk] at hp; cases hp
theorem firstTo_hit {p : Nat → Bool} {n k : Nat} (hk : k < n) (hp : p k = true) (h : ∀ i, i < k → p i = false) : firstTo p n = k := by
  rcases firstTo_cases p n with ⟨_, hn⟩ | ⟨j, hj, e, hq, hn⟩
  · rw [hn k hk] at hp; cases hp
  · rw [e]
    rcases Nat.lt_trichotomy j k with q | q | q
    · rw [h j q] at hq; cases hq
    · rw [q]
    · rw [hn k q] at hp; cases hp

def inB (n lo hi : Int) : Bool := decide (lo ≤ n) && decide (n ≤ hi)
def same (a b : ByteArray) : Bool := a.toList == b.toList

/-- A slot that is ok. -/
def slotOk (s : Rs) : Bool := inB s.bal 0 1000000 && decide (s.txt.size ≤ 160) && !(decide (s.bal = 0) && !s.txt.toList.isEmpty)
def slotsOk (l : List Rs) : Bool := decide (l.length ≤ 120) && allTo (fun i => slotOk (l.getD i Rs.none)) l.length
/-- A slot as a disk wants it. -/
def dslot (d : Rd) (i : Nat) : Bool := decide ((d.slots.getD i Rs.none).bal ≤ d.prom) && !(decide ((i : Int) < d.known) && decide ((d.slots.getD i Rs.none).bal = 0))
def diskOk (d : Rd) : Bool := inB d.prom 0 1000000 && slotsOk d.slots && inB d.known 0 d.slots.length && allTo (dslot d) d.slots.length
/-- Two rows of slots merged. -/
def merge (a b : List Rs) : List Rs := (List.range (max a.length b.length)).map fun i => if a.length ≤ i then b.getD i Rs.none else if i < b.length && decide ((a.getD i Rs.none).bal < (b.getD i Rs.none).bal) then b.getD i Rs.none else a.getD i Rs.none

/-- Lists that lie anywhere, of any room. -/
structure RssV (w : World) (a : Option Addr) (ms : List Rs) : Prop where
  len : ms.length ≤ maxLen
  at_ : ∀ i, i < ms.length → ∃ b off, a = some ⟨b, off, none⟩ ∧ b < w.heap.size ∧ RsIs w b (off + i * 2) (ms.getD i Rs.none)
theorem RssV.later {w w' : World} {a : Option Addr} {ms : List Rs} (h : RssV w a ms) (hb : Below w.heap.size w w') : RssV w' a ms :=
  ⟨h.len, fun i hi => by obtain ⟨b, off, e, hl, hf⟩ := h.at_ i hi; exact ⟨b, off, e, Nat.lt_of_lt_of_le hl hb.size, hf.later hb hl⟩⟩
theorem RssIn.v {w : World} {B : Nat} {ms : List Rs} (h : RssIn w B ms) : RssV w (some ⟨B, 0, none⟩) ms :=
  ⟨by have := h.len; unfold maxLen; omega, fun i hi => ⟨B, 0, rfl, h.lt, by rw [Nat.zero_add]; exact h.at_ i hi⟩⟩
theorem RdIn.v {w : World} {b0 : Nat} {K : Rd} (h : RdIn w b0 K) : RssV w (some ⟨b0, 0, none⟩) K.slots := h.l0.v

end Go.Proofs.Ytcefgacmagobnaa

namespace Go.Proofs.Ytcefgacmagobnaa
open Go.RowKit Go.Deep

structure Pst (w : World) where
  W : World
  ok : Below w.heap.size w W

theorem pst_some (w : World) : Nonempty (Pst w) := ⟨⟨w, Below.refl _ _⟩⟩
theorem Pst.cell {w : World} (x : Pst w) {b j : Nat} {v : Value} (h : w.cell? ⟨b, j, none⟩ = some v) (hb : b < w.heap.size) : x.W.cell? ⟨b, j, none⟩ = some v := (x.ok.cell (p := ⟨b, j, none⟩) hb).trans h
theorem Pst.size {w : World} (x : Pst w) {b : Nat} (h : b < w.heap.size) : b < x.W.heap.size := Nat.lt_of_lt_of_le h x.ok.size

theorem region_class {P : Program} {id : Nat} {Q : Exit → Act → World → Prop} {a : Act} {w : World} {l : List Oper} (v : World) (hv : Below v.heap.size v w) (hm : P.follows .mixedOrders = true) (hB : Region.lexB .any l.toArray = true)
    (h : wpQuiet P l.toArray (fun w' => ∃ x : Pst v, w' = x.W) (fun a' => ∀ w', (∃ x : Pst v, w' = x.W) → Q .normal a' w') l a) : (Code.region id l.toArray true).wp P Q a w :=
  wp_region_quiet (C := fun w' => ∃ x : Pst v, w' = x.W) hm hB ⟨⟨w.drew, Below.drew hv⟩, rfl⟩ (by simpa using h)

end Go.Proofs.Ytcefgacmagobnaa

namespace Go.Proofs.Ytcefgacmagobnaa
open Go.RowKit Go.Deep

set_option maxHeartbeats 400000 in
theorem l21InS (n lo hi : Int) (w : World) :
    Calls Try.prog 18 #[.int .i64 n, .int .i64 lo, .int .i64 hi] w fun e w' => e = .returned (.bool (inB n lo hi)) ∧ w = w' := by
  unfold inB
  by_cases h : lo ≤ n
  · go_enter Try.func18, Try.ntmps18
    go_wp2
    go_ret
    exact ⟨Pl.ret_bool (by simp [h]), rfl⟩
  · go_enter Try.func18, Try.ntmps18
    go_wp2
    go_ret
    exact ⟨Pl.ret_bool (by rw [Bool.eq_iff_iff]; simp; omega), rfl⟩

set_option maxRecDepth 8000 in
set_option maxHeartbeats 8000000 in
theorem l21SlotsS (l : List Rs) (a : Option Addr) (c : Nat) (w : World) (h : RssV w a l) :
    Calls Try.prog 46 #[.slice a l.length c] w fun e w' => e = .returned (.bool (slotsOk l)) ∧ w = w' := by
  have HH := hid h
  have hl := h.len
  unfold maxLen at hl
  clear h
  obtain ⟨R, hR⟩ : ∃ R, R = slotsOk l := ⟨_, rfl⟩
  have HR : Hid (R = (decide (l.length ≤ 120) && allTo (fun i => slotOk (l.getD i Rs.none)) l.length)) := hR
  rw [← hR]
  clear hR
  by_cases h1 : l.length ≤ 120
  · have HS : Hid (R = allTo (fun i => slotOk (l.getD i Rs.none)) l.length) := by show R = _; rw [HR.out, decide_eq_true h1]; rfl
    have h1i : ¬ ((120 : Int) < (l.length : Int)) := by omega
    clear HR
    go_enter Try.func46, Try.ntmps46
    go_wp2
    go_loopw [3] (fun i wr => ∃ q : Nat, q ≤ l.length ∧ i = .int .i64 q ∧ allTo (fun i => slotOk (l.getD i Rs.none)) q = true ∧ wr = w) (fun i _ => l.length - (intOf i).toNat)
    case atStart => exact ⟨0, Nat.zero_le _, rfl, rfl, rfl⟩
    case round =>
      obtain ⟨q, hq, rfl, ha, hW⟩ := hrel
      subst hW
      have HQ := hid ha
      clear ha
      by_cases hlt : q < l.length
      · obtain ⟨b, off, ha, hbl, hf⟩ := HH.out.at_ q hlt
        subst ha
        obtain ⟨x, hx⟩ : ∃ x, x = l.getD q Rs.none := ⟨_, rfl⟩
        rw [← hx] at hf
        obtain ⟨f0, f1, fs⟩ := hf
        have HPQ : Hid (slotOk (l.getD q Rs.none) = (inB x.bal 0 1000000 && decide (x.txt.size ≤ 160) && !(decide (x.bal = 0) && !x.txt.toList.isEmpty))) := by show _ = _; rw [← hx]; rfl
        clear hx
        have hm0 : (0 : Int) ≤ (q : Int) := by omega
        have hm3 : (q : Int) < (l.length : Int) := by omega
        have hsz : x.txt.size ≤ maxLen := fs
        unfold maxLen at hsz
        have HI := l21InS x.bal 0 1000000 wr
        cases hin : inB x.bal 0 1000000
        · have HF : Hid (R = false) := by show R = false; rw [HS.out]; exact allTo_false (k := q) (by rw [HPQ.out, hin]; rfl) _ hlt
          rw [hin] at HI
          clear hin
          go_wp2_with (go_at_call 18; refine HI.mono ?_; rintro e w' ⟨rfl, rfl⟩)
          go_ret
          exact ⟨Pl.ret_bool HF.out.symm, rfl⟩
        rw [hin] at HI
        by_cases hs : x.txt.size ≤ 160
        · have hsi : ¬ ((160 : Int) < (x.txt.size : Int)) := by omega
          by_cases hz : x.bal = 0
          · have hz1 : (x.bal == 0) = true := by simpa using hz
            by_cases he : x.txt.toList = []
            · have HT : Hid (slotOk (l.getD q Rs.none) = true) := by show _ = true; rw [HPQ.out, hin, decide_eq_true hs, decide_eq_true hz, he]; rfl
              clear hin hz
              go_wp2_with (go_at_call 18; refine HI.mono ?_; rintro e w' ⟨rfl, rfl⟩)
              go_roundw
              case rel => exact ⟨q + 1, by omega, by go_num, by rw [allTo, HQ.out, HT.out]; rfl, by first | rfl | trivial⟩
              case measure => simp [intOf]; omega
            · have HF : Hid (R = false) := by show R = false; rw [HS.out]; exact allTo_false (k := q) (by rw [HPQ.out, hin, decide_eq_true hs, decide_eq_true hz, show x.txt.toList.isEmpty = false by cases e : x.txt.toList with | nil => exact absurd e he | cons _ _ => rfl]; rfl) _ hlt
              clear hin hz
              have he2 : (x.txt.toList == []) = false := by simpa using he
              go_wp2_with (go_at_call 18; refine HI.mono ?_; rintro e w' ⟨rfl, rfl⟩)
              go_ret
              exact ⟨Pl.ret_bool HF.out.symm, rfl⟩
          · have hz1 : (x.bal == 0) = false := by simpa using hz
            have HT : Hid (slotOk (l.getD q Rs.none) = true) := by show _ = true; rw [HPQ.out, hin, decide_eq_true hs, decide_eq_false hz]; rfl
            clear hin hz
            go_wp2_with (go_at_call 18; refine HI.mono ?_; rintro e w' ⟨rfl, rfl⟩)
            go_roundw
            case rel => exact ⟨q + 1, by omega, by go_num, by rw [allTo, HQ.out, HT.out]; rfl, by first | rfl | trivial⟩
            case measure => simp [intOf]; omega
        · have hsi : (160 : Int) < (x.txt.size : Int) := by omega
          have HF : Hid (R = false) := by show R = false; rw [HS.out]; exact allTo_false (k := q) (by rw [HPQ.out, hin, decide_eq_false hs]; rfl) _ hlt
          clear hin hs
          go_wp2_with (go_at_call 18; refine HI.mono ?_; rintro e w' ⟨rfl, rfl⟩)
          go_ret
          exact ⟨Pl.ret_bool HF.out.symm, rfl⟩
      · obtain rfl : q = l.length := by omega
        go_wp2
        go_ret
        exact ⟨Pl.ret_bool (by rw [HS.out, HQ.out]), rfl⟩
  · have h1i : (120 : Int) < (l.length : Int) := by omega
    have HE : Hid (R = false) := by show R = _; rw [HR.out, decide_eq_false h1]; rfl
    go_enter Try.func46, Try.ntmps46
    go_wp2
    go_ret
    exact ⟨Pl.ret_bool HE.out.symm, rfl⟩

set_option maxRecDepth 8000 in
set_option maxHeartbeats 8000000 in
theorem recDiskOkS (K : Rd) (a : Option Addr) (c : Nat) (w : World) (h : RssV w a K.slots) :
    Calls Try.prog 43 #[.agg #[.int .i64 K.prom, .int .i64 K.known, .slice a K.slots.length c]] w fun e w' => e = .returned (.bool (diskOk K)) ∧ Below w.heap.size w w' := by
  have HH := hid h
  have hl := h.len
  unfold maxLen at hl
  clear h
  obtain ⟨R, hR⟩ : ∃ R, R = diskOk K := ⟨_, rfl⟩
  have HR : Hid (R = (inB K.prom 0 1000000 && slotsOk K.slots && inB K.known 0 K.slots.length && allTo (dslot K) K.slots.length)) := hR
  rw [← hR]
  clear hR
  obtain ⟨wa, hwa⟩ : ∃ wa, wa = w.alloc (.cells #[.int .i64 K.prom, .int .i64 K.known, .slice a K.slots.length c] 47) := ⟨_, rfl⟩
  have HB : Hid (Below w.heap.size w wa) := by show Below _ _ _; rw [hwa]; exact blw_alloc (Below.refl _ _) _
  have HX : Hid (Box3 wa w.heap.size (.int .i64 K.prom) (.int .i64 K.known) (.slice a K.slots.length c)) := by show Box3 _ _ _ _ _; rw [hwa]; exact Box3.new' w _ _ _ _ _ rfl
  go_enter Try.func43, Try.ntmps43
  go_upto_region 1 with fail
  rw [← hwa]
  clear hwa
  have HSL := l21SlotsS K.slots a c wa (HH.out.later HB.out)
  obtain ⟨yz, y0, y1, y2⟩ := HX.out
  cases h1 : inB K.prom 0 1000000
  · have HE : Hid (R = false) := by show R = _; rw [HR.out, h1]; rfl
    go_wp2_with (go_at_call 18; refine (l21InS _ _ _ _).mono ?_; rintro e w' ⟨rfl, rfl⟩)
    go_ret
    exact ⟨Pl.ret_bool HE.out.symm, HB.out⟩
  cases h2 : slotsOk K.slots
  · have HE : Hid (R = false) := by show R = _; rw [HR.out, h1, h2]; rfl
    rw [h2] at HSL
    go_wp2_with (first | (go_at_call 18; refine (l21InS _ _ _ _).mono ?_; rintro e w' ⟨rfl, rfl⟩) | (go_at_call 46; refine HSL.mono ?_; rintro e w' ⟨rfl, rfl⟩))
    go_ret
    exact ⟨Pl.ret_bool HE.out.symm, HB.out⟩
  rw [h2] at HSL
  cases h3 : inB K.known 0 K.slots.length
  · have HE : Hid (R = false) := by show R = _; rw [HR.out, h1, h2, h3]; rfl
    go_wp2_with (first | (go_at_call 18; refine (l21InS _ _ _ _).mono ?_; rintro e w' ⟨rfl, rfl⟩) | (go_at_call 46; refine HSL.mono ?_; rintro e w' ⟨rfl, rfl⟩))
    go_ret
    exact ⟨Pl.ret_bool HE.out.symm, HB.out⟩
  have HE : Hid (R = allTo (dslot K) K.slots.length) := by show R = _; rw [HR.out, h1, h2, h3]; rfl
  clear HR
  go_wp2_with (first | (go_at_call 18; refine (l21InS _ _ _ _).mono ?_; rintro e w' ⟨rfl, rfl⟩) | (go_at_call 46; refine HSL.mono ?_; rintro e w' ⟨rfl, rfl⟩))
  clear h1 h2 h3 HSL yz y0 y1 y2
  go_loopw [3] (fun i wr => ∃ q : Nat, q ≤ K.slots.length ∧ i = .int .i64 q ∧ allTo (dslot K) q = true ∧ Below wa.heap.size wa wr) (fun i _ => K.slots.length - (intOf i).toNat)
  case atStart => exact ⟨0, Nat.zero_le _, rfl, rfl, Below.refl _ _⟩
  case round =>
    obtain ⟨q, hq, rfl, ha, hW⟩ := hrel
    have HQ := hid ha
    have HW := hid hW
    have HB2 := hid (blw_trans HB.out hW)
    have HX2 := hid (HX.out.later hW)
    clear ha hW
    obtain ⟨yz, y0, y1, y2⟩ := HX2.out
    by_cases hlt : q < K.slots.length
    · obtain ⟨b, off, ha, hbl, hf⟩ := (HH.out.later HB2.out).at_ q hlt
      subst ha
      obtain ⟨x, hx⟩ : ∃ x, x = K.slots.getD q Rs.none := ⟨_, rfl⟩
      rw [← hx] at hf
      obtain ⟨f0, f1, fs⟩ := hf
      have HPQ : Hid (dslot K q = (decide (x.bal ≤ K.prom) && !(decide ((q : Int) < K.known) && decide (x.bal = 0)))) := by show _ = _; rw [dslot, ← hx]
      clear hx
      have hNE := pst_some wr
      have hyz : ∀ px : Pst wr, w.heap.size < px.W.heap.size := fun px => px.size yz
      have hbz : ∀ px : Pst wr, b < px.W.heap.size := fun px => px.size hbl
      have Y0 : ∀ px : Pst wr, px.W.cell? ⟨w.heap.size, 0, none⟩ = some (.int .i64 K.prom) := fun px => px.cell y0 yz
      have Y1 : ∀ px : Pst wr, px.W.cell? ⟨w.heap.size, 1, none⟩ = some (.int .i64 K.known) := fun px => px.cell y1 yz
      have Y2 : ∀ px : Pst wr, px.W.cell? ⟨w.heap.size, 2, none⟩ = some (.slice (some ⟨b, off, none⟩) K.slots.length c) := fun px => px.cell y2 yz
      have E0 : ∀ px : Pst wr, px.W.cell? ⟨b, off + q * 2, none⟩ = some (.int .i64 x.bal) := fun px => px.cell f0 hbl
      have hm0 : (0 : Int) ≤ (q : Int) := by omega
      have hm3 : (q : Int) < (K.slots.length : Int) := by omega
      clear f0 f1 fs
      by_cases k1 : x.bal ≤ K.prom
      · have k1d : decide (K.prom < x.bal) = false := decide_eq_false (by omega)
        by_cases k2 : (q : Int) < K.known
        · have k2d : decide ((q : Int) < K.known) = true := decide_eq_true k2
          by_cases k3 : x.bal = 0
          · have k3d : (x.bal == 0) = true := by simpa using k3
            have HF : Hid (R = false) := by show R = false; rw [HE.out]; exact allTo_false (k := q) (by rw [HPQ.out, decide_eq_true k1, k2d, decide_eq_true k3]; rfl) _ hlt
            clear hbl k1 k2 k3
            go_wp2_with fail
            clear yz y0 y1 y2
            refine region_class wr (Below.refl _ _) (by kernel_rfl) (by kernel_rfl) ?_
            repeat (first
              | go_big_quiet_skip
              | (go_big_quiet_want; go_big_quiet_op; go_big_quiet_on))
            refine wpQuiet_nil ?_
            intro _ hw'
            obtain ⟨x6, hw''⟩ := hw'
            subst hw''
            go_wp2
            go_ret
            exact ⟨Pl.ret_bool HF.out.symm, blw_trans HB2.out x6.ok⟩
          · have k3d : (x.bal == 0) = false := by simpa using k3
            have HT : Hid (dslot K q = true) := by show _ = true; rw [HPQ.out, decide_eq_true k1, k2d, decide_eq_false k3]; rfl
            clear hbl k1 k2 k3
            go_wp2_with fail
            clear yz y0 y1 y2
            refine region_class wr (Below.refl _ _) (by kernel_rfl) (by kernel_rfl) ?_
            repeat (first
              | go_big_quiet_skip
              | (go_big_quiet_want; go_big_quiet_op; go_big_quiet_on))
            refine wpQuiet_nil ?_
            intro _ hw'
            obtain ⟨x6, hw''⟩ := hw'
            subst hw''
            go_wp2
            go_roundw
            case rel => exact ⟨q + 1, by omega, by go_num, by rw [allTo, HQ.out, HT.out]; rfl, blw_trans HW.out x6.ok⟩
            case measure => simp [intOf]; omega
        · have k2d : decide ((q : Int) < K.known) = false := decide_eq_false k2
          have HT : Hid (dslot K q = true) := by show _ = true; rw [HPQ.out, decide_eq_true k1, k2d]; rfl
          clear hbl k1 k2
          go_wp2_with fail
          clear yz y0 y1 y2
          refine region_class wr (Below.refl _ _) (by kernel_rfl) (by kernel_rfl) ?_
          repeat (first
            | go_big_quiet_skip
            | (go_big_quiet_want; go_big_quiet_op; go_big_quiet_on))
          refine wpQuiet_nil ?_
          intro _ hw'
          obtain ⟨x6, hw''⟩ := hw'
          subst hw''
          go_wp2
          go_roundw
          case rel => exact ⟨q + 1, by omega, by go_num, by rw [allTo, HQ.out, HT.out]; rfl, blw_trans HW.out x6.ok⟩
          case measure => simp [intOf]; omega
      · have k1d : decide (K.prom < x.bal) = true := decide_eq_true (by omega)
        have HF : Hid (R = false) := by show R = false; rw [HE.out]; exact allTo_false (k := q) (by rw [HPQ.out, decide_eq_false k1]; rfl) _ hlt
        clear hbl k1
        go_wp2_with fail
        clear yz y0 y1 y2
        refine region_class wr (Below.refl _ _) (by kernel_rfl) (by kernel_rfl) ?_
        repeat (first
          | go_big_quiet_skip
          | (go_big_quiet_want; go_big_quiet_op; go_big_quiet_on))
        refine wpQuiet_nil ?_
        intro _ hw'
        obtain ⟨x6, hw''⟩ := hw'
        subst hw''
        go_wp2
        go_ret
        exact ⟨Pl.ret_bool HF.out.symm, blw_trans HB2.out x6.ok⟩
    · obtain rfl : q = K.slots.length := by omega
      go_wp2
      go_ret
      exact ⟨Pl.ret_bool (by rw [HE.out, HQ.out]), HB2.out⟩

end Go.Proofs.Ytcefgacmagobnaa

namespace Go.Proofs.Ytcefgacmagobnaa
open Go.RowKit Go.Deep

def msgOk (K : Rm) (of : Int) : Bool := inB K.kind 1 9 && inB K.frm 1 of && inB K.to_ 1 of && inB K.bal 0 1000000 && inB K.ix 0 120 && inB K.known 0 120 && decide (K.txt.size ≤ 160) && slotsOk K.slots
theorem RmIn.v {w : World} {b0 : Nat} {K : Rm} (h : RmIn w b0 K) : RssV w (some ⟨b0, 0, none⟩) K.slots := h.l0.v

set_option maxRecDepth 8000 in
set_option maxHeartbeats 8000000 in
theorem recMessageOkS (K : Rm) (a : Option Addr) (c : Nat) (of : Int) (w : World) (h : RssV w a K.slots) :
    Calls Try.prog 20 #[.agg #[.int .i64 K.kind, .int .i64 K.frm, .int .i64 K.to_, .int .i64 K.bal, .int .i64 K.ix, .int .i64 K.known, .string K.txt, .slice a K.slots.length c], .int .i64 of] w fun e w' => e = .returned (.bool (msgOk K of)) ∧ Below w.heap.size w w' := by
  have HH := hid h
  have hl := h.len
  unfold maxLen at hl
  clear h
  obtain ⟨R, hR⟩ : ∃ R, R = msgOk K of := ⟨_, rfl⟩
  have HR : Hid (R = (inB K.kind 1 9 && inB K.frm 1 of && inB K.to_ 1 of && inB K.bal 0 1000000 && inB K.ix 0 120 && inB K.known 0 120 && decide (K.txt.size ≤ 160) && slotsOk K.slots)) := hR
  rw [← hR]
  clear hR
  obtain ⟨wa, hwa⟩ : ∃ wa, wa = w.alloc (.cells #[.int .i64 K.kind, .int .i64 K.frm, .int .i64 K.to_, .int .i64 K.bal, .int .i64 K.ix, .int .i64 K.known, .string K.txt, .slice a K.slots.length c] 55) := ⟨_, rfl⟩
  have HB : Hid (Below w.heap.size w wa) := by show Below _ _ _; rw [hwa]; exact blw_alloc (Below.refl _ _) _
  have HX : Hid (Box8 wa w.heap.size (.int .i64 K.kind) (.int .i64 K.frm) (.int .i64 K.to_) (.int .i64 K.bal) (.int .i64 K.ix) (.int .i64 K.known) (.string K.txt) (.slice a K.slots.length c)) := by show Box8 _ _ _ _ _ _ _ _ _ _ ; rw [hwa]; exact Box8.new' w _ _ _ _ _ _ _ _ _ _ rfl
  go_enter Try.func20, Try.ntmps20
  go_upto_region 1 with fail
  rw [← hwa]
  clear hwa
  have HSL := l21SlotsS K.slots a c wa (HH.out.later HB.out)
  obtain ⟨yz, y0, y1, y2, y3, y4, y5, y6, y7⟩ := HX.out
  cases h0 : inB K.kind 1 9
  · have HE : Hid (R = false) := by show R = _; rw [HR.out, h0]; rfl
    clear HR
    go_wp2_with (first | (go_at_call 18; refine (l21InS _ _ _ _).mono ?_; rintro e w' ⟨rfl, rfl⟩) | (go_at_call 46; refine HSL.mono ?_; rintro e w' ⟨rfl, rfl⟩))
    go_ret
    exact ⟨Pl.ret_bool HE.out.symm, HB.out⟩
  cases h1 : inB K.frm 1 of
  · have HE : Hid (R = false) := by show R = _; rw [HR.out, h0, h1]; rfl
    clear HR
    go_wp2_with (first | (go_at_call 18; refine (l21InS _ _ _ _).mono ?_; rintro e w' ⟨rfl, rfl⟩) | (go_at_call 46; refine HSL.mono ?_; rintro e w' ⟨rfl, rfl⟩))
    go_ret
    exact ⟨Pl.ret_bool HE.out.symm, HB.out⟩
  cases h2 : inB K.to_ 1 of
  · have HE : Hid (R = false) := by show R = _; rw [HR.out, h0, h1, h2]; rfl
    clear HR
    go_wp2_with (first | (go_at_call 18; refine (l21InS _ _ _ _).mono ?_; rintro e w' ⟨rfl, rfl⟩) | (go_at_call 46; refine HSL.mono ?_; rintro e w' ⟨rfl, rfl⟩))
    go_ret
    exact ⟨Pl.ret_bool HE.out.symm, HB.out⟩
  cases h3 : inB K.bal 0 1000000
  · have HE : Hid (R = false) := by show R = _; rw [HR.out, h0, h1, h2, h3]; rfl
    clear HR
    go_wp2_with (first | (go_at_call 18; refine (l21InS _ _ _ _).mono ?_; rintro e w' ⟨rfl, rfl⟩) | (go_at_call 46; refine HSL.mono ?_; rintro e w' ⟨rfl, rfl⟩))
    go_ret
    exact ⟨Pl.ret_bool HE.out.symm, HB.out⟩
  cases h4 : inB K.ix 0 120
  · have HE : Hid (R = false) := by show R = _; rw [HR.out, h0, h1, h2, h3, h4]; rfl
    clear HR
    go_wp2_with (first | (go_at_call 18; refine (l21InS _ _ _ _).mono ?_; rintro e w' ⟨rfl, rfl⟩) | (go_at_call 46; refine HSL.mono ?_; rintro e w' ⟨rfl, rfl⟩))
    go_ret
    exact ⟨Pl.ret_bool HE.out.symm, HB.out⟩
  cases h5 : inB K.known 0 120
  · have HE : Hid (R = false) := by show R = _; rw [HR.out, h0, h1, h2, h3, h4, h5]; rfl
    clear HR
    go_wp2_with (first | (go_at_call 18; refine (l21InS _ _ _ _).mono ?_; rintro e w' ⟨rfl, rfl⟩) | (go_at_call 46; refine HSL.mono ?_; rintro e w' ⟨rfl, rfl⟩))
    go_ret
    exact ⟨Pl.ret_bool HE.out.symm, HB.out⟩
  rcases (Decidable.em (K.txt.size ≤ 160)).symm with g6 | g6
  · have h6 : decide (K.txt.size ≤ 160) = false := decide_eq_false g6
    have g6i : ¬ ((K.txt.size : Int) ≤ 160) := by omega
    have HE : Hid (R = false) := by show R = _; rw [HR.out, h0, h1, h2, h3, h4, h5, h6]; rfl
    clear HR
    go_wp2_with (first | (go_at_call 18; refine (l21InS _ _ _ _).mono ?_; rintro e w' ⟨rfl, rfl⟩) | (go_at_call 46; refine HSL.mono ?_; rintro e w' ⟨rfl, rfl⟩))
    go_ret
    exact ⟨Pl.ret_bool HE.out.symm, HB.out⟩
  have h6 : decide (K.txt.size ≤ 160) = true := decide_eq_true g6
  have g6i : (K.txt.size : Int) ≤ 160 := by omega
  cases h7 : slotsOk K.slots
  · have HE : Hid (R = false) := by show R = _; rw [HR.out, h0, h1, h2, h3, h4, h5, h6, h7]; rfl
    rw [h7] at HSL
    clear HR
    go_wp2_with (first | (go_at_call 18; refine (l21InS _ _ _ _).mono ?_; rintro e w' ⟨rfl, rfl⟩) | (go_at_call 46; refine HSL.mono ?_; rintro e w' ⟨rfl, rfl⟩))
    go_ret
    exact ⟨Pl.ret_bool HE.out.symm, HB.out⟩
  have HE : Hid (R = true) := by show R = _; rw [HR.out, h0, h1, h2, h3, h4, h5, h6, h7]; rfl
  rw [h7] at HSL
  clear HR
  go_wp2_with (first | (go_at_call 18; refine (l21InS _ _ _ _).mono ?_; rintro e w' ⟨rfl, rfl⟩) | (go_at_call 46; refine HSL.mono ?_; rintro e w' ⟨rfl, rfl⟩))
  go_ret
  exact ⟨Pl.ret_bool HE.out.symm, HB.out⟩

end Go.Proofs.Ytcefgacmagobnaa
