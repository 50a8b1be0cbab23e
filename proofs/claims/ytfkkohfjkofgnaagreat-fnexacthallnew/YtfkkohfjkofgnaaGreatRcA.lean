/-
  Recorders: slots and disks that are ok, by the specification.
-/
import Derived.Deep.DeepCutAuto
import Derived.BigQuiet
import Derived.Deep.RegionWith
import Derived.Test.YtfkkohfjkofgnaaGreatOwn
import Derived.Test.YtfkkohfjkofgnaaGreatPlain
namespace Go.Proofs.YtfkkohfjkofgnaaGreat
open Go.RowKit Go.Deep

theorem sc_size (w : World) (a : Addr) (v : Value) : (w.setCell a v).heap.size = w.heap.size := by simp [World.setCell]

structure Rs where
  bal : Int
  txt : ByteArray

def Rs.none : Rs := ⟨0, ByteArray.empty⟩

def Rs.sized (m : Rs) : Prop := m.txt.size ≤ maxLen

structure RsIs (w : World) (b o : Nat) (m : Rs) : Prop where
  c0 : w.cell? ⟨b, o, none⟩ = some (.int .i64 m.bal)
  c1 : w.cell? ⟨b, o + 1, none⟩ = some (.string m.txt)
  sized : m.sized

theorem RsIs.later {w w' : World} {b o : Nat} {m : Rs} (h : RsIs w b o m) (hb : Below w.heap.size w w') (hlt : b < w.heap.size) : RsIs w' b o m := by
  have c : ∀ j, w'.cell? ⟨b, j, none⟩ = w.cell? ⟨b, j, none⟩ := fun j => hb.cell (p := ⟨b, j, none⟩) hlt
  exact ⟨(c _).trans h.c0, (c _).trans h.c1, h.sized⟩

def RssAt (w : World) (v : Value) (ms : List Rs) : Prop :=
  (∃ a cap, v = .slice a 0 cap ∧ ms = []) ∨ ∃ b off cap, v = .slice (some ⟨b, off, none⟩) ms.length cap ∧ b < w.heap.size ∧ ms.length ≤ maxLen ∧ ∀ i, i < ms.length → RsIs w b (off + i * 2) (ms.getD i Rs.none)

theorem RssAt.later {w w' : World} {v : Value} {ms : List Rs} (h : RssAt w v ms) (hb : Below w.heap.size w w') : RssAt w' v ms := by
  rcases h with h | ⟨b, off, cap, rfl, h1, h2, h3⟩
  · exact Or.inl h
  · exact Or.inr ⟨b, off, cap, rfl, Nat.lt_of_lt_of_le h1 hb.size, h2, fun i hi => (h3 i hi).later hb h1⟩

structure RssIn (w : World) (B : Nat) (ms : List Rs) : Prop where
  lt : B < w.heap.size
  len : ms.length ≤ 1048576
  at_ : ∀ i, i < ms.length → RsIs w B (i * 2) (ms.getD i Rs.none)
  own : OwnBlk w B 139 (ms.length * 2)

theorem RssIn.later {w w' : World} {B : Nat} {ms : List Rs} (h : RssIn w B ms) (hb : Below w.heap.size w w') : RssIn w' B ms :=
  ⟨Nat.lt_of_lt_of_le h.lt hb.size, h.len, fun i hi => (h.at_ i hi).later hb h.lt, h.own.later hb⟩

theorem RssIn.sc {w : World} {B p : Nat} {ms : List Rs} (h : RssIn w B ms) (hp : p < B) (j : Nat) (v : Value) : RssIn (w.setCell ⟨p, j, none⟩ v) B ms := by
  have c : ∀ q, (w.setCell ⟨p, j, none⟩ v).cell? ⟨B, q, none⟩ = w.cell? ⟨B, q, none⟩ := fun q => sc_ne _ _ _ _ _ _ (by omega)
  exact ⟨by rw [sc_size]; exact h.lt, h.len, fun i hi => by have h := h.at_ i hi; exact ⟨(c _).trans h.c0, (c _).trans h.c1, h.sized⟩, h.own.sc_other (by omega) _ _⟩

theorem RsIs.puts {w : World} {B o : Nat} {m : Rs} (h : RsIs w B o m) (o' : Nat) (vs : List Value) (ho : o + 2 ≤ o') : RsIs (puts w B o' 0 vs) B o m := by
  have c : ∀ j, j < o' → (YtfkkohfjkofgnaaGreat.puts w B o' 0 vs).cell? ⟨B, j, none⟩ = w.cell? ⟨B, j, none⟩ := fun j hj => puts_other B o' B j vs w 0 (by omega)
  exact ⟨(c _ (by omega)).trans h.c0, (c _ (by omega)).trans h.c1, h.sized⟩

theorem own_put_rs {w : World} {B : Nat} {t : TypeId} {n : Nat} (hO : OwnBlk w B t n) (o : Nat) (ho : o + 2 ≤ n) (m : Rs) (hs : m.sized) :
    RsIs (puts w B o 0 [.int .i64 m.bal, .string m.txt]) B o m := by
  have c := fun i hi => puts_at o [.int .i64 m.bal, .string m.txt] w 0 hO (by simp; omega) i hi
  exact ⟨c 0 (by simp), c 1 (by simp), hs⟩

theorem Tryz.info139 : (Tryz.prog.info? 139).map (fun i => (i.zero, i.size, i.bytes)) = some (some (.agg #[.int .i64 0, .string ByteArray.empty]), 2, 24) := by kernel_rfl

theorem Tryz.underlying78' : Tryz.prog.underlying 78 = some (.slice 139) := by kernel_rfl

theorem make_rs (n : Nat) (h : n ≤ 1048576) : ∃ cs : Array Value, cs.size = n * 2 ∧ ∀ W : World,
    (Instr.makeSlice 78 (.int .i64 (n : Int)) (.int .i64 (n : Int))).run Tryz.prog W = .ok (.slice (some ⟨W.heap.size, 0, none⟩) n n) (W.alloc (.cells cs 139)) := by
  obtain ⟨i, hi, hzz⟩ := Option.map_eq_some_iff.1 Tryz.info139
  simp only [Prod.mk.injEq] at hzz
  obtain ⟨hz, hs, hb⟩ := hzz
  refine ⟨madeCells (Value.agg #[.int .i64 0, .string ByteArray.empty]).cells (n * 2), size_madeCells _ _, fun W => ?_⟩
  have hr := run_make (P := Tryz.prog) W 78 139 i _ Tryz.underlying78' hi hz .i64 .i64 n n (by omega) (Int.le_refl _) (by rw [hb]; omega) (by omega)
  simp only [Int.toNat_natCast, hs] at hr
  exact hr

set_option maxHeartbeats 1000000 in
theorem eqRs (m : Rs) (w : World) :
    Calls Tryz.prog 102 #[.agg #[.int .i64 m.bal, .string m.txt], .agg #[.int .i64 m.bal, .string m.txt]] w fun e w' => e = .returned (.bool true) ∧ Below w.heap.size w w' := by
  go_enter Tryz.func102, Tryz.ntmps102
  go_wp2
  go_ret
  exact ⟨rfl, blw_alloc (blw_alloc (Below.refl _ _) _) _⟩

set_option maxHeartbeats 2000000 in
theorem eqRss (B B' : Nat) (ms : List Rs) (w : World) (h : RssIn w B ms) (h' : RssIn w B' ms) :
    Calls Tryz.prog 99 #[.slice (some ⟨B, 0, none⟩) ms.length ms.length, .slice (some ⟨B', 0, none⟩) ms.length ms.length] w fun e w' => e = .returned (.bool true) ∧ Below w.heap.size w w' := by
  have hl := h.len
  have HH : Hid (RssIn w B ms ∧ RssIn w B' ms) := ⟨h, h'⟩
  clear h h'
  go_enter Tryz.func99, Tryz.ntmps99
  go_wp2
  go_loopw [5] (fun i wr => ∃ k : Nat, k ≤ ms.length ∧ i = .int .i64 k ∧ Below w.heap.size w wr) (fun i _ => ms.length - (intOf i).toNat)
  case atStart => exact ⟨0, Nat.zero_le _, rfl, Below.refl _ _⟩
  case round =>
    obtain ⟨k, hk, rfl, hW⟩ := hrel
    by_cases hlt : k < ms.length
    · have q := (HH.out.1.later hW).at_ k hlt
      have q' := (HH.out.2.later hW).at_ k hlt
      obtain ⟨m, hm⟩ : ∃ m, m = ms.getD k Rs.none := ⟨_, rfl⟩
      rw [← hm] at q q'
      obtain ⟨c0, c1, _⟩ := q
      obtain ⟨d0, d1, _⟩ := q'
      have HX : Hid (∀ W, Below wr.heap.size wr W → Calls Tryz.prog 102 #[.agg #[.int .i64 m.bal, .string m.txt], .agg #[.int .i64 m.bal, .string m.txt]] W fun e w' => e = .returned (.bool true) ∧ Below W.heap.size W w') := fun W _ => eqRs m W
      clear hm
      go_wp2_with fail
      go_region_with (go_at_call 102; refine (HX.out _ ?_).mono ?_; (repeat (first | exact Below.refl _ _ | refine Below.drew ?_)); rintro e w2 ⟨rfl, hb2⟩)
      all_goals
        go_wp2
        go_roundw
        case rel =>
          refine ⟨k + 1, by omega, by go_num, ?_⟩
          repeat (first | exact blw_trans hW hb2 | exact blw_trans hW.drew hb2 | exact blw_trans hW.drew.drew hb2 | refine Below.drew ?_)
        case measure => simp [intOf]; omega
    · go_wp2
      go_ret
      exact ⟨rfl, hW⟩

end Go.Proofs.YtfkkohfjkofgnaaGreat

namespace Go.Proofs.YtfkkohfjkofgnaaGreat
open Go.RowKit Go.Deep

structure Box3 (W : World) (p : Nat) (v0 v1 v2 : Value) : Prop where
  lt : p < W.heap.size
  x0 : W.cell? ⟨p, 0, none⟩ = some v0
  x1 : W.cell? ⟨p, 1, none⟩ = some v1
  x2 : W.cell? ⟨p, 2, none⟩ = some v2

theorem Box3.later {W W' : World} {p : Nat} {v0 v1 v2 : Value} (h : Box3 W p v0 v1 v2) (hb : Below W.heap.size W W') : Box3 W' p v0 v1 v2 := by
  have c : ∀ j, W'.cell? ⟨p, j, none⟩ = W.cell? ⟨p, j, none⟩ := fun j => hb.cell (p := ⟨p, j, none⟩) h.lt
  exact ⟨Nat.lt_of_lt_of_le h.lt hb.size, (c 0).trans h.x0, (c 1).trans h.x1, (c 2).trans h.x2⟩
theorem Box3.new' (W : World) (p : Nat) (v0 v1 v2 : Value) (t : TypeId) (hp : p = W.heap.size) : Box3 (W.alloc (.cells #[v0, v1, v2] t)) p v0 v1 v2 := by
  subst hp
  have c : ∀ j, (W.alloc (.cells #[v0, v1, v2] t)).cell? ⟨W.heap.size, j, none⟩ = (#[v0, v1, v2])[j]? := fun j => World.cell?_alloc_at _ _ _ _ rfl
  exact ⟨by simp, c 0, c 1, c 2⟩
theorem Box3.past {W : World} {p : Nat} {v0 v1 v2 : Value} (h : Box3 W p v0 v1 v2) (o : Obj) : Box3 (W.alloc o) p v0 v1 v2 := h.later (blw_alloc (Below.refl _ _) o)

theorem OwnBlk.alloc_at2 (W : World) (cs : Array Value) (t : TypeId) (m n : Nat) (h : cs.size = m) (hn : n = W.heap.size) : OwnBlk (W.alloc (.cells cs t)) n t m := by
  subst hn
  exact OwnBlk.alloc W cs t m h

structure Rd where
  prom : Int
  known : Int
  slots : List Rs

structure RdAt (w : World) (v0 : Value) (K : Rd) : Prop where
  l0 : RssAt w v0 K.slots

structure RdIn (w : World) (b0 : Nat) (K : Rd) : Prop where
  l0 : RssIn w b0 K.slots

def Rd.small (K : Rd) : Prop := K.slots.length ≤ 1048576

theorem RdAt.later {w w' : World} {v0 : Value} {K : Rd} (h : RdAt w v0 K) (hb : Below w.heap.size w w') : RdAt w' v0 K := ⟨h.l0.later hb⟩
theorem RdIn.later {w w' : World} {b0 : Nat} {K : Rd} (h : RdIn w b0 K) (hb : Below w.heap.size w w') : RdIn w' b0 K := ⟨h.l0.later hb⟩

set_option maxHeartbeats 4000000 in
theorem eqRD (K : Rd) (b0 q0 : Nat) (w : World) (h : RdIn w b0 K) (h' : RdIn w q0 K) :
    Calls Tryz.prog 96 #[.agg #[.int .i64 K.prom, .int .i64 K.known, .slice (some ⟨b0, 0, none⟩) K.slots.length K.slots.length], .agg #[.int .i64 K.prom, .int .i64 K.known, .slice (some ⟨q0, 0, none⟩) K.slots.length K.slots.length]] w fun e w' => e = .returned (.bool true) ∧ Below w.heap.size w w' := by
  have HH : Hid (RdIn w b0 K ∧ RdIn w q0 K) := ⟨h, h'⟩
  clear h h'
  obtain ⟨wa, hwa⟩ : ∃ wa, wa = (w.alloc (.cells #[.int .i64 K.prom, .int .i64 K.known, .slice (some ⟨b0, 0, none⟩) K.slots.length K.slots.length] 80)).alloc (.cells #[.int .i64 K.prom, .int .i64 K.known, .slice (some ⟨q0, 0, none⟩) K.slots.length K.slots.length] 80) := ⟨_, rfl⟩
  have HBa : Hid (Below w.heap.size w wa) := by show Below _ _ _; rw [hwa]; exact blw_alloc (blw_alloc (Below.refl _ _) _) _
  have HXa : Hid (Box3 wa w.heap.size (.int .i64 K.prom) (.int .i64 K.known) (.slice (some ⟨b0, 0, none⟩) K.slots.length K.slots.length) ∧ Box3 wa (w.heap.size + 1) (.int .i64 K.prom) (.int .i64 K.known) (.slice (some ⟨q0, 0, none⟩) K.slots.length K.slots.length)) := by show _ ∧ _; rw [hwa]; exact ⟨(Box3.new' w _ _ _ _ _ rfl).past _, Box3.new' _ _ _ _ _ _ (by simp)⟩
  go_enter Tryz.func96, Tryz.ntmps96
  go_upto_region 1 with fail
  rw [← hwa]
  clear hwa
  obtain ⟨yz, y0, y1, y2⟩ := HXa.out.1
  obtain ⟨xz, x0, x1, x2⟩ := HXa.out.2
  go_wp2_with fail
  refine (eqRss b0 q0 K.slots wa (HH.out.1.later HBa.out).l0 (HH.out.2.later HBa.out).l0).mono ?_
  rintro e wb ⟨rfl, hb⟩
  have HBb : Hid (Below w.heap.size w wb) := blw_trans HBa.out hb
  have HXb : Hid (Box3 wb w.heap.size (.int .i64 K.prom) (.int .i64 K.known) (.slice (some ⟨b0, 0, none⟩) K.slots.length K.slots.length) ∧ Box3 wb (w.heap.size + 1) (.int .i64 K.prom) (.int .i64 K.known) (.slice (some ⟨q0, 0, none⟩) K.slots.length K.slots.length)) := ⟨HXa.out.1.later hb, HXa.out.2.later hb⟩
  clear hb yz y0 y1 y2 xz x0 x1 x2 HXa HBa
  go_wp2
  go_ret
  exact ⟨rfl, HBb.out⟩

end Go.Proofs.YtfkkohfjkofgnaaGreat

namespace Go.Proofs.YtfkkohfjkofgnaaGreat
open Go.RowKit Go.Deep

theorem hid {p : Prop} (h : p) : Hid p := h

namespace Pl
theorem to_succ (p : Nat → Bool) (k : Nat) : (List.range (k + 1)).all p = ((List.range k).all p && p k) := by
  rw [List.range_succ, List.all_append]; simp
theorem to_false (p : Nat → Bool) (n k : Nat) (h : k < n) (hp : p k = false) : (List.range n).all p = false := by
  rw [List.all_eq_false]
  exact ⟨k, List.mem_range.2 h, by simp [hp]⟩
end Pl

/-- All below k. -/
def allTo (p : Nat → Bool) : Nat → Bool
  | 0 => true
  | n + 1 => allTo p n && p n
theorem allTo_false {p : Nat → Bool} {k : Nat} (hp : p k = false) : ∀ n, k < n → allTo p n = false
  | 0, h => absurd h (Nat.not_lt_zero _)
  | n + 1, h => by
    rw [allTo]
    by_cases e : k = n
    · subst e; simp [hp]
    · rw [allTo_false hp n (by omega)]; rfl
theorem allTo_iff (p : Nat → Bool) : ∀ n, allTo p n = true ↔ ∀ i, i < n → p i = true
  | 0 => by simp [allTo]
  | n + 1 => by
    rw [allTo, Bool.and_eq_true, allTo_iff p n]
    constructor
    · intro h i hi
      by_cases e : i = n
      · subst e; exact h.2
      · exact h.1 i (by omega)
    · intro h
      exact ⟨fun i hi => h i (by omega), h n (by omega)⟩
theorem allTo_congr {p q : Nat → Bool} : ∀ {n : Nat}, (∀ i, i < n → p i = q i) → allTo p n = allTo q n
  | 0, _ => rfl
  | n + 1, h => by rw [allTo, allTo, allTo_congr (n := n) (fun i hi => h i (by omega)), h n (by omega)]

/-- The first below k that p holds of; -1, if there is none. -/
def firstTo (p : Nat → Bool) : Nat → Int
  | 0 => -1
  | n + 1 => if 0 ≤ firstTo p n then firstTo p n else if p n then (n : Int) else -1
theorem firstTo_cases (p : Nat → Bool) : ∀ n, firstTo p n = -1 ∧ (∀ i, i < n → p i = false) ∨ ∃ k : Nat, k < n ∧ firstTo p n = k ∧ p k = true ∧ ∀ i, i < k → p i = false
  | 0 => Or.inl ⟨rfl, fun i hi => absurd hi (Nat.not_lt_zero i)⟩
  | n + 1 => by
    rcases firstTo_cases p n with ⟨h, hn⟩ | ⟨k, hk, h, hp, hn⟩
    · by_cases e : p n = true
      · refine Or.inr ⟨n, by omega, ?_, e, hn⟩
        rw [firstTo, h]; simp [e]
      · refine Or.inl ⟨?_, fun i hi => ?_⟩
        · rw [firstTo, h]; simp [e]
        · by_cases q : i = n
          · subst q; simpa using e
          · exact hn i (by omega)
    · refine Or.inr ⟨k, by omega, ?_, hp, hn⟩
      rw [firstTo, h, if_pos (by omega)]
theorem firstTo_none {p : Nat → Bool} {n : Nat} (h : ∀ i, i < n → p i = false) : firstTo p n = -1 := by
  rcases firstTo_cases p n with ⟨e, _⟩ | ⟨k, hk, _, hp, _⟩
  · exact e
  · rw [h k hk] at hp; cases hp
theorem firstTo_hit {p : Nat → Bool} {n k : Nat} (hk : k < n) (hp : p k = true) (h : ∀ i, i < k → p i = false) : firstTo p n = k := by
  rcases firstTo_cases p n with ⟨_, hn⟩ | ⟨j, hj, e, hq, hn⟩
  · rw [hn k hk] at hp; cases hp
  · rw [e]
    rcases Nat.lt_trichotomy j k with q | q | q
    · rw [h j q] at hq; cases hq
    · rw [q]
    · rw [hn k q] at hp; cases hp

def inB (n lo hi : Int) : Bool := decide (lo ≤ n) && decide (n ≤ hi)
def same (a b : ByteArray) : Bool := a.toList == b.toList

/-- A slot that is ok. -/
def slotOk (s : Rs) : Bool := inB s.bal 0 1000000 && decide (s.txt.size ≤ 160) && !(decide (s.bal = 0) && !s.txt.toList.isEmpty)
def slotsOk (l : List Rs) : Bool := decide (l.length ≤ 120) && allTo (fun i => slotOk (l.getD i Rs.none)) l.length
/-- A slot as a disk wants it. -/
def dslot (d : Rd) (i : Nat) : Bool := decide ((d.slots.getD i Rs.none).bal ≤ d.prom) && !(decide ((i : Int) < d.known) && decide ((d.slots.getD i Rs.none).bal = 0))
def diskOk (d : Rd) : Bool := inB d.prom 0 1000000 && slotsOk d.slots && inB d.known 0 d.slots.length && allTo (dslot d) d.slots.length
/-- Two rows of slots merged. -/
def merge (a b : List Rs) : List Rs := (List.range (max a.length b.length)).map fun i => if a.length ≤ i then b.getD i Rs.none else if i < b.length && decide ((a.getD i Rs.none).bal < (b.getD i Rs.none).bal) then b.getD i Rs.none else a.getD i Rs.none

/-- Lists that lie anywhere, of any room. -/
structure RssV (w : World) (a : Option Addr) (ms : List Rs) : Prop where
  len : ms.length ≤ maxLen
  at_ : ∀ i, i < ms.length → ∃ b off, a = some ⟨b, off, none⟩ ∧ b < w.heap.size ∧ RsIs w b (off + i * 2) (ms.getD i Rs.none)
theorem RssV.later {w w' : World} {a : Option Addr} {ms : List Rs} (h : RssV w a ms) (hb : Below w.heap.size w w') : RssV w' a ms :=
  ⟨h.len, fun i hi => by obtain ⟨b, off, e, hl, hf⟩ := h.at_ i hi; exact ⟨b, off, e, Nat.lt_of_lt_of_le hl hb.size, hf.later hb hl⟩⟩
theorem RssIn.v {w : World} {B : Nat} {ms : List Rs} (h : RssIn w B ms) : RssV w (some ⟨B, 0, none⟩) ms :=
  ⟨by have := h.len; unfold maxLen; omega, fun i hi => ⟨B, 0, rfl, h.lt, by rw [Nat.zero_add]; exact h.at_ i hi⟩⟩
theorem RdIn.v {w : World} {b0 : Nat} {K : Rd} (h : RdIn w b0 K) : RssV w (some ⟨b0, 0, none⟩) K.slots := h.l0.v

end Go.Proofs.YtfkkohfjkofgnaaGreat

namespace Go.Proofs.YtfkkohfjkofgnaaGreat
open Go.RowKit Go.Deep

structure Pst (w : World) where
  W : World
  ok : Below w.heap.size w W

theorem pst_some (w : World) : Nonempty (Pst w) := ⟨⟨w, Below.refl _ _⟩⟩
theorem Pst.cell {w : World} (x : Pst w) {b j : Nat} {v : Value} (h : w.cell? ⟨b, j, none⟩ = some v) (hb : b < w.heap.size) : x.W.cell? ⟨b, j, none⟩ = some v := (x.ok.cell (p := ⟨b, j, none⟩) hb).trans h
theorem Pst.size {w : World} (x : Pst w) {b : Nat} (h : b < w.heap.size) : b < x.W.heap.size := Nat.lt_of_lt_of_le h x.ok.size

theorem region_class {P : Program} {id : Nat} {Q : Exit → Act → World → Prop} {a : Act} {w : World} {l : List Oper} (v : World) (hv : Below v.heap.size v w) (hm : P.follows .mixedOrders = true) (hB : Region.lexB .any l.toArray = true)
    (h : wpQuiet P l.toArray (fun w' => ∃ x : Pst v, w' = x.W) (fun a' => ∀ w', (∃ x : Pst v, w' = x.W) → Q .normal a' w') l a) : (Code.region id l.toArray true).wp P Q a w :=
  wp_region_quiet (C := fun w' => ∃ x : Pst v, w' = x.W) hm hB ⟨⟨w.drew, Below.drew hv⟩, rfl⟩ (by simpa using h)

end Go.Proofs.YtfkkohfjkofgnaaGreat

namespace Go.Proofs.YtfkkohfjkofgnaaGreat
open Go.RowKit Go.Deep

set_option maxHeartbeats 400000 in
theorem l21InS (n lo hi : Int) (w : World) :
    Calls Tryz.prog 41 #[.int .i64 n, .int .i64 lo, .int .i64 hi] w fun e w' => e = .returned (.bool (inB n lo hi)) ∧ w = w' := by
  unfold inB
  by_cases h : lo ≤ n
  · go_enter Tryz.func41, Tryz.ntmps41
    go_wp2
    go_ret
    exact ⟨Pl.ret_bool (by simp [h]), rfl⟩
  · go_enter Tryz.func41, Tryz.ntmps41
    go_wp2
    go_ret
    exact ⟨Pl.ret_bool (by rw [Bool.eq_iff_iff]; simp; omega), rfl⟩

end Go.Proofs.YtfkkohfjkofgnaaGreat
