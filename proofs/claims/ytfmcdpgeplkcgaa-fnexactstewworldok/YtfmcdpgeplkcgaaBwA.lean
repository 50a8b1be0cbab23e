/-
  Stewards: past books, the last one first: an iterator of the library.
-/
import Derived.RangeFuncNested
import Derived.RangeFuncLeaves
import Derived.RangeFuncBox
import Derived.Shelf.Abstract
import Derived.OwnWalkIn
import Derived.TacticsInMore
import Derived.LoopNIn
import Derived.LoopIn
import Derived.Test.YtfmcdpgeplkcgaaStP
namespace Go.Proofs.Ytfmcdpgeplkcgaa
open Go.RowKit Go.Deep

/-- The places from the last one down: the first m of them. -/
def downs (n m : Nat) : List Nat := (List.range m).map fun j => n - 1 - j
theorem downs_snoc (n m : Nat) : downs n (m + 1) = downs n m ++ [n - 1 - m] := by simp [downs, List.range_succ]
theorem downs_len (n m : Nat) : (downs n m).length = m := by simp [downs]
theorem downs_pre (n m M : Nat) (h : m ≤ M) : downs n m <+: downs n M := by
  obtain ⟨k, rfl⟩ : ∃ k, M = m + k := ⟨M - m, by omega⟩
  induction k with
  | zero => exact List.prefix_refl _
  | succ k ih => rw [show m + (k + 1) = (m + k) + 1 from rfl, downs_snoc]; exact (ih (by omega)).trans (List.prefix_append _ _)

/-- What an iterator wants kept: the blocks of P lie as they lay. -/
def KptB (P : Nat → Prop) (A B : World) : Prop := A.heap.size ≤ B.heap.size ∧ ∀ b, P b → b < A.heap.size → B.heap[b]? = A.heap[b]?
theorem KptB.trans {P : Nat → Prop} {A B C : World} (h : KptB P A B) (k : KptB P B C) : KptB P A C := ⟨Nat.le_trans h.1 k.1, fun b hb hl => (k.2 b hb (Nat.lt_of_lt_of_le hl h.1)).trans (h.2 b hb hl)⟩
theorem KptB.of_below {P : Nat → Prop} {A B : World} (h : Below A.heap.size A B) : KptB P A B := ⟨h.size, fun b _ hl => h.block b hl⟩
theorem KptB.cell {P : Nat → Prop} {A B : World} (h : KptB P A B) {b : Nat} (hb : P b) (hl : b < A.heap.size) (j : Nat) : B.cell? ⟨b, j, none⟩ = A.cell? ⟨b, j, none⟩ := by
  unfold World.cell?; rw [h.2 b hb hl]

/-- What the iterator reads: the slice's box, the books' cells. -/
structure ItB (n : Nat) (a3 : Option Addr) (c3 bb : Nat) (N : Nat → Int) (A0 A1 A2 : Nat → Option Addr) (L0 L1 L2 C0 C1 C2 : Nat → Nat) (W : World) : Prop where
  box : W.cell? ⟨bb, 0, none⟩ = some (.slice a3 n c3)
  lt : bb < W.heap.size
  at_ : ∀ i, i < n → ∃ b off, a3 = some ⟨b, off, none⟩ ∧ b < W.heap.size ∧ W.cell? ⟨b, off + i * 4, none⟩ = some (.int .i64 (N i)) ∧ W.cell? ⟨b, off + i * 4 + 1, none⟩ = some (.slice (A0 i) (L0 i) (C0 i)) ∧ W.cell? ⟨b, off + i * 4 + 2, none⟩ = some (.slice (A1 i) (L1 i) (C1 i)) ∧ W.cell? ⟨b, off + i * 4 + 3, none⟩ = some (.slice (A2 i) (L2 i) (C2 i))
theorem ItB.keep {n : Nat} {a3 : Option Addr} {c3 bb : Nat} {N : Nat → Int} {A0 A1 A2 : Nat → Option Addr} {L0 L1 L2 C0 C1 C2 : Nat → Nat} {P : Nat → Prop} {A B : World} (h : ItB n a3 c3 bb N A0 A1 A2 L0 L1 L2 C0 C1 C2 A) (k : KptB P A B) (h1 : P bb) (h3 : ∀ b off, a3 = some ⟨b, off, none⟩ → 0 < n → P b) : ItB n a3 c3 bb N A0 A1 A2 L0 L1 L2 C0 C1 C2 B := by
  obtain ⟨hx, hl, ha⟩ := h
  refine ⟨(k.cell h1 hl 0).trans hx, Nat.lt_of_lt_of_le hl k.1, fun i hi => ?_⟩
  obtain ⟨b, off, e, hb, q0, q1, q2, q3⟩ := ha i hi
  have c := fun j => k.cell (h3 b off e (by omega)) hb j
  exact ⟨b, off, e, Nat.lt_of_lt_of_le hb k.1, (c _).trans q0, (c _).trans q1, (c _).trans q2, (c _).trans q3⟩
theorem ItB.later {n : Nat} {a3 : Option Addr} {c3 bb : Nat} {N : Nat → Int} {A0 A1 A2 : Nat → Option Addr} {L0 L1 L2 C0 C1 C2 : Nat → Nat} {A B : World} (h : ItB n a3 c3 bb N A0 A1 A2 L0 L1 L2 C0 C1 C2 A) (k : Below A.heap.size A B) : ItB n a3 c3 bb N A0 A1 A2 L0 L1 L2 C0 C1 C2 B :=
  h.keep (P := fun _ => True) (KptB.of_below k) trivial (fun _ _ _ _ => trivial)

attribute [local go_sem] Oper.semAt_some

set_option maxRecDepth 100000 in
set_option maxHeartbeats 4000000 in
theorem backward_stops (k : Nat) (hk1 : 1 ≤ k) (w : World) (n : Nat) (a3 : Option Addr) (c3 bb : Nat) (N : Nat → Int) (A0 A1 A2 : Nat → Option Addr) (L0 L1 L2 C0 C1 C2 : Nat → Nat) (P : Nat → Prop) (hI : ItB n a3 c3 bb N A0 A1 A2 L0 L1 L2 C0 C1 C2 w) (h1 : P bb) (h3 : ∀ b off, a3 = some ⟨b, off, none⟩ → 0 < n → P b) (hn : n ≤ 1048576) :
    SeqStopsK (α := Nat) Fence.wide k Try.prog 33 #[.pointer (some ⟨bb, 0, none⟩)] (fun q => #[.int .i64 (q : Nat), .agg #[.int .i64 (N q), .slice (A0 q) (L0 q) (C0 q), .slice (A1 q) (L1 q) (C1 q), .slice (A2 q) (L2 q) (C2 q)]]) (KptB P)
      (fun xs => xs = downs n n) (fun pre => pre <+: downs n n) n w := by
  intro l J Jx W hW hJ hJx hY h0
  have hIW := hI.later hW
  clear hI hW
  refine callsIn_of_wp Try.func33 rfl trivial ?_ rfl
  simp only [Try.ntmps33, List.size_toArray, List.length_cons, List.length_nil, Nat.reduceAdd, Nat.reduceSub, Array.replicate_succ, Array.replicate_zero, List.push_toArray, List.append_toArray, List.nil_append, List.cons_append]
  have hx := hIW.box
  have hxl := hIW.lt
  have HK := hid (And.intro h1 h3)
  have HIW := hid hIW
  have HY := hid hY
  clear h1 h3 hIW hY
  gi_wp2
  clear hx hxl
  gi_loopw [3] (fun i wr => ∃ m : Nat, m ≤ n ∧ i = .int .i64 ((n : Int) - 1 - (m : Int)) ∧ ItB n a3 c3 bb N A0 A1 A2 L0 L1 L2 C0 C1 C2 wr ∧ J (downs n m) wr)
    (fun i _ => (intOf i + 1).toNat)
  case atStart => exact ⟨0, Nat.zero_le _, by go_num, HIW.out, h0⟩
  case round =>
    obtain ⟨m, hm, rfl, hIr, hJr⟩ := hrel
    have HIr := hid hIr
    have hx := hIr.box
    have hxl := hIr.lt
    clear hIr
    by_cases hlt : m < n
    · obtain ⟨q, hq⟩ : ∃ q : Nat, q = n - 1 - m := ⟨_, rfl⟩
      have hqi : (n : Int) - 1 - (m : Int) = (q : Int) := by omega
      rw [hqi]
      have hql : q < n := by omega
      obtain ⟨b, off, ha, hb, q0, q1, q2, q3⟩ := HIr.out.at_ q hql
      subst ha
      obtain ⟨fn, tmps, assign, body, hy, hR⟩ := HY.out (downs n m) q wr hJr (by rw [downs_len]; exact hlt)
      try dsimp only at hy
      have HQ := hid (And.intro hq hqi)
      have HR := hid hR
      clear hq hqi hR
      gi_wp2
      refine HR.out.mono ?_
      rintro e W3 (⟨rfl, hJ3, hk3⟩ | ⟨rfl, hJx3⟩)
      · have HI3 := hid (HIr.out.keep hk3 HK.out.1 HK.out.2)
        clear q0 q1 q2 q3 hx hxl hy
        gi_wp2
        go_roundw
        case rel => exact ⟨m + 1, by omega, by have := HQ.out.2; first | (rw [← this]; go_num) | (congr 1; omega) | (simp; omega), HI3.out, by rw [downs_snoc, ← HQ.out.1]; exact hJ3⟩
        case measure => simp [intOf]; try omega
      · clear q0 q1 q2 q3 hx hxl hy
        gi_wp2
        refine bodyPost_ret (results_none rfl _ _ _) rfl ?_
        refine ⟨⟨_, rfl⟩, .inr ⟨downs n (m + 1), downs_pre _ _ _ (by omega), by rw [downs_snoc, ← HQ.out.1]; exact hJx3⟩⟩
    · obtain rfl : m = n := by omega
      have hneg : (m : Int) - 1 - (m : Int) = -1 := by omega
      rw [hneg]
      gi_wp2
      go_end0
      exact ⟨⟨_, rfl⟩, .inl ⟨_, rfl, hJr⟩⟩

theorem backwardI (a : Option Addr) (n c : Nat) (w : World) :
    Calls Try.prog 15 #[.slice a n c] w fun e w' =>
      e = .returned (.func (.func 33) #[] #[.pointer (some ⟨w.heap.size, 0, none⟩)]) ∧
      w' = w.alloc (.cells #[.slice a n c] 32) := by
  go_enter Try.func15, Try.ntmps15
  go_wp2
  go_ret
  exact ⟨rfl, rfl⟩

end Go.Proofs.Ytfmcdpgeplkcgaa
