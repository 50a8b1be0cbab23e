/-
  An ask in memory, as it is handed in and as it is copied: sizes, copies, equality.
-/
import Derived.Test.YtkjkklcflpchlaaGreatMemR
import Derived.Test.YtkjkklcflpchlaaGreatWalkAF
import Derived.Test.YtkjkklcflpchlaaGreatBoxV
import Derived.Test.YtkjkklcflpchlaaGreatMemL
namespace Go.Proofs.YtkjkklcflpchlaaGreat
open Go.RowKit Go.Deep

theorem Tryz.infoR3 : (Tryz.prog.info? 3).map (fun i => (i.zero, i.size, i.bytes)) = some (some (.int .i64 0), 1, 8) := by kernel_rfl
theorem Tryz.underlying28' : Tryz.prog.underlying 28 = some (.slice 3) := by kernel_rfl

theorem make_intsR (n : Nat) (h : n ≤ 1048576) (W : World) :
    (Instr.makeSlice 28 (.int .i64 (n : Int)) (.int .i64 (n : Int))).run Tryz.prog W = .ok (.slice (some ⟨W.heap.size, 0, none⟩) n n) (W.alloc (.cells (madeCells #[.int .i64 0] n) 3)) :=
  run_make_row' 28 3 (.int .i64 0) 8 Tryz.underlying28' Tryz.infoR3 rfl .i64 .i64 n (by omega) (by omega) W

theorem put_intsR (cs : Array Value) (l : List Int) (k : Nat) (s : Int) (hk : k < l.length) (hs : l.getD k 0 = s) (hsz : cs.size = l.length)
    (h : ∀ j, j < k → cs[j]? = some (.int .i64 (l.getD j 0))) :
    (cs.setIfInBounds k (.int .i64 s)).size = l.length ∧ ∀ j, j < k + 1 → (cs.setIfInBounds k (.int .i64 s))[j]? = some (.int .i64 (l.getD j 0)) := by
  refine ⟨by simpa using hsz, fun j hj => ?_⟩
  rw [Array.getElem?_setIfInBounds]
  by_cases e : k = j
  · subst e; rw [if_pos rfl, if_pos (by omega), hs]
  · rw [if_neg e]; exact h j (by omega)

set_option maxHeartbeats 400000 in
theorem toInts_row (b off cap : Nat) (l : List Int) (w : World) (hb : b < w.heap.size) (hl : l.length ≤ 1048576)
    (hc : ∀ i, i < l.length → w.cell? ⟨b, off + i, none⟩ = some (.int .i64 (l.getD i 0))) :
    Calls Tryz.prog 59 #[.slice (some ⟨b, off, none⟩) l.length cap] w fun e w' => ∃ cs : Array Value, e = .returned (.slice (some ⟨w.heap.size, 0, none⟩) l.length l.length) ∧ w' = w.alloc (.cells cs 3) ∧ cs.size = l.length ∧
      ∀ j, j < l.length → cs[j]? = some (.int .i64 (l.getD j 0)) := by
  have hmk := make_intsR l.length hl
  have HC : Hid (∀ o i, i < l.length → (w.alloc o).cell? ⟨b, off + i, none⟩ = some (.int .i64 (l.getD i 0))) := by
    intro o i hi
    rw [← hc i hi]
    exact (blw_alloc (Below.refl _ _) o : Below w.heap.size w _).cell (p := ⟨b, off + i, none⟩) hb
  clear hc
  go_enter Tryz.func59, Tryz.ntmps59
  go_wp2
  go_loopw [4] (fun i wr => ∃ (k : Nat) (cs : Array Value), k ≤ l.length ∧ i = .int .i64 k ∧ wr = w.alloc (.cells cs 3) ∧ cs.size = l.length ∧ ∀ j, j < k → cs[j]? = some (.int .i64 (l.getD j 0))) (fun i _ => l.length - (intOf i).toNat)
  case atStart => exact ⟨0, _, Nat.zero_le _, rfl, rfl, size_madeCells _ _, fun j hj => absurd hj (Nat.not_lt_zero j)⟩
  case round =>
    obtain ⟨k, cs, hk, rfl, rfl, hsz, hall⟩ := hrel
    have HA : Hid (cs.size = l.length ∧ ∀ j, j < k → cs[j]? = some (.int .i64 (l.getD j 0))) := ⟨hsz, hall⟩
    clear hall hsz
    by_cases hlt : k < l.length
    · have hck := HC.out (.cells cs 3) k hlt
      have hold : ∃ v, cs[k]? = some v := ⟨_, Array.getElem?_eq_getElem (by rw [HA.out.1]; exact hlt)⟩
      obtain ⟨v, hv⟩ := hold
      obtain ⟨y, hy⟩ : ∃ y, y = l.getD k 0 := ⟨_, rfl⟩
      rw [← hy] at hck
      have HP : Hid ((cs.setIfInBounds k (.int .i64 y)).size = l.length ∧ ∀ j, j < k + 1 → (cs.setIfInBounds k (.int .i64 y))[j]? = some (.int .i64 (l.getD j 0))) :=
        put_intsR cs l k y hlt hy.symm HA.out.1 HA.out.2
      clear hy
      go_wp2
      go_roundw
      case rel => exact ⟨k + 1, _, by omega, by go_num, rfl, HP.out.1, HP.out.2⟩
      case measure => simp [intOf]; omega
    · obtain rfl : k = l.length := by omega
      go_wp2
      go_ret
      exact ⟨cs, rfl, rfl, HA.out.1, HA.out.2⟩

set_option maxHeartbeats 400000 in
theorem toInts_nil (a : Option Addr) (cap : Nat) (w : World) :
    Calls Tryz.prog 59 #[.slice a 0 cap] w fun e w' => e = .returned (.slice (some ⟨w.heap.size, 0, none⟩) 0 0) ∧ w' = w.alloc (.cells #[] 3) := by
  have hmk : ∀ W : World, (Instr.makeSlice 28 (.int .i64 0) (.int .i64 0)).run Tryz.prog W = .ok (.slice (some ⟨W.heap.size, 0, none⟩) 0 0) (W.alloc (.cells #[] 3)) := by
    intro W
    have h := make_intsR 0 (by omega) W
    have h0 : madeCells #[.int .i64 0] 0 = #[] := by simp [madeCells]
    rw [h0] at h
    exact h
  go_enter Tryz.func59, Tryz.ntmps59
  go_wp2
  refine wp_loop_rounds 1 ?_
  rw [rounds_succ]
  go_wp2
  go_ret
  exact ⟨rfl, rfl⟩

theorem toInts (v : Value) (l : List Int) (w : World) (hl : l.length ≤ 1048576) (h : NumsAt w v l) :
    Calls Tryz.prog 59 #[v] w fun e w' => e = .returned (.slice (some ⟨w.heap.size, 0, none⟩) l.length l.length) ∧ ∃ cs : Array Value, w' = w.alloc (.cells cs 3) ∧ cs.size = l.length ∧ ∀ j, j < l.length → cs[j]? = some (.int .i64 (l.getD j 0)) := by
  rcases h with ⟨a, cap, rfl, rfl⟩ | ⟨b, off, cap, rfl, hb, _, hc⟩
  · refine (toInts_nil a cap w).mono ?_
    rintro e w' ⟨rfl, rfl⟩
    exact ⟨rfl, _, rfl, rfl, fun j hj => absurd hj (Nat.not_lt_zero j)⟩
  · refine (toInts_row b off cap l w hb hl hc).mono ?_
    rintro e w' ⟨cs, rfl, rfl, h1, h2⟩
    exact ⟨rfl, cs, rfl, h1, h2⟩

theorem ints_new (w : World) (l : List Int) (cs : Array Value) (hl : l.length ≤ 1048576) (h : ∀ j, j < l.length → cs[j]? = some (.int .i64 (l.getD j 0))) : IntsIn (w.alloc (.cells cs 3)) w.heap.size l :=
  ⟨by simp, hl, fun i hi => by have := h i hi; simp [this]⟩

set_option maxHeartbeats 400000 in
theorem szInts (a : Option Addr) (n cap : Nat) (left : Int) (w : World) (h0 : 0 ≤ left) (h1 : left ≤ 1048576) (hn : n ≤ maxLen) :
    Calls Tryz.prog 45 #[.slice a n cap, .int .i64 left] w fun e w' => (∃ r : Int, e = .returned (.int .i64 r) ∧ szP ((n : Int) ≤ left) left r) ∧ w = w' := by
  unfold maxLen at hn
  by_cases c : left < (n : Int)
  all_goals
    go_enter Tryz.func45, Tryz.ntmps45
    go_wp2
    go_ret
    exact ⟨⟨_, rfl, by unfold szP; exact ⟨by omega, by omega, fun _ => by first | trivial | omega⟩⟩, rfl⟩

set_option maxHeartbeats 1000000 in
theorem szRule (a : Option Addr) (cap : Nat) (r : Rul) (left : Int) (w : World) (h0 : 0 ≤ left) (h1 : left ≤ 1048576) (hn : r.verbs.length ≤ maxLen) (hs : r.sized) :
    Calls Tryz.prog 22 #[.agg #[.slice a r.verbs.length cap, .string r.kind, .string r.team, .string r.pre], .int .i64 left] w fun e w' => (∃ x : Int, e = .returned (.int .i64 x) ∧ szP ((r.verbs.length : Int) ≤ left) left x) ∧ Below w.heap.size w w' := by
  obtain ⟨s0, s1, s2⟩ := hs
  unfold maxLen at s0 s1 s2
  have hbx : Below w.heap.size w (w.alloc (.cells #[.slice a r.verbs.length cap, .string r.kind, .string r.team, .string r.pre] 30)) := blw_alloc (Below.refl _ _) _
  have HX : Hid (∀ W, Calls Tryz.prog 45 #[.slice a r.verbs.length cap, .int .i64 left] W fun e w' => (∃ x : Int, e = .returned (.int .i64 x) ∧ szP ((r.verbs.length : Int) ≤ left) left x) ∧ W = w') := fun W => szInts a _ cap left W h0 h1 hn
  clear hn
  go_enter Tryz.func22, Tryz.ntmps22
  go_wp2_with fail
  refine (HX.out _).mono ?_
  rintro e w2 ⟨⟨x, rfl, hx⟩, rfl⟩
  have HS : Hid (szP ((r.verbs.length : Int) ≤ left) left x) := hx
  have hx1 := hx.1
  have hx2 := hx.2.1
  clear hx HX
  by_cases c0 : x < 0
  · go_wp2
    go_ret
    exact ⟨⟨_, rfl, by have := HS.out; unfold szP at this ⊢; exact ⟨by omega, by omega, fun _ => by first | trivial | omega⟩⟩, hbx⟩
  by_cases c1 : x < (r.kind.size : Int)
  · go_wp2
    go_ret
    exact ⟨⟨_, rfl, by have := HS.out; unfold szP at this ⊢; exact ⟨by omega, by omega, fun _ => by first | trivial | omega⟩⟩, hbx⟩
  by_cases c2 : x - r.kind.size < (r.team.size : Int)
  · go_wp2
    go_ret
    exact ⟨⟨_, rfl, by have := HS.out; unfold szP at this ⊢; exact ⟨by omega, by omega, fun _ => by first | trivial | omega⟩⟩, hbx⟩
  by_cases c3 : x - r.kind.size - r.team.size < (r.pre.size : Int)
  all_goals
    go_wp2
    go_ret
    exact ⟨⟨_, rfl, by have := HS.out; unfold szP at this ⊢; exact ⟨by omega, by omega, fun _ => by first | trivial | omega⟩⟩, hbx⟩

set_option maxHeartbeats 2000000 in
theorem toRule (a : Option Addr) (cap : Nat) (r : Rul) (w : World) (hl : r.verbs.length ≤ 1048576) (h : NumsAt w (.slice a r.verbs.length cap) r.verbs) :
    Calls Tryz.prog 29 #[.agg #[.slice a r.verbs.length cap, .string r.kind, .string r.team, .string r.pre]] w fun e w' => (∃ b, e = .returned (.agg #[.slice (some ⟨b, 0, none⟩) r.verbs.length r.verbs.length, .string r.kind, .string r.team, .string r.pre]) ∧ w.heap.size ≤ b ∧ OwnBlk w' b 3 r.verbs.length ∧ IntsIn w' b r.verbs) ∧ Below w.heap.size w w' := by
  have HX : Hid (∀ W, Below w.heap.size w W → Calls Tryz.prog 59 #[.slice a r.verbs.length cap] W fun e w' => e = .returned (.slice (some ⟨W.heap.size, 0, none⟩) r.verbs.length r.verbs.length) ∧ ∃ cs : Array Value, w' = W.alloc (.cells cs 3) ∧ cs.size = r.verbs.length ∧ ∀ j, j < r.verbs.length → cs[j]? = some (.int .i64 (r.verbs.getD j 0))) :=
    fun W hW => toInts _ r.verbs W hl (h.later hW)
  clear h
  go_enter Tryz.func29, Tryz.ntmps29
  go_wp2_with fail
  refine (HX.out _ ?_).mono ?_
  · repeat (first | exact Below.refl _ _ | refine blw_alloc ?_ _)
  rintro e w2 ⟨rfl, cs, rfl, hsz, hcs⟩
  have HC : Hid (cs.size = r.verbs.length ∧ ∀ j, j < r.verbs.length → cs[j]? = some (.int .i64 (r.verbs.getD j 0))) := ⟨hsz, hcs⟩
  clear hsz hcs HX
  go_wp2
  refine bodyPost_ret (v := .agg #[.slice (some ⟨w.heap.size + 1 + 1 + 1, 0, none⟩) r.verbs.length r.verbs.length, .string r.kind, .string r.team, .string r.pre]) (by simp [results, Tryz.results29, go_sem]) rfl ?_
  refine ⟨⟨_, rfl, by omega, ?_, ?_⟩, ?_⟩
  · have q := OwnBlk.alloc (((w.alloc (.cells #[.slice a r.verbs.length cap, .string r.kind, .string r.team, .string r.pre] 30)).alloc (.cells #[.slice (some ⟨w.heap.size + 1 + 1 + 1, 0, none⟩) r.verbs.length r.verbs.length, .string r.kind, .string r.team, .string r.pre] 42)).alloc (.cells #[.slice (some ⟨w.heap.size + 1 + 1 + 1, 0, none⟩) r.verbs.length r.verbs.length, .string r.kind, .string r.team, .string r.pre] 42)) cs 3 _ HC.out.1
    simpa using q
  · have q := ints_new (((w.alloc (.cells #[.slice a r.verbs.length cap, .string r.kind, .string r.team, .string r.pre] 30)).alloc (.cells #[.slice (some ⟨w.heap.size + 1 + 1 + 1, 0, none⟩) r.verbs.length r.verbs.length, .string r.kind, .string r.team, .string r.pre] 42)).alloc (.cells #[.slice (some ⟨w.heap.size + 1 + 1 + 1, 0, none⟩) r.verbs.length r.verbs.length, .string r.kind, .string r.team, .string r.pre] 42)) r.verbs cs hl HC.out.2
    simpa using q
  · repeat (first | exact Below.refl _ _ | refine blw_alloc ?_ _ | refine Below.setCell ?_ (by simp) _)

set_option maxHeartbeats 1000000 in
theorem eqInts (b b' : Nat) (l : List Int) (w : World) (h : IntsIn w b l) (h' : IntsIn w b' l) :
    Calls Tryz.prog 69 #[.slice (some ⟨b, 0, none⟩) l.length l.length, .slice (some ⟨b', 0, none⟩) l.length l.length] w fun e w' => e = .returned (.bool true) ∧ Below w.heap.size w w' := by
  have hl := h.len
  have hc := h.at_
  have hc' := h'.at_
  clear h h'
  go_enter Tryz.func69, Tryz.ntmps69
  go_wp2
  go_loopw [5] (fun i wr => ∃ k : Nat, k ≤ l.length ∧ i = .int .i64 k ∧ ∃ n, wr = w.drewN n) (fun i _ => l.length - (intOf i).toNat)
  case atStart => exact ⟨0, Nat.zero_le _, rfl, 0, rfl⟩
  case round =>
    obtain ⟨k, hk, rfl, n, rfl⟩ := hrel
    by_cases hlt : k < l.length
    · obtain ⟨y, hy⟩ : ∃ y, y = l.getD k 0 := ⟨_, rfl⟩
      have hck : w.cell? ⟨b, k, none⟩ = some (.int .i64 y) := by rw [hy]; exact hc k hlt
      have hck' : w.cell? ⟨b', k, none⟩ = some (.int .i64 y) := by rw [hy]; exact hc' k hlt
      clear hc hc' hy
      go_wp2
      go_quiet (fail)
      go_wp2
      go_roundw
      case rel => exact ⟨k + 1, by omega, by go_num, _, rfl⟩
      case measure => simp [intOf]; omega
    · go_wp2
      go_ret
      exact ⟨rfl, blw_drewN (Below.refl _ _) n⟩

set_option maxHeartbeats 1000000 in
theorem eqRule (b b' : Nat) (r : Rul) (w : World) (h : IntsIn w b r.verbs) (h' : IntsIn w b' r.verbs) :
    Calls Tryz.prog 36 #[.agg #[.slice (some ⟨b, 0, none⟩) r.verbs.length r.verbs.length, .string r.kind, .string r.team, .string r.pre], .agg #[.slice (some ⟨b', 0, none⟩) r.verbs.length r.verbs.length, .string r.kind, .string r.team, .string r.pre]] w fun e w' => e = .returned (.bool true) ∧ Below w.heap.size w w' := by
  have hbx : Below w.heap.size w ((w.alloc (.cells #[.slice (some ⟨b, 0, none⟩) r.verbs.length r.verbs.length, .string r.kind, .string r.team, .string r.pre] 42)).alloc (.cells #[.slice (some ⟨b', 0, none⟩) r.verbs.length r.verbs.length, .string r.kind, .string r.team, .string r.pre] 42)) := blw_alloc (blw_alloc (Below.refl _ _) _) _
  obtain ⟨w2, hw2⟩ : ∃ w2, w2 = ((w.alloc (.cells #[.slice (some ⟨b, 0, none⟩) r.verbs.length r.verbs.length, .string r.kind, .string r.team, .string r.pre] 42)).alloc (.cells #[.slice (some ⟨b', 0, none⟩) r.verbs.length r.verbs.length, .string r.kind, .string r.team, .string r.pre] 42)) := ⟨_, rfl⟩
  have HX : Hid (Calls Tryz.prog 69 #[.slice (some ⟨b, 0, none⟩) r.verbs.length r.verbs.length, .slice (some ⟨b', 0, none⟩) r.verbs.length r.verbs.length] w2 fun e w' => e = .returned (.bool true) ∧ Below w2.heap.size w2 w') := by rw [hw2]; exact eqInts b b' r.verbs _ (h.later hbx) (h'.later hbx)
  have HB : Hid (Below w.heap.size w w2) := by rw [hw2]; exact hbx
  have HC : Hid (w.heap.size + 1 < w2.heap.size ∧ (∀ o, w2.cell? ⟨w.heap.size, o, none⟩ = (#[Value.slice (some ⟨b, 0, none⟩) r.verbs.length r.verbs.length, .string r.kind, .string r.team, .string r.pre])[o]?) ∧ (∀ o, w2.cell? ⟨w.heap.size + 1, o, none⟩ = (#[Value.slice (some ⟨b', 0, none⟩) r.verbs.length r.verbs.length, .string r.kind, .string r.team, .string r.pre])[o]?)) := by
    rw [hw2]
    refine ⟨by simp, fun o => ?_, fun o => ?_⟩
    · simp
    · simp
  clear h h' hbx
  go_enter Tryz.func36, Tryz.ntmps36
  go_wp2_with fail
  rw [← hw2]
  clear hw2
  refine HX.out.mono ?_
  rintro e w3 ⟨rfl, hb3⟩
  have c := fun o => (hb3.cell (p := ⟨w.heap.size, o, none⟩) (by have := HC.out.1; show w.heap.size < w2.heap.size; omega)).trans (HC.out.2.1 o)
  have d := fun o => (hb3.cell (p := ⟨w.heap.size + 1, o, none⟩) HC.out.1).trans (HC.out.2.2 o)
  have c1 : w3.cell? ⟨w.heap.size, 1, none⟩ = some (.string r.kind) := c 1
  have c2 : w3.cell? ⟨w.heap.size, 2, none⟩ = some (.string r.team) := c 2
  have c3 : w3.cell? ⟨w.heap.size, 3, none⟩ = some (.string r.pre) := c 3
  have d1 : w3.cell? ⟨w.heap.size + 1, 1, none⟩ = some (.string r.kind) := d 1
  have d2 : w3.cell? ⟨w.heap.size + 1, 2, none⟩ = some (.string r.team) := d 2
  have d3 : w3.cell? ⟨w.heap.size + 1, 3, none⟩ = some (.string r.pre) := d 3
  have HB3 : Hid (Below w.heap.size w w3) := blw_trans HB.out hb3
  clear c d hb3 HC HX HB
  go_wp2
  go_ret
  exact ⟨rfl, HB3.out⟩

end Go.Proofs.YtkjkklcflpchlaaGreat

namespace Go.Proofs.YtkjkklcflpchlaaGreat
open Go.RowKit Go.Deep

structure Ak where
  who : ByteArray
  verb : Int
  kind : ByteArray
  name : ByteArray
  team : ByteArray
  values : List ByteArray
  holds : List ByteArray
  seen : Int
  hold : ByteArray
  to_ : ByteArray
  rule : Rul
  number : Int

def Ak.sized (a : Ak) : Prop := a.who.size ≤ maxLen ∧ a.kind.size ≤ maxLen ∧ a.name.size ≤ maxLen ∧ a.team.size ≤ maxLen ∧ a.hold.size ≤ maxLen ∧ a.to_.size ≤ maxLen ∧ a.rule.verbs.length ≤ maxLen ∧ a.rule.sized
def Ak.small (a : Ak) : Prop := a.values.length ≤ 1048576 ∧ a.holds.length ≤ 1048576 ∧ a.rule.verbs.length ≤ 1048576

structure AkAt (w : World) (v1 v2 : Value) (ra : Option Addr) (rc : Nat) (a : Ak) : Prop where
  t1 : Texts w v1 a.values
  t2 : Texts w v2 a.holds
  n : NumsAt w (.slice ra a.rule.verbs.length rc) a.rule.verbs
  sized : a.sized

/-- Texts in a block of their own. -/
structure TxB (w : World) (b : Nat) (l : List ByteArray) : Prop where
  lt : b < w.heap.size
  len : l.length ≤ 1048576
  sz : ∀ i, i < l.length → (l.getD i ByteArray.empty).size ≤ maxLen
  at_ : ∀ i, i < l.length → w.cell? ⟨b, i, none⟩ = some (.string (l.getD i ByteArray.empty))

theorem TxB.later {w w' : World} {b : Nat} {l : List ByteArray} (h : TxB w b l) (hb : Below w.heap.size w w') : TxB w' b l :=
  ⟨Nat.lt_of_lt_of_le h.lt hb.size, h.len, h.sz, fun i hi => (hb.cell (p := ⟨b, i, none⟩) h.lt).trans (h.at_ i hi)⟩
theorem TxB.sc {w : World} {b B : Nat} {l : List ByteArray} (h : TxB w b l) (hne : b ≠ B) (o : Nat) (v : Value) : TxB (w.setCell ⟨B, o, none⟩ v) b l :=
  ⟨by rw [sc_size]; exact h.lt, h.len, h.sz, fun i hi => (sc_ne _ _ _ _ _ _ (Or.inl hne)).trans (h.at_ i hi)⟩
theorem TxB.texts {w : World} {b : Nat} {l : List ByteArray} (h : TxB w b l) : Texts w (.slice (some ⟨b, 0, none⟩) l.length l.length) l :=
  Or.inr ⟨b, 0, _, rfl, h.lt, h.sz, by have := h.len; unfold maxLen; omega, fun i hi => by rw [Nat.zero_add]; exact h.at_ i hi⟩

structure AkIn (w : World) (b1 b2 b3 : Nat) (a : Ak) : Prop where
  t1 : TxB w b1 a.values
  t2 : TxB w b2 a.holds
  n : IntsIn w b3 a.rule.verbs
  sized : a.sized

theorem IntsIn.putsA {w : World} {b B : Nat} {l : List Int} (h : IntsIn w b l) (hne : B < b) (o : Nat) (vs : List Value) : IntsIn (puts w B o 0 vs) b l :=
  ⟨by rw [puts_size]; exact h.lt, h.len, fun i hi => (puts_other B o b i vs w 0 (Or.inl (by omega))).trans (h.at_ i hi)⟩
theorem IntsIn.scA {w : World} {b B : Nat} {l : List Int} (h : IntsIn w b l) (hne : B < b) (o : Nat) (v : Value) : IntsIn (w.setCell ⟨B, o, none⟩ v) b l := h.putsA hne o [v]

theorem AkAt.later {w w' : World} {v1 v2 : Value} {ra : Option Addr} {rc : Nat} {a : Ak} (h : AkAt w v1 v2 ra rc a) (hb : Below w.heap.size w w') : AkAt w' v1 v2 ra rc a := ⟨h.t1.later hb, h.t2.later hb, h.n.later hb, h.sized⟩
theorem AkIn.later {w w' : World} {b1 b2 b3 : Nat} {a : Ak} (h : AkIn w b1 b2 b3 a) (hb : Below w.heap.size w w') : AkIn w' b1 b2 b3 a := ⟨h.t1.later hb, h.t2.later hb, h.n.later hb, h.sized⟩

set_option maxHeartbeats 4000000 in
theorem szAk (a : Ak) (v1 v2 : Value) (ra : Option Addr) (rc : Nat) (left : Int) (w : World) (h0 : 0 ≤ left) (h1 : left ≤ 1048576) (h : AkAt w v1 v2 ra rc a) :
    Calls Tryz.prog 6 #[.agg #[.string a.who, .int .i64 a.verb, .string a.kind, .string a.name, .string a.team, v1, v2, .int .i64 a.seen, .string a.hold, .string a.to_, .slice ra a.rule.verbs.length rc, .string a.rule.kind, .string a.rule.team, .string a.rule.pre, .int .i64 a.number], .int .i64 left] w fun e w' => (∃ r : Int, e = .returned (.int .i64 r) ∧ szP a.small left r) ∧ Below w.heap.size w w' := by
  obtain ⟨s1, s2, s3, s4, s5, s6, s7, s8⟩ := h.sized
  have HSR : Hid (a.rule.verbs.length ≤ maxLen ∧ a.rule.sized) := ⟨s7, s8⟩
  clear s7 s8
  unfold maxLen at s1 s2 s3 s4 s5 s6
  have HT : Hid (∀ o', Texts (w.alloc o') v1 a.values ∧ Texts (w.alloc o') v2 a.holds) := fun o' => ⟨h.t1.later (blw_alloc (Below.refl _ _) o'), h.t2.later (blw_alloc (Below.refl _ _) o')⟩
  clear h
  by_cases c1 : left < (a.who.size : Int)
  · go_enter Tryz.func6, Tryz.ntmps6
    go_wp2
    go_ret
    exact ⟨⟨_, rfl, by unfold szP; exact ⟨by omega, by omega, by omega⟩⟩, blw_alloc (Below.refl _ _) _⟩
  by_cases c2 : left - a.who.size < (a.kind.size : Int)
  · go_enter Tryz.func6, Tryz.ntmps6
    go_wp2
    go_ret
    exact ⟨⟨_, rfl, by unfold szP; exact ⟨by omega, by omega, by omega⟩⟩, blw_alloc (Below.refl _ _) _⟩
  by_cases c3 : left - a.who.size - a.kind.size < (a.name.size : Int)
  · go_enter Tryz.func6, Tryz.ntmps6
    go_wp2
    go_ret
    exact ⟨⟨_, rfl, by unfold szP; exact ⟨by omega, by omega, by omega⟩⟩, blw_alloc (Below.refl _ _) _⟩
  by_cases c4 : left - a.who.size - a.kind.size - a.name.size < (a.team.size : Int)
  · go_enter Tryz.func6, Tryz.ntmps6
    go_wp2
    go_ret
    exact ⟨⟨_, rfl, by unfold szP; exact ⟨by omega, by omega, by omega⟩⟩, blw_alloc (Below.refl _ _) _⟩
  go_enter Tryz.func6, Tryz.ntmps6
  go_wp2_with fail
  refine (szTexts_any v1 a.values _ _ (by omega) (by omega) (HT.out _).1).mono ?_
  rintro e w1 ⟨⟨r, rfl, hr⟩, rfl⟩
  have q1 : -1 ≤ r := hr.1
  have q2 : r ≤ left - a.who.size - a.kind.size - a.name.size - a.team.size := hr.2.1
  have HR : Hid (0 ≤ r → (a.values.length : Int) ≤ 1048576) := fun h => by have := hr.2.2 h; omega
  clear hr
  by_cases c5 : r < 0
  · go_wp2
    go_ret
    exact ⟨⟨_, rfl, by unfold szP; exact ⟨by omega, by omega, by omega⟩⟩, blw_alloc (Below.refl _ _) _⟩
  go_wp2_with fail
  refine (szTexts_any v2 a.holds _ _ (by omega) (by omega) (HT.out _).2).mono ?_
  rintro e w2 ⟨⟨r2, rfl, hr2⟩, rfl⟩
  have q3 : -1 ≤ r2 := hr2.1
  have q4 : r2 ≤ r := hr2.2.1
  have HR2 : Hid (0 ≤ r2 → (a.holds.length : Int) ≤ 1048576) := fun h => by have := hr2.2.2 h; omega
  clear hr2
  by_cases c6 : r2 < 0
  · go_wp2
    go_ret
    exact ⟨⟨_, rfl, by unfold szP; exact ⟨by omega, by omega, by omega⟩⟩, blw_alloc (Below.refl _ _) _⟩
  by_cases c7 : r2 < (a.hold.size : Int)
  · go_wp2
    go_ret
    exact ⟨⟨_, rfl, by unfold szP; exact ⟨by omega, by omega, by omega⟩⟩, blw_alloc (Below.refl _ _) _⟩
  by_cases c8 : r2 - a.hold.size < (a.to_.size : Int)
  · go_wp2
    go_ret
    exact ⟨⟨_, rfl, by unfold szP; exact ⟨by omega, by omega, by omega⟩⟩, blw_alloc (Below.refl _ _) _⟩
  go_wp2_with fail
  refine (szRule ra rc a.rule _ _ (by omega) (by omega) HSR.out.1 HSR.out.2).mono ?_
  rintro e w3 ⟨⟨x, rfl, hx⟩, hb⟩
  have q5 : -1 ≤ x := hx.1
  have q6 : x ≤ r2 - a.hold.size - a.to_.size := hx.2.1
  have HR3 : Hid (0 ≤ x → (a.rule.verbs.length : Int) ≤ 1048576) := fun h => by have := hx.2.2 h; omega
  have HB : Hid (Below w.heap.size w w3) := blw_trans (blw_alloc (Below.refl _ _) _) hb
  clear hx hb
  by_cases c9 : x < 0
  all_goals
    go_wp2
    go_ret
    refine ⟨⟨_, rfl, ?_⟩, HB.out⟩
    unfold szP
    exact ⟨by omega, by omega, fun h => ⟨by have := HR.out (by omega); omega, by have := HR2.out (by omega); omega, by have := HR3.out (by omega); omega⟩⟩

/-- While an ask is copied: the first n cells of what is made. -/
structure AkW (w W : World) (A : Array Value) (n : Nat) (cs : List Value) : Prop where
  bel : Below w.heap.size w W
  out : OwnBlk W (w.heap.size + 1 + 1) 44 15
  res : OwnBlk W (w.heap.size + 1) 44 15
  arg : BoxV W w.heap.size A
  cel : ∀ i, i < n → W.cell? ⟨w.heap.size + 1 + 1, i, none⟩ = cs[i]?

theorem AkW.later {w W W' : World} {A : Array Value} {n : Nat} {cs : List Value} (h : AkW w W A n cs) (hb : Below W.heap.size W W') : AkW w W' A n cs :=
  ⟨blw_trans h.bel hb, h.out.later hb, h.res.later hb, h.arg.later hb, fun i hi => (hb.cell (p := ⟨w.heap.size + 1 + 1, i, none⟩) h.out.lt).trans (h.cel i hi)⟩

theorem AkW.put {w W : World} {A : Array Value} {n : Nat} {cs : List Value} (h : AkW w W A n cs) (hn : n < 15) {v : Value} (hv : cs[n]? = some v) : AkW w (W.setCell ⟨w.heap.size + 1 + 1, n, none⟩ v) A (n + 1) cs :=
  ⟨h.bel.setCell (p := ⟨w.heap.size + 1 + 1, n, none⟩) (by show w.heap.size ≤ w.heap.size + 1 + 1; omega) _, h.out.setCell n _, h.res.sc_other (by omega) _ _,
    ⟨by rw [sc_size]; exact h.arg.lt, fun j => (sc_ne _ _ _ _ _ _ (Or.inl (by omega))).trans (h.arg.at_ j)⟩, fun i hi => by
    by_cases e : i = n
    · subst e; rw [sc_eq h.out _ hn, hv]
    · rw [sc_ne _ _ _ _ _ _ (Or.inr e)]; exact h.cel i (by omega)⟩

end Go.Proofs.YtkjkklcflpchlaaGreat
