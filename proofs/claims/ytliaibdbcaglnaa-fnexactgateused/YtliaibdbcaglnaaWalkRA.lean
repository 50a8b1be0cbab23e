/-
  Walks over rows of numbers, rules and acts: sizes, copies, equality.
-/
import Derived.Test.YtliaibdbcaglnaaMemR
import Derived.Test.YtliaibdbcaglnaaWalkTB
namespace Go.Proofs.Ytliaibdbcaglnaa
open Go.RowKit Go.Deep

theorem Try.infoR3 : (Try.prog.info? 3).map (fun i => (i.zero, i.size, i.bytes)) = some (some (.int .i64 0), 1, 8) := by kernel_rfl
theorem Try.underlying119' : Try.prog.underlying 119 = some (.slice 3) := by kernel_rfl

theorem make_intsR (n : Nat) (h : n ≤ 1048576) (W : World) :
    (Instr.makeSlice 119 (.int .i64 (n : Int)) (.int .i64 (n : Int))).run Try.prog W = .ok (.slice (some ⟨W.heap.size, 0, none⟩) n n) (W.alloc (.cells (madeCells #[.int .i64 0] n) 3)) :=
  run_make_row' 119 3 (.int .i64 0) 8 Try.underlying119' Try.infoR3 rfl .i64 .i64 n (by omega) (by omega) W

theorem put_intsR (cs : Array Value) (l : List Int) (k : Nat) (s : Int) (hk : k < l.length) (hs : l.getD k 0 = s) (hsz : cs.size = l.length)
    (h : ∀ j, j < k → cs[j]? = some (.int .i64 (l.getD j 0))) :
    (cs.setIfInBounds k (.int .i64 s)).size = l.length ∧ ∀ j, j < k + 1 → (cs.setIfInBounds k (.int .i64 s))[j]? = some (.int .i64 (l.getD j 0)) := by
  refine ⟨by simpa using hsz, fun j hj => ?_⟩
  rw [Array.getElem?_setIfInBounds]
  by_cases e : k = j
  · subst e; rw [if_pos rfl, if_pos (by omega), hs]
  · rw [if_neg e]; exact h j (by omega)

set_option maxHeartbeats 400000 in
theorem toInts_row (b off cap : Nat) (l : List Int) (w : World) (hb : b < w.heap.size) (hl : l.length ≤ 1048576)
    (hc : ∀ i, i < l.length → w.cell? ⟨b, off + i, none⟩ = some (.int .i64 (l.getD i 0))) :
    Calls Try.prog 80 #[.slice (some ⟨b, off, none⟩) l.length cap] w fun e w' => ∃ cs : Array Value, e = .returned (.slice (some ⟨w.heap.size, 0, none⟩) l.length l.length) ∧ w' = w.alloc (.cells cs 3) ∧ cs.size = l.length ∧
      ∀ j, j < l.length → cs[j]? = some (.int .i64 (l.getD j 0)) := by
  have hmk := make_intsR l.length hl
  have HC : Hid (∀ o i, i < l.length → (w.alloc o).cell? ⟨b, off + i, none⟩ = some (.int .i64 (l.getD i 0))) := by
    intro o i hi
    rw [← hc i hi]
    exact (blw_alloc (Below.refl _ _) o : Below w.heap.size w _).cell (p := ⟨b, off + i, none⟩) hb
  clear hc
  go_enter Try.func80, Try.ntmps80
  go_wp2
  go_loopw [4] (fun i wr => ∃ (k : Nat) (cs : Array Value), k ≤ l.length ∧ i = .int .i64 k ∧ wr = w.alloc (.cells cs 3) ∧ cs.size = l.length ∧ ∀ j, j < k → cs[j]? = some (.int .i64 (l.getD j 0))) (fun i _ => l.length - (intOf i).toNat)
  case atStart => exact ⟨0, _, Nat.zero_le _, rfl, rfl, size_madeCells _ _, fun j hj => absurd hj (Nat.not_lt_zero j)⟩
  case round =>
    obtain ⟨k, cs, hk, rfl, rfl, hsz, hall⟩ := hrel
    have HA : Hid (cs.size = l.length ∧ ∀ j, j < k → cs[j]? = some (.int .i64 (l.getD j 0))) := ⟨hsz, hall⟩
    clear hall hsz
    by_cases hlt : k < l.length
    · have hck := HC.out (.cells cs 3) k hlt
      have hold : ∃ v, cs[k]? = some v := ⟨_, Array.getElem?_eq_getElem (by rw [HA.out.1]; exact hlt)⟩
      obtain ⟨v, hv⟩ := hold
      obtain ⟨y, hy⟩ : ∃ y, y = l.getD k 0 := ⟨_, rfl⟩
      rw [← hy] at hck
      have HP : Hid ((cs.setIfInBounds k (.int .i64 y)).size = l.length ∧ ∀ j, j < k + 1 → (cs.setIfInBounds k (.int .i64 y))[j]? = some (.int .i64 (l.getD j 0))) :=
        put_intsR cs l k y hlt hy.symm HA.out.1 HA.out.2
      clear hy
      go_wp2
      go_roundw
      case rel => exact ⟨k + 1, _, by omega, by go_num, rfl, HP.out.1, HP.out.2⟩
      case measure => simp [intOf]; omega
    · obtain rfl : k = l.length := by omega
      go_wp2
      go_ret
      exact ⟨cs, rfl, rfl, HA.out.1, HA.out.2⟩

set_option maxHeartbeats 400000 in
theorem toInts_nil (a : Option Addr) (cap : Nat) (w : World) :
    Calls Try.prog 80 #[.slice a 0 cap] w fun e w' => e = .returned (.slice (some ⟨w.heap.size, 0, none⟩) 0 0) ∧ w' = w.alloc (.cells #[] 3) := by
  have hmk : ∀ W : World, (Instr.makeSlice 119 (.int .i64 0) (.int .i64 0)).run Try.prog W = .ok (.slice (some ⟨W.heap.size, 0, none⟩) 0 0) (W.alloc (.cells #[] 3)) := by
    intro W
    have h := make_intsR 0 (by omega) W
    have h0 : madeCells #[.int .i64 0] 0 = #[] := by simp [madeCells]
    rw [h0] at h
    exact h
  go_enter Try.func80, Try.ntmps80
  go_wp2
  refine wp_loop_rounds 1 ?_
  rw [rounds_succ]
  go_wp2
  go_ret
  exact ⟨rfl, rfl⟩

theorem toInts (v : Value) (l : List Int) (w : World) (hl : l.length ≤ 1048576) (h : NumsAt w v l) :
    Calls Try.prog 80 #[v] w fun e w' => e = .returned (.slice (some ⟨w.heap.size, 0, none⟩) l.length l.length) ∧ ∃ cs : Array Value, w' = w.alloc (.cells cs 3) ∧ cs.size = l.length ∧ ∀ j, j < l.length → cs[j]? = some (.int .i64 (l.getD j 0)) := by
  rcases h with ⟨a, cap, rfl, rfl⟩ | ⟨b, off, cap, rfl, hb, _, hc⟩
  · refine (toInts_nil a cap w).mono ?_
    rintro e w' ⟨rfl, rfl⟩
    exact ⟨rfl, _, rfl, rfl, fun j hj => absurd hj (Nat.not_lt_zero j)⟩
  · refine (toInts_row b off cap l w hb hl hc).mono ?_
    rintro e w' ⟨cs, rfl, rfl, h1, h2⟩
    exact ⟨rfl, cs, rfl, h1, h2⟩

theorem ints_new (w : World) (l : List Int) (cs : Array Value) (hl : l.length ≤ 1048576) (h : ∀ j, j < l.length → cs[j]? = some (.int .i64 (l.getD j 0))) : IntsIn (w.alloc (.cells cs 3)) w.heap.size l :=
  ⟨by simp, hl, fun i hi => by have := h i hi; simp [this]⟩

set_option maxHeartbeats 400000 in
theorem szInts (a : Option Addr) (n cap : Nat) (left : Int) (w : World) (h0 : 0 ≤ left) (h1 : left ≤ 1048576) (hn : n ≤ maxLen) :
    Calls Try.prog 79 #[.slice a n cap, .int .i64 left] w fun e w' => (∃ r : Int, e = .returned (.int .i64 r) ∧ szP ((n : Int) ≤ left) left r) ∧ w = w' := by
  unfold maxLen at hn
  by_cases c : left < (n : Int)
  all_goals
    go_enter Try.func79, Try.ntmps79
    go_wp2
    go_ret
    exact ⟨⟨_, rfl, by unfold szP; exact ⟨by omega, by omega, fun _ => by first | trivial | omega⟩⟩, rfl⟩

set_option maxHeartbeats 1000000 in
theorem szRule (a : Option Addr) (cap : Nat) (r : Rul) (left : Int) (w : World) (h0 : 0 ≤ left) (h1 : left ≤ 1048576) (hn : r.verbs.length ≤ maxLen) (hs : r.sized) :
    Calls Try.prog 73 #[.agg #[.slice a r.verbs.length cap, .string r.kind, .string r.team, .string r.pre], .int .i64 left] w fun e w' => (∃ x : Int, e = .returned (.int .i64 x) ∧ szP ((r.verbs.length : Int) ≤ left) left x) ∧ Below w.heap.size w w' := by
  obtain ⟨s0, s1, s2⟩ := hs
  unfold maxLen at s0 s1 s2
  have hbx : Below w.heap.size w (w.alloc (.cells #[.slice a r.verbs.length cap, .string r.kind, .string r.team, .string r.pre] 121)) := blw_alloc (Below.refl _ _) _
  have HX : Hid (∀ W, Calls Try.prog 79 #[.slice a r.verbs.length cap, .int .i64 left] W fun e w' => (∃ x : Int, e = .returned (.int .i64 x) ∧ szP ((r.verbs.length : Int) ≤ left) left x) ∧ W = w') := fun W => szInts a _ cap left W h0 h1 hn
  clear hn
  go_enter Try.func73, Try.ntmps73
  go_wp2_with fail
  refine (HX.out _).mono ?_
  rintro e w2 ⟨⟨x, rfl, hx⟩, rfl⟩
  have HS : Hid (szP ((r.verbs.length : Int) ≤ left) left x) := hx
  have hx1 := hx.1
  have hx2 := hx.2.1
  clear hx HX
  by_cases c0 : x < 0
  · go_wp2
    go_ret
    exact ⟨⟨_, rfl, by have := HS.out; unfold szP at this ⊢; exact ⟨by omega, by omega, fun _ => by first | trivial | omega⟩⟩, hbx⟩
  by_cases c1 : x < (r.kind.size : Int)
  · go_wp2
    go_ret
    exact ⟨⟨_, rfl, by have := HS.out; unfold szP at this ⊢; exact ⟨by omega, by omega, fun _ => by first | trivial | omega⟩⟩, hbx⟩
  by_cases c2 : x - r.kind.size < (r.team.size : Int)
  · go_wp2
    go_ret
    exact ⟨⟨_, rfl, by have := HS.out; unfold szP at this ⊢; exact ⟨by omega, by omega, fun _ => by first | trivial | omega⟩⟩, hbx⟩
  by_cases c3 : x - r.kind.size - r.team.size < (r.pre.size : Int)
  all_goals
    go_wp2
    go_ret
    exact ⟨⟨_, rfl, by have := HS.out; unfold szP at this ⊢; exact ⟨by omega, by omega, fun _ => by first | trivial | omega⟩⟩, hbx⟩

set_option maxHeartbeats 2000000 in
theorem toRule (a : Option Addr) (cap : Nat) (r : Rul) (w : World) (hl : r.verbs.length ≤ 1048576) (h : NumsAt w (.slice a r.verbs.length cap) r.verbs) :
    Calls Try.prog 74 #[.agg #[.slice a r.verbs.length cap, .string r.kind, .string r.team, .string r.pre]] w fun e w' => (∃ b, e = .returned (.agg #[.slice (some ⟨b, 0, none⟩) r.verbs.length r.verbs.length, .string r.kind, .string r.team, .string r.pre]) ∧ w.heap.size ≤ b ∧ OwnBlk w' b 3 r.verbs.length ∧ IntsIn w' b r.verbs) ∧ Below w.heap.size w w' := by
  have HX : Hid (∀ W, Below w.heap.size w W → Calls Try.prog 80 #[.slice a r.verbs.length cap] W fun e w' => e = .returned (.slice (some ⟨W.heap.size, 0, none⟩) r.verbs.length r.verbs.length) ∧ ∃ cs : Array Value, w' = W.alloc (.cells cs 3) ∧ cs.size = r.verbs.length ∧ ∀ j, j < r.verbs.length → cs[j]? = some (.int .i64 (r.verbs.getD j 0))) :=
    fun W hW => toInts _ r.verbs W hl (h.later hW)
  clear h
  go_enter Try.func74, Try.ntmps74
  go_wp2_with fail
  refine (HX.out _ ?_).mono ?_
  · repeat (first | exact Below.refl _ _ | refine blw_alloc ?_ _)
  rintro e w2 ⟨rfl, cs, rfl, hsz, hcs⟩
  have HC : Hid (cs.size = r.verbs.length ∧ ∀ j, j < r.verbs.length → cs[j]? = some (.int .i64 (r.verbs.getD j 0))) := ⟨hsz, hcs⟩
  clear hsz hcs HX
  go_wp2
  refine bodyPost_ret (v := .agg #[.slice (some ⟨w.heap.size + 1 + 1 + 1, 0, none⟩) r.verbs.length r.verbs.length, .string r.kind, .string r.team, .string r.pre]) (by simp [results, Try.results74, go_sem]) rfl ?_
  refine ⟨⟨_, rfl, by omega, ?_, ?_⟩, ?_⟩
  · have q := OwnBlk.alloc (((w.alloc (.cells #[.slice a r.verbs.length cap, .string r.kind, .string r.team, .string r.pre] 121)).alloc (.cells #[.slice (some ⟨w.heap.size + 1 + 1 + 1, 0, none⟩) r.verbs.length r.verbs.length, .string r.kind, .string r.team, .string r.pre] 131)).alloc (.cells #[.slice (some ⟨w.heap.size + 1 + 1 + 1, 0, none⟩) r.verbs.length r.verbs.length, .string r.kind, .string r.team, .string r.pre] 131)) cs 3 _ HC.out.1
    simpa using q
  · have q := ints_new (((w.alloc (.cells #[.slice a r.verbs.length cap, .string r.kind, .string r.team, .string r.pre] 121)).alloc (.cells #[.slice (some ⟨w.heap.size + 1 + 1 + 1, 0, none⟩) r.verbs.length r.verbs.length, .string r.kind, .string r.team, .string r.pre] 131)).alloc (.cells #[.slice (some ⟨w.heap.size + 1 + 1 + 1, 0, none⟩) r.verbs.length r.verbs.length, .string r.kind, .string r.team, .string r.pre] 131)) r.verbs cs hl HC.out.2
    simpa using q
  · repeat (first | exact Below.refl _ _ | refine blw_alloc ?_ _ | refine Below.setCell ?_ (by simp) _)

set_option maxHeartbeats 1000000 in
theorem eqInts (b b' : Nat) (l : List Int) (w : World) (h : IntsIn w b l) (h' : IntsIn w b' l) :
    Calls Try.prog 81 #[.slice (some ⟨b, 0, none⟩) l.length l.length, .slice (some ⟨b', 0, none⟩) l.length l.length] w fun e w' => e = .returned (.bool true) ∧ Below w.heap.size w w' := by
  have hl := h.len
  have hc := h.at_
  have hc' := h'.at_
  clear h h'
  go_enter Try.func81, Try.ntmps81
  go_wp2
  go_loopw [5] (fun i wr => ∃ k : Nat, k ≤ l.length ∧ i = .int .i64 k ∧ ∃ n, wr = w.drewN n) (fun i _ => l.length - (intOf i).toNat)
  case atStart => exact ⟨0, Nat.zero_le _, rfl, 0, rfl⟩
  case round =>
    obtain ⟨k, hk, rfl, n, rfl⟩ := hrel
    by_cases hlt : k < l.length
    · obtain ⟨y, hy⟩ : ∃ y, y = l.getD k 0 := ⟨_, rfl⟩
      have hck : w.cell? ⟨b, k, none⟩ = some (.int .i64 y) := by rw [hy]; exact hc k hlt
      have hck' : w.cell? ⟨b', k, none⟩ = some (.int .i64 y) := by rw [hy]; exact hc' k hlt
      clear hc hc' hy
      go_wp2
      go_quiet (fail)
      go_wp2
      go_roundw
      case rel => exact ⟨k + 1, by omega, by go_num, _, rfl⟩
      case measure => simp [intOf]; omega
    · go_wp2
      go_ret
      exact ⟨rfl, blw_drewN (Below.refl _ _) n⟩

set_option maxHeartbeats 1000000 in
theorem eqRule (b b' : Nat) (r : Rul) (w : World) (h : IntsIn w b r.verbs) (h' : IntsIn w b' r.verbs) :
    Calls Try.prog 75 #[.agg #[.slice (some ⟨b, 0, none⟩) r.verbs.length r.verbs.length, .string r.kind, .string r.team, .string r.pre], .agg #[.slice (some ⟨b', 0, none⟩) r.verbs.length r.verbs.length, .string r.kind, .string r.team, .string r.pre]] w fun e w' => e = .returned (.bool true) ∧ Below w.heap.size w w' := by
  have hbx : Below w.heap.size w ((w.alloc (.cells #[.slice (some ⟨b, 0, none⟩) r.verbs.length r.verbs.length, .string r.kind, .string r.team, .string r.pre] 131)).alloc (.cells #[.slice (some ⟨b', 0, none⟩) r.verbs.length r.verbs.length, .string r.kind, .string r.team, .string r.pre] 131)) := blw_alloc (blw_alloc (Below.refl _ _) _) _
  obtain ⟨w2, hw2⟩ : ∃ w2, w2 = ((w.alloc (.cells #[.slice (some ⟨b, 0, none⟩) r.verbs.length r.verbs.length, .string r.kind, .string r.team, .string r.pre] 131)).alloc (.cells #[.slice (some ⟨b', 0, none⟩) r.verbs.length r.verbs.length, .string r.kind, .string r.team, .string r.pre] 131)) := ⟨_, rfl⟩
  have HX : Hid (Calls Try.prog 81 #[.slice (some ⟨b, 0, none⟩) r.verbs.length r.verbs.length, .slice (some ⟨b', 0, none⟩) r.verbs.length r.verbs.length] w2 fun e w' => e = .returned (.bool true) ∧ Below w2.heap.size w2 w') := by rw [hw2]; exact eqInts b b' r.verbs _ (h.later hbx) (h'.later hbx)
  have HB : Hid (Below w.heap.size w w2) := by rw [hw2]; exact hbx
  have HC : Hid (w.heap.size + 1 < w2.heap.size ∧ (∀ o, w2.cell? ⟨w.heap.size, o, none⟩ = (#[Value.slice (some ⟨b, 0, none⟩) r.verbs.length r.verbs.length, .string r.kind, .string r.team, .string r.pre])[o]?) ∧ (∀ o, w2.cell? ⟨w.heap.size + 1, o, none⟩ = (#[Value.slice (some ⟨b', 0, none⟩) r.verbs.length r.verbs.length, .string r.kind, .string r.team, .string r.pre])[o]?)) := by
    rw [hw2]
    refine ⟨by simp, fun o => ?_, fun o => ?_⟩
    · simp
    · simp
  clear h h' hbx
  go_enter Try.func75, Try.ntmps75
  go_wp2_with fail
  rw [← hw2]
  clear hw2
  refine HX.out.mono ?_
  rintro e w3 ⟨rfl, hb3⟩
  have c := fun o => (hb3.cell (p := ⟨w.heap.size, o, none⟩) (by have := HC.out.1; show w.heap.size < w2.heap.size; omega)).trans (HC.out.2.1 o)
  have d := fun o => (hb3.cell (p := ⟨w.heap.size + 1, o, none⟩) HC.out.1).trans (HC.out.2.2 o)
  have c1 : w3.cell? ⟨w.heap.size, 1, none⟩ = some (.string r.kind) := c 1
  have c2 : w3.cell? ⟨w.heap.size, 2, none⟩ = some (.string r.team) := c 2
  have c3 : w3.cell? ⟨w.heap.size, 3, none⟩ = some (.string r.pre) := c 3
  have d1 : w3.cell? ⟨w.heap.size + 1, 1, none⟩ = some (.string r.kind) := d 1
  have d2 : w3.cell? ⟨w.heap.size + 1, 2, none⟩ = some (.string r.team) := d 2
  have d3 : w3.cell? ⟨w.heap.size + 1, 3, none⟩ = some (.string r.pre) := d 3
  have HB3 : Hid (Below w.heap.size w w3) := blw_trans HB.out hb3
  clear c d hb3 HC HX HB
  go_wp2
  go_ret
  exact ⟨rfl, HB3.out⟩

end Go.Proofs.Ytliaibdbcaglnaa
