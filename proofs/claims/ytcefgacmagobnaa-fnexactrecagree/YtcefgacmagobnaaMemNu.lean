/-
  Lists of numbers: as they lie in memory; sizes, copies, equality.
-/
import Derived.Test.YtcefgacmagobnaaMemRs
namespace Go.Proofs.Ytcefgacmagobnaa
open Go.RowKit Go.Deep

theorem hidR {p : Prop} (h : p) : Hid p := h
theorem Below.drewN' {a w : World} (h : Below a.heap.size a w) (n : Nat) : Below a.heap.size a (w.drewN n) := ⟨h.os, h.tape, h.output, h.size, h.block⟩

abbrev Nu := Int
def NusAt (w : World) (v : Value) (ms : List Nu) : Prop :=
  (∃ a cap, v = .slice a 0 cap ∧ ms = []) ∨ ∃ b off cap, v = .slice (some ⟨b, off, none⟩) ms.length cap ∧ b < w.heap.size ∧ ms.length ≤ maxLen ∧ ∀ i, i < ms.length → w.cell? ⟨b, off + i, none⟩ = some (.int .i64 (ms.getD i 0))
theorem NusAt.later {w w' : World} {v : Value} {ms : List Nu} (h : NusAt w v ms) (hb : Below w.heap.size w w') : NusAt w' v ms := by
  rcases h with h | ⟨g, off, c, rfl, h1, h2, h3⟩
  · exact Or.inl h
  · exact Or.inr ⟨g, off, c, rfl, Nat.lt_of_lt_of_le h1 hb.size, h2, fun i hi => (hb.cell (p := ⟨g, off + i, none⟩) h1).trans (h3 i hi)⟩
structure NusIn (w : World) (B : Nat) (ms : List Nu) : Prop where
  lt : B < w.heap.size
  len : ms.length ≤ 1048576
  at_ : ∀ i, i < ms.length → w.cell? ⟨B, i, none⟩ = some (.int .i64 (ms.getD i 0))
  own : OwnBlk w B 3 ms.length
theorem NusIn.later {w w' : World} {B : Nat} {ms : List Nu} (h : NusIn w B ms) (hb : Below w.heap.size w w') : NusIn w' B ms :=
  ⟨Nat.lt_of_lt_of_le h.lt hb.size, h.len, fun i hi => (hb.cell (p := ⟨B, i, none⟩) h.lt).trans (h.at_ i hi), h.own.later hb⟩
theorem NusIn.sc {w : World} {B p : Nat} {ms : List Nu} (h : NusIn w B ms) (hp : p < B) (j : Nat) (v : Value) : NusIn (w.setCell ⟨p, j, none⟩ v) B ms := by
  have c : ∀ q, (w.setCell ⟨p, j, none⟩ v).cell? ⟨B, q, none⟩ = w.cell? ⟨B, q, none⟩ := fun q => sc_ne _ _ _ _ _ _ (by omega)
  exact ⟨by rw [sc_size]; exact h.lt, h.len, fun i hi => (c _).trans (h.at_ i hi), h.own.sc_other (by omega) _ _⟩
theorem Try.infoNu : (Try.prog.info? 3).map (fun i => (i.zero, i.size, i.bytes)) = some (some (.int .i64 0), 1, 8) := by kernel_rfl
theorem Try.underNu : Try.prog.underlying 49 = some (.slice 3) := by kernel_rfl
theorem make_Nu (n : Nat) (h : n ≤ 1048576) (W : World) :
    (Instr.makeSlice 49 (.int .i64 (n : Int)) (.int .i64 (n : Int))).run Try.prog W = .ok (.slice (some ⟨W.heap.size, 0, none⟩) n n) (W.alloc (.cells (madeCells #[.int .i64 0] n) 3)) :=
  run_make_row' 49 3 (.int .i64 0) 8 Try.underNu Try.infoNu rfl .i64 .i64 n (by omega) (by omega) W
theorem put_Nu (cs : Array Value) (l : List Nu) (k : Nat) (s : Nu) (hk : k < l.length) (hs : l.getD k 0 = s) (hsz : cs.size = l.length)
    (h : ∀ j, j < k → cs[j]? = some (.int .i64 (l.getD j 0))) :
    (cs.setIfInBounds k (.int .i64 s)).size = l.length ∧ ∀ j, j < k + 1 → (cs.setIfInBounds k (.int .i64 s))[j]? = some (.int .i64 (l.getD j 0)) := by
  refine ⟨by simpa using hsz, fun j hj => ?_⟩
  rw [Array.getElem?_setIfInBounds]
  by_cases e : k = j
  · subst e; rw [if_pos rfl, if_pos (by omega), hs]
  · rw [if_neg e]; exact h j (by omega)

set_option maxHeartbeats 400000 in
theorem toNu_row (b off cap : Nat) (l : List Nu) (w : World) (hb : b < w.heap.size) (hl : l.length ≤ 1048576)
    (hc : ∀ i, i < l.length → w.cell? ⟨b, off + i, none⟩ = some (.int .i64 (l.getD i 0))) :
    Calls Try.prog 78 #[.slice (some ⟨b, off, none⟩) l.length cap] w fun e w' => ∃ cs : Array Value, e = .returned (.slice (some ⟨w.heap.size, 0, none⟩) l.length l.length) ∧ w' = w.alloc (.cells cs 3) ∧ cs.size = l.length ∧
      ∀ j, j < l.length → cs[j]? = some (.int .i64 (l.getD j 0)) := by
  have hmk := make_Nu l.length hl
  have HC : Hid (∀ o i, i < l.length → (w.alloc o).cell? ⟨b, off + i, none⟩ = some (.int .i64 (l.getD i 0))) := by
    intro o i hi
    rw [← hc i hi]
    exact (blw_alloc (Below.refl _ _) o : Below w.heap.size w _).cell (p := ⟨b, off + i, none⟩) hb
  clear hc
  go_enter Try.func78, Try.ntmps78
  go_wp2
  go_loopw [4] (fun i wr => ∃ (k : Nat) (cs : Array Value), k ≤ l.length ∧ i = .int .i64 k ∧ wr = w.alloc (.cells cs 3) ∧ cs.size = l.length ∧ ∀ j, j < k → cs[j]? = some (.int .i64 (l.getD j 0))) (fun i _ => l.length - (intOf i).toNat)
  case atStart => exact ⟨0, _, Nat.zero_le _, rfl, rfl, size_madeCells _ _, fun j hj => absurd hj (Nat.not_lt_zero j)⟩
  case round =>
    obtain ⟨k, cs, hk, rfl, rfl, hsz, hall⟩ := hrel
    have HA : Hid (cs.size = l.length ∧ ∀ j, j < k → cs[j]? = some (.int .i64 (l.getD j 0))) := ⟨hsz, hall⟩
    clear hall hsz
    by_cases hlt : k < l.length
    · have hck := HC.out (.cells cs 3) k hlt
      have hold : ∃ v, cs[k]? = some v := ⟨_, Array.getElem?_eq_getElem (by rw [HA.out.1]; exact hlt)⟩
      obtain ⟨v, hv⟩ := hold
      obtain ⟨y, hy⟩ : ∃ y, y = l.getD k 0 := ⟨_, rfl⟩
      rw [← hy] at hck
      have HP : Hid ((cs.setIfInBounds k (.int .i64 y)).size = l.length ∧ ∀ j, j < k + 1 → (cs.setIfInBounds k (.int .i64 y))[j]? = some (.int .i64 (l.getD j 0))) :=
        put_Nu cs l k y hlt hy.symm HA.out.1 HA.out.2
      clear hy
      go_wp2
      go_roundw
      case rel => exact ⟨k + 1, _, by omega, by go_num, rfl, HP.out.1, HP.out.2⟩
      case measure => simp [intOf]; omega
    · obtain rfl : k = l.length := by omega
      go_wp2
      go_ret
      exact ⟨cs, rfl, rfl, HA.out.1, HA.out.2⟩

set_option maxHeartbeats 400000 in
theorem toNu_nil (a : Option Addr) (cap : Nat) (w : World) :
    Calls Try.prog 78 #[.slice a 0 cap] w fun e w' => e = .returned (.slice (some ⟨w.heap.size, 0, none⟩) 0 0) ∧ w' = w.alloc (.cells #[] 3) := by
  have hmk : ∀ W : World, (Instr.makeSlice 49 (.int .i64 0) (.int .i64 0)).run Try.prog W = .ok (.slice (some ⟨W.heap.size, 0, none⟩) 0 0) (W.alloc (.cells #[] 3)) := by
    intro W
    have h := make_Nu 0 (by omega) W
    have h0 : madeCells #[.int .i64 0] 0 = #[] := by simp [madeCells]
    rw [h0] at h
    exact h
  go_enter Try.func78, Try.ntmps78
  go_wp2
  refine wp_loop_rounds 1 ?_
  rw [rounds_succ]
  go_wp2
  go_ret
  exact ⟨rfl, rfl⟩

theorem toNus (v : Value) (ms : List Nu) (w : World) (hl : ms.length ≤ 1048576) (h : NusAt w v ms) :
    Calls Try.prog 78 #[v] w fun e w' => e = .returned (.slice (some ⟨w.heap.size, 0, none⟩) ms.length ms.length) ∧ Below w.heap.size w w' ∧ NusIn w' w.heap.size ms := by
  rcases h with ⟨a, cap, rfl, rfl⟩ | ⟨b, off, cap, rfl, hb, _, hc⟩
  · refine (toNu_nil a cap w).mono ?_
    rintro e w' ⟨rfl, rfl⟩
    exact ⟨rfl, blw_alloc (Below.refl _ _) _, ⟨by simp, by simp, fun j hj => absurd hj (Nat.not_lt_zero j), OwnBlk.alloc w _ _ _ rfl⟩⟩
  · refine (toNu_row b off cap ms w hb hl hc).mono ?_
    rintro e w' ⟨cs, rfl, rfl, h1, h2⟩
    exact ⟨rfl, blw_alloc (Below.refl _ _) _, ⟨by simp, hl, fun i hi => (World.cell?_alloc_at _ _ _ _ rfl).trans (h2 i hi), OwnBlk.alloc w _ _ _ h1⟩⟩

set_option maxHeartbeats 1000000 in
theorem eqNus (B B' : Nat) (ms : List Nu) (w : World) (h : NusIn w B ms) (h' : NusIn w B' ms) :
    Calls Try.prog 90 #[.slice (some ⟨B, 0, none⟩) ms.length ms.length, .slice (some ⟨B', 0, none⟩) ms.length ms.length] w fun e w' => e = .returned (.bool true) ∧ Below w.heap.size w w' := by
  have hl := h.len
  have HC := hidR (And.intro h h')
  clear h h'
  go_enter Try.func90, Try.ntmps90
  go_wp2
  go_loopw [5] (fun i wr => ∃ k : Nat, k ≤ ms.length ∧ i = .int .i64 k ∧ ∃ n, wr = w.drewN n) (fun i _ => ms.length - (intOf i).toNat)
  case atStart => exact ⟨0, Nat.zero_le _, rfl, 0, rfl⟩
  case round =>
    obtain ⟨k, hk, rfl, n, rfl⟩ := hrel
    by_cases hlt : k < ms.length
    · obtain ⟨y, hy⟩ : ∃ y, y = ms.getD k 0 := ⟨_, rfl⟩
      have hck : w.cell? ⟨B, k, none⟩ = some (.int .i64 y) := by rw [hy]; exact HC.out.1.at_ k hlt
      have hck' : w.cell? ⟨B', k, none⟩ = some (.int .i64 y) := by rw [hy]; exact HC.out.2.at_ k hlt
      clear hy
      go_wp2
      go_quiet (fail)
      go_wp2
      go_roundw
      case rel => exact ⟨k + 1, by omega, by go_num, _, rfl⟩
      case measure => simp [intOf]; omega
    · go_wp2
      go_ret
      exact ⟨rfl, Below.drewN' (Below.refl _ _) n⟩

set_option maxHeartbeats 400000 in
theorem szNus (v : Value) (ms : List Nu) (left : Int) (w : World) (h0 : 0 ≤ left) (h1 : left ≤ 1048576) (h : NusAt w v ms) :
    Calls Try.prog 73 #[v, .int .i64 left] w fun e w' => (∃ r : Int, e = .returned (.int .i64 r) ∧ szP ((ms.length : Int) ≤ left) left r) ∧ Below w.heap.size w w' := by
  obtain ⟨a, cap, rfl, hn⟩ : ∃ a cap, v = .slice a ms.length cap ∧ ms.length ≤ maxLen := by
    rcases h with ⟨a, cap, rfl, rfl⟩ | ⟨b, off, cap, rfl, _, h2, _⟩
    · exact ⟨a, cap, rfl, by simp [maxLen]⟩
    · exact ⟨_, cap, rfl, h2⟩
  clear h
  unfold maxLen at hn
  by_cases c : left < (ms.length : Int)
  all_goals
    go_enter Try.func73, Try.ntmps73
    go_wp2
    go_ret
    exact ⟨⟨_, rfl, by unfold szP; exact ⟨by omega, by omega, fun _ => by first | trivial | omega⟩⟩, Below.refl _ _⟩

end Go.Proofs.Ytcefgacmagobnaa
