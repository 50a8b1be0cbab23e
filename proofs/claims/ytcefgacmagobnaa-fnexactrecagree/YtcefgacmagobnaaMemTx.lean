/-
  Lists of texts: as they lie in memory; sizes, copies, equality.
-/
import Derived.Test.YtcefgacmagobnaaMemNu
namespace Go.Proofs.Ytcefgacmagobnaa
open Go.RowKit Go.Deep

abbrev Tx := ByteArray
def TxsAt (w : World) (v : Value) (ms : List Tx) : Prop :=
  (∃ a cap, v = .slice a 0 cap ∧ ms = []) ∨ ∃ b off cap, v = .slice (some ⟨b, off, none⟩) ms.length cap ∧ b < w.heap.size ∧ ms.length ≤ maxLen ∧ ∀ i, i < ms.length → w.cell? ⟨b, off + i, none⟩ = some (.string (ms.getD i ByteArray.empty)) ∧ (ms.getD i ByteArray.empty).size ≤ maxLen
theorem TxsAt.later {w w' : World} {v : Value} {ms : List Tx} (h : TxsAt w v ms) (hb : Below w.heap.size w w') : TxsAt w' v ms := by
  rcases h with h | ⟨g, off, c, rfl, h1, h2, h3⟩
  · exact Or.inl h
  · exact Or.inr ⟨g, off, c, rfl, Nat.lt_of_lt_of_le h1 hb.size, h2, fun i hi => ⟨(hb.cell (p := ⟨g, off + i, none⟩) h1).trans (h3 i hi).1, (h3 i hi).2⟩⟩
structure TxsIn (w : World) (B : Nat) (ms : List Tx) : Prop where
  lt : B < w.heap.size
  len : ms.length ≤ 1048576
  at_ : ∀ i, i < ms.length → w.cell? ⟨B, i, none⟩ = some (.string (ms.getD i ByteArray.empty)) ∧ (ms.getD i ByteArray.empty).size ≤ maxLen
  own : OwnBlk w B 9 ms.length
theorem TxsIn.later {w w' : World} {B : Nat} {ms : List Tx} (h : TxsIn w B ms) (hb : Below w.heap.size w w') : TxsIn w' B ms :=
  ⟨Nat.lt_of_lt_of_le h.lt hb.size, h.len, fun i hi => ⟨(hb.cell (p := ⟨B, i, none⟩) h.lt).trans (h.at_ i hi).1, (h.at_ i hi).2⟩, h.own.later hb⟩
theorem TxsIn.sc {w : World} {B p : Nat} {ms : List Tx} (h : TxsIn w B ms) (hp : p < B) (j : Nat) (v : Value) : TxsIn (w.setCell ⟨p, j, none⟩ v) B ms := by
  have c : ∀ q, (w.setCell ⟨p, j, none⟩ v).cell? ⟨B, q, none⟩ = w.cell? ⟨B, q, none⟩ := fun q => sc_ne _ _ _ _ _ _ (by omega)
  exact ⟨by rw [sc_size]; exact h.lt, h.len, fun i hi => ⟨(c _).trans (h.at_ i hi).1, (h.at_ i hi).2⟩, h.own.sc_other (by omega) _ _⟩
theorem Try.infoTx : (Try.prog.info? 9).map (fun i => (i.zero, i.size, i.bytes)) = some (some (.string ByteArray.empty), 1, 16) := by kernel_rfl
theorem Try.underTx : Try.prog.underlying 48 = some (.slice 9) := by kernel_rfl
theorem make_Tx (n : Nat) (h : n ≤ 1048576) (W : World) :
    (Instr.makeSlice 48 (.int .i64 (n : Int)) (.int .i64 (n : Int))).run Try.prog W = .ok (.slice (some ⟨W.heap.size, 0, none⟩) n n) (W.alloc (.cells (madeCells #[.string ByteArray.empty] n) 9)) :=
  run_make_row' 48 9 (.string ByteArray.empty) 16 Try.underTx Try.infoTx rfl .i64 .i64 n (by omega) (by omega) W
theorem put_Tx (cs : Array Value) (l : List Tx) (k : Nat) (s : Tx) (hk : k < l.length) (hs : l.getD k ByteArray.empty = s) (hsz : cs.size = l.length)
    (h : ∀ j, j < k → cs[j]? = some (.string (l.getD j ByteArray.empty))) :
    (cs.setIfInBounds k (.string s)).size = l.length ∧ ∀ j, j < k + 1 → (cs.setIfInBounds k (.string s))[j]? = some (.string (l.getD j ByteArray.empty)) := by
  refine ⟨by simpa using hsz, fun j hj => ?_⟩
  rw [Array.getElem?_setIfInBounds]
  by_cases e : k = j
  · subst e; rw [if_pos rfl, if_pos (by omega), hs]
  · rw [if_neg e]; exact h j (by omega)

set_option maxHeartbeats 400000 in
theorem toTx_row (b off cap : Nat) (l : List Tx) (w : World) (hb : b < w.heap.size) (hl : l.length ≤ 1048576)
    (hc : ∀ i, i < l.length → w.cell? ⟨b, off + i, none⟩ = some (.string (l.getD i ByteArray.empty))) :
    Calls Try.prog 77 #[.slice (some ⟨b, off, none⟩) l.length cap] w fun e w' => ∃ cs : Array Value, e = .returned (.slice (some ⟨w.heap.size, 0, none⟩) l.length l.length) ∧ w' = w.alloc (.cells cs 9) ∧ cs.size = l.length ∧
      ∀ j, j < l.length → cs[j]? = some (.string (l.getD j ByteArray.empty)) := by
  have hmk := make_Tx l.length hl
  have HC : Hid (∀ o i, i < l.length → (w.alloc o).cell? ⟨b, off + i, none⟩ = some (.string (l.getD i ByteArray.empty))) := by
    intro o i hi
    rw [← hc i hi]
    exact (blw_alloc (Below.refl _ _) o : Below w.heap.size w _).cell (p := ⟨b, off + i, none⟩) hb
  clear hc
  go_enter Try.func77, Try.ntmps77
  go_wp2
  go_loopw [4] (fun i wr => ∃ (k : Nat) (cs : Array Value), k ≤ l.length ∧ i = .int .i64 k ∧ wr = w.alloc (.cells cs 9) ∧ cs.size = l.length ∧ ∀ j, j < k → cs[j]? = some (.string (l.getD j ByteArray.empty))) (fun i _ => l.length - (intOf i).toNat)
  case atStart => exact ⟨0, _, Nat.zero_le _, rfl, rfl, size_madeCells _ _, fun j hj => absurd hj (Nat.not_lt_zero j)⟩
  case round =>
    obtain ⟨k, cs, hk, rfl, rfl, hsz, hall⟩ := hrel
    have HA : Hid (cs.size = l.length ∧ ∀ j, j < k → cs[j]? = some (.string (l.getD j ByteArray.empty))) := ⟨hsz, hall⟩
    clear hall hsz
    by_cases hlt : k < l.length
    · have hck := HC.out (.cells cs 9) k hlt
      have hold : ∃ v, cs[k]? = some v := ⟨_, Array.getElem?_eq_getElem (by rw [HA.out.1]; exact hlt)⟩
      obtain ⟨v, hv⟩ := hold
      obtain ⟨y, hy⟩ : ∃ y, y = l.getD k ByteArray.empty := ⟨_, rfl⟩
      rw [← hy] at hck
      have HP : Hid ((cs.setIfInBounds k (.string y)).size = l.length ∧ ∀ j, j < k + 1 → (cs.setIfInBounds k (.string y))[j]? = some (.string (l.getD j ByteArray.empty))) :=
        put_Tx cs l k y hlt hy.symm HA.out.1 HA.out.2
      clear hy
      go_wp2
      go_roundw
      case rel => exact ⟨k + 1, _, by omega, by go_num, rfl, HP.out.1, HP.out.2⟩
      case measure => simp [intOf]; omega
    · obtain rfl : k = l.length := by omega
      go_wp2
      go_ret
      exact ⟨cs, rfl, rfl, HA.out.1, HA.out.2⟩

set_option maxHeartbeats 400000 in
theorem toTx_nil (a : Option Addr) (cap : Nat) (w : World) :
    Calls Try.prog 77 #[.slice a 0 cap] w fun e w' => e = .returned (.slice (some ⟨w.heap.size, 0, none⟩) 0 0) ∧ w' = w.alloc (.cells #[] 9) := by
  have hmk : ∀ W : World, (Instr.makeSlice 48 (.int .i64 0) (.int .i64 0)).run Try.prog W = .ok (.slice (some ⟨W.heap.size, 0, none⟩) 0 0) (W.alloc (.cells #[] 9)) := by
    intro W
    have h := make_Tx 0 (by omega) W
    have h0 : madeCells #[.string ByteArray.empty] 0 = #[] := by simp [madeCells]
    rw [h0] at h
    exact h
  go_enter Try.func77, Try.ntmps77
  go_wp2
  refine wp_loop_rounds 1 ?_
  rw [rounds_succ]
  go_wp2
  go_ret
  exact ⟨rfl, rfl⟩

theorem toTxs (v : Value) (ms : List Tx) (w : World) (hl : ms.length ≤ 1048576) (h : TxsAt w v ms) :
    Calls Try.prog 77 #[v] w fun e w' => e = .returned (.slice (some ⟨w.heap.size, 0, none⟩) ms.length ms.length) ∧ Below w.heap.size w w' ∧ TxsIn w' w.heap.size ms := by
  rcases h with ⟨a, cap, rfl, rfl⟩ | ⟨b, off, cap, rfl, hb, _, hc⟩
  · refine (toTx_nil a cap w).mono ?_
    rintro e w' ⟨rfl, rfl⟩
    exact ⟨rfl, blw_alloc (Below.refl _ _) _, ⟨by simp, by simp, fun j hj => absurd hj (Nat.not_lt_zero j), OwnBlk.alloc w _ _ _ rfl⟩⟩
  · refine (toTx_row b off cap ms w hb hl (fun i hi => (hc i hi).1)).mono ?_
    rintro e w' ⟨cs, rfl, rfl, h1, h2⟩
    exact ⟨rfl, blw_alloc (Below.refl _ _) _, ⟨by simp, hl, fun i hi => ⟨(World.cell?_alloc_at _ _ _ _ rfl).trans (h2 i hi), (hc i hi).2⟩, OwnBlk.alloc w _ _ _ h1⟩⟩

set_option maxHeartbeats 1000000 in
theorem eqTxs (B B' : Nat) (ms : List Tx) (w : World) (h : TxsIn w B ms) (h' : TxsIn w B' ms) :
    Calls Try.prog 89 #[.slice (some ⟨B, 0, none⟩) ms.length ms.length, .slice (some ⟨B', 0, none⟩) ms.length ms.length] w fun e w' => e = .returned (.bool true) ∧ Below w.heap.size w w' := by
  have hl := h.len
  have HC := hidR (And.intro h h')
  clear h h'
  go_enter Try.func89, Try.ntmps89
  go_wp2
  go_loopw [5] (fun i wr => ∃ k : Nat, k ≤ ms.length ∧ i = .int .i64 k ∧ ∃ n, wr = w.drewN n) (fun i _ => ms.length - (intOf i).toNat)
  case atStart => exact ⟨0, Nat.zero_le _, rfl, 0, rfl⟩
  case round =>
    obtain ⟨k, hk, rfl, n, rfl⟩ := hrel
    by_cases hlt : k < ms.length
    · obtain ⟨y, hy⟩ : ∃ y, y = ms.getD k ByteArray.empty := ⟨_, rfl⟩
      have hck : w.cell? ⟨B, k, none⟩ = some (.string y) := by rw [hy]; exact (HC.out.1.at_ k hlt).1
      have hck' : w.cell? ⟨B', k, none⟩ = some (.string y) := by rw [hy]; exact (HC.out.2.at_ k hlt).1
      clear hy
      go_wp2
      go_quiet (fail)
      go_wp2
      go_roundw
      case rel => exact ⟨k + 1, by omega, by go_num, _, rfl⟩
      case measure => simp [intOf]; omega
    · go_wp2
      go_ret
      exact ⟨rfl, Below.drewN' (Below.refl _ _) n⟩

set_option maxHeartbeats 400000 in
theorem szTxs_row (b off cap : Nat) (ms : List Tx) (left : Int) (w : World) (h0 : 0 ≤ left) (h1 : left ≤ 1048576) (hl : ms.length ≤ maxLen)
    (hc : ∀ i, i < ms.length → w.cell? ⟨b, off + i, none⟩ = some (.string (ms.getD i ByteArray.empty)) ∧ (ms.getD i ByteArray.empty).size ≤ maxLen) :
    Calls Try.prog 72 #[.slice (some ⟨b, off, none⟩) ms.length cap, .int .i64 left] w fun e w' => (∃ r : Int, e = .returned (.int .i64 r) ∧ szP ((ms.length : Int) ≤ left) left r) ∧ w = w' := by
  unfold maxLen at hl
  have HC := hidR hc
  clear hc
  by_cases hneg : left < (ms.length : Int)
  · go_enter Try.func72, Try.ntmps72
    go_wp2
    go_ret
    exact ⟨⟨_, rfl, by unfold szP; exact ⟨by omega, by omega, fun _ => by first | trivial | omega⟩⟩, rfl⟩
  · go_enter Try.func72, Try.ntmps72
    go_wp2
    go_loop [1, 5] (fun l i => ∃ (k : Nat) (r : Int), k ≤ ms.length ∧ i = .int .i64 k ∧ l = .int .i64 r ∧ 0 ≤ r ∧ r ≤ left) (fun _ i => ms.length - (intOf i).toNat)
    case atStart => exact ⟨0, _, Nat.zero_le _, rfl, rfl, by omega, by omega⟩
    case round =>
      obtain ⟨k, r, hk, rfl, rfl, r0, r1⟩ := hrel
      by_cases hlt : k < ms.length
      · obtain ⟨hck, hsk⟩ := HC.out k hlt
        obtain ⟨y, hy⟩ : ∃ y, y = ms.getD k ByteArray.empty := ⟨_, rfl⟩
        rw [← hy] at hck hsk
        unfold maxLen at hsk
        clear hy
        by_cases hq : r < (y.size : Int)
        · go_wp2
          go_ret
          exact ⟨⟨_, rfl, by unfold szP; exact ⟨by omega, by omega, fun _ => by first | trivial | omega⟩⟩, rfl⟩
        · go_wp2
          go_round
          case rel => exact ⟨k + 1, _, by omega, by go_num, rfl, by omega, by omega⟩
          case measure => simp [intOf]; omega
      · go_wp2
        go_ret
        exact ⟨⟨_, rfl, by unfold szP; exact ⟨by omega, by omega, fun _ => by first | trivial | omega⟩⟩, rfl⟩
set_option maxHeartbeats 400000 in
theorem szTxs_nil (a : Option Addr) (cap : Nat) (left : Int) (w : World) (h0 : 0 ≤ left) (h1 : left ≤ 1048576) :
    Calls Try.prog 72 #[.slice a 0 cap, .int .i64 left] w fun e w' => e = .returned (.int .i64 left) ∧ w = w' := by
  go_enter Try.func72, Try.ntmps72
  go_wp2
  refine wp_loop_rounds 1 ?_
  rw [rounds_succ]
  go_wp2
  go_ret
  exact ⟨Pl.ret_int (by omega), rfl⟩
theorem szTxs (v : Value) (ms : List Tx) (left : Int) (w : World) (h0 : 0 ≤ left) (h1 : left ≤ 1048576) (h : TxsAt w v ms) :
    Calls Try.prog 72 #[v, .int .i64 left] w fun e w' => (∃ r : Int, e = .returned (.int .i64 r) ∧ szP ((ms.length : Int) ≤ left) left r) ∧ Below w.heap.size w w' := by
  rcases h with ⟨a, cap, rfl, rfl⟩ | ⟨b, off, cap, rfl, hb, hl, hc⟩
  · refine (szTxs_nil a cap left w h0 h1).mono ?_
    rintro e w' ⟨rfl, rfl⟩
    exact ⟨⟨_, rfl, by unfold szP; exact ⟨by omega, by omega, fun _ => by simp; omega⟩⟩, Below.refl _ _⟩
  · refine (szTxs_row b off cap ms left w h0 h1 hl hc).mono ?_
    rintro e w' ⟨hr, rfl⟩
    exact ⟨hr, Below.refl _ _⟩

end Go.Proofs.Ytcefgacmagobnaa
