/-
  Walks: putting things in a row: the loop.
-/
import Derived.Test.YtfdahoekjpobaaaGreatWalkMD
namespace Go.Proofs.YtfdahoekjpobaaaGreat
open Go.RowKit Go.Deep

theorem Tryz.info3 : (Tryz.prog.info? 3).map (fun i => (i.zero, i.size, i.bytes)) = some (some (.int .i64 0), 1, 8) := by kernel_rfl

/-- What is kept while things are put in a row: two boxes behind lo, the row in the second. -/
structure RowInv (w0 wr : World) (mb : Nat) (l : List Nat) (v : Value) : Prop where
  bel : Below w0.heap.size w0 wr
  fn : wr.cell? ⟨w0.heap.size, 0, none⟩ = some (.func (.func 71) #[] #[.pointer (some ⟨mb, 0, none⟩)])
  own : OwnBlk wr (w0.heap.size + 1) 75 1
  box : wr.cell? ⟨w0.heap.size + 1, 0, none⟩ = some v
  row : IntsOwn wr (w0.heap.size + 2) v l

theorem RowInv.later {w0 wr wr' : World} {mb : Nat} {l : List Nat} {v : Value} (h : RowInv w0 wr mb l v) (hb : Below wr.heap.size wr wr') : RowInv w0 wr' mb l v :=
  ⟨blw_trans h.bel hb, (hb.cell (p := ⟨w0.heap.size, 0, none⟩) (by have := h.own.lt; show w0.heap.size < _; omega)).trans h.fn, h.own.later hb, (hb.cell (p := ⟨w0.heap.size + 1, 0, none⟩) h.own.lt).trans h.box, owns_later h.row hb⟩

theorem RowInv.start (w : World) (mb : Nat) :
    RowInv w ((w.alloc (.cells #[.func (.func 71) #[] #[.pointer (some ⟨mb, 0, none⟩)]] 106)).alloc (.cells #[.slice none 0 0] 75)) mb [] (.slice none 0 0) :=
  ⟨blw_alloc (blw_alloc (Below.refl _ _) _) _, by simp, by have := OwnBlk.alloc (w.alloc (.cells #[.func (.func 71) #[] #[.pointer (some ⟨mb, 0, none⟩)]] 106)) #[.slice none 0 0] 75 1 rfl; simpa using this, by simp, World.ownsRow_nil _ _ _ _⟩

theorem owns_sc {w : World} {lo : Nat} {e : TypeId} {size : Nat} {v : Value} {n : Nat} {xs : List Value} (h : w.ownsRow lo e size v n xs) {B : Nat} (hB : B < lo) (o : Nat) (x : Value) : (w.setCell ⟨B, o, none⟩ x).ownsRow lo e size v n xs := by
  refine ⟨h.1, ?_⟩
  rcases h.2 with hn | ⟨g, cap, cur, rfl, hb, hg, rest⟩
  · exact Or.inl hn
  · refine Or.inr ⟨g, cap, cur, rfl, hb, ?_, rest⟩
    rw [Below.heap_setCell w ⟨B, o, none⟩ x g (by show g ≠ B; omega)]
    exact hg

/-- The row grows by one. -/
theorem RowInv.put {w0 wr w1 w2 : World} {mb : Nat} {l : List Nat} {v v' : Value} {q : Nat} (h : RowInv w0 wr mb l v) (hb : Below wr.heap.size wr w1) (ho : w2.ownsRow (w0.heap.size + 2) 3 1 v' (l.length + 1) (l.map (fun n => Value.int .i64 (n : Nat)) ++ [.int .i64 (q : Nat)])) (hg : w1.grownBy w2 v.ownBlock) :
    RowInv w0 (w2.setCell ⟨w0.heap.size + 1, 0, none⟩ v') mb (l ++ [q]) v' := by
  have h1 := h.later hb
  have hr : ∀ k, v.ownBlock = some k → w0.heap.size + 2 ≤ k := fun k hk => (h1.row.lt k hk).1
  have hl1 := h1.own.lt
  have hbel : Below w0.heap.size w0 w2 := Below.grown h1.bel hg h1.bel.size (fun k hk => by have := hr k hk; omega)
  have hblk : ∀ k, k < w0.heap.size + 2 → w2.heap[k]? = w1.heap[k]? := fun k hk => hg.block k (by omega) (fun e => by have := hr k e.symm; omega)
  have hown : OwnBlk w2 (w0.heap.size + 1) 75 1 := by
    obtain ⟨cs, c1, c2⟩ := h1.own
    exact ⟨cs, by rw [hblk _ (by omega)]; exact c1, c2⟩
  refine ⟨hbel.setCell (p := ⟨w0.heap.size + 1, 0, none⟩) (by show _ ≤ w0.heap.size + 1; omega) _, ?_, hown.setCell 0 _, sc_eq hown 0 (by omega) _, ?_⟩
  · rw [sc_ne _ _ _ _ _ _ (Or.inl (by omega))]
    exact (World.cell?_of_block (a := ⟨w0.heap.size, 0, none⟩) (hblk _ (by show w0.heap.size < _; omega))).trans h1.fn
  · have := owns_sc ho (B := w0.heap.size + 1) (by omega) 0 v'
    unfold IntsOwn
    rw [List.length_append, List.map_append]
    exact this

theorem RowInv.mid {w0 wr w1 w2 : World} {mb : Nat} {l : List Nat} {v : Value} (h : RowInv w0 wr mb l v) (hb : Below wr.heap.size wr w1) (hg : w1.grownBy w2 v.ownBlock) : OwnBlk w2 (w0.heap.size + 1) 75 1 ∧ w2.cell? ⟨w0.heap.size + 1, 0, none⟩ = some v := by
  have h1 := h.later hb
  have hr : ∀ k, v.ownBlock = some k → w0.heap.size + 2 ≤ k := fun k hk => (h1.row.lt k hk).1
  have hl1 := h1.own.lt
  have hblk : ∀ k, k < w0.heap.size + 2 → w2.heap[k]? = w1.heap[k]? := fun k hk => hg.block k (by omega) (fun e => by have := hr k e.symm; omega)
  refine ⟨?_, (World.cell?_of_block (a := ⟨w0.heap.size + 1, 0, none⟩) (hblk _ (by show w0.heap.size + 1 < _; omega))).trans h1.box⟩
  obtain ⟨cs, c1, c2⟩ := h1.own
  exact ⟨cs, by rw [hblk _ (by omega)]; exact c1, c2⟩

set_option maxRecDepth 8000 in
set_option maxHeartbeats 4000000 in
theorem rowI (tb c mb n : Nat) (rd : Nat → List Nat) (w : World) (hn : n ≤ 1048576) (htb : tb < w.heap.size) (ht : ∀ i, i < n → w.cell? ⟨tb, i, none⟩ = some (.int .i64 (i : Nat)))
    (hrd : ∀ (x : Nat) W, x < n → Below w.heap.size w W → Calls Tryz.prog 71 #[.int .i64 x, .pointer (some ⟨mb, 0, none⟩)] W fun e w' => (∃ a n c, e = .returned (.slice a n c) ∧ IntsAt w' (.slice a n c) (rd x)) ∧ Below W.heap.size W w') :
    Calls Tryz.prog 70 #[.slice (some ⟨tb, 0, none⟩) n c, .func (.func 71) #[] #[.pointer (some ⟨mb, 0, none⟩)]] w fun e w' => (∃ a k d, e = .returned (.tuple #[.slice a k d, .bool (rowOk rd n)]) ∧ (rowOk rd n = true → IntsAt w' (.slice a k d) (rowG rd n n))) ∧ Below w.heap.size w w' := by
  have HT : Hid (∀ i, i < n → w.cell? ⟨tb, i, none⟩ = some (.int .i64 (i : Nat))) := ht
  have HD : Hid (∀ (x : Nat) W, x < n → Below w.heap.size w W → Calls Tryz.prog 71 #[.int .i64 x, .pointer (some ⟨mb, 0, none⟩)] W fun e w' => (∃ a n c, e = .returned (.slice a n c) ∧ IntsAt w' (.slice a n c) (rd x)) ∧ Below W.heap.size W w') := hrd
  obtain ⟨i0, hi, hz0, hz1, hz2⟩ := info_parts Tryz.info3
  have HI0 : Hid (RowInv w ((w.alloc (.cells #[.func (.func 71) #[] #[.pointer (some ⟨mb, 0, none⟩)]] 106)).alloc (.cells #[.slice none 0 0] 75)) mb [] (.slice none 0 0)) := RowInv.start w mb
  clear ht hrd
  go_enter Tryz.func70, Tryz.ntmps70
  go_wp2
  go_loopw [12] (fun i wr => ∃ j : Nat, j ≤ n ∧ i = .int .i64 j ∧ (rowG rd n j).length = j ∧ ∃ v, RowInv w wr mb (rowG rd n j) v) (fun i _ => n - (intOf i).toNat)
  case atStart => exact ⟨0, Nat.zero_le _, rfl, rfl, _, HI0.out⟩
  case round =>
    obtain ⟨j, hj, rfl, hlen, v, hI⟩ := hrel
    obtain ⟨a, d, hv⟩ := owns_slice hI.row
    rw [hlen] at hv
    subst hv
    have HI : Hid (RowInv w wr mb (rowG rd n j) (.slice a j d)) := hI
    have HL : Hid ((rowG rd n j).length = j) := hlen
    clear hI hlen HI0
    have hb0 := HI.out.box
    have hbl := HI.out.own.lt
    by_cases hlt : j < n
    · have HX : Hid (Calls Tryz.prog 90 #[.slice (some ⟨tb, 0, none⟩) n c, .func (.func 86) #[] #[.pointer (some ⟨w.heap.size + 1, 0, none⟩), .pointer (some ⟨w.heap.size, 0, none⟩)]] wr fun e w' => (∃ r : Int, e = .returned (.int .i64 r) ∧ r = (if nextG rd n (rowG rd n j) < n then (nextG rd n (rowG rd n j) : Int) else -1)) ∧ Below wr.heap.size wr w') := by
        have hat : IntsAt wr (.slice (some ⟨tb, 0, none⟩) n c) (List.range n) := Or.inr ⟨tb, c, by simp, Nat.lt_of_lt_of_le htb HI.out.bel.size, by simpa using hn, fun i hi => by
          have hi' : i < n := by simpa using hi
          rw [(HI.out.bel.cell (p := ⟨tb, i, none⟩) htb).trans (HT.out i hi')]
          simp [hi']⟩
        have := indexFuncR (w.heap.size + 1) w.heap.size (readyG rd (rowG rd n j)) _ (List.range n) wr hat (fun x W hx hW => by
          have hx' : x < n := by simpa using hx
          have h2 := HI.out.later hW
          exact readyI (w.heap.size + 1) w.heap.size mb (rowG rd n j) (rd x) a j d x W h2.own.lt h2.box (h2.row.at_ (by rw [HL.out]; omega)) h2.fn (HD.out x W hx' h2.bel))
        rw [List.length_range] at this
        exact this
      obtain ⟨q, hq⟩ : ∃ q, q = nextG rd n (rowG rd n j) := ⟨_, rfl⟩
      have HQ : Hid (q = nextG rd n (rowG rd n j)) := hq
      rw [← hq] at HX
      clear hq
      go_wp2_with fail
      refine HX.out.mono ?_
      rintro e w2 ⟨⟨r, rfl, hr⟩, hb2⟩
      have HB2 : Hid (Below wr.heap.size wr w2) := hb2
      have hb0' := (HI.out.later hb2).box
      have hbl' := (HI.out.later hb2).own.lt
      have hfz := (HI.out.later hb2).own.frozen
      clear hb2 HX
      by_cases hqn : q < n
      · rw [if_pos hqn] at hr
        subst hr
        have hcq : w2.cell? ⟨tb, q, none⟩ = some (.int .i64 (q : Nat)) := ((blw_trans HI.out.bel HB2.out).cell (p := ⟨tb, q, none⟩) htb).trans (HT.out q hqn)
        have htb2 : tb < w2.heap.size := Nat.lt_of_lt_of_le htb (blw_trans HI.out.bel HB2.out).size
        have HNx : Hid (rowG rd n (j + 1) = rowG rd n j ++ [q]) := by have := rowG_next rd n j (by rw [← HQ.out]; exact hqn); rw [← HQ.out] at this; exact this
        have HO : Hid (∀ W, Below w2.heap.size w2 W → W.ownsRow (w.heap.size + 2) 3 1 (.slice a j d) j ((rowG rd n j).map fun n => Value.int .i64 (n : Nat))) := by
          intro W hW
          have := (HI.out.later (blw_trans HB2.out hW)).row
          unfold IntsOwn at this
          rw [HL.out] at this
          exact this
        go_wp2_with fail
        go_region_law (refine step_append_own rfl (.tmp 19) (.tmp 24) 75 rfl (w.heap.size + 2) 3 i0 (.int .i64 0) 1 8 Tryz.underlying75 hi hz0 hz1 hz2 rfl (by decide) (.slice a j d) j _ (by simp [Act.eval]) (HO.out _ (by repeat (first | exact Below.refl _ _ | refine blw_alloc ?_ _ | refine Below.drew ?_))) ⟨w2.heap.size, 0, none⟩ 1 1 [.int .i64 (q : Nat)] (by simp [Act.eval]) rfl (by intro k u hk; cases k with | zero => (simp at hk; subst hk; simp [Addr.add]) | succ k => simp at hk) (by intro u hu; simp at hu; subst hu; rfl) (by unfold maxLen; omega) (by omega) (by simp; omega) ?_; intro v' w' hown hgrow; obtain ⟨a', d', hv'⟩ := owns_slice hown; subst hv'; have HNI : Hid (RowInv w (w'.setCell ⟨w.heap.size + 1, 0, none⟩ (.slice a' (j + 1) d')) mb (rowG rd n (j + 1)) (.slice a' (j + 1) d')) := (by show RowInv _ _ _ _ _; rw [HNx.out]; exact HI.out.put (by refine blw_trans HB2.out ?_; repeat (first | exact Below.refl _ _ | refine blw_alloc ?_ _ | refine Below.drew ?_)) (by rw [HL.out]; exact hown) hgrow); have hmid := HI.out.mid (by refine blw_trans HB2.out ?_; repeat (first | exact Below.refl _ _ | refine blw_alloc ?_ _ | refine Below.drew ?_)) hgrow; have hfw := hmid.1.frozen; have hcw := hmid.2; clear hmid hown hgrow)
        all_goals
          go_wp2
          go_roundw
          case rel => exact ⟨j + 1, by omega, by go_num, by rw [HNx.out, List.length_append, HL.out]; rfl, _, HNI.out⟩
          case measure => simp [intOf]; omega
      · rw [if_neg hqn] at hr
        subst hr
        have HF : Hid (rowOk rd n = false) := rowOk_false rd n j hlt (by rw [← HQ.out]; omega)
        go_wp2
        go_ret2
        exact ⟨⟨none, 0, 0, by rw [HF.out]; rfl, fun h => by rw [HF.out] at h; cases h⟩, blw_trans HI.out.bel HB2.out⟩
    · obtain rfl : j = n := by omega
      have HF : Hid (rowOk rd j = true) := by show rowOk rd j = true; unfold rowOk; rw [HL.out]; simp
      go_wp2
      go_ret2
      exact ⟨⟨a, j, d, by rw [HF.out]; rfl, fun _ => HI.out.row.at_ (by rw [HL.out]; omega)⟩, HI.out.bel⟩

end Go.Proofs.YtfdahoekjpobaaaGreat
