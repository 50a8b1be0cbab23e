/-
  Walks over equality of lists of fields and shapes.
-/
import Derived.Deep.RegionWith
import Derived.Test.YtkjkklcflpchlaaGreatWalkN
namespace Go.Proofs.YtkjkklcflpchlaaGreat
open Go.RowKit Go.Deep

set_option maxHeartbeats 1000000 in
theorem toShapes_row (b off cap : Nat) (ss : List Shp) (w : World) (hl : ss.length ≤ 1048576) (hsm : ∀ s ∈ ss, s.small) (hb : b < w.heap.size)
    (hc : ∀ i, i < ss.length → ∃ x, ShpIs w b (off + i * 2) (ss.getD i Shp.none) x) :
    Calls Tryz.prog 25 #[.slice (some ⟨b, off, none⟩) ss.length cap] w fun e w' => e = .returned (.slice (some ⟨w.heap.size, 0, none⟩) ss.length ss.length) ∧ Below w.heap.size w w' ∧ OwnBlk w' w.heap.size 99 (ss.length * 2) ∧
      ∀ i, i < ss.length → OwnShp w' w.heap.size (i * 2) (ss.getD i Shp.none) := by
  obtain ⟨cs, hcs, hmk⟩ := make_shps ss.length hl
  go_enter Tryz.func25, Tryz.ntmps25
  go_wp2
  go_loopw [4] (fun i wr => ∃ k : Nat, k ≤ ss.length ∧ i = .int .i64 k ∧ Below w.heap.size w wr ∧ OwnBlk wr w.heap.size 99 (ss.length * 2) ∧ ∀ i, i < k → OwnShp wr w.heap.size (i * 2) (ss.getD i Shp.none)) (fun i _ => ss.length - (intOf i).toNat)
  case atStart => exact ⟨0, Nat.zero_le _, rfl, blw_alloc (Below.refl _ _) _, OwnBlk.alloc w cs 99 _ hcs, fun i hi => absurd hi (Nat.not_lt_zero i)⟩
  case round =>
    obtain ⟨k, hk, rfl, hB, hO, hall⟩ := hrel
    have HA : Hid (∀ i, i < k → OwnShp wr w.heap.size (i * 2) (ss.getD i Shp.none)) := hall
    have HO : Hid (OwnBlk wr w.heap.size 99 (ss.length * 2)) := hO
    clear hall hmk hcs hO
    by_cases hlt : k < ss.length
    · obtain ⟨vs, hf⟩ := hc k hlt
      have hf' := hf.later hB hb
      obtain ⟨s, hss⟩ : ∃ s, s = ss.getD k Shp.none := ⟨_, rfl⟩
      rw [← hss] at hf'
      have hs : s.small := hsm s (by rw [hss]; simp [hlt])
      have HX : Hid (s.small ∧ FldsAt wr vs s.fields ∧ s.kind.size ≤ maxLen) := ⟨hs, hf'.fields, hf'.sized⟩
      obtain ⟨c0, c1, _, _⟩ := hf'
      have HFF : Hid (s = ss.getD k Shp.none) := hss
      clear hss hf hc hs hsm
      go_wp2_with fail
      refine (toShape s vs wr HX.out.1 HX.out.2.1).mono ?_
      rintro e w2 ⟨b2, rfl, hb2, hge, hlt2, hc2⟩
      have hB2 := blw_trans hB hb2
      have hO2 := HO.out.later hb2
      have HP : Hid (∀ v, v = [.string s.kind, .slice (some ⟨b2, 0, none⟩) s.fields.length s.fields.length] →
          Below w.heap.size w (puts w2 w.heap.size (k * 2) 0 v) ∧ OwnBlk (puts w2 w.heap.size (k * 2) 0 v) w.heap.size 99 (ss.length * 2) ∧ ∀ i, i < k + 1 → OwnShp (puts w2 w.heap.size (k * 2) 0 v) w.heap.size (i * 2) (ss.getD i Shp.none)) := by
        intro v hv
        subst hv
        refine ⟨puts_below (a := w) _ (Nat.le_refl _) _ _ _ hB2, puts_own _ _ _ _ hO2, fun i hi => ?_⟩
        by_cases hik : i < k
        · exact ((HA.out i hik).later hb2 HO.out.lt).puts (k * 2) _ (by omega)
        · obtain rfl : i = k := by omega
          rw [← HFF.out]
          have := HO.out.lt
          exact own_put_shp hO2 (i * 2) (by omega) s b2 (by omega) hge.2 hlt2 HX.out.2.2 HX.out.1.1 hc2
      clear hc2 c0 c1 HX
      have hfz := hO2.frozen
      obtain ⟨v0, o0⟩ := hO2.cell (k * 2) (by omega)
      obtain ⟨v1, o1⟩ := hO2.cell (k * 2 + 1) (by omega)
      clear hO2 hB2 hb2 hge hlt2
      go_wp2
      go_roundw
      case rel => exact ⟨k + 1, by omega, by go_num, (HP.out _ rfl).1, (HP.out _ rfl).2.1, (HP.out _ rfl).2.2⟩
      case measure => simp [intOf]; omega
    · obtain rfl : k = ss.length := by omega
      go_wp2
      go_ret
      exact ⟨rfl, hB, HO.out, HA.out⟩

set_option maxHeartbeats 400000 in
theorem toShapes_nil (a : Option Addr) (cap : Nat) (w : World) :
    Calls Tryz.prog 25 #[.slice a 0 cap] w fun e w' => e = .returned (.slice (some ⟨w.heap.size, 0, none⟩) 0 0) ∧ ∃ cs : Array Value, cs.size = 0 ∧ w' = w.alloc (.cells cs 99) := by
  obtain ⟨cs, hcs0, hmk0⟩ := make_shps 0 (by omega)
  have hmk : ∀ W : World, (Instr.makeSlice 36 (.int .i64 0) (.int .i64 0)).run Tryz.prog W = .ok (.slice (some ⟨W.heap.size, 0, none⟩) 0 0) (W.alloc (.cells cs 99)) := hmk0
  clear hmk0
  go_enter Tryz.func25, Tryz.ntmps25
  go_wp2
  refine wp_loop_rounds 1 ?_
  rw [rounds_succ]
  go_wp2
  go_ret
  exact ⟨rfl, _, by omega, rfl⟩

theorem toShapes (v : Value) (ss : List Shp) (w : World) (hl : ss.length ≤ 1048576) (hsm : ∀ s ∈ ss, s.small) (h : ShpsAt w v ss) :
    Calls Tryz.prog 25 #[v] w fun e w' => e = .returned (.slice (some ⟨w.heap.size, 0, none⟩) ss.length ss.length) ∧ Below w.heap.size w w' ∧ OwnBlk w' w.heap.size 99 (ss.length * 2) ∧
      ∀ i, i < ss.length → OwnShp w' w.heap.size (i * 2) (ss.getD i Shp.none) := by
  rcases h with ⟨a, cap, rfl, rfl⟩ | ⟨b, off, cap, rfl, hb, _, hc⟩
  · refine (toShapes_nil a cap w).mono ?_
    rintro e w' ⟨rfl, cs, hcs, rfl⟩
    exact ⟨rfl, blw_alloc (Below.refl _ _) _, OwnBlk.alloc w cs 99 _ (by simpa using hcs), fun i hi => absurd hi (Nat.not_lt_zero i)⟩
  · exact toShapes_row b off cap ss w hl hsm hb hc

end Go.Proofs.YtkjkklcflpchlaaGreat

namespace Go.Proofs.YtkjkklcflpchlaaGreat
open Go.RowKit Go.Deep

theorem texts_cells {w : World} {b n c : Nat} {ss : List ByteArray} (h : Texts w (.slice (some ⟨b, 0, none⟩) n c) ss) : ∀ i, i < ss.length → w.cell? ⟨b, 0 + i, none⟩ = some (.string (ss.getD i ByteArray.empty)) := by
  rcases h with ⟨a, cap, _, rfl⟩ | ⟨b', off, cap, he, h1, h2, h3, h4⟩
  · intro i hi; exact absurd hi (Nat.not_lt_zero i)
  · injection he with e1 e2 e3
    injection e1 with e1
    injection e1 with e1 e4 _
    subst e1 e4
    exact h4

theorem eqFld (f : Fld) (b b' B B' o o' : Nat) (w : World) (hs : f.small) (hb : b < w.heap.size) (hb' : b' < w.heap.size)
    (h : FldIs w B o f (.slice (some ⟨b, 0, none⟩) f.words.length f.words.length)) (h' : FldIs w B' o' f (.slice (some ⟨b', 0, none⟩) f.words.length f.words.length)) :
    Calls Tryz.prog 112 #[.agg #[.string f.nm, .int .i64 f.kind, .int .i64 f.least, .int .i64 f.most, .slice (some ⟨b, 0, none⟩) f.words.length f.words.length, .string f.to, .int .i64 f.role, .bool f.must, .bool f.fixed, .string f.de, .string f.we], .agg #[.string f.nm, .int .i64 f.kind, .int .i64 f.least, .int .i64 f.most, (.slice (some ⟨b', 0, none⟩) f.words.length f.words.length), .string f.to, .int .i64 f.role, .bool f.must, .bool f.fixed, .string f.de, .string f.we]] w fun e w' => e = .returned (.bool true) ∧ Below w.heap.size w w' :=
  eqField f.nm f.kind f.least f.most b b' f.to f.role f.must f.fixed f.de f.we f.words w hb hb' hs (texts_cells h.texts) (texts_cells h'.texts)

set_option maxHeartbeats 2000000 in
theorem eqFields (B B' : Nat) (fs : List Fld) (w : World) (hl : fs.length ≤ 1048576) (hsm : ∀ f ∈ fs, f.small) (hB : B < w.heap.size) (hB' : B' < w.heap.size)
    (h : ∀ i, i < fs.length → OwnFld w B (i * 11) (fs.getD i Fld.none)) (h' : ∀ i, i < fs.length → OwnFld w B' (i * 11) (fs.getD i Fld.none)) :
    Calls Tryz.prog 92 #[.slice (some ⟨B, 0, none⟩) fs.length fs.length, .slice (some ⟨B', 0, none⟩) fs.length fs.length] w fun e w' => e = .returned (.bool true) ∧ Below w.heap.size w w' := by
  go_enter Tryz.func92, Tryz.ntmps92
  go_wp2
  go_loopw [5] (fun i wr => ∃ k : Nat, k ≤ fs.length ∧ i = .int .i64 k ∧ Below w.heap.size w wr) (fun i _ => fs.length - (intOf i).toNat)
  case atStart => exact ⟨0, Nat.zero_le _, rfl, Below.refl _ _⟩
  case round =>
    obtain ⟨k, hk, rfl, hW⟩ := hrel
    by_cases hlt : k < fs.length
    · obtain ⟨b, _, hb, hf⟩ := (h k hlt).later hW hB
      obtain ⟨b', _, hb', hf'⟩ := (h' k hlt).later hW hB'
      obtain ⟨f, hff⟩ : ∃ f, f = fs.getD k Fld.none := ⟨_, rfl⟩
      rw [← hff] at hf hf'
      have hs : f.small := hsm f (by rw [hff]; simp [hlt])
      have HX : Hid (∀ W, Below wr.heap.size wr W → Calls Tryz.prog 112 #[.agg #[.string f.nm, .int .i64 f.kind, .int .i64 f.least, .int .i64 f.most, .slice (some ⟨b, 0, none⟩) f.words.length f.words.length, .string f.to, .int .i64 f.role, .bool f.must, .bool f.fixed, .string f.de, .string f.we], .agg #[.string f.nm, .int .i64 f.kind, .int .i64 f.least, .int .i64 f.most, (.slice (some ⟨b', 0, none⟩) f.words.length f.words.length), .string f.to, .int .i64 f.role, .bool f.must, .bool f.fixed, .string f.de, .string f.we]] W fun e w' => e = .returned (.bool true) ∧ Below W.heap.size W w') := by
        intro W h1
        exact eqFld f b b' B B' (k * 11) (k * 11) W hs (Nat.lt_of_lt_of_le hb h1.size) (Nat.lt_of_lt_of_le hb' h1.size) (hf.later h1 (Nat.lt_of_lt_of_le hB hW.size)) (hf'.later h1 (Nat.lt_of_lt_of_le hB' hW.size))
      obtain ⟨c0, c1, c2, c3, c4, c5, c6, c7, c8, c9, c10, _, _⟩ := hf
      obtain ⟨d0, d1, d2, d3, d4, d5, d6, d7, d8, d9, d10, _, _⟩ := hf'
      clear h h' hff hs hsm hb hb'
      go_wp2_with fail
      go_region_with (go_at_call 112; refine (HX.out _ ?_).mono ?_; (repeat (first | exact Below.refl _ _ | refine Below.drew ?_)); rintro e w2 ⟨rfl, hb2⟩)
      all_goals
        go_wp2
        go_roundw
        case rel =>
          refine ⟨k + 1, by omega, by go_num, ?_⟩
          repeat (first | exact blw_trans hW hb2 | exact blw_trans hW.drew hb2 | exact blw_trans hW.drew.drew hb2 | refine Below.drew ?_)
        case measure => simp [intOf]; omega
    · go_wp2
      go_ret
      exact ⟨rfl, hW⟩

set_option maxHeartbeats 1000000 in
theorem eqShape (s : Shp) (b b' : Nat) (w : World) (hs : s.small) (hB : b < w.heap.size) (hB' : b' < w.heap.size)
    (h : ∀ i, i < s.fields.length → OwnFld w b (i * 11) (s.fields.getD i Fld.none)) (h' : ∀ i, i < s.fields.length → OwnFld w b' (i * 11) (s.fields.getD i Fld.none)) :
    Calls Tryz.prog 66 #[.agg #[.string s.kind, .slice (some ⟨b, 0, none⟩) s.fields.length s.fields.length], .agg #[.string s.kind, .slice (some ⟨b', 0, none⟩) s.fields.length s.fields.length]] w fun e w' => e = .returned (.bool true) ∧ Below w.heap.size w w' := by
  have HX : Hid (∀ W, Below w.heap.size w W → Calls Tryz.prog 92 #[.slice (some ⟨b, 0, none⟩) s.fields.length s.fields.length, .slice (some ⟨b', 0, none⟩) s.fields.length s.fields.length] W fun e w' => e = .returned (.bool true) ∧ Below W.heap.size W w') := by
    intro W h1
    exact eqFields b b' s.fields W hs.1 hs.2 (Nat.lt_of_lt_of_le hB h1.size) (Nat.lt_of_lt_of_le hB' h1.size) (fun i hi => (h i hi).later h1 hB) (fun i hi => (h' i hi).later h1 hB')
  clear h h' hs hB hB'
  go_enter Tryz.func66, Tryz.ntmps66
  go_wp2_with fail
  refine (HX.out _ ?_).mono ?_
  · exact blw_alloc (blw_alloc (Below.refl _ _) _) _
  rintro e w2 ⟨rfl, hb2⟩
  have hB2 := blw_trans (blw_alloc (blw_alloc (Below.refl _ _) _) _) hb2
  go_wp2
  go_ret
  exact ⟨rfl, hB2⟩

set_option maxHeartbeats 2000000 in
theorem eqShapes (B B' : Nat) (ss : List Shp) (w : World) (hl : ss.length ≤ 1048576) (hsm : ∀ s ∈ ss, s.small) (hB : B < w.heap.size) (hB' : B' < w.heap.size)
    (h : ∀ i, i < ss.length → OwnShp w B (i * 2) (ss.getD i Shp.none)) (h' : ∀ i, i < ss.length → OwnShp w B' (i * 2) (ss.getD i Shp.none)) :
    Calls Tryz.prog 32 #[.slice (some ⟨B, 0, none⟩) ss.length ss.length, .slice (some ⟨B', 0, none⟩) ss.length ss.length] w fun e w' => e = .returned (.bool true) ∧ Below w.heap.size w w' := by
  go_enter Tryz.func32, Tryz.ntmps32
  go_wp2
  go_loopw [5] (fun i wr => ∃ k : Nat, k ≤ ss.length ∧ i = .int .i64 k ∧ Below w.heap.size w wr) (fun i _ => ss.length - (intOf i).toNat)
  case atStart => exact ⟨0, Nat.zero_le _, rfl, Below.refl _ _⟩
  case round =>
    obtain ⟨k, hk, rfl, hW⟩ := hrel
    by_cases hlt : k < ss.length
    · have q := (h k hlt).later hW hB
      have q' := (h' k hlt).later hW hB'
      obtain ⟨s, hss⟩ : ∃ s, s = ss.getD k Shp.none := ⟨_, rfl⟩
      rw [← hss] at q q'
      have hs : s.small := hsm s (by rw [hss]; simp [hlt])
      obtain ⟨b, _, hb, _, _, c0, c1, hf⟩ := q
      obtain ⟨b', _, hb', _, _, d0, d1, hf'⟩ := q'
      have HX : Hid (∀ W, Below wr.heap.size wr W → Calls Tryz.prog 66 #[.agg #[.string s.kind, .slice (some ⟨b, 0, none⟩) s.fields.length s.fields.length], .agg #[.string s.kind, .slice (some ⟨b', 0, none⟩) s.fields.length s.fields.length]] W fun e w' => e = .returned (.bool true) ∧ Below W.heap.size W w') := by
        intro W h1
        exact eqShape s b b' W hs (Nat.lt_of_lt_of_le hb h1.size) (Nat.lt_of_lt_of_le hb' h1.size) (fun i hi => (hf i hi).later h1 hb) (fun i hi => (hf' i hi).later h1 hb')
      clear h h' hss hs hsm hb hb' hf hf'
      go_wp2_with fail
      go_region_with (go_at_call 66; refine (HX.out _ ?_).mono ?_; (repeat (first | exact Below.refl _ _ | refine Below.drew ?_)); rintro e w2 ⟨rfl, hb2⟩)
      all_goals
        go_wp2
        go_roundw
        case rel =>
          refine ⟨k + 1, by omega, by go_num, ?_⟩
          repeat (first | exact blw_trans hW hb2 | exact blw_trans hW.drew hb2 | exact blw_trans hW.drew.drew hb2 | refine Below.drew ?_)
        case measure => simp [intOf]; omega
    · go_wp2
      go_ret
      exact ⟨rfl, hW⟩

end Go.Proofs.YtkjkklcflpchlaaGreat
