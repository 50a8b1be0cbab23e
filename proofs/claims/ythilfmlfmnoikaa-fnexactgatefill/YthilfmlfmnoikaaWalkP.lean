/-
  Walks over equality of lists of fields and shapes.
-/
import Derived.Test.YthilfmlfmnoikaaWalkO
import Derived.Deep.RegionWith
namespace Go.Proofs.Ythilfmlfmnoikaa
open Go.RowKit Go.Deep

theorem texts_cells {w : World} {b n c : Nat} {ss : List ByteArray} (h : Texts w (.slice (some ⟨b, 0, none⟩) n c) ss) : ∀ i, i < ss.length → w.cell? ⟨b, 0 + i, none⟩ = some (.string (ss.getD i ByteArray.empty)) := by
  rcases h with ⟨a, cap, _, rfl⟩ | ⟨b', off, cap, he, h1, h2, h3, h4⟩
  · intro i hi; exact absurd hi (Nat.not_lt_zero i)
  · injection he with e1 e2 e3
    injection e1 with e1
    injection e1 with e1 e4 _
    subst e1 e4
    exact h4

theorem eqFld (f : Fld) (b b' B B' o o' : Nat) (w : World) (hs : f.small) (hb : b < w.heap.size) (hb' : b' < w.heap.size)
    (h : FldIs w B o f (.slice (some ⟨b, 0, none⟩) f.words.length f.words.length)) (h' : FldIs w B' o' f (.slice (some ⟨b', 0, none⟩) f.words.length f.words.length)) :
    Calls Try.prog 50 #[.agg #[.string f.nm, .int .i64 f.kind, .int .i64 f.least, .int .i64 f.most, .slice (some ⟨b, 0, none⟩) f.words.length f.words.length, .string f.to, .int .i64 f.role, .bool f.must, .bool f.fixed, .string f.de, .string f.we], .agg #[.string f.nm, .int .i64 f.kind, .int .i64 f.least, .int .i64 f.most, (.slice (some ⟨b', 0, none⟩) f.words.length f.words.length), .string f.to, .int .i64 f.role, .bool f.must, .bool f.fixed, .string f.de, .string f.we]] w fun e w' => e = .returned (.bool true) ∧ Below w.heap.size w w' :=
  eqField f.nm f.kind f.least f.most b b' f.to f.role f.must f.fixed f.de f.we f.words w hb hb' hs (texts_cells h.texts) (texts_cells h'.texts)

set_option maxHeartbeats 2000000 in
theorem eqFields (B B' : Nat) (fs : List Fld) (w : World) (hl : fs.length ≤ 1048576) (hsm : ∀ f ∈ fs, f.small) (hB : B < w.heap.size) (hB' : B' < w.heap.size)
    (h : ∀ i, i < fs.length → OwnFld w B (i * 11) (fs.getD i Fld.none)) (h' : ∀ i, i < fs.length → OwnFld w B' (i * 11) (fs.getD i Fld.none)) :
    Calls Try.prog 39 #[.slice (some ⟨B, 0, none⟩) fs.length fs.length, .slice (some ⟨B', 0, none⟩) fs.length fs.length] w fun e w' => e = .returned (.bool true) ∧ Below w.heap.size w w' := by
  go_enter Try.func39, Try.ntmps39
  go_wp2
  go_loopw [5] (fun i wr => ∃ k : Nat, k ≤ fs.length ∧ i = .int .i64 k ∧ Below w.heap.size w wr) (fun i _ => fs.length - (intOf i).toNat)
  case atStart => exact ⟨0, Nat.zero_le _, rfl, Below.refl _ _⟩
  case round =>
    obtain ⟨k, hk, rfl, hW⟩ := hrel
    by_cases hlt : k < fs.length
    · obtain ⟨b, _, hb, hf⟩ := (h k hlt).later hW hB
      obtain ⟨b', _, hb', hf'⟩ := (h' k hlt).later hW hB'
      obtain ⟨f, hff⟩ : ∃ f, f = fs.getD k Fld.none := ⟨_, rfl⟩
      rw [← hff] at hf hf'
      have hs : f.small := hsm f (by rw [hff]; simp [hlt])
      have HX : Hid (∀ W, Below wr.heap.size wr W → Calls Try.prog 50 #[.agg #[.string f.nm, .int .i64 f.kind, .int .i64 f.least, .int .i64 f.most, .slice (some ⟨b, 0, none⟩) f.words.length f.words.length, .string f.to, .int .i64 f.role, .bool f.must, .bool f.fixed, .string f.de, .string f.we], .agg #[.string f.nm, .int .i64 f.kind, .int .i64 f.least, .int .i64 f.most, (.slice (some ⟨b', 0, none⟩) f.words.length f.words.length), .string f.to, .int .i64 f.role, .bool f.must, .bool f.fixed, .string f.de, .string f.we]] W fun e w' => e = .returned (.bool true) ∧ Below W.heap.size W w') := by
        intro W h1
        exact eqFld f b b' B B' (k * 11) (k * 11) W hs (Nat.lt_of_lt_of_le hb h1.size) (Nat.lt_of_lt_of_le hb' h1.size) (hf.later h1 (Nat.lt_of_lt_of_le hB hW.size)) (hf'.later h1 (Nat.lt_of_lt_of_le hB' hW.size))
      obtain ⟨c0, c1, c2, c3, c4, c5, c6, c7, c8, c9, c10, _, _⟩ := hf
      obtain ⟨d0, d1, d2, d3, d4, d5, d6, d7, d8, d9, d10, _, _⟩ := hf'
      clear h h' hff hs hsm hb hb'
      go_wp2_with fail
      go_region_with (go_at_call 50; refine (HX.out _ ?_).mono ?_; (repeat (first | exact Below.refl _ _ | refine Below.drew ?_)); rintro e w2 ⟨rfl, hb2⟩)
      all_goals
        go_wp2
        go_roundw
        case rel =>
          refine ⟨k + 1, by omega, by go_num, ?_⟩
          repeat (first | exact blw_trans hW hb2 | exact blw_trans hW.drew hb2 | exact blw_trans hW.drew.drew hb2 | refine Below.drew ?_)
        case measure => simp [intOf]; omega
    · go_wp2
      go_ret
      exact ⟨rfl, hW⟩

set_option maxHeartbeats 1000000 in
theorem eqShape (s : Shp) (b b' : Nat) (w : World) (hs : s.small) (hB : b < w.heap.size) (hB' : b' < w.heap.size)
    (h : ∀ i, i < s.fields.length → OwnFld w b (i * 11) (s.fields.getD i Fld.none)) (h' : ∀ i, i < s.fields.length → OwnFld w b' (i * 11) (s.fields.getD i Fld.none)) :
    Calls Try.prog 26 #[.agg #[.string s.kind, .slice (some ⟨b, 0, none⟩) s.fields.length s.fields.length], .agg #[.string s.kind, .slice (some ⟨b', 0, none⟩) s.fields.length s.fields.length]] w fun e w' => e = .returned (.bool true) ∧ Below w.heap.size w w' := by
  have HX : Hid (∀ W, Below w.heap.size w W → Calls Try.prog 39 #[.slice (some ⟨b, 0, none⟩) s.fields.length s.fields.length, .slice (some ⟨b', 0, none⟩) s.fields.length s.fields.length] W fun e w' => e = .returned (.bool true) ∧ Below W.heap.size W w') := by
    intro W h1
    exact eqFields b b' s.fields W hs.1 hs.2 (Nat.lt_of_lt_of_le hB h1.size) (Nat.lt_of_lt_of_le hB' h1.size) (fun i hi => (h i hi).later h1 hB) (fun i hi => (h' i hi).later h1 hB')
  clear h h' hs hB hB'
  go_enter Try.func26, Try.ntmps26
  go_wp2_with fail
  refine (HX.out _ ?_).mono ?_
  · exact blw_alloc (blw_alloc (Below.refl _ _) _) _
  rintro e w2 ⟨rfl, hb2⟩
  have hB2 := blw_trans (blw_alloc (blw_alloc (Below.refl _ _) _) _) hb2
  go_wp2
  go_ret
  exact ⟨rfl, hB2⟩

set_option maxHeartbeats 2000000 in
theorem eqShapes (B B' : Nat) (ss : List Shp) (w : World) (hl : ss.length ≤ 1048576) (hsm : ∀ s ∈ ss, s.small) (hB : B < w.heap.size) (hB' : B' < w.heap.size)
    (h : ∀ i, i < ss.length → OwnShp w B (i * 2) (ss.getD i Shp.none)) (h' : ∀ i, i < ss.length → OwnShp w B' (i * 2) (ss.getD i Shp.none)) :
    Calls Try.prog 11 #[.slice (some ⟨B, 0, none⟩) ss.length ss.length, .slice (some ⟨B', 0, none⟩) ss.length ss.length] w fun e w' => e = .returned (.bool true) ∧ Below w.heap.size w w' := by
  go_enter Try.func11, Try.ntmps11
  go_wp2
  go_loopw [5] (fun i wr => ∃ k : Nat, k ≤ ss.length ∧ i = .int .i64 k ∧ Below w.heap.size w wr) (fun i _ => ss.length - (intOf i).toNat)
  case atStart => exact ⟨0, Nat.zero_le _, rfl, Below.refl _ _⟩
  case round =>
    obtain ⟨k, hk, rfl, hW⟩ := hrel
    by_cases hlt : k < ss.length
    · have q := (h k hlt).later hW hB
      have q' := (h' k hlt).later hW hB'
      obtain ⟨s, hss⟩ : ∃ s, s = ss.getD k Shp.none := ⟨_, rfl⟩
      rw [← hss] at q q'
      have hs : s.small := hsm s (by rw [hss]; simp [hlt])
      obtain ⟨b, _, hb, _, _, c0, c1, hf⟩ := q
      obtain ⟨b', _, hb', _, _, d0, d1, hf'⟩ := q'
      have HX : Hid (∀ W, Below wr.heap.size wr W → Calls Try.prog 26 #[.agg #[.string s.kind, .slice (some ⟨b, 0, none⟩) s.fields.length s.fields.length], .agg #[.string s.kind, .slice (some ⟨b', 0, none⟩) s.fields.length s.fields.length]] W fun e w' => e = .returned (.bool true) ∧ Below W.heap.size W w') := by
        intro W h1
        exact eqShape s b b' W hs (Nat.lt_of_lt_of_le hb h1.size) (Nat.lt_of_lt_of_le hb' h1.size) (fun i hi => (hf i hi).later h1 hb) (fun i hi => (hf' i hi).later h1 hb')
      clear h h' hss hs hsm hb hb' hf hf'
      go_wp2_with fail
      go_region_with (go_at_call 26; refine (HX.out _ ?_).mono ?_; (repeat (first | exact Below.refl _ _ | refine Below.drew ?_)); rintro e w2 ⟨rfl, hb2⟩)
      all_goals
        go_wp2
        go_roundw
        case rel =>
          refine ⟨k + 1, by omega, by go_num, ?_⟩
          repeat (first | exact blw_trans hW hb2 | exact blw_trans hW.drew hb2 | exact blw_trans hW.drew.drew hb2 | refine Below.drew ?_)
        case measure => simp [intOf]; omega
    · go_wp2
      go_ret
      exact ⟨rfl, hW⟩

end Go.Proofs.Ythilfmlfmnoikaa
