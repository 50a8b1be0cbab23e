/-
  Walks over fields: sizes, copies, equality.
-/
import Derived.Test.YtkjkklcflpchlaaGreatWalkJ
namespace Go.Proofs.YtkjkklcflpchlaaGreat
open Go.RowKit Go.Deep

/-- What is asked of the list of texts in a field: it is empty, or its texts lie in memory. -/
def Texts (w : World) (vs : Value) (ss : List ByteArray) : Prop :=
  (∃ a cap, vs = .slice a 0 cap ∧ ss = []) ∨ ∃ b off cap, vs = .slice (some ⟨b, off, none⟩) ss.length cap ∧ b < w.heap.size ∧ (∀ i, i < ss.length → (ss.getD i ByteArray.empty).size ≤ maxLen) ∧ ss.length ≤ maxLen ∧
    ∀ i, i < ss.length → w.cell? ⟨b, off + i, none⟩ = some (.string (ss.getD i ByteArray.empty))

theorem Texts.later {w w' : World} {vs : Value} {ss : List ByteArray} (h : Texts w vs ss) (hb : Below w.heap.size w w') : Texts w' vs ss := by
  rcases h with h | ⟨b, off, cap, rfl, h1, h2, h3, h4⟩
  · exact Or.inl h
  · exact Or.inr ⟨b, off, cap, rfl, Nat.lt_of_lt_of_le h1 hb.size, h2, h3, fun i hi => by rw [← h4 i hi]; exact hb.cell (p := ⟨b, off + i, none⟩) h1⟩

theorem szTexts_any (vs : Value) (ss : List ByteArray) (left : Int) (w : World) (h0 : 0 ≤ left) (h1 : left ≤ 1048576) (h : Texts w vs ss) :
    Calls Tryz.prog 21 #[vs, .int .i64 left] w fun e w' => (∃ r : Int, e = .returned (.int .i64 r) ∧ szPost ss.length left r) ∧ w = w' := by
  rcases h with ⟨a, cap, rfl, rfl⟩ | ⟨b, off, cap, rfl, _, h2, h3, h4⟩
  · exact szTexts_nil a cap left w h0 h1
  · exact szTexts_row b off cap ss left w h0 h1 h3 h2 h4

/-- A new row of texts at the heap's end. -/
theorem toTexts_any (vs : Value) (ss : List ByteArray) (w : World) (hl : ss.length ≤ 1048576) (h : Texts w vs ss) :
    Calls Tryz.prog 28 #[vs] w fun e w' => ∃ cs : Array Value, e = .returned (.slice (some ⟨w.heap.size, 0, none⟩) ss.length ss.length) ∧ w' = w.alloc (.cells cs 9) ∧ cs.size = ss.length ∧
      ∀ j, j < ss.length → cs[j]? = some (.string (ss.getD j ByteArray.empty)) := by
  rcases h with ⟨a, cap, rfl, rfl⟩ | ⟨b, off, cap, rfl, h1, h2, h3, h4⟩
  · exact (toTexts_nil a cap w).mono fun e w' h => ⟨#[], h.1, h.2, rfl, fun j hj => absurd hj (Nat.not_lt_zero j)⟩
  · exact toTexts_row b off cap ss w h1 hl h4

set_option maxHeartbeats 1000000 in
theorem szField (nm : ByteArray) (kind least most : Int) (vs : Value) (to : ByteArray) (role : Int) (must fixed : Bool) (de we : ByteArray) (w : World) (ss : List ByteArray) (left : Int) (h0 : 0 ≤ left) (h1 : left ≤ 1048576) (h : Texts w vs ss)
    (hn : nm.size ≤ maxLen) (ht : to.size ≤ maxLen) (hd : de.size ≤ maxLen) (hw : we.size ≤ maxLen) :
    Calls Tryz.prog 94 #[.agg #[.string nm, .int .i64 kind, .int .i64 least, .int .i64 most, vs, .string to, .int .i64 role, .bool must, .bool fixed, .string de, .string we], .int .i64 left] w fun e w' => (∃ r : Int, e = .returned (.int .i64 r) ∧ szPost ss.length left r) ∧ Below w.heap.size w w' := by
  unfold maxLen at hn ht hd hw
  have HX : Hid (∀ (o : Obj) (l : Int), 0 ≤ l → l ≤ 1048576 → Calls Tryz.prog 21 #[vs, .int .i64 l] (w.alloc o) fun e w' => (∃ r : Int, e = .returned (.int .i64 r) ∧ szPost ss.length l r) ∧ (w.alloc o) = w') := by
    intro o l l0 l1
    exact szTexts_any vs ss l _ l0 l1 (h.later (blw_alloc (Below.refl _ _) o))
  clear h
  by_cases c1 : left < (nm.size : Int)
  · go_enter Tryz.func94, Tryz.ntmps94
    go_wp2
    go_ret
    exact ⟨⟨_, rfl, by unfold szPost; omega⟩, blw_alloc (Below.refl _ _) _⟩
  · go_enter Tryz.func94, Tryz.ntmps94
    go_wp2_with fail
    refine (HX.out _ _ (by omega) (by omega)).mono ?_
    rintro e w' ⟨⟨r, rfl, hr⟩, rfl⟩
    have HR : Hid (szPost ss.length (left - nm.size) r) := hr
    have hr1 : -1 ≤ r := hr.1
    have hr2 : r ≤ left - nm.size := hr.2.1
    clear hr
    by_cases c2 : r < 0
    · go_wp2
      go_ret
      exact ⟨⟨_, rfl, by unfold szPost; omega⟩, blw_alloc (Below.refl _ _) _⟩
    · have HS : Hid ((ss.length : Int) ≤ left) := by have := HR.out.2.2 (by omega); show (ss.length : Int) ≤ left; omega
      by_cases c3 : r < (to.size : Int)
      · go_wp2
        go_ret
        exact ⟨⟨_, rfl, by unfold szPost; omega⟩, blw_alloc (Below.refl _ _) _⟩
      by_cases c4 : r - to.size < (de.size : Int)
      · go_wp2
        go_ret
        exact ⟨⟨_, rfl, by unfold szPost; omega⟩, blw_alloc (Below.refl _ _) _⟩
      by_cases c5 : r - to.size - de.size < (we.size : Int)
      · go_wp2
        go_ret
        exact ⟨⟨_, rfl, by unfold szPost; omega⟩, blw_alloc (Below.refl _ _) _⟩
      · go_wp2
        go_ret
        exact ⟨⟨_, rfl, by have := HS.out; unfold szPost; omega⟩, blw_alloc (Below.refl _ _) _⟩

set_option maxHeartbeats 1000000 in
theorem toField (nm : ByteArray) (kind least most : Int) (vs : Value) (to : ByteArray) (role : Int) (must fixed : Bool) (de we : ByteArray) (w : World) (ss : List ByteArray) (hl : ss.length ≤ 1048576) (h : Texts w vs ss) :
    Calls Tryz.prog 101 #[.agg #[.string nm, .int .i64 kind, .int .i64 least, .int .i64 most, vs, .string to, .int .i64 role, .bool must, .bool fixed, .string de, .string we]] w fun e w' => ∃ b, e = .returned (.agg #[.string nm, .int .i64 kind, .int .i64 least, .int .i64 most, .slice (some ⟨b, 0, none⟩) ss.length ss.length, .string to, .int .i64 role, .bool must, .bool fixed, .string de, .string we]) ∧ Below w.heap.size w w' ∧ w.heap.size ≤ b ∧ b < w'.heap.size ∧
      ∀ i, i < ss.length → w'.cell? ⟨b, 0 + i, none⟩ = some (.string (ss.getD i ByteArray.empty)) := by
  have HX : Hid (∀ W, Below w.heap.size w W → Calls Tryz.prog 28 #[vs] W fun e w' => ∃ cs : Array Value, e = .returned (.slice (some ⟨W.heap.size, 0, none⟩) ss.length ss.length) ∧ w' = W.alloc (.cells cs 9) ∧ cs.size = ss.length ∧
      ∀ j, j < ss.length → cs[j]? = some (.string (ss.getD j ByteArray.empty))) := fun W hW => toTexts_any vs ss W hl (h.later hW)
  clear h hl
  go_enter Tryz.func101, Tryz.ntmps101
  go_wp2_with fail
  refine (HX.out _ (by repeat (first | exact Below.refl _ _ | refine blw_alloc ?_ _))).mono ?_
  rintro e w1 ⟨cs, rfl, rfl, hsz, hcs⟩
  have HC : Hid (cs.size = ss.length ∧ ∀ j, j < ss.length → cs[j]? = some (.string (ss.getD j ByteArray.empty))) := ⟨hsz, hcs⟩
  clear hsz hcs HX
  go_wp2
  refine bodyPost_ret (v := .agg #[.string nm, .int .i64 kind, .int .i64 least, .int .i64 most, .slice (some ⟨w.heap.size + 1 + 1 + 1, 0, none⟩) ss.length ss.length, .string to, .int .i64 role, .bool must, .bool fixed, .string de, .string we]) (by simp [results, Tryz.results101, go_sem]) rfl ⟨w.heap.size + 1 + 1 + 1, rfl, ?_, by omega, by simp, fun i hi => ?_⟩
  · repeat (first | exact Below.refl _ _ | refine blw_alloc ?_ _)
  · rw [World.cell?_alloc_at cs 9 _ _ (by simp), Nat.zero_add]
    exact HC.out.2 i hi

set_option maxHeartbeats 2000000 in
theorem eqField (nm : ByteArray) (kind least most : Int) (b b' : Nat) (to : ByteArray) (role : Int) (must fixed : Bool) (de we : ByteArray) (ss : List ByteArray) (w : World) (hb : b < w.heap.size) (hb' : b' < w.heap.size) (hl : ss.length ≤ 1048576)
    (hc : ∀ i, i < ss.length → w.cell? ⟨b, 0 + i, none⟩ = some (.string (ss.getD i ByteArray.empty)))
    (hc' : ∀ i, i < ss.length → w.cell? ⟨b', 0 + i, none⟩ = some (.string (ss.getD i ByteArray.empty))) :
    Calls Tryz.prog 112 #[.agg #[.string nm, .int .i64 kind, .int .i64 least, .int .i64 most, .slice (some ⟨b, 0, none⟩) ss.length ss.length, .string to, .int .i64 role, .bool must, .bool fixed, .string de, .string we], .agg #[.string nm, .int .i64 kind, .int .i64 least, .int .i64 most, (.slice (some ⟨b', 0, none⟩) ss.length ss.length), .string to, .int .i64 role, .bool must, .bool fixed, .string de, .string we]] w
      fun e w' => e = .returned (.bool true) ∧ Below w.heap.size w w' := by
  have HX : Hid (∀ W, Below w.heap.size w W → Calls Tryz.prog 35 #[.slice (some ⟨b, 0, none⟩) ss.length ss.length, .slice (some ⟨b', 0, none⟩) ss.length ss.length] W fun e w' => e = .returned (.bool true) ∧ Below W.heap.size W w') := by
    intro W hW
    refine eqTexts_row b 0 ss.length b' 0 ss.length ss W (by unfold maxLen; omega) (fun i hi => ?_) (fun i hi => ?_)
    · rw [← hc i hi]; exact hW.cell (p := ⟨b, 0 + i, none⟩) hb
    · rw [← hc' i hi]; exact hW.cell (p := ⟨b', 0 + i, none⟩) hb'
  clear hc hc' hb hb' hl
  go_enter Tryz.func112, Tryz.ntmps112
  go_wp2_with fail
  have hB : Below w.heap.size w ((w.alloc (.cells #[.string nm, .int .i64 kind, .int .i64 least, .int .i64 most, .slice (some ⟨b, 0, none⟩) ss.length ss.length, .string to, .int .i64 role, .bool must, .bool fixed, .string de, .string we] 160)).alloc (.cells #[.string nm, .int .i64 kind, .int .i64 least, .int .i64 most, .slice (some ⟨b', 0, none⟩) ss.length ss.length, .string to, .int .i64 role, .bool must, .bool fixed, .string de, .string we] 160)) := blw_alloc (blw_alloc (Below.refl _ _) _) _
  refine (HX.out _ hB).mono ?_
  rintro e w1 ⟨rfl, hb1⟩
  have hb2 := blw_trans hB hb1
  obtain ⟨hcell, hfroz⟩ : (∀ q o, q < w.heap.size + 1 + 1 → w1.cell? ⟨q, o, none⟩ = ((w.alloc (.cells #[.string nm, .int .i64 kind, .int .i64 least, .int .i64 most, .slice (some ⟨b, 0, none⟩) ss.length ss.length, .string to, .int .i64 role, .bool must, .bool fixed, .string de, .string we] 160)).alloc (.cells #[.string nm, .int .i64 kind, .int .i64 least, .int .i64 most, .slice (some ⟨b', 0, none⟩) ss.length ss.length, .string to, .int .i64 role, .bool must, .bool fixed, .string de, .string we] 160)).cell? ⟨q, o, none⟩) ∧ True :=
    ⟨fun q o h => hb1.cell (p := ⟨q, o, none⟩) (by simpa using h), trivial⟩
  clear hB hb1 HX hfroz
  go_wp2
  go_ret
  exact ⟨rfl, hb2⟩

end Go.Proofs.YtkjkklcflpchlaaGreat
