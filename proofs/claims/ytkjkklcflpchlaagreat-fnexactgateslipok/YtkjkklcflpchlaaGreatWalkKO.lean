/-
  The copy of a field, with what it owns.
-/
import Derived.Test.YtkjkklcflpchlaaGreatWalkK
import Derived.Test.YtkjkklcflpchlaaGreatOwn
namespace Go.Proofs.YtkjkklcflpchlaaGreat
open Go.RowKit Go.Deep

set_option maxHeartbeats 1000000 in
theorem toFieldO (nm : ByteArray) (kind least most : Int) (vs : Value) (to : ByteArray) (role : Int) (must fixed : Bool) (de we : ByteArray) (w : World) (ss : List ByteArray) (hl : ss.length ≤ 1048576) (h : Texts w vs ss) :
    Calls Tryz.prog 101 #[.agg #[.string nm, .int .i64 kind, .int .i64 least, .int .i64 most, vs, .string to, .int .i64 role, .bool must, .bool fixed, .string de, .string we]] w fun e w' => ∃ b, e = .returned (.agg #[.string nm, .int .i64 kind, .int .i64 least, .int .i64 most, .slice (some ⟨b, 0, none⟩) ss.length ss.length, .string to, .int .i64 role, .bool must, .bool fixed, .string de, .string we]) ∧ Below w.heap.size w w' ∧ w.heap.size ≤ b ∧ b < w'.heap.size ∧ OwnBlk w' b 9 ss.length ∧
      ∀ i, i < ss.length → w'.cell? ⟨b, 0 + i, none⟩ = some (.string (ss.getD i ByteArray.empty)) := by
  have HX : Hid (∀ W, Below w.heap.size w W → Calls Tryz.prog 28 #[vs] W fun e w' => ∃ cs : Array Value, e = .returned (.slice (some ⟨W.heap.size, 0, none⟩) ss.length ss.length) ∧ w' = W.alloc (.cells cs 9) ∧ cs.size = ss.length ∧
      ∀ j, j < ss.length → cs[j]? = some (.string (ss.getD j ByteArray.empty))) := fun W hW => toTexts_any vs ss W hl (h.later hW)
  clear h hl
  go_enter Tryz.func101, Tryz.ntmps101
  go_wp2_with fail
  refine (HX.out _ (by repeat (first | exact Below.refl _ _ | refine blw_alloc ?_ _))).mono ?_
  rintro e w1 ⟨cs, rfl, rfl, hsz, hcs⟩
  have HC : Hid (cs.size = ss.length ∧ ∀ j, j < ss.length → cs[j]? = some (.string (ss.getD j ByteArray.empty))) := ⟨hsz, hcs⟩
  clear hsz hcs HX
  go_wp2
  refine bodyPost_ret (v := .agg #[.string nm, .int .i64 kind, .int .i64 least, .int .i64 most, .slice (some ⟨w.heap.size + 1 + 1 + 1, 0, none⟩) ss.length ss.length, .string to, .int .i64 role, .bool must, .bool fixed, .string de, .string we]) (by simp [results, Tryz.results101, go_sem]) rfl ⟨w.heap.size + 1 + 1 + 1, rfl, ?_, by omega, by simp, ?_, fun i hi => ?_⟩
  · repeat (first | exact Below.refl _ _ | refine blw_alloc ?_ _)
  · have hO := OwnBlk.alloc (((w.alloc (.cells #[.string nm, .int .i64 kind, .int .i64 least, .int .i64 most, vs, .string to, .int .i64 role, .bool must, .bool fixed, .string de, .string we] 158)).alloc (.cells #[.string nm, .int .i64 kind, .int .i64 least, .int .i64 most, .slice (some ⟨w.heap.size + 1 + 1 + 1, 0, none⟩) ss.length ss.length, .string to, .int .i64 role, .bool must, .bool fixed, .string de, .string we] 160)).alloc (.cells #[.string nm, .int .i64 kind, .int .i64 least, .int .i64 most, .slice (some ⟨w.heap.size + 1 + 1 + 1, 0, none⟩) ss.length ss.length, .string to, .int .i64 role, .bool must, .bool fixed, .string de, .string we] 160)) cs 9 ss.length HC.out.1
    have e : (((w.alloc (.cells #[.string nm, .int .i64 kind, .int .i64 least, .int .i64 most, vs, .string to, .int .i64 role, .bool must, .bool fixed, .string de, .string we] 158)).alloc (.cells #[.string nm, .int .i64 kind, .int .i64 least, .int .i64 most, .slice (some ⟨w.heap.size + 1 + 1 + 1, 0, none⟩) ss.length ss.length, .string to, .int .i64 role, .bool must, .bool fixed, .string de, .string we] 160)).alloc (.cells #[.string nm, .int .i64 kind, .int .i64 least, .int .i64 most, .slice (some ⟨w.heap.size + 1 + 1 + 1, 0, none⟩) ss.length ss.length, .string to, .int .i64 role, .bool must, .bool fixed, .string de, .string we] 160)).heap.size = w.heap.size + 1 + 1 + 1 := by simp
    rw [e] at hO
    exact hO
  · rw [World.cell?_alloc_at cs 9 _ _ (by simp), Nat.zero_add]
    exact HC.out.2 i hi

end Go.Proofs.YtkjkklcflpchlaaGreat
