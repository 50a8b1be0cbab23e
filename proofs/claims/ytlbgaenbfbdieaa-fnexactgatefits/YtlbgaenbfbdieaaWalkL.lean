/-
  The walk over the law of GateFits.
-/
import Derived.Test.YtlbgaenbfbdieaaWalkE
import Derived.Test.YtlbgaenbfbdieaaWalkI
import Derived.Test.YtlbgaenbfbdieaaWalkK
import Derived.Deep.RegionWith
namespace Go.Proofs.Ytlbgaenbfbdieaa
open Go.RowKit Go.Deep

set_option maxHeartbeats 2000000 in
theorem lawFits (nm : ByteArray) (kind least most : Int) (vs : Value) (to : ByteArray) (role : Int) (must fixed : Bool) (de we v : ByteArray) (ss : List ByteArray) (w : World) (h : Texts w vs ss) (hv : v.size ≤ maxLen)
    (hn : nm.size ≤ maxLen) (ht : to.size ≤ maxLen) (hd : de.size ≤ maxLen) (hw : we.size ≤ maxLen) :
    Calls Try.prog 3 #[.agg #[.string nm, .int .i64 kind, .int .i64 least, .int .i64 most, vs, .string to, .int .i64 role, .bool must, .bool fixed, .string de, .string we], .string v] w fun e w' => e = .returned (.bool true) ∧ Below w.heap.size w w' := by
  have hv' := hv
  unfold maxLen at hv'
  by_cases c0 : 1048576 < (v.size : Int)
  · go_enter Try.func3, Try.ntmps3
    go_wp2
    go_ret
    exact ⟨rfl, blw_alloc (Below.refl _ _) _⟩
  -- the first calls
  have HZ : Hid (∀ o, Calls Try.prog 6 #[.agg #[.string nm, .int .i64 kind, .int .i64 least, .int .i64 most, vs, .string to, .int .i64 role, .bool must, .bool fixed, .string de, .string we], .int .i64 1048576] (w.alloc o) fun e w' => (∃ r : Int, e = .returned (.int .i64 r) ∧ szPost ss.length 1048576 r) ∧ Below (w.alloc o).heap.size (w.alloc o) w') :=
    fun o => szField nm kind least most vs to role must fixed de we (w.alloc o) ss 1048576 (by omega) (by omega) (h.later (blw_alloc (Below.refl _ _) o)) hn ht hd hw
  have HT : Hid (ss.length ≤ 1048576 → ∀ W, Below w.heap.size w W → Calls Try.prog 8 #[.agg #[.string nm, .int .i64 kind, .int .i64 least, .int .i64 most, vs, .string to, .int .i64 role, .bool must, .bool fixed, .string de, .string we]] W fun e w' => ∃ b, e = .returned (.agg #[.string nm, .int .i64 kind, .int .i64 least, .int .i64 most, .slice (some ⟨b, 0, none⟩) ss.length ss.length, .string to, .int .i64 role, .bool must, .bool fixed, .string de, .string we]) ∧ Below W.heap.size W w' ∧ W.heap.size ≤ b ∧ b < w'.heap.size ∧
      ∀ i, i < ss.length → w'.cell? ⟨b, 0 + i, none⟩ = some (.string (ss.getD i ByteArray.empty))) :=
    fun hl W hW => toField nm kind least most vs to role must fixed de we W ss hl (h.later hW)
  clear h hn ht hd hw
  go_enter Try.func3, Try.ntmps3
  go_wp2_with fail
  refine (HZ.out _).mono ?_
  rintro e w1 ⟨⟨r, rfl, hr⟩, hb1⟩
  have HR : Hid (szPost ss.length 1048576 r) := hr
  clear hr HZ
  have hB1 := blw_trans (blw_alloc (Below.refl w.heap.size w) (.cells #[.string nm, .int .i64 kind, .int .i64 least, .int .i64 most, vs, .string to, .int .i64 role, .bool must, .bool fixed, .string de, .string we] 24)) hb1
  have hz1 : w.heap.size < w1.heap.size := by have := hb1.size; simp at this; omega
  have hk1 : ∀ o, w1.cell? ⟨w.heap.size, o, none⟩ = (w.alloc (.cells #[.string nm, .int .i64 kind, .int .i64 least, .int .i64 most, vs, .string to, .int .i64 role, .bool must, .bool fixed, .string de, .string we] 24)).cell? ⟨w.heap.size, o, none⟩ := fun o => hb1.cell (p := ⟨w.heap.size, o, none⟩) (by simp)
  clear hb1
  by_cases c1 : r < 0
  · go_wp2
    go_ret
    exact ⟨rfl, hB1⟩
  have HL : Hid (ss.length ≤ 1048576) := by have := HR.out.2.2 (by omega); show ss.length ≤ 1048576; omega
  clear HR
  go_wp2_with fail
  refine (HT.out HL.out _ hB1).mono ?_
  rintro e w2 ⟨b1, rfl, hb2, _, hlt1, hc1⟩
  have hB2 := blw_trans hB1 hb2
  have hz2 : w.heap.size < w2.heap.size := Nat.lt_of_lt_of_le hz1 hb2.size
  have hk2 : ∀ o, w2.cell? ⟨w.heap.size, o, none⟩ = (w.alloc (.cells #[.string nm, .int .i64 kind, .int .i64 least, .int .i64 most, vs, .string to, .int .i64 role, .bool must, .bool fixed, .string de, .string we] 24)).cell? ⟨w.heap.size, o, none⟩ := fun o => (hb2.cell (p := ⟨w.heap.size, o, none⟩) hz1).trans (hk1 o)
  clear hk1 hb2
  go_wp2_with fail
  refine (specFits_any nm kind least most b1 0 ss.length to role must fixed de we v ss w2 hv hlt1 (by have := HL.out; unfold maxLen; omega) hc1).mono ?_
  rintro e w3 ⟨rfl, hb3⟩
  have hB3 := blw_trans hB2 hb3
  have hz3 : w.heap.size < w3.heap.size := Nat.lt_of_lt_of_le hz2 hb3.size
  have hk3 : ∀ o, w3.cell? ⟨w.heap.size, o, none⟩ = (w.alloc (.cells #[.string nm, .int .i64 kind, .int .i64 least, .int .i64 most, vs, .string to, .int .i64 role, .bool must, .bool fixed, .string de, .string we] 24)).cell? ⟨w.heap.size, o, none⟩ := fun o => (hb3.cell (p := ⟨w.heap.size, o, none⟩) hz2).trans (hk2 o)
  clear hk2 hb3 hc1 hlt1
  go_wp2_with fail
  refine (HT.out HL.out _ hB3).mono ?_
  rintro e w4 ⟨b2, rfl, hb4, _, hlt2, hc2⟩
  have hB4 := blw_trans hB3 hb4
  have hz4 : w.heap.size < w4.heap.size := Nat.lt_of_lt_of_le hz3 hb4.size
  have hk4 : ∀ o, w4.cell? ⟨w.heap.size, o, none⟩ = (w.alloc (.cells #[.string nm, .int .i64 kind, .int .i64 least, .int .i64 most, vs, .string to, .int .i64 role, .bool must, .bool fixed, .string de, .string we] 24)).cell? ⟨w.heap.size, o, none⟩ := fun o => (hb4.cell (p := ⟨w.heap.size, o, none⟩) hz3).trans (hk3 o)
  clear hk3 hb4
  have HC2 : Hid (∀ i, i < ss.length → w4.cell? ⟨b2, 0 + i, none⟩ = some (.string (ss.getD i ByteArray.empty))) := hc2
  clear hc2
  have hb5 : Below w4.heap.size w4 (w4.alloc (.cells #[.string nm, .int .i64 kind, .int .i64 least, .int .i64 most, .slice (some ⟨b2, 0, none⟩) ss.length ss.length, .string to, .int .i64 role, .bool must, .bool fixed, .string de, .string we] 27)) := blw_alloc (Below.refl _ _) _
  go_wp2_with fail
  refine (implFits_any nm kind least most b2 0 ss.length to role must fixed de we v ss _ hv (Nat.lt_of_lt_of_le hlt2 hb5.size) (by have := HL.out; unfold maxLen; omega) (fun i hi => by rw [← HC2.out i hi]; exact hb5.cell (p := ⟨b2, 0 + i, none⟩) hlt2)).mono ?_
  rintro e w6 ⟨rfl, hb6⟩
  have hB6 := blw_trans (blw_trans hB4 hb5) hb6
  have hz6 : w4.heap.size < w6.heap.size := by have := hb6.size; simp at this; omega
  have hk6 : ∀ o, w6.cell? ⟨w.heap.size, o, none⟩ = (w.alloc (.cells #[.string nm, .int .i64 kind, .int .i64 least, .int .i64 most, vs, .string to, .int .i64 role, .bool must, .bool fixed, .string de, .string we] 24)).cell? ⟨w.heap.size, o, none⟩ := fun o =>
    ((hb6.cell (p := ⟨w.heap.size, o, none⟩) (by simp; omega)).trans (hb5.cell (p := ⟨w.heap.size, o, none⟩) hz4)).trans (hk4 o)
  have hj6 : ∀ o, w6.cell? ⟨w4.heap.size, o, none⟩ = (w4.alloc (.cells #[.string nm, .int .i64 kind, .int .i64 least, .int .i64 most, .slice (some ⟨b2, 0, none⟩) ss.length ss.length, .string to, .int .i64 role, .bool must, .bool fixed, .string de, .string we] 27)).cell? ⟨w4.heap.size, o, none⟩ := fun o => hb6.cell (p := ⟨w4.heap.size, o, none⟩) (by simp)
  have HE : Hid (∀ (W : World) (b3 : Nat), Below w6.heap.size w6 W → b3 < W.heap.size → (∀ i, i < ss.length → W.cell? ⟨b3, 0 + i, none⟩ = some (.string (ss.getD i ByteArray.empty))) →
      Calls Try.prog 10 #[.agg #[.string nm, .int .i64 kind, .int .i64 least, .int .i64 most, .slice (some ⟨b2, 0, none⟩) ss.length ss.length, .string to, .int .i64 role, .bool must, .bool fixed, .string de, .string we], .agg #[.string nm, .int .i64 kind, .int .i64 least, .int .i64 most, .slice (some ⟨b3, 0, none⟩) ss.length ss.length, .string to, .int .i64 role, .bool must, .bool fixed, .string de, .string we]] W fun e w' => e = .returned (.bool true) ∧ Below W.heap.size W w') := by
    intro W b3 hW h3 hc3
    have hlt6 : b2 < w6.heap.size := by omega
    refine eqField nm kind least most b2 b3 to role must fixed de we ss W (Nat.lt_of_lt_of_le hlt6 hW.size) h3 HL.out (fun i hi => ?_) hc3
    rw [← HC2.out i hi, hW.cell (p := ⟨b2, 0 + i, none⟩) hlt6, hb6.cell (p := ⟨b2, 0 + i, none⟩) (by simp; omega)]
    exact hb5.cell (p := ⟨b2, 0 + i, none⟩) hlt2
  have HK : Hid (∀ (W w7 : World), Below w6.heap.size w6 W → Below W.heap.size W w7 → Below w6.heap.size w6 w7 ∧ (∀ o, w7.cell? ⟨w.heap.size, o, none⟩ = w6.cell? ⟨w.heap.size, o, none⟩) ∧ ∀ o, w7.cell? ⟨w4.heap.size, o, none⟩ = w6.cell? ⟨w4.heap.size, o, none⟩) := by
    intro W w7 h1 h2
    have h3 := blw_trans h1 h2
    exact ⟨h3, fun o => h3.cell (p := ⟨w.heap.size, o, none⟩) (by show w.heap.size < w6.heap.size; omega), fun o => h3.cell (p := ⟨w4.heap.size, o, none⟩) hz6⟩
  clear hk4 hb5 hb6 HC2
  go_wp2_with fail
  go_region_with (first
    | (go_at_call 8; refine (HT.out HL.out _ ?_).mono ?_; (repeat (first | exact hB6 | refine Below.drew ?_)); rintro e w7 ⟨b3, rfl, hb7, _, hlt3, hc3⟩; obtain ⟨hb7', hk7, hj7⟩ := HK.out _ w7 (by repeat (first | exact Below.refl _ _ | refine Below.drew ?_)) hb7; clear hb7)
    | (go_at_call 10; refine (HE.out _ _ ?_ ?_ ?_).mono ?_; (repeat (first | exact hb7' | refine Below.drew ?_)); exact hlt3; exact hc3; rintro e w8 ⟨rfl, hb8⟩))
  all_goals
    go_wp2
    go_ret
    have hfin := blw_trans hB6 hb7'
    refine ⟨rfl, ?_⟩
    repeat (first | exact blw_trans hfin hb8 | exact blw_trans hfin.drew hb8 | exact blw_trans hfin.drew.drew hb8 | refine Below.drew ?_)
end Go.Proofs.Ytlbgaenbfbdieaa
