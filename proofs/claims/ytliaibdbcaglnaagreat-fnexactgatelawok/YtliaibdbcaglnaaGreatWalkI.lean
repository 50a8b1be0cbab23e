/-
  The walk over the program's GateFits.
-/
import Derived.Test.YtliaibdbcaglnaaGreatWalkH
namespace Go.Proofs.YtliaibdbcaglnaaGreat
open Go.RowKit

theorem fits1 (least most : Int) (ss : List ByteArray) (v : ByteArray) : (decide (1 ≤ v.size) && fitNum least most v) = Pl.fits 1 least most ss v := by
  cases h : Pl.decOk v
  · simp [fitNum, Pl.fits, h]
  · have h1 : 1 ≤ v.size := by simp only [Pl.decOk, Bool.and_eq_true, decide_eq_true_eq] at h; omega
    simp [fitNum, Pl.fits, h, decOut, h1]
theorem fits2 (least most : Int) (ss : List ByteArray) (v : ByteArray) : (decide (1 ≤ v.size) && Pl.has ss v) = Pl.fits 2 least most ss v := by
  simp [Pl.fits]
theorem fits3 (least most : Int) (ss : List ByteArray) (v : ByteArray) : (decide (1 ≤ v.size) && fitText least most v) = Pl.fits 3 least most ss v := by
  rw [Bool.eq_iff_iff]
  simp [Pl.fits, fitText]
  constructor
  · rintro ⟨a, ⟨b, c⟩, d⟩; exact ⟨⟨⟨a, d⟩, b⟩, c⟩
  · rintro ⟨⟨⟨a, d⟩, b⟩, c⟩; exact ⟨a, ⟨b, c⟩, d⟩
theorem fits4 (least most : Int) (ss : List ByteArray) (v : ByteArray) : (decide (1 ≤ v.size) && Pl.nameOk v) = Pl.fits 4 least most ss v := by
  rw [Bool.eq_iff_iff]
  simp [Pl.fits, Pl.nameOk]
  intro a _ _; exact a

set_option maxHeartbeats 1000000 in
theorem implFits_1 (nm : ByteArray) (least most : Int) (b off cap : Nat) (to : ByteArray) (role : Int) (must fixed : Bool) (de we v : ByteArray) (ss : List ByteArray) (w : World)
    (hv : v.size ≤ maxLen) :
    Calls Tryz.prog 121 #[.agg #[.string nm, .int .i64 1, .int .i64 least, .int .i64 most, .slice (some ⟨b, off, none⟩) ss.length cap, .string to, .int .i64 role, .bool must, .bool fixed, .string de, .string we], .string v] w
      fun e w' => e = .returned (.bool (Pl.fits 1 least most ss v)) ∧ Below w.heap.size w w' := by
  have HX : Hid (∀ w1, Below w.heap.size w w1 → Calls Tryz.prog 160 #[.iface 244 (.agg #[.string nm, .int .i64 1, .int .i64 least, .int .i64 most, .slice (some ⟨b, off, none⟩) ss.length cap, .string to, .int .i64 role, .bool must, .bool fixed, .string de, .string we]), .string v] w1 fun e w' => e = .returned (.bool (Pl.fits 1 least most ss v)) ∧ Below w1.heap.size w1 w') := by
    intro w1 hw1
    rw [← fits1 least most ss v]
    exact kindFits77 nm 1 least most _ to role must fixed de we v w1 hv
  clear hv
  go_enter Tryz.func121, Tryz.ntmps121
  go_wp2_with fail
  refine (kindOf_1 _ _ _ _ _ _ _ _ _ _ _).mono ?_
  rintro e w1 ⟨rfl, hb1⟩
  have hb2 := blw_trans (blw_alloc (Below.refl _ _) _) hb1
  clear hb1
  go_wp2_with fail
  refine (HX.out _ hb2).mono ?_
  rintro e w2 ⟨rfl, hb3⟩
  have hb4 := blw_trans hb2 hb3
  go_wp2
  go_ret
  exact ⟨rfl, hb4⟩

set_option maxHeartbeats 1000000 in
theorem implFits_2 (nm : ByteArray) (least most : Int) (b off cap : Nat) (to : ByteArray) (role : Int) (must fixed : Bool) (de we v : ByteArray) (ss : List ByteArray) (w : World)
    (hb : b < w.heap.size) (hl : ss.length ≤ maxLen) (hc : ∀ i, i < ss.length → w.cell? ⟨b, off + i, none⟩ = some (.string (ss.getD i ByteArray.empty))) :
    Calls Tryz.prog 121 #[.agg #[.string nm, .int .i64 2, .int .i64 least, .int .i64 most, .slice (some ⟨b, off, none⟩) ss.length cap, .string to, .int .i64 role, .bool must, .bool fixed, .string de, .string we], .string v] w
      fun e w' => e = .returned (.bool (Pl.fits 2 least most ss v)) ∧ Below w.heap.size w w' := by
  have HX : Hid (∀ w1, Below w.heap.size w w1 → Calls Tryz.prog 160 #[.iface 246 (.agg #[.string nm, .int .i64 2, .int .i64 least, .int .i64 most, .slice (some ⟨b, off, none⟩) ss.length cap, .string to, .int .i64 role, .bool must, .bool fixed, .string de, .string we]), .string v] w1 fun e w' => e = .returned (.bool (Pl.fits 2 least most ss v)) ∧ Below w1.heap.size w1 w') := by
    intro w1 hw1
    rw [← fits2 least most ss v]
    exact kindFits79 nm 2 least most b off cap to role must fixed de we v ss w1 (Nat.lt_of_lt_of_le hb hw1.size) hl (fun i hi => by rw [← hc i hi]; exact hw1.cell (p := ⟨b, off + i, none⟩) hb)
  clear hc hl
  go_enter Tryz.func121, Tryz.ntmps121
  go_wp2_with fail
  refine (kindOf_2 _ _ _ _ _ _ _ _ _ _ _).mono ?_
  rintro e w1 ⟨rfl, hb1⟩
  have hb2 := blw_trans (blw_alloc (Below.refl _ _) _) hb1
  clear hb1
  go_wp2_with fail
  refine (HX.out _ hb2).mono ?_
  rintro e w2 ⟨rfl, hb3⟩
  have hb4 := blw_trans hb2 hb3
  go_wp2
  go_ret
  exact ⟨rfl, hb4⟩

set_option maxHeartbeats 1000000 in
theorem implFits_3 (nm : ByteArray) (least most : Int) (b off cap : Nat) (to : ByteArray) (role : Int) (must fixed : Bool) (de we v : ByteArray) (ss : List ByteArray) (w : World)
    (hv : v.size ≤ maxLen) :
    Calls Tryz.prog 121 #[.agg #[.string nm, .int .i64 3, .int .i64 least, .int .i64 most, .slice (some ⟨b, off, none⟩) ss.length cap, .string to, .int .i64 role, .bool must, .bool fixed, .string de, .string we], .string v] w
      fun e w' => e = .returned (.bool (Pl.fits 3 least most ss v)) ∧ Below w.heap.size w w' := by
  have HX : Hid (∀ w1, Below w.heap.size w w1 → Calls Tryz.prog 160 #[.iface 247 (.agg #[.string nm, .int .i64 3, .int .i64 least, .int .i64 most, .slice (some ⟨b, off, none⟩) ss.length cap, .string to, .int .i64 role, .bool must, .bool fixed, .string de, .string we]), .string v] w1 fun e w' => e = .returned (.bool (Pl.fits 3 least most ss v)) ∧ Below w1.heap.size w1 w') := by
    intro w1 hw1
    rw [← fits3 least most ss v]
    exact kindFits80 nm 3 least most _ to role must fixed de we v w1 hv
  clear hv
  go_enter Tryz.func121, Tryz.ntmps121
  go_wp2_with fail
  refine (kindOf_3 _ _ _ _ _ _ _ _ _ _ _).mono ?_
  rintro e w1 ⟨rfl, hb1⟩
  have hb2 := blw_trans (blw_alloc (Below.refl _ _) _) hb1
  clear hb1
  go_wp2_with fail
  refine (HX.out _ hb2).mono ?_
  rintro e w2 ⟨rfl, hb3⟩
  have hb4 := blw_trans hb2 hb3
  go_wp2
  go_ret
  exact ⟨rfl, hb4⟩

set_option maxHeartbeats 1000000 in
theorem implFits_4 (nm : ByteArray) (least most : Int) (b off cap : Nat) (to : ByteArray) (role : Int) (must fixed : Bool) (de we v : ByteArray) (ss : List ByteArray) (w : World)
    (hv : v.size ≤ maxLen) :
    Calls Tryz.prog 121 #[.agg #[.string nm, .int .i64 4, .int .i64 least, .int .i64 most, .slice (some ⟨b, off, none⟩) ss.length cap, .string to, .int .i64 role, .bool must, .bool fixed, .string de, .string we], .string v] w
      fun e w' => e = .returned (.bool (Pl.fits 4 least most ss v)) ∧ Below w.heap.size w w' := by
  have HX : Hid (∀ w1, Below w.heap.size w w1 → Calls Tryz.prog 160 #[.iface 248 (.agg #[.string nm, .int .i64 4, .int .i64 least, .int .i64 most, .slice (some ⟨b, off, none⟩) ss.length cap, .string to, .int .i64 role, .bool must, .bool fixed, .string de, .string we]), .string v] w1 fun e w' => e = .returned (.bool (Pl.fits 4 least most ss v)) ∧ Below w1.heap.size w1 w') := by
    intro w1 hw1
    rw [← fits4 least most ss v]
    exact kindFits81 nm 4 least most _ to role must fixed de we v w1 hv
  clear hv
  go_enter Tryz.func121, Tryz.ntmps121
  go_wp2_with fail
  refine (kindOf_4 _ _ _ _ _ _ _ _ _ _ _).mono ?_
  rintro e w1 ⟨rfl, hb1⟩
  have hb2 := blw_trans (blw_alloc (Below.refl _ _) _) hb1
  clear hb1
  go_wp2_with fail
  refine (HX.out _ hb2).mono ?_
  rintro e w2 ⟨rfl, hb3⟩
  have hb4 := blw_trans hb2 hb3
  go_wp2
  go_ret
  exact ⟨rfl, hb4⟩

set_option maxHeartbeats 1000000 in
theorem implFits_0 (nm : ByteArray) (kind least most : Int) (vs : Value) (to : ByteArray) (role : Int) (must fixed : Bool) (de we v : ByteArray) (ss : List ByteArray) (w : World)
    (h1 : (kind == 1) = false) (h2 : (kind == 2) = false) (h3 : (kind == 3) = false) (h4 : (kind == 4) = false) :
    Calls Tryz.prog 121 #[.agg #[.string nm, .int .i64 kind, .int .i64 least, .int .i64 most, vs, .string to, .int .i64 role, .bool must, .bool fixed, .string de, .string we], .string v] w
      fun e w' => e = .returned (.bool (Pl.fits kind least most ss v)) ∧ Below w.heap.size w w' := by
  have HF : Hid (Pl.fits kind least most ss v = false) := by
    show Pl.fits kind least most ss v = _
    simp only [beq_eq_false_iff_ne, ne_eq] at h1 h2 h3 h4
    simp [Pl.fits, h1, h2, h3, h4]
  have HX : Hid (∀ W, Calls Tryz.prog 159 #[.agg #[.string nm, .int .i64 kind, .int .i64 least, .int .i64 most, vs, .string to, .int .i64 role, .bool must, .bool fixed, .string de, .string we]] W fun e w' => e = .returned (.tuple #[.nilIface, .bool false]) ∧ Below W.heap.size W w') := fun W => kindOf_0 nm kind least most vs to role must fixed de we W h1 h2 h3 h4
  clear h1 h2 h3 h4
  go_enter Tryz.func121, Tryz.ntmps121
  go_wp2_with fail
  refine (HX.out _).mono ?_
  rintro e w1 ⟨rfl, hb1⟩
  have hb2 := blw_trans (blw_alloc (Below.refl _ _) _) hb1
  clear hb1
  go_wp2
  go_ret
  exact ⟨Pl.ret_bool HF.out.symm, hb2⟩

theorem implFits_any (nm : ByteArray) (kind least most : Int) (b off cap : Nat) (to : ByteArray) (role : Int) (must fixed : Bool) (de we v : ByteArray) (ss : List ByteArray) (w : World)
    (hv : v.size ≤ maxLen) (hb : b < w.heap.size) (hl : ss.length ≤ maxLen) (hc : ∀ i, i < ss.length → w.cell? ⟨b, off + i, none⟩ = some (.string (ss.getD i ByteArray.empty))) :
    Calls Tryz.prog 121 #[.agg #[.string nm, .int .i64 kind, .int .i64 least, .int .i64 most, .slice (some ⟨b, off, none⟩) ss.length cap, .string to, .int .i64 role, .bool must, .bool fixed, .string de, .string we], .string v] w
      fun e w' => e = .returned (.bool (Pl.fits kind least most ss v)) ∧ Below w.heap.size w w' := by
  by_cases h1 : kind = 1
  · subst h1; exact implFits_1 nm least most b off cap to role must fixed de we v ss w hv
  by_cases h2 : kind = 2
  · subst h2; exact implFits_2 nm least most b off cap to role must fixed de we v ss w hb hl hc
  by_cases h3 : kind = 3
  · subst h3; exact implFits_3 nm least most b off cap to role must fixed de we v ss w hv
  by_cases h4 : kind = 4
  · subst h4; exact implFits_4 nm least most b off cap to role must fixed de we v ss w hv
  exact implFits_0 nm kind least most _ to role must fixed de we v ss w (by simp [h1]) (by simp [h2]) (by simp [h3]) (by simp [h4])

end Go.Proofs.YtliaibdbcaglnaaGreat
