/-
  The walks over gateKindFits and GateFits.
-/
import Derived.Test.YthilfmlfmnoikaaWalkG
namespace Go.Proofs.Ythilfmlfmnoikaa
open Go.RowKit

theorem meth77 (nm : ByteArray) (kind least most : Int) (vs : Value) (to : ByteArray) (role : Int) (must fixed : Bool) (de we : ByteArray) (w : World) : (method 215 88 (.agg #[.string nm, .int .i64 kind, .int .i64 least, .int .i64 most, vs, .string to, .int .i64 role, .bool must, .bool fixed, .string de, .string we]) "loop.example/wharfdesk/impl.fits").run Try.prog w = .ok (81, .agg #[.string nm, .int .i64 kind, .int .i64 least, .int .i64 most, vs, .string to, .int .i64 role, .bool must, .bool fixed, .string de, .string we]) w := by kernel_rfl

theorem meth79 (nm : ByteArray) (kind least most : Int) (vs : Value) (to : ByteArray) (role : Int) (must fixed : Bool) (de we : ByteArray) (w : World) : (method 215 90 (.agg #[.string nm, .int .i64 kind, .int .i64 least, .int .i64 most, vs, .string to, .int .i64 role, .bool must, .bool fixed, .string de, .string we]) "loop.example/wharfdesk/impl.fits").run Try.prog w = .ok (85, .agg #[.string nm, .int .i64 kind, .int .i64 least, .int .i64 most, vs, .string to, .int .i64 role, .bool must, .bool fixed, .string de, .string we]) w := by kernel_rfl

theorem meth80 (nm : ByteArray) (kind least most : Int) (vs : Value) (to : ByteArray) (role : Int) (must fixed : Bool) (de we : ByteArray) (w : World) : (method 215 91 (.agg #[.string nm, .int .i64 kind, .int .i64 least, .int .i64 most, vs, .string to, .int .i64 role, .bool must, .bool fixed, .string de, .string we]) "loop.example/wharfdesk/impl.fits").run Try.prog w = .ok (91, .agg #[.string nm, .int .i64 kind, .int .i64 least, .int .i64 most, vs, .string to, .int .i64 role, .bool must, .bool fixed, .string de, .string we]) w := by kernel_rfl

theorem meth81 (nm : ByteArray) (kind least most : Int) (vs : Value) (to : ByteArray) (role : Int) (must fixed : Bool) (de we : ByteArray) (w : World) : (method 215 92 (.agg #[.string nm, .int .i64 kind, .int .i64 least, .int .i64 most, vs, .string to, .int .i64 role, .bool must, .bool fixed, .string de, .string we]) "loop.example/wharfdesk/impl.fits").run Try.prog w = .ok (94, .agg #[.string nm, .int .i64 kind, .int .i64 least, .int .i64 most, vs, .string to, .int .i64 role, .bool must, .bool fixed, .string de, .string we]) w := by kernel_rfl

set_option maxHeartbeats 1000000 in
theorem kindFits77 (nm : ByteArray) (kind least most : Int) (vs : Value) (to : ByteArray) (role : Int) (must fixed : Bool) (de we v : ByteArray) (w : World) (hv : v.size ≤ maxLen) :
    Calls Try.prog 59 #[.iface 88 (.agg #[.string nm, .int .i64 kind, .int .i64 least, .int .i64 most, vs, .string to, .int .i64 role, .bool must, .bool fixed, .string de, .string we]), .string v] w
      fun e w' => e = .returned (.bool (decide (1 ≤ v.size) && fitNum least most v)) ∧ Below w.heap.size w w' := by
  have hm := meth77 nm kind least most vs to role must fixed de we
  have HX : Hid (Calls Try.prog 81 #[.agg #[.string nm, .int .i64 kind, .int .i64 least, .int .i64 most, vs, .string to, .int .i64 role, .bool must, .bool fixed, .string de, .string we], .string v] w fun e w' => e = .returned (.bool (fitNum least most v)) ∧ Below w.heap.size w w') := numFits nm kind least most vs to role must fixed de we v w hv
  clear hv
  by_cases h1 : 1 ≤ v.size
  · have he := Pl.empty_no v h1
    have HD : Hid (decide (1 ≤ v.size) = true) := by show decide (1 ≤ v.size) = true; simp [h1]
    clear h1
    go_enter Try.func59, Try.ntmps59
    go_wp2_with fail
    refine HX.out.mono ?_
    rintro e w' ⟨rfl, hb⟩
    go_wp2
    go_ret
    exact ⟨Pl.ret_bool (by rw [HD.out]; rfl), hb⟩
  · have he := Pl.empty_yes v h1
    have HD : Hid (decide (1 ≤ v.size) = false) := by show decide (1 ≤ v.size) = false; simp [h1]
    clear h1
    go_enter Try.func59, Try.ntmps59
    go_wp2
    go_ret
    exact ⟨Pl.ret_bool (by rw [HD.out]; rfl), Below.refl _ _⟩

set_option maxHeartbeats 1000000 in
theorem kindFits79 (nm : ByteArray) (kind least most : Int) (b off cap : Nat) (to : ByteArray) (role : Int) (must fixed : Bool) (de we v : ByteArray) (ss : List ByteArray) (w : World) (hb : b < w.heap.size) (hl : ss.length ≤ maxLen) (hc : ∀ i, i < ss.length → w.cell? ⟨b, off + i, none⟩ = some (.string (ss.getD i ByteArray.empty))) :
    Calls Try.prog 59 #[.iface 90 (.agg #[.string nm, .int .i64 kind, .int .i64 least, .int .i64 most, .slice (some ⟨b, off, none⟩) ss.length cap, .string to, .int .i64 role, .bool must, .bool fixed, .string de, .string we]), .string v] w
      fun e w' => e = .returned (.bool (decide (1 ≤ v.size) && Pl.has ss v)) ∧ Below w.heap.size w w' := by
  have hm := meth79 nm kind least most (.slice (some ⟨b, off, none⟩) ss.length cap) to role must fixed de we
  have HX : Hid (Calls Try.prog 85 #[.agg #[.string nm, .int .i64 kind, .int .i64 least, .int .i64 most, .slice (some ⟨b, off, none⟩) ss.length cap, .string to, .int .i64 role, .bool must, .bool fixed, .string de, .string we], .string v] w fun e w' => e = .returned (.bool (Pl.has ss v)) ∧ Below w.heap.size w w') := wordFits nm kind least most b off cap to role must fixed de we v ss w hb hl hc
  clear hc
  by_cases h1 : 1 ≤ v.size
  · have he := Pl.empty_no v h1
    have HD : Hid (decide (1 ≤ v.size) = true) := by show decide (1 ≤ v.size) = true; simp [h1]
    clear h1
    go_enter Try.func59, Try.ntmps59
    go_wp2_with fail
    refine HX.out.mono ?_
    rintro e w' ⟨rfl, hb⟩
    go_wp2
    go_ret
    exact ⟨Pl.ret_bool (by rw [HD.out]; rfl), hb⟩
  · have he := Pl.empty_yes v h1
    have HD : Hid (decide (1 ≤ v.size) = false) := by show decide (1 ≤ v.size) = false; simp [h1]
    clear h1
    go_enter Try.func59, Try.ntmps59
    go_wp2
    go_ret
    exact ⟨Pl.ret_bool (by rw [HD.out]; rfl), Below.refl _ _⟩

set_option maxHeartbeats 1000000 in
theorem kindFits80 (nm : ByteArray) (kind least most : Int) (vs : Value) (to : ByteArray) (role : Int) (must fixed : Bool) (de we v : ByteArray) (w : World) (hv : v.size ≤ maxLen) :
    Calls Try.prog 59 #[.iface 91 (.agg #[.string nm, .int .i64 kind, .int .i64 least, .int .i64 most, vs, .string to, .int .i64 role, .bool must, .bool fixed, .string de, .string we]), .string v] w
      fun e w' => e = .returned (.bool (decide (1 ≤ v.size) && fitText least most v)) ∧ Below w.heap.size w w' := by
  have hm := meth80 nm kind least most vs to role must fixed de we
  have HX : Hid (Calls Try.prog 91 #[.agg #[.string nm, .int .i64 kind, .int .i64 least, .int .i64 most, vs, .string to, .int .i64 role, .bool must, .bool fixed, .string de, .string we], .string v] w fun e w' => e = .returned (.bool (fitText least most v)) ∧ Below w.heap.size w w') := textFits nm kind least most vs to role must fixed de we v w hv
  clear hv
  by_cases h1 : 1 ≤ v.size
  · have he := Pl.empty_no v h1
    have HD : Hid (decide (1 ≤ v.size) = true) := by show decide (1 ≤ v.size) = true; simp [h1]
    clear h1
    go_enter Try.func59, Try.ntmps59
    go_wp2_with fail
    refine HX.out.mono ?_
    rintro e w' ⟨rfl, hb⟩
    go_wp2
    go_ret
    exact ⟨Pl.ret_bool (by rw [HD.out]; rfl), hb⟩
  · have he := Pl.empty_yes v h1
    have HD : Hid (decide (1 ≤ v.size) = false) := by show decide (1 ≤ v.size) = false; simp [h1]
    clear h1
    go_enter Try.func59, Try.ntmps59
    go_wp2
    go_ret
    exact ⟨Pl.ret_bool (by rw [HD.out]; rfl), Below.refl _ _⟩

set_option maxHeartbeats 1000000 in
theorem kindFits81 (nm : ByteArray) (kind least most : Int) (vs : Value) (to : ByteArray) (role : Int) (must fixed : Bool) (de we v : ByteArray) (w : World) (hv : v.size ≤ maxLen) :
    Calls Try.prog 59 #[.iface 92 (.agg #[.string nm, .int .i64 kind, .int .i64 least, .int .i64 most, vs, .string to, .int .i64 role, .bool must, .bool fixed, .string de, .string we]), .string v] w
      fun e w' => e = .returned (.bool (decide (1 ≤ v.size) && Pl.nameOk v)) ∧ Below w.heap.size w w' := by
  have hm := meth81 nm kind least most vs to role must fixed de we
  have HX : Hid (Calls Try.prog 94 #[.agg #[.string nm, .int .i64 kind, .int .i64 least, .int .i64 most, vs, .string to, .int .i64 role, .bool must, .bool fixed, .string de, .string we], .string v] w fun e w' => e = .returned (.bool (Pl.nameOk v)) ∧ Below w.heap.size w w') := linkFits nm kind least most vs to role must fixed de we v w hv
  clear hv
  by_cases h1 : 1 ≤ v.size
  · have he := Pl.empty_no v h1
    have HD : Hid (decide (1 ≤ v.size) = true) := by show decide (1 ≤ v.size) = true; simp [h1]
    clear h1
    go_enter Try.func59, Try.ntmps59
    go_wp2_with fail
    refine HX.out.mono ?_
    rintro e w' ⟨rfl, hb⟩
    go_wp2
    go_ret
    exact ⟨Pl.ret_bool (by rw [HD.out]; rfl), hb⟩
  · have he := Pl.empty_yes v h1
    have HD : Hid (decide (1 ≤ v.size) = false) := by show decide (1 ≤ v.size) = false; simp [h1]
    clear h1
    go_enter Try.func59, Try.ntmps59
    go_wp2
    go_ret
    exact ⟨Pl.ret_bool (by rw [HD.out]; rfl), Below.refl _ _⟩

end Go.Proofs.Ythilfmlfmnoikaa
