/-
  The shape of a change.
-/
import Derived.Test.YtojcopamegmeeaaESs
namespace Go.Proofs.Ytojcopamegmeeaa
open Go.RowKit Go.Deep

abbrev shSheetChange : List Sh := [.i, .s, .s, .s, .row 69 shSheetLine]
theorem typSheetChange {ds : List Dt} (h : Typ shSheetChange ds) : ∃ a0 a1 a2 a3 n4 e4, ds = [.i a0, .s a1, .s a2, .s a3, .row n4 e4] ∧ Typ (reps n4 shSheetLine) e4 := by
  obtain ⟨a0, x0, rfl, h1⟩ := h.c_i
  obtain ⟨a1, x1, rfl, h2⟩ := h1.c_s
  obtain ⟨a2, x2, rfl, h3⟩ := h2.c_s
  obtain ⟨a3, x3, rfl, h4⟩ := h3.c_s
  obtain ⟨n4, e4, x4, rfl, t4, h5⟩ := h4.c_r
  obtain rfl := h5.c_n
  exact ⟨a0, a1, a2, a3, n4, e4, rfl, t4⟩
theorem repSheetChange {w : World} {tt : Bool} {F : List Nat} {a0 : Int} {a1 : ByteArray} {a2 : ByteArray} {a3 : ByteArray} {n4 : Nat} {e4 : List Dt} {cs : List Value} (h : Rep w tt shSheetChange F [.i a0, .s a1, .s a2, .s a3, .row n4 e4] cs) : ∃ F4 v4, F = F4 ++ [] ∧ cs = [.int .i64 a0, .string a1, .string a2, .string a3, v4] ∧ Rep w tt [.row 69 shSheetLine] F4 [.row n4 e4] [v4] := by
  obtain ⟨x0, rfl, h1⟩ := h.c_i
  obtain ⟨x1, rfl, h2⟩ := h1.c_s
  obtain ⟨x2, rfl, h3⟩ := h2.c_s
  obtain ⟨x3, rfl, h4⟩ := h3.c_s
  obtain ⟨F4, G4, v4, x4, rfl, rfl, t4, h5⟩ := h4.c_r
  obtain ⟨rfl, rfl⟩ := h5.c_n
  exact ⟨F4, v4, rfl, rfl, t4⟩
theorem rawSheetChange {w : World} {a0 : Int} {a1 : ByteArray} {a2 : ByteArray} {a3 : ByteArray} {n4 : Nat} {e4 : List Dt} {cs : List Value} (h : Raw w shSheetChange [.i a0, .s a1, .s a2, .s a3, .row n4 e4] cs) : ∃ v4, cs = [.int .i64 a0, .string a1, .string a2, .string a3, v4] ∧ Raw w [.row 69 shSheetLine] [.row n4 e4] [v4] := by
  obtain ⟨x0, rfl, h1⟩ := h.c_i
  obtain ⟨x1, rfl, h2⟩ := h1.c_s
  obtain ⟨x2, rfl, h3⟩ := h2.c_s
  obtain ⟨x3, rfl, h4⟩ := h3.c_s
  obtain ⟨v4, x4, rfl, t4, h5⟩ := h4.c_r
  obtain rfl := h5.c_n
  exact ⟨v4, rfl, t4⟩
theorem repSheetChange_mk {w : World} {tt : Bool} (a0 : Int) (a1 : ByteArray) (a2 : ByteArray) (a3 : ByteArray) {F4 : List Nat} {n4 : Nat} {e4 : List Dt} {v4 : Value} (h4 : Rep w tt [.row 69 shSheetLine] F4 [.row n4 e4] [v4]) : Rep w tt shSheetChange (F4 ++ []) [.i a0, .s a1, .s a2, .s a3, .row n4 e4] [.int .i64 a0, .string a1, .string a2, .string a3, v4] :=
  (.i a0 (.s a1 (.s a2 (.s a3 (h4.app .nil)))))
theorem rawSheetChange_mk {w : World} (a0 : Int) (a1 : ByteArray) (a2 : ByteArray) (a3 : ByteArray) {n4 : Nat} {e4 : List Dt} {v4 : Value} (h4 : Raw w [.row 69 shSheetLine] [.row n4 e4] [v4]) : Raw w shSheetChange [.i a0, .s a1, .s a2, .s a3, .row n4 e4] [.int .i64 a0, .string a1, .string a2, .string a3, v4] :=
  (.i a0 (.s a1 (.s a2 (.s a3 (h4.app .nil)))))
theorem segTypSheetChange {ds : List Dt} (h : Typ shSheetChange ds) : ∃ (a0 : Int) (a1 : ByteArray) (a2 : ByteArray) (a3 : ByteArray) (n4 : Nat) (e4 : List Dt), ds = .i a0 :: .s a1 :: .s a2 :: .s a3 :: .row n4 e4 :: [] ∧ Typ (reps n4 shSheetLine) e4 := by
  obtain ⟨a0, x0, rfl, h1⟩ := h.c_i
  obtain ⟨a1, x1, rfl, h2⟩ := h1.c_s
  obtain ⟨a2, x2, rfl, h3⟩ := h2.c_s
  obtain ⟨a3, x3, rfl, h4⟩ := h3.c_s
  obtain ⟨n4, e4, x4, rfl, t4, h5⟩ := h4.c_r
  obtain rfl := h5.c_n
  exact ⟨a0, a1, a2, a3, n4, e4, rfl, t4⟩
theorem segRepSheetChange {w : World} {tt : Bool} {F : List Nat} {ds : List Dt} {cs : List Value} (h : Rep w tt shSheetChange F ds cs) : ∃ (a0 : Int) (a1 : ByteArray) (a2 : ByteArray) (a3 : ByteArray) (F4 : List Nat) (n4 : Nat) (e4 : List Dt) (v4 : Value), F = (F4 ++ []) ∧ ds = .i a0 :: .s a1 :: .s a2 :: .s a3 :: .row n4 e4 :: [] ∧ cs = .int .i64 a0 :: .string a1 :: .string a2 :: .string a3 :: v4 :: [] ∧ Rep w tt [.row 69 shSheetLine] F4 [.row n4 e4] [v4] := by
  obtain ⟨a0, a1, a2, a3, n4, e4, rfl, tt4⟩ := segTypSheetChange h.raw.typ
  obtain ⟨x0, rfl, h1⟩ := h.c_i
  obtain ⟨x1, rfl, h2⟩ := h1.c_s
  obtain ⟨x2, rfl, h3⟩ := h2.c_s
  obtain ⟨x3, rfl, h4⟩ := h3.c_s
  obtain ⟨F4, G4, v4, x4, rfl, rfl, t4, h5⟩ := h4.c_r
  obtain ⟨rfl, rfl⟩ := h5.c_n
  exact ⟨a0, a1, a2, a3, F4, n4, e4, v4, rfl, rfl, rfl, t4⟩
theorem segRawSheetChange {w : World} {ds : List Dt} {cs : List Value} (h : Raw w shSheetChange ds cs) : ∃ (a0 : Int) (a1 : ByteArray) (a2 : ByteArray) (a3 : ByteArray) (n4 : Nat) (e4 : List Dt) (v4 : Value), ds = .i a0 :: .s a1 :: .s a2 :: .s a3 :: .row n4 e4 :: [] ∧ cs = .int .i64 a0 :: .string a1 :: .string a2 :: .string a3 :: v4 :: [] ∧ Raw w [.row 69 shSheetLine] [.row n4 e4] [v4] := by
  obtain ⟨a0, a1, a2, a3, n4, e4, rfl, tt4⟩ := segTypSheetChange h.typ
  obtain ⟨x0, rfl, h1⟩ := h.c_i
  obtain ⟨x1, rfl, h2⟩ := h1.c_s
  obtain ⟨x2, rfl, h3⟩ := h2.c_s
  obtain ⟨x3, rfl, h4⟩ := h3.c_s
  obtain ⟨v4, x4, rfl, t4, h5⟩ := h4.c_r
  obtain rfl := h5.c_n
  exact ⟨a0, a1, a2, a3, n4, e4, v4, rfl, rfl, t4⟩
theorem segRepSheetChange_mk {w : World} {tt : Bool} (a0 : Int) (a1 : ByteArray) (a2 : ByteArray) (a3 : ByteArray) {F4 : List Nat} {n4 : Nat} {e4 : List Dt} {v4 : Value} (h4 : Rep w tt [.row 69 shSheetLine] F4 [.row n4 e4] [v4]) : Rep w tt shSheetChange (F4 ++ []) (.i a0 :: .s a1 :: .s a2 :: .s a3 :: .row n4 e4 :: []) (.int .i64 a0 :: .string a1 :: .string a2 :: .string a3 :: v4 :: []) :=
  (.i a0 (.s a1 (.s a2 (.s a3 (h4.app .nil)))))
theorem segRawSheetChange_mk {w : World} (a0 : Int) (a1 : ByteArray) (a2 : ByteArray) (a3 : ByteArray) {n4 : Nat} {e4 : List Dt} {v4 : Value} (h4 : Raw w [.row 69 shSheetLine] [.row n4 e4] [v4]) : Raw w shSheetChange (.i a0 :: .s a1 :: .s a2 :: .s a3 :: .row n4 e4 :: []) (.int .i64 a0 :: .string a1 :: .string a2 :: .string a3 :: v4 :: []) :=
  (.i a0 (.s a1 (.s a2 (.s a3 (h4.app .nil)))))
theorem boxSheetChange {W : World} {B : Nat} {a0 : Int} {a1 : ByteArray} {a2 : ByteArray} {a3 : ByteArray} {v4 : Value}  (h : W.rangeAt B 0 (.int .i64 a0 :: .string a1 :: .string a2 :: .string a3 :: v4 :: [])) : W.cell? ⟨B, 0, none⟩ = some (.int .i64 a0) ∧ W.cell? ⟨B, 1, none⟩ = some (.string a1) ∧ W.cell? ⟨B, 2, none⟩ = some (.string a2) ∧ W.cell? ⟨B, 3, none⟩ = some (.string a3) ∧ W.cell? ⟨B, 4, none⟩ = some (v4) := by
  obtain ⟨g0, k0⟩ := rA_cons h
  have h1 : W.rangeAt B 1 _ := k0
  obtain ⟨g1, k1⟩ := rA_cons h1
  have h2 : W.rangeAt B 2 _ := k1
  obtain ⟨g2, k2⟩ := rA_cons h2
  have h3 : W.rangeAt B 3 _ := k2
  obtain ⟨g3, k3⟩ := rA_cons h3
  have h4 : W.rangeAt B 4 _ := k3
  obtain ⟨g4, k4⟩ := rA_cons h4
  have h5 : W.rangeAt B 5 _ := k4
  exact ⟨g0, g1, g2, g3, g4⟩
abbrev shChs : List Sh := [.row 44 shSheetChange]
end Go.Proofs.Ytojcopamegmeeaa
