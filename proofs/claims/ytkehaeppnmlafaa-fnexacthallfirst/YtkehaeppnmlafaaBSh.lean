/-
  The shapes of books.
-/
import Derived.Test.YtkehaeppnmlafaaHSh
namespace Go.Proofs.Ytkehaeppnmlafaa
open Go.RowKit Go.Deep

abbrev shGateObject : List Sh := [.s, .s, .s, .row 9 [.s], .b, .row 9 [.s], .i]
abbrev shGateLedger : List Sh := [.s, .s, .i, .i]
abbrev shGatePurse : List Sh := [.s, .s, .s, .i, .i]
abbrev shGateBook : List Sh := [.i, .i, .i, .row 83 shGateObject, .row 61 shGateGrant, .row 119 shGateLedger, .row 122 shGatePurse]
abbrev shStewService : List Sh := [.s, .i, .b, .i, .i, .i, .i, .i, .i, .i, .i, .i, .i]
abbrev shStewCopy : List Sh := [.s, .i, .i, .i, .i, .b, .s]
abbrev shStewBerth : List Sh := [.s, .b]
abbrev shStewBook : List Sh := [.i, .row 125 shStewService, .row 128 shStewCopy, .row 131 shStewBerth]
abbrev shHallBook : List Sh := [.i, .i, .i, .row 83 shGateObject, .row 61 shGateGrant, .row 119 shGateLedger, .row 122 shGatePurse, .i, .row 125 shStewService, .row 128 shStewCopy, .row 131 shStewBerth]
theorem typGateObject {ds : List Dt} (h : Typ shGateObject ds) : ∃ a0 a1 a2 n3 e3 a4 n5 e5 a6, ds = [.s a0, .s a1, .s a2, .row n3 e3, .b a4, .row n5 e5, .i a6] ∧ Typ (reps n3 [.s]) e3 ∧ Typ (reps n5 [.s]) e5 := by
  obtain ⟨a0, x0, rfl, h1⟩ := h.c_s
  obtain ⟨a1, x1, rfl, h2⟩ := h1.c_s
  obtain ⟨a2, x2, rfl, h3⟩ := h2.c_s
  obtain ⟨n3, e3, x3, rfl, t3, h4⟩ := h3.c_r
  obtain ⟨a4, x4, rfl, h5⟩ := h4.c_b
  obtain ⟨n5, e5, x5, rfl, t5, h6⟩ := h5.c_r
  obtain ⟨a6, x6, rfl, h7⟩ := h6.c_i
  obtain rfl := h7.c_n
  exact ⟨a0, a1, a2, n3, e3, a4, n5, e5, a6, rfl, t3, t5⟩
theorem repGateObject {w : World} {tt : Bool} {F : List Nat} {a0 : ByteArray} {a1 : ByteArray} {a2 : ByteArray} {n3 : Nat} {e3 : List Dt} {a4 : Bool} {n5 : Nat} {e5 : List Dt} {a6 : Int} {cs : List Value} (h : Rep w tt shGateObject F [.s a0, .s a1, .s a2, .row n3 e3, .b a4, .row n5 e5, .i a6] cs) : ∃ F3 v3 F5 v5, F = F3 ++ (F5 ++ []) ∧ cs = [.string a0, .string a1, .string a2, v3, .bool a4, v5, .int .i64 a6] ∧ Rep w tt [.row 9 [.s]] F3 [.row n3 e3] [v3] ∧ Rep w tt [.row 9 [.s]] F5 [.row n5 e5] [v5] := by
  obtain ⟨x0, rfl, h1⟩ := h.c_s
  obtain ⟨x1, rfl, h2⟩ := h1.c_s
  obtain ⟨x2, rfl, h3⟩ := h2.c_s
  obtain ⟨F3, G3, v3, x3, rfl, rfl, t3, h4⟩ := h3.c_r
  obtain ⟨x4, rfl, h5⟩ := h4.c_b
  obtain ⟨F5, G5, v5, x5, rfl, rfl, t5, h6⟩ := h5.c_r
  obtain ⟨x6, rfl, h7⟩ := h6.c_i
  obtain ⟨rfl, rfl⟩ := h7.c_n
  exact ⟨F3, v3, F5, v5, rfl, rfl, t3, t5⟩
theorem rawGateObject {w : World} {a0 : ByteArray} {a1 : ByteArray} {a2 : ByteArray} {n3 : Nat} {e3 : List Dt} {a4 : Bool} {n5 : Nat} {e5 : List Dt} {a6 : Int} {cs : List Value} (h : Raw w shGateObject [.s a0, .s a1, .s a2, .row n3 e3, .b a4, .row n5 e5, .i a6] cs) : ∃ v3 v5, cs = [.string a0, .string a1, .string a2, v3, .bool a4, v5, .int .i64 a6] ∧ Raw w [.row 9 [.s]] [.row n3 e3] [v3] ∧ Raw w [.row 9 [.s]] [.row n5 e5] [v5] := by
  obtain ⟨x0, rfl, h1⟩ := h.c_s
  obtain ⟨x1, rfl, h2⟩ := h1.c_s
  obtain ⟨x2, rfl, h3⟩ := h2.c_s
  obtain ⟨v3, x3, rfl, t3, h4⟩ := h3.c_r
  obtain ⟨x4, rfl, h5⟩ := h4.c_b
  obtain ⟨v5, x5, rfl, t5, h6⟩ := h5.c_r
  obtain ⟨x6, rfl, h7⟩ := h6.c_i
  obtain rfl := h7.c_n
  exact ⟨v3, v5, rfl, t3, t5⟩
theorem repGateObject_mk {w : World} {tt : Bool} (a0 : ByteArray) (a1 : ByteArray) (a2 : ByteArray) {F3 : List Nat} {n3 : Nat} {e3 : List Dt} {v3 : Value} (h3 : Rep w tt [.row 9 [.s]] F3 [.row n3 e3] [v3]) (a4 : Bool) {F5 : List Nat} {n5 : Nat} {e5 : List Dt} {v5 : Value} (h5 : Rep w tt [.row 9 [.s]] F5 [.row n5 e5] [v5]) (a6 : Int) : Rep w tt shGateObject (F3 ++ (F5 ++ [])) [.s a0, .s a1, .s a2, .row n3 e3, .b a4, .row n5 e5, .i a6] [.string a0, .string a1, .string a2, v3, .bool a4, v5, .int .i64 a6] :=
  (.s a0 (.s a1 (.s a2 (h3.app (.b a4 (h5.app (.i a6 .nil)))))))
theorem rawGateObject_mk {w : World} (a0 : ByteArray) (a1 : ByteArray) (a2 : ByteArray) {n3 : Nat} {e3 : List Dt} {v3 : Value} (h3 : Raw w [.row 9 [.s]] [.row n3 e3] [v3]) (a4 : Bool) {n5 : Nat} {e5 : List Dt} {v5 : Value} (h5 : Raw w [.row 9 [.s]] [.row n5 e5] [v5]) (a6 : Int) : Raw w shGateObject [.s a0, .s a1, .s a2, .row n3 e3, .b a4, .row n5 e5, .i a6] [.string a0, .string a1, .string a2, v3, .bool a4, v5, .int .i64 a6] :=
  (.s a0 (.s a1 (.s a2 (h3.app (.b a4 (h5.app (.i a6 .nil)))))))
theorem segTypGateObject {ds : List Dt} (h : Typ shGateObject ds) : ∃ (a0 : ByteArray) (a1 : ByteArray) (a2 : ByteArray) (n3 : Nat) (e3 : List Dt) (a4 : Bool) (n5 : Nat) (e5 : List Dt) (a6 : Int), ds = .s a0 :: .s a1 :: .s a2 :: .row n3 e3 :: .b a4 :: .row n5 e5 :: .i a6 :: [] ∧ Typ (reps n3 [.s]) e3 ∧ Typ (reps n5 [.s]) e5 := by
  obtain ⟨a0, x0, rfl, h1⟩ := h.c_s
  obtain ⟨a1, x1, rfl, h2⟩ := h1.c_s
  obtain ⟨a2, x2, rfl, h3⟩ := h2.c_s
  obtain ⟨n3, e3, x3, rfl, t3, h4⟩ := h3.c_r
  obtain ⟨a4, x4, rfl, h5⟩ := h4.c_b
  obtain ⟨n5, e5, x5, rfl, t5, h6⟩ := h5.c_r
  obtain ⟨a6, x6, rfl, h7⟩ := h6.c_i
  obtain rfl := h7.c_n
  exact ⟨a0, a1, a2, n3, e3, a4, n5, e5, a6, rfl, t3, t5⟩
theorem segRepGateObject {w : World} {tt : Bool} {F : List Nat} {ds : List Dt} {cs : List Value} (h : Rep w tt shGateObject F ds cs) : ∃ (a0 : ByteArray) (a1 : ByteArray) (a2 : ByteArray) (F3 : List Nat) (n3 : Nat) (e3 : List Dt) (v3 : Value) (a4 : Bool) (F5 : List Nat) (n5 : Nat) (e5 : List Dt) (v5 : Value) (a6 : Int), F = (F3 ++ (F5 ++ [])) ∧ ds = .s a0 :: .s a1 :: .s a2 :: .row n3 e3 :: .b a4 :: .row n5 e5 :: .i a6 :: [] ∧ cs = .string a0 :: .string a1 :: .string a2 :: v3 :: .bool a4 :: v5 :: .int .i64 a6 :: [] ∧ Rep w tt [.row 9 [.s]] F3 [.row n3 e3] [v3] ∧ Rep w tt [.row 9 [.s]] F5 [.row n5 e5] [v5] := by
  obtain ⟨a0, a1, a2, n3, e3, a4, n5, e5, a6, rfl, tt3, tt5⟩ := segTypGateObject h.raw.typ
  obtain ⟨x0, rfl, h1⟩ := h.c_s
  obtain ⟨x1, rfl, h2⟩ := h1.c_s
  obtain ⟨x2, rfl, h3⟩ := h2.c_s
  obtain ⟨F3, G3, v3, x3, rfl, rfl, t3, h4⟩ := h3.c_r
  obtain ⟨x4, rfl, h5⟩ := h4.c_b
  obtain ⟨F5, G5, v5, x5, rfl, rfl, t5, h6⟩ := h5.c_r
  obtain ⟨x6, rfl, h7⟩ := h6.c_i
  obtain ⟨rfl, rfl⟩ := h7.c_n
  exact ⟨a0, a1, a2, F3, n3, e3, v3, a4, F5, n5, e5, v5, a6, rfl, rfl, rfl, t3, t5⟩
theorem segRawGateObject {w : World} {ds : List Dt} {cs : List Value} (h : Raw w shGateObject ds cs) : ∃ (a0 : ByteArray) (a1 : ByteArray) (a2 : ByteArray) (n3 : Nat) (e3 : List Dt) (v3 : Value) (a4 : Bool) (n5 : Nat) (e5 : List Dt) (v5 : Value) (a6 : Int), ds = .s a0 :: .s a1 :: .s a2 :: .row n3 e3 :: .b a4 :: .row n5 e5 :: .i a6 :: [] ∧ cs = .string a0 :: .string a1 :: .string a2 :: v3 :: .bool a4 :: v5 :: .int .i64 a6 :: [] ∧ Raw w [.row 9 [.s]] [.row n3 e3] [v3] ∧ Raw w [.row 9 [.s]] [.row n5 e5] [v5] := by
  obtain ⟨a0, a1, a2, n3, e3, a4, n5, e5, a6, rfl, tt3, tt5⟩ := segTypGateObject h.typ
  obtain ⟨x0, rfl, h1⟩ := h.c_s
  obtain ⟨x1, rfl, h2⟩ := h1.c_s
  obtain ⟨x2, rfl, h3⟩ := h2.c_s
  obtain ⟨v3, x3, rfl, t3, h4⟩ := h3.c_r
  obtain ⟨x4, rfl, h5⟩ := h4.c_b
  obtain ⟨v5, x5, rfl, t5, h6⟩ := h5.c_r
  obtain ⟨x6, rfl, h7⟩ := h6.c_i
  obtain rfl := h7.c_n
  exact ⟨a0, a1, a2, n3, e3, v3, a4, n5, e5, v5, a6, rfl, rfl, t3, t5⟩
theorem segRepGateObject_mk {w : World} {tt : Bool} (a0 : ByteArray) (a1 : ByteArray) (a2 : ByteArray) {F3 : List Nat} {n3 : Nat} {e3 : List Dt} {v3 : Value} (h3 : Rep w tt [.row 9 [.s]] F3 [.row n3 e3] [v3]) (a4 : Bool) {F5 : List Nat} {n5 : Nat} {e5 : List Dt} {v5 : Value} (h5 : Rep w tt [.row 9 [.s]] F5 [.row n5 e5] [v5]) (a6 : Int) : Rep w tt shGateObject (F3 ++ (F5 ++ [])) (.s a0 :: .s a1 :: .s a2 :: .row n3 e3 :: .b a4 :: .row n5 e5 :: .i a6 :: []) (.string a0 :: .string a1 :: .string a2 :: v3 :: .bool a4 :: v5 :: .int .i64 a6 :: []) :=
  (.s a0 (.s a1 (.s a2 (h3.app (.b a4 (h5.app (.i a6 .nil)))))))
theorem segRawGateObject_mk {w : World} (a0 : ByteArray) (a1 : ByteArray) (a2 : ByteArray) {n3 : Nat} {e3 : List Dt} {v3 : Value} (h3 : Raw w [.row 9 [.s]] [.row n3 e3] [v3]) (a4 : Bool) {n5 : Nat} {e5 : List Dt} {v5 : Value} (h5 : Raw w [.row 9 [.s]] [.row n5 e5] [v5]) (a6 : Int) : Raw w shGateObject (.s a0 :: .s a1 :: .s a2 :: .row n3 e3 :: .b a4 :: .row n5 e5 :: .i a6 :: []) (.string a0 :: .string a1 :: .string a2 :: v3 :: .bool a4 :: v5 :: .int .i64 a6 :: []) :=
  (.s a0 (.s a1 (.s a2 (h3.app (.b a4 (h5.app (.i a6 .nil)))))))
theorem boxGateObject {W : World} {B : Nat} {a0 : ByteArray} {a1 : ByteArray} {a2 : ByteArray} {v3 : Value} {a4 : Bool} {v5 : Value} {a6 : Int}  (h : W.rangeAt B 0 (.string a0 :: .string a1 :: .string a2 :: v3 :: .bool a4 :: v5 :: .int .i64 a6 :: [])) : W.cell? ⟨B, 0, none⟩ = some (.string a0) ∧ W.cell? ⟨B, 1, none⟩ = some (.string a1) ∧ W.cell? ⟨B, 2, none⟩ = some (.string a2) ∧ W.cell? ⟨B, 3, none⟩ = some (v3) ∧ W.cell? ⟨B, 4, none⟩ = some (.bool a4) ∧ W.cell? ⟨B, 5, none⟩ = some (v5) ∧ W.cell? ⟨B, 6, none⟩ = some (.int .i64 a6) := by
  obtain ⟨g0, k0⟩ := rA_cons h
  have h1 : W.rangeAt B 1 _ := k0
  obtain ⟨g1, k1⟩ := rA_cons h1
  have h2 : W.rangeAt B 2 _ := k1
  obtain ⟨g2, k2⟩ := rA_cons h2
  have h3 : W.rangeAt B 3 _ := k2
  obtain ⟨g3, k3⟩ := rA_cons h3
  have h4 : W.rangeAt B 4 _ := k3
  obtain ⟨g4, k4⟩ := rA_cons h4
  have h5 : W.rangeAt B 5 _ := k4
  obtain ⟨g5, k5⟩ := rA_cons h5
  have h6 : W.rangeAt B 6 _ := k5
  obtain ⟨g6, k6⟩ := rA_cons h6
  have h7 : W.rangeAt B 7 _ := k6
  exact ⟨g0, g1, g2, g3, g4, g5, g6⟩
theorem typGateLedger {ds : List Dt} (h : Typ shGateLedger ds) : ∃ a0 a1 a2 a3, ds = [.s a0, .s a1, .i a2, .i a3] := by
  obtain ⟨a0, x0, rfl, h1⟩ := h.c_s
  obtain ⟨a1, x1, rfl, h2⟩ := h1.c_s
  obtain ⟨a2, x2, rfl, h3⟩ := h2.c_i
  obtain ⟨a3, x3, rfl, h4⟩ := h3.c_i
  obtain rfl := h4.c_n
  exact ⟨a0, a1, a2, a3, rfl⟩
theorem repGateLedger {w : World} {tt : Bool} {F : List Nat} {a0 : ByteArray} {a1 : ByteArray} {a2 : Int} {a3 : Int} {cs : List Value} (h : Rep w tt shGateLedger F [.s a0, .s a1, .i a2, .i a3] cs) : F = [] ∧ cs = [.string a0, .string a1, .int .i64 a2, .int .i64 a3] := by
  obtain ⟨x0, rfl, h1⟩ := h.c_s
  obtain ⟨x1, rfl, h2⟩ := h1.c_s
  obtain ⟨x2, rfl, h3⟩ := h2.c_i
  obtain ⟨x3, rfl, h4⟩ := h3.c_i
  obtain ⟨rfl, rfl⟩ := h4.c_n
  exact ⟨rfl, rfl⟩
theorem rawGateLedger {w : World} {a0 : ByteArray} {a1 : ByteArray} {a2 : Int} {a3 : Int} {cs : List Value} (h : Raw w shGateLedger [.s a0, .s a1, .i a2, .i a3] cs) : cs = [.string a0, .string a1, .int .i64 a2, .int .i64 a3] := by
  obtain ⟨x0, rfl, h1⟩ := h.c_s
  obtain ⟨x1, rfl, h2⟩ := h1.c_s
  obtain ⟨x2, rfl, h3⟩ := h2.c_i
  obtain ⟨x3, rfl, h4⟩ := h3.c_i
  obtain rfl := h4.c_n
  exact rfl
theorem repGateLedger_mk {w : World} {tt : Bool} (a0 : ByteArray) (a1 : ByteArray) (a2 : Int) (a3 : Int) : Rep w tt shGateLedger ([]) [.s a0, .s a1, .i a2, .i a3] [.string a0, .string a1, .int .i64 a2, .int .i64 a3] :=
  (.s a0 (.s a1 (.i a2 (.i a3 .nil))))
theorem rawGateLedger_mk {w : World} (a0 : ByteArray) (a1 : ByteArray) (a2 : Int) (a3 : Int) : Raw w shGateLedger [.s a0, .s a1, .i a2, .i a3] [.string a0, .string a1, .int .i64 a2, .int .i64 a3] :=
  (.s a0 (.s a1 (.i a2 (.i a3 .nil))))
theorem segTypGateLedger {ds : List Dt} (h : Typ shGateLedger ds) : ∃ (a0 : ByteArray) (a1 : ByteArray) (a2 : Int) (a3 : Int), ds = .s a0 :: .s a1 :: .i a2 :: .i a3 :: [] := by
  obtain ⟨a0, x0, rfl, h1⟩ := h.c_s
  obtain ⟨a1, x1, rfl, h2⟩ := h1.c_s
  obtain ⟨a2, x2, rfl, h3⟩ := h2.c_i
  obtain ⟨a3, x3, rfl, h4⟩ := h3.c_i
  obtain rfl := h4.c_n
  exact ⟨a0, a1, a2, a3, rfl⟩
theorem segRepGateLedger {w : World} {tt : Bool} {F : List Nat} {ds : List Dt} {cs : List Value} (h : Rep w tt shGateLedger F ds cs) : ∃ (a0 : ByteArray) (a1 : ByteArray) (a2 : Int) (a3 : Int), F = [] ∧ ds = .s a0 :: .s a1 :: .i a2 :: .i a3 :: [] ∧ cs = .string a0 :: .string a1 :: .int .i64 a2 :: .int .i64 a3 :: [] := by
  obtain ⟨a0, a1, a2, a3, rfl⟩ := segTypGateLedger h.raw.typ
  obtain ⟨x0, rfl, h1⟩ := h.c_s
  obtain ⟨x1, rfl, h2⟩ := h1.c_s
  obtain ⟨x2, rfl, h3⟩ := h2.c_i
  obtain ⟨x3, rfl, h4⟩ := h3.c_i
  obtain ⟨rfl, rfl⟩ := h4.c_n
  exact ⟨a0, a1, a2, a3, rfl, rfl, rfl⟩
theorem segRawGateLedger {w : World} {ds : List Dt} {cs : List Value} (h : Raw w shGateLedger ds cs) : ∃ (a0 : ByteArray) (a1 : ByteArray) (a2 : Int) (a3 : Int), ds = .s a0 :: .s a1 :: .i a2 :: .i a3 :: [] ∧ cs = .string a0 :: .string a1 :: .int .i64 a2 :: .int .i64 a3 :: [] := by
  obtain ⟨a0, a1, a2, a3, rfl⟩ := segTypGateLedger h.typ
  obtain ⟨x0, rfl, h1⟩ := h.c_s
  obtain ⟨x1, rfl, h2⟩ := h1.c_s
  obtain ⟨x2, rfl, h3⟩ := h2.c_i
  obtain ⟨x3, rfl, h4⟩ := h3.c_i
  obtain rfl := h4.c_n
  exact ⟨a0, a1, a2, a3, rfl, rfl⟩
theorem segRepGateLedger_mk {w : World} {tt : Bool} (a0 : ByteArray) (a1 : ByteArray) (a2 : Int) (a3 : Int) : Rep w tt shGateLedger [] (.s a0 :: .s a1 :: .i a2 :: .i a3 :: []) (.string a0 :: .string a1 :: .int .i64 a2 :: .int .i64 a3 :: []) :=
  (.s a0 (.s a1 (.i a2 (.i a3 .nil))))
theorem segRawGateLedger_mk {w : World} (a0 : ByteArray) (a1 : ByteArray) (a2 : Int) (a3 : Int) : Raw w shGateLedger (.s a0 :: .s a1 :: .i a2 :: .i a3 :: []) (.string a0 :: .string a1 :: .int .i64 a2 :: .int .i64 a3 :: []) :=
  (.s a0 (.s a1 (.i a2 (.i a3 .nil))))
theorem boxGateLedger {W : World} {B : Nat} {a0 : ByteArray} {a1 : ByteArray} {a2 : Int} {a3 : Int}  (h : W.rangeAt B 0 (.string a0 :: .string a1 :: .int .i64 a2 :: .int .i64 a3 :: [])) : W.cell? ⟨B, 0, none⟩ = some (.string a0) ∧ W.cell? ⟨B, 1, none⟩ = some (.string a1) ∧ W.cell? ⟨B, 2, none⟩ = some (.int .i64 a2) ∧ W.cell? ⟨B, 3, none⟩ = some (.int .i64 a3) := by
  obtain ⟨g0, k0⟩ := rA_cons h
  have h1 : W.rangeAt B 1 _ := k0
  obtain ⟨g1, k1⟩ := rA_cons h1
  have h2 : W.rangeAt B 2 _ := k1
  obtain ⟨g2, k2⟩ := rA_cons h2
  have h3 : W.rangeAt B 3 _ := k2
  obtain ⟨g3, k3⟩ := rA_cons h3
  have h4 : W.rangeAt B 4 _ := k3
  exact ⟨g0, g1, g2, g3⟩
theorem typGatePurse {ds : List Dt} (h : Typ shGatePurse ds) : ∃ a0 a1 a2 a3 a4, ds = [.s a0, .s a1, .s a2, .i a3, .i a4] := by
  obtain ⟨a0, x0, rfl, h1⟩ := h.c_s
  obtain ⟨a1, x1, rfl, h2⟩ := h1.c_s
  obtain ⟨a2, x2, rfl, h3⟩ := h2.c_s
  obtain ⟨a3, x3, rfl, h4⟩ := h3.c_i
  obtain ⟨a4, x4, rfl, h5⟩ := h4.c_i
  obtain rfl := h5.c_n
  exact ⟨a0, a1, a2, a3, a4, rfl⟩
theorem repGatePurse {w : World} {tt : Bool} {F : List Nat} {a0 : ByteArray} {a1 : ByteArray} {a2 : ByteArray} {a3 : Int} {a4 : Int} {cs : List Value} (h : Rep w tt shGatePurse F [.s a0, .s a1, .s a2, .i a3, .i a4] cs) : F = [] ∧ cs = [.string a0, .string a1, .string a2, .int .i64 a3, .int .i64 a4] := by
  obtain ⟨x0, rfl, h1⟩ := h.c_s
  obtain ⟨x1, rfl, h2⟩ := h1.c_s
  obtain ⟨x2, rfl, h3⟩ := h2.c_s
  obtain ⟨x3, rfl, h4⟩ := h3.c_i
  obtain ⟨x4, rfl, h5⟩ := h4.c_i
  obtain ⟨rfl, rfl⟩ := h5.c_n
  exact ⟨rfl, rfl⟩
theorem rawGatePurse {w : World} {a0 : ByteArray} {a1 : ByteArray} {a2 : ByteArray} {a3 : Int} {a4 : Int} {cs : List Value} (h : Raw w shGatePurse [.s a0, .s a1, .s a2, .i a3, .i a4] cs) : cs = [.string a0, .string a1, .string a2, .int .i64 a3, .int .i64 a4] := by
  obtain ⟨x0, rfl, h1⟩ := h.c_s
  obtain ⟨x1, rfl, h2⟩ := h1.c_s
  obtain ⟨x2, rfl, h3⟩ := h2.c_s
  obtain ⟨x3, rfl, h4⟩ := h3.c_i
  obtain ⟨x4, rfl, h5⟩ := h4.c_i
  obtain rfl := h5.c_n
  exact rfl
theorem repGatePurse_mk {w : World} {tt : Bool} (a0 : ByteArray) (a1 : ByteArray) (a2 : ByteArray) (a3 : Int) (a4 : Int) : Rep w tt shGatePurse ([]) [.s a0, .s a1, .s a2, .i a3, .i a4] [.string a0, .string a1, .string a2, .int .i64 a3, .int .i64 a4] :=
  (.s a0 (.s a1 (.s a2 (.i a3 (.i a4 .nil)))))
theorem rawGatePurse_mk {w : World} (a0 : ByteArray) (a1 : ByteArray) (a2 : ByteArray) (a3 : Int) (a4 : Int) : Raw w shGatePurse [.s a0, .s a1, .s a2, .i a3, .i a4] [.string a0, .string a1, .string a2, .int .i64 a3, .int .i64 a4] :=
  (.s a0 (.s a1 (.s a2 (.i a3 (.i a4 .nil)))))
theorem segTypGatePurse {ds : List Dt} (h : Typ shGatePurse ds) : ∃ (a0 : ByteArray) (a1 : ByteArray) (a2 : ByteArray) (a3 : Int) (a4 : Int), ds = .s a0 :: .s a1 :: .s a2 :: .i a3 :: .i a4 :: [] := by
  obtain ⟨a0, x0, rfl, h1⟩ := h.c_s
  obtain ⟨a1, x1, rfl, h2⟩ := h1.c_s
  obtain ⟨a2, x2, rfl, h3⟩ := h2.c_s
  obtain ⟨a3, x3, rfl, h4⟩ := h3.c_i
  obtain ⟨a4, x4, rfl, h5⟩ := h4.c_i
  obtain rfl := h5.c_n
  exact ⟨a0, a1, a2, a3, a4, rfl⟩
theorem segRepGatePurse {w : World} {tt : Bool} {F : List Nat} {ds : List Dt} {cs : List Value} (h : Rep w tt shGatePurse F ds cs) : ∃ (a0 : ByteArray) (a1 : ByteArray) (a2 : ByteArray) (a3 : Int) (a4 : Int), F = [] ∧ ds = .s a0 :: .s a1 :: .s a2 :: .i a3 :: .i a4 :: [] ∧ cs = .string a0 :: .string a1 :: .string a2 :: .int .i64 a3 :: .int .i64 a4 :: [] := by
  obtain ⟨a0, a1, a2, a3, a4, rfl⟩ := segTypGatePurse h.raw.typ
  obtain ⟨x0, rfl, h1⟩ := h.c_s
  obtain ⟨x1, rfl, h2⟩ := h1.c_s
  obtain ⟨x2, rfl, h3⟩ := h2.c_s
  obtain ⟨x3, rfl, h4⟩ := h3.c_i
  obtain ⟨x4, rfl, h5⟩ := h4.c_i
  obtain ⟨rfl, rfl⟩ := h5.c_n
  exact ⟨a0, a1, a2, a3, a4, rfl, rfl, rfl⟩
theorem segRawGatePurse {w : World} {ds : List Dt} {cs : List Value} (h : Raw w shGatePurse ds cs) : ∃ (a0 : ByteArray) (a1 : ByteArray) (a2 : ByteArray) (a3 : Int) (a4 : Int), ds = .s a0 :: .s a1 :: .s a2 :: .i a3 :: .i a4 :: [] ∧ cs = .string a0 :: .string a1 :: .string a2 :: .int .i64 a3 :: .int .i64 a4 :: [] := by
  obtain ⟨a0, a1, a2, a3, a4, rfl⟩ := segTypGatePurse h.typ
  obtain ⟨x0, rfl, h1⟩ := h.c_s
  obtain ⟨x1, rfl, h2⟩ := h1.c_s
  obtain ⟨x2, rfl, h3⟩ := h2.c_s
  obtain ⟨x3, rfl, h4⟩ := h3.c_i
  obtain ⟨x4, rfl, h5⟩ := h4.c_i
  obtain rfl := h5.c_n
  exact ⟨a0, a1, a2, a3, a4, rfl, rfl⟩
theorem segRepGatePurse_mk {w : World} {tt : Bool} (a0 : ByteArray) (a1 : ByteArray) (a2 : ByteArray) (a3 : Int) (a4 : Int) : Rep w tt shGatePurse [] (.s a0 :: .s a1 :: .s a2 :: .i a3 :: .i a4 :: []) (.string a0 :: .string a1 :: .string a2 :: .int .i64 a3 :: .int .i64 a4 :: []) :=
  (.s a0 (.s a1 (.s a2 (.i a3 (.i a4 .nil)))))
theorem segRawGatePurse_mk {w : World} (a0 : ByteArray) (a1 : ByteArray) (a2 : ByteArray) (a3 : Int) (a4 : Int) : Raw w shGatePurse (.s a0 :: .s a1 :: .s a2 :: .i a3 :: .i a4 :: []) (.string a0 :: .string a1 :: .string a2 :: .int .i64 a3 :: .int .i64 a4 :: []) :=
  (.s a0 (.s a1 (.s a2 (.i a3 (.i a4 .nil)))))
theorem boxGatePurse {W : World} {B : Nat} {a0 : ByteArray} {a1 : ByteArray} {a2 : ByteArray} {a3 : Int} {a4 : Int}  (h : W.rangeAt B 0 (.string a0 :: .string a1 :: .string a2 :: .int .i64 a3 :: .int .i64 a4 :: [])) : W.cell? ⟨B, 0, none⟩ = some (.string a0) ∧ W.cell? ⟨B, 1, none⟩ = some (.string a1) ∧ W.cell? ⟨B, 2, none⟩ = some (.string a2) ∧ W.cell? ⟨B, 3, none⟩ = some (.int .i64 a3) ∧ W.cell? ⟨B, 4, none⟩ = some (.int .i64 a4) := by
  obtain ⟨g0, k0⟩ := rA_cons h
  have h1 : W.rangeAt B 1 _ := k0
  obtain ⟨g1, k1⟩ := rA_cons h1
  have h2 : W.rangeAt B 2 _ := k1
  obtain ⟨g2, k2⟩ := rA_cons h2
  have h3 : W.rangeAt B 3 _ := k2
  obtain ⟨g3, k3⟩ := rA_cons h3
  have h4 : W.rangeAt B 4 _ := k3
  obtain ⟨g4, k4⟩ := rA_cons h4
  have h5 : W.rangeAt B 5 _ := k4
  exact ⟨g0, g1, g2, g3, g4⟩
theorem typGateBook {ds : List Dt} (h : Typ shGateBook ds) : ∃ a0 a1 a2 n3 e3 n4 e4 n5 e5 n6 e6, ds = [.i a0, .i a1, .i a2, .row n3 e3, .row n4 e4, .row n5 e5, .row n6 e6] ∧ Typ (reps n3 shGateObject) e3 ∧ Typ (reps n4 shGateGrant) e4 ∧ Typ (reps n5 shGateLedger) e5 ∧ Typ (reps n6 shGatePurse) e6 := by
  obtain ⟨a0, x0, rfl, h1⟩ := h.c_i
  obtain ⟨a1, x1, rfl, h2⟩ := h1.c_i
  obtain ⟨a2, x2, rfl, h3⟩ := h2.c_i
  obtain ⟨n3, e3, x3, rfl, t3, h4⟩ := h3.c_r
  obtain ⟨n4, e4, x4, rfl, t4, h5⟩ := h4.c_r
  obtain ⟨n5, e5, x5, rfl, t5, h6⟩ := h5.c_r
  obtain ⟨n6, e6, x6, rfl, t6, h7⟩ := h6.c_r
  obtain rfl := h7.c_n
  exact ⟨a0, a1, a2, n3, e3, n4, e4, n5, e5, n6, e6, rfl, t3, t4, t5, t6⟩
theorem repGateBook {w : World} {tt : Bool} {F : List Nat} {a0 : Int} {a1 : Int} {a2 : Int} {n3 : Nat} {e3 : List Dt} {n4 : Nat} {e4 : List Dt} {n5 : Nat} {e5 : List Dt} {n6 : Nat} {e6 : List Dt} {cs : List Value} (h : Rep w tt shGateBook F [.i a0, .i a1, .i a2, .row n3 e3, .row n4 e4, .row n5 e5, .row n6 e6] cs) : ∃ F3 v3 F4 v4 F5 v5 F6 v6, F = F3 ++ (F4 ++ (F5 ++ (F6 ++ []))) ∧ cs = [.int .i64 a0, .int .i64 a1, .int .i64 a2, v3, v4, v5, v6] ∧ Rep w tt [.row 83 shGateObject] F3 [.row n3 e3] [v3] ∧ Rep w tt [.row 61 shGateGrant] F4 [.row n4 e4] [v4] ∧ Rep w tt [.row 119 shGateLedger] F5 [.row n5 e5] [v5] ∧ Rep w tt [.row 122 shGatePurse] F6 [.row n6 e6] [v6] := by
  obtain ⟨x0, rfl, h1⟩ := h.c_i
  obtain ⟨x1, rfl, h2⟩ := h1.c_i
  obtain ⟨x2, rfl, h3⟩ := h2.c_i
  obtain ⟨F3, G3, v3, x3, rfl, rfl, t3, h4⟩ := h3.c_r
  obtain ⟨F4, G4, v4, x4, rfl, rfl, t4, h5⟩ := h4.c_r
  obtain ⟨F5, G5, v5, x5, rfl, rfl, t5, h6⟩ := h5.c_r
  obtain ⟨F6, G6, v6, x6, rfl, rfl, t6, h7⟩ := h6.c_r
  obtain ⟨rfl, rfl⟩ := h7.c_n
  exact ⟨F3, v3, F4, v4, F5, v5, F6, v6, rfl, rfl, t3, t4, t5, t6⟩
theorem rawGateBook {w : World} {a0 : Int} {a1 : Int} {a2 : Int} {n3 : Nat} {e3 : List Dt} {n4 : Nat} {e4 : List Dt} {n5 : Nat} {e5 : List Dt} {n6 : Nat} {e6 : List Dt} {cs : List Value} (h : Raw w shGateBook [.i a0, .i a1, .i a2, .row n3 e3, .row n4 e4, .row n5 e5, .row n6 e6] cs) : ∃ v3 v4 v5 v6, cs = [.int .i64 a0, .int .i64 a1, .int .i64 a2, v3, v4, v5, v6] ∧ Raw w [.row 83 shGateObject] [.row n3 e3] [v3] ∧ Raw w [.row 61 shGateGrant] [.row n4 e4] [v4] ∧ Raw w [.row 119 shGateLedger] [.row n5 e5] [v5] ∧ Raw w [.row 122 shGatePurse] [.row n6 e6] [v6] := by
  obtain ⟨x0, rfl, h1⟩ := h.c_i
  obtain ⟨x1, rfl, h2⟩ := h1.c_i
  obtain ⟨x2, rfl, h3⟩ := h2.c_i
  obtain ⟨v3, x3, rfl, t3, h4⟩ := h3.c_r
  obtain ⟨v4, x4, rfl, t4, h5⟩ := h4.c_r
  obtain ⟨v5, x5, rfl, t5, h6⟩ := h5.c_r
  obtain ⟨v6, x6, rfl, t6, h7⟩ := h6.c_r
  obtain rfl := h7.c_n
  exact ⟨v3, v4, v5, v6, rfl, t3, t4, t5, t6⟩
theorem repGateBook_mk {w : World} {tt : Bool} (a0 : Int) (a1 : Int) (a2 : Int) {F3 : List Nat} {n3 : Nat} {e3 : List Dt} {v3 : Value} (h3 : Rep w tt [.row 83 shGateObject] F3 [.row n3 e3] [v3]) {F4 : List Nat} {n4 : Nat} {e4 : List Dt} {v4 : Value} (h4 : Rep w tt [.row 61 shGateGrant] F4 [.row n4 e4] [v4]) {F5 : List Nat} {n5 : Nat} {e5 : List Dt} {v5 : Value} (h5 : Rep w tt [.row 119 shGateLedger] F5 [.row n5 e5] [v5]) {F6 : List Nat} {n6 : Nat} {e6 : List Dt} {v6 : Value} (h6 : Rep w tt [.row 122 shGatePurse] F6 [.row n6 e6] [v6]) : Rep w tt shGateBook (F3 ++ (F4 ++ (F5 ++ (F6 ++ [])))) [.i a0, .i a1, .i a2, .row n3 e3, .row n4 e4, .row n5 e5, .row n6 e6] [.int .i64 a0, .int .i64 a1, .int .i64 a2, v3, v4, v5, v6] :=
  (.i a0 (.i a1 (.i a2 (h3.app (h4.app (h5.app (h6.app .nil)))))))
theorem rawGateBook_mk {w : World} (a0 : Int) (a1 : Int) (a2 : Int) {n3 : Nat} {e3 : List Dt} {v3 : Value} (h3 : Raw w [.row 83 shGateObject] [.row n3 e3] [v3]) {n4 : Nat} {e4 : List Dt} {v4 : Value} (h4 : Raw w [.row 61 shGateGrant] [.row n4 e4] [v4]) {n5 : Nat} {e5 : List Dt} {v5 : Value} (h5 : Raw w [.row 119 shGateLedger] [.row n5 e5] [v5]) {n6 : Nat} {e6 : List Dt} {v6 : Value} (h6 : Raw w [.row 122 shGatePurse] [.row n6 e6] [v6]) : Raw w shGateBook [.i a0, .i a1, .i a2, .row n3 e3, .row n4 e4, .row n5 e5, .row n6 e6] [.int .i64 a0, .int .i64 a1, .int .i64 a2, v3, v4, v5, v6] :=
  (.i a0 (.i a1 (.i a2 (h3.app (h4.app (h5.app (h6.app .nil)))))))
theorem segTypGateBook {ds : List Dt} (h : Typ shGateBook ds) : ∃ (a0 : Int) (a1 : Int) (a2 : Int) (n3 : Nat) (e3 : List Dt) (n4 : Nat) (e4 : List Dt) (n5 : Nat) (e5 : List Dt) (n6 : Nat) (e6 : List Dt), ds = .i a0 :: .i a1 :: .i a2 :: .row n3 e3 :: .row n4 e4 :: .row n5 e5 :: .row n6 e6 :: [] ∧ Typ (reps n3 shGateObject) e3 ∧ Typ (reps n4 shGateGrant) e4 ∧ Typ (reps n5 shGateLedger) e5 ∧ Typ (reps n6 shGatePurse) e6 := by
  obtain ⟨a0, x0, rfl, h1⟩ := h.c_i
  obtain ⟨a1, x1, rfl, h2⟩ := h1.c_i
  obtain ⟨a2, x2, rfl, h3⟩ := h2.c_i
  obtain ⟨n3, e3, x3, rfl, t3, h4⟩ := h3.c_r
  obtain ⟨n4, e4, x4, rfl, t4, h5⟩ := h4.c_r
  obtain ⟨n5, e5, x5, rfl, t5, h6⟩ := h5.c_r
  obtain ⟨n6, e6, x6, rfl, t6, h7⟩ := h6.c_r
  obtain rfl := h7.c_n
  exact ⟨a0, a1, a2, n3, e3, n4, e4, n5, e5, n6, e6, rfl, t3, t4, t5, t6⟩
theorem segRepGateBook {w : World} {tt : Bool} {F : List Nat} {ds : List Dt} {cs : List Value} (h : Rep w tt shGateBook F ds cs) : ∃ (a0 : Int) (a1 : Int) (a2 : Int) (F3 : List Nat) (n3 : Nat) (e3 : List Dt) (v3 : Value) (F4 : List Nat) (n4 : Nat) (e4 : List Dt) (v4 : Value) (F5 : List Nat) (n5 : Nat) (e5 : List Dt) (v5 : Value) (F6 : List Nat) (n6 : Nat) (e6 : List Dt) (v6 : Value), F = (F3 ++ (F4 ++ (F5 ++ (F6 ++ [])))) ∧ ds = .i a0 :: .i a1 :: .i a2 :: .row n3 e3 :: .row n4 e4 :: .row n5 e5 :: .row n6 e6 :: [] ∧ cs = .int .i64 a0 :: .int .i64 a1 :: .int .i64 a2 :: v3 :: v4 :: v5 :: v6 :: [] ∧ Rep w tt [.row 83 shGateObject] F3 [.row n3 e3] [v3] ∧ Rep w tt [.row 61 shGateGrant] F4 [.row n4 e4] [v4] ∧ Rep w tt [.row 119 shGateLedger] F5 [.row n5 e5] [v5] ∧ Rep w tt [.row 122 shGatePurse] F6 [.row n6 e6] [v6] := by
  obtain ⟨a0, a1, a2, n3, e3, n4, e4, n5, e5, n6, e6, rfl, tt3, tt4, tt5, tt6⟩ := segTypGateBook h.raw.typ
  obtain ⟨x0, rfl, h1⟩ := h.c_i
  obtain ⟨x1, rfl, h2⟩ := h1.c_i
  obtain ⟨x2, rfl, h3⟩ := h2.c_i
  obtain ⟨F3, G3, v3, x3, rfl, rfl, t3, h4⟩ := h3.c_r
  obtain ⟨F4, G4, v4, x4, rfl, rfl, t4, h5⟩ := h4.c_r
  obtain ⟨F5, G5, v5, x5, rfl, rfl, t5, h6⟩ := h5.c_r
  obtain ⟨F6, G6, v6, x6, rfl, rfl, t6, h7⟩ := h6.c_r
  obtain ⟨rfl, rfl⟩ := h7.c_n
  exact ⟨a0, a1, a2, F3, n3, e3, v3, F4, n4, e4, v4, F5, n5, e5, v5, F6, n6, e6, v6, rfl, rfl, rfl, t3, t4, t5, t6⟩
theorem segRawGateBook {w : World} {ds : List Dt} {cs : List Value} (h : Raw w shGateBook ds cs) : ∃ (a0 : Int) (a1 : Int) (a2 : Int) (n3 : Nat) (e3 : List Dt) (v3 : Value) (n4 : Nat) (e4 : List Dt) (v4 : Value) (n5 : Nat) (e5 : List Dt) (v5 : Value) (n6 : Nat) (e6 : List Dt) (v6 : Value), ds = .i a0 :: .i a1 :: .i a2 :: .row n3 e3 :: .row n4 e4 :: .row n5 e5 :: .row n6 e6 :: [] ∧ cs = .int .i64 a0 :: .int .i64 a1 :: .int .i64 a2 :: v3 :: v4 :: v5 :: v6 :: [] ∧ Raw w [.row 83 shGateObject] [.row n3 e3] [v3] ∧ Raw w [.row 61 shGateGrant] [.row n4 e4] [v4] ∧ Raw w [.row 119 shGateLedger] [.row n5 e5] [v5] ∧ Raw w [.row 122 shGatePurse] [.row n6 e6] [v6] := by
  obtain ⟨a0, a1, a2, n3, e3, n4, e4, n5, e5, n6, e6, rfl, tt3, tt4, tt5, tt6⟩ := segTypGateBook h.typ
  obtain ⟨x0, rfl, h1⟩ := h.c_i
  obtain ⟨x1, rfl, h2⟩ := h1.c_i
  obtain ⟨x2, rfl, h3⟩ := h2.c_i
  obtain ⟨v3, x3, rfl, t3, h4⟩ := h3.c_r
  obtain ⟨v4, x4, rfl, t4, h5⟩ := h4.c_r
  obtain ⟨v5, x5, rfl, t5, h6⟩ := h5.c_r
  obtain ⟨v6, x6, rfl, t6, h7⟩ := h6.c_r
  obtain rfl := h7.c_n
  exact ⟨a0, a1, a2, n3, e3, v3, n4, e4, v4, n5, e5, v5, n6, e6, v6, rfl, rfl, t3, t4, t5, t6⟩
theorem segRepGateBook_mk {w : World} {tt : Bool} (a0 : Int) (a1 : Int) (a2 : Int) {F3 : List Nat} {n3 : Nat} {e3 : List Dt} {v3 : Value} (h3 : Rep w tt [.row 83 shGateObject] F3 [.row n3 e3] [v3]) {F4 : List Nat} {n4 : Nat} {e4 : List Dt} {v4 : Value} (h4 : Rep w tt [.row 61 shGateGrant] F4 [.row n4 e4] [v4]) {F5 : List Nat} {n5 : Nat} {e5 : List Dt} {v5 : Value} (h5 : Rep w tt [.row 119 shGateLedger] F5 [.row n5 e5] [v5]) {F6 : List Nat} {n6 : Nat} {e6 : List Dt} {v6 : Value} (h6 : Rep w tt [.row 122 shGatePurse] F6 [.row n6 e6] [v6]) : Rep w tt shGateBook (F3 ++ (F4 ++ (F5 ++ (F6 ++ [])))) (.i a0 :: .i a1 :: .i a2 :: .row n3 e3 :: .row n4 e4 :: .row n5 e5 :: .row n6 e6 :: []) (.int .i64 a0 :: .int .i64 a1 :: .int .i64 a2 :: v3 :: v4 :: v5 :: v6 :: []) :=
  (.i a0 (.i a1 (.i a2 (h3.app (h4.app (h5.app (h6.app .nil)))))))
theorem segRawGateBook_mk {w : World} (a0 : Int) (a1 : Int) (a2 : Int) {n3 : Nat} {e3 : List Dt} {v3 : Value} (h3 : Raw w [.row 83 shGateObject] [.row n3 e3] [v3]) {n4 : Nat} {e4 : List Dt} {v4 : Value} (h4 : Raw w [.row 61 shGateGrant] [.row n4 e4] [v4]) {n5 : Nat} {e5 : List Dt} {v5 : Value} (h5 : Raw w [.row 119 shGateLedger] [.row n5 e5] [v5]) {n6 : Nat} {e6 : List Dt} {v6 : Value} (h6 : Raw w [.row 122 shGatePurse] [.row n6 e6] [v6]) : Raw w shGateBook (.i a0 :: .i a1 :: .i a2 :: .row n3 e3 :: .row n4 e4 :: .row n5 e5 :: .row n6 e6 :: []) (.int .i64 a0 :: .int .i64 a1 :: .int .i64 a2 :: v3 :: v4 :: v5 :: v6 :: []) :=
  (.i a0 (.i a1 (.i a2 (h3.app (h4.app (h5.app (h6.app .nil)))))))
theorem boxGateBook {W : World} {B : Nat} {a0 : Int} {a1 : Int} {a2 : Int} {v3 : Value} {v4 : Value} {v5 : Value} {v6 : Value}  (h : W.rangeAt B 0 (.int .i64 a0 :: .int .i64 a1 :: .int .i64 a2 :: v3 :: v4 :: v5 :: v6 :: [])) : W.cell? ⟨B, 0, none⟩ = some (.int .i64 a0) ∧ W.cell? ⟨B, 1, none⟩ = some (.int .i64 a1) ∧ W.cell? ⟨B, 2, none⟩ = some (.int .i64 a2) ∧ W.cell? ⟨B, 3, none⟩ = some (v3) ∧ W.cell? ⟨B, 4, none⟩ = some (v4) ∧ W.cell? ⟨B, 5, none⟩ = some (v5) ∧ W.cell? ⟨B, 6, none⟩ = some (v6) := by
  obtain ⟨g0, k0⟩ := rA_cons h
  have h1 : W.rangeAt B 1 _ := k0
  obtain ⟨g1, k1⟩ := rA_cons h1
  have h2 : W.rangeAt B 2 _ := k1
  obtain ⟨g2, k2⟩ := rA_cons h2
  have h3 : W.rangeAt B 3 _ := k2
  obtain ⟨g3, k3⟩ := rA_cons h3
  have h4 : W.rangeAt B 4 _ := k3
  obtain ⟨g4, k4⟩ := rA_cons h4
  have h5 : W.rangeAt B 5 _ := k4
  obtain ⟨g5, k5⟩ := rA_cons h5
  have h6 : W.rangeAt B 6 _ := k5
  obtain ⟨g6, k6⟩ := rA_cons h6
  have h7 : W.rangeAt B 7 _ := k6
  exact ⟨g0, g1, g2, g3, g4, g5, g6⟩
theorem typStewService {ds : List Dt} (h : Typ shStewService ds) : ∃ a0 a1 a2 a3 a4 a5 a6 a7 a8 a9 a10 a11 a12, ds = [.s a0, .i a1, .b a2, .i a3, .i a4, .i a5, .i a6, .i a7, .i a8, .i a9, .i a10, .i a11, .i a12] := by
  obtain ⟨a0, x0, rfl, h1⟩ := h.c_s
  obtain ⟨a1, x1, rfl, h2⟩ := h1.c_i
  obtain ⟨a2, x2, rfl, h3⟩ := h2.c_b
  obtain ⟨a3, x3, rfl, h4⟩ := h3.c_i
  obtain ⟨a4, x4, rfl, h5⟩ := h4.c_i
  obtain ⟨a5, x5, rfl, h6⟩ := h5.c_i
  obtain ⟨a6, x6, rfl, h7⟩ := h6.c_i
  obtain ⟨a7, x7, rfl, h8⟩ := h7.c_i
  obtain ⟨a8, x8, rfl, h9⟩ := h8.c_i
  obtain ⟨a9, x9, rfl, h10⟩ := h9.c_i
  obtain ⟨a10, x10, rfl, h11⟩ := h10.c_i
  obtain ⟨a11, x11, rfl, h12⟩ := h11.c_i
  obtain ⟨a12, x12, rfl, h13⟩ := h12.c_i
  obtain rfl := h13.c_n
  exact ⟨a0, a1, a2, a3, a4, a5, a6, a7, a8, a9, a10, a11, a12, rfl⟩
theorem repStewService {w : World} {tt : Bool} {F : List Nat} {a0 : ByteArray} {a1 : Int} {a2 : Bool} {a3 : Int} {a4 : Int} {a5 : Int} {a6 : Int} {a7 : Int} {a8 : Int} {a9 : Int} {a10 : Int} {a11 : Int} {a12 : Int} {cs : List Value} (h : Rep w tt shStewService F [.s a0, .i a1, .b a2, .i a3, .i a4, .i a5, .i a6, .i a7, .i a8, .i a9, .i a10, .i a11, .i a12] cs) : F = [] ∧ cs = [.string a0, .int .i64 a1, .bool a2, .int .i64 a3, .int .i64 a4, .int .i64 a5, .int .i64 a6, .int .i64 a7, .int .i64 a8, .int .i64 a9, .int .i64 a10, .int .i64 a11, .int .i64 a12] := by
  obtain ⟨x0, rfl, h1⟩ := h.c_s
  obtain ⟨x1, rfl, h2⟩ := h1.c_i
  obtain ⟨x2, rfl, h3⟩ := h2.c_b
  obtain ⟨x3, rfl, h4⟩ := h3.c_i
  obtain ⟨x4, rfl, h5⟩ := h4.c_i
  obtain ⟨x5, rfl, h6⟩ := h5.c_i
  obtain ⟨x6, rfl, h7⟩ := h6.c_i
  obtain ⟨x7, rfl, h8⟩ := h7.c_i
  obtain ⟨x8, rfl, h9⟩ := h8.c_i
  obtain ⟨x9, rfl, h10⟩ := h9.c_i
  obtain ⟨x10, rfl, h11⟩ := h10.c_i
  obtain ⟨x11, rfl, h12⟩ := h11.c_i
  obtain ⟨x12, rfl, h13⟩ := h12.c_i
  obtain ⟨rfl, rfl⟩ := h13.c_n
  exact ⟨rfl, rfl⟩
theorem rawStewService {w : World} {a0 : ByteArray} {a1 : Int} {a2 : Bool} {a3 : Int} {a4 : Int} {a5 : Int} {a6 : Int} {a7 : Int} {a8 : Int} {a9 : Int} {a10 : Int} {a11 : Int} {a12 : Int} {cs : List Value} (h : Raw w shStewService [.s a0, .i a1, .b a2, .i a3, .i a4, .i a5, .i a6, .i a7, .i a8, .i a9, .i a10, .i a11, .i a12] cs) : cs = [.string a0, .int .i64 a1, .bool a2, .int .i64 a3, .int .i64 a4, .int .i64 a5, .int .i64 a6, .int .i64 a7, .int .i64 a8, .int .i64 a9, .int .i64 a10, .int .i64 a11, .int .i64 a12] := by
  obtain ⟨x0, rfl, h1⟩ := h.c_s
  obtain ⟨x1, rfl, h2⟩ := h1.c_i
  obtain ⟨x2, rfl, h3⟩ := h2.c_b
  obtain ⟨x3, rfl, h4⟩ := h3.c_i
  obtain ⟨x4, rfl, h5⟩ := h4.c_i
  obtain ⟨x5, rfl, h6⟩ := h5.c_i
  obtain ⟨x6, rfl, h7⟩ := h6.c_i
  obtain ⟨x7, rfl, h8⟩ := h7.c_i
  obtain ⟨x8, rfl, h9⟩ := h8.c_i
  obtain ⟨x9, rfl, h10⟩ := h9.c_i
  obtain ⟨x10, rfl, h11⟩ := h10.c_i
  obtain ⟨x11, rfl, h12⟩ := h11.c_i
  obtain ⟨x12, rfl, h13⟩ := h12.c_i
  obtain rfl := h13.c_n
  exact rfl
theorem repStewService_mk {w : World} {tt : Bool} (a0 : ByteArray) (a1 : Int) (a2 : Bool) (a3 : Int) (a4 : Int) (a5 : Int) (a6 : Int) (a7 : Int) (a8 : Int) (a9 : Int) (a10 : Int) (a11 : Int) (a12 : Int) : Rep w tt shStewService ([]) [.s a0, .i a1, .b a2, .i a3, .i a4, .i a5, .i a6, .i a7, .i a8, .i a9, .i a10, .i a11, .i a12] [.string a0, .int .i64 a1, .bool a2, .int .i64 a3, .int .i64 a4, .int .i64 a5, .int .i64 a6, .int .i64 a7, .int .i64 a8, .int .i64 a9, .int .i64 a10, .int .i64 a11, .int .i64 a12] :=
  (.s a0 (.i a1 (.b a2 (.i a3 (.i a4 (.i a5 (.i a6 (.i a7 (.i a8 (.i a9 (.i a10 (.i a11 (.i a12 .nil)))))))))))))
theorem rawStewService_mk {w : World} (a0 : ByteArray) (a1 : Int) (a2 : Bool) (a3 : Int) (a4 : Int) (a5 : Int) (a6 : Int) (a7 : Int) (a8 : Int) (a9 : Int) (a10 : Int) (a11 : Int) (a12 : Int) : Raw w shStewService [.s a0, .i a1, .b a2, .i a3, .i a4, .i a5, .i a6, .i a7, .i a8, .i a9, .i a10, .i a11, .i a12] [.string a0, .int .i64 a1, .bool a2, .int .i64 a3, .int .i64 a4, .int .i64 a5, .int .i64 a6, .int .i64 a7, .int .i64 a8, .int .i64 a9, .int .i64 a10, .int .i64 a11, .int .i64 a12] :=
  (.s a0 (.i a1 (.b a2 (.i a3 (.i a4 (.i a5 (.i a6 (.i a7 (.i a8 (.i a9 (.i a10 (.i a11 (.i a12 .nil)))))))))))))
theorem segTypStewService {ds : List Dt} (h : Typ shStewService ds) : ∃ (a0 : ByteArray) (a1 : Int) (a2 : Bool) (a3 : Int) (a4 : Int) (a5 : Int) (a6 : Int) (a7 : Int) (a8 : Int) (a9 : Int) (a10 : Int) (a11 : Int) (a12 : Int), ds = .s a0 :: .i a1 :: .b a2 :: .i a3 :: .i a4 :: .i a5 :: .i a6 :: .i a7 :: .i a8 :: .i a9 :: .i a10 :: .i a11 :: .i a12 :: [] := by
  obtain ⟨a0, x0, rfl, h1⟩ := h.c_s
  obtain ⟨a1, x1, rfl, h2⟩ := h1.c_i
  obtain ⟨a2, x2, rfl, h3⟩ := h2.c_b
  obtain ⟨a3, x3, rfl, h4⟩ := h3.c_i
  obtain ⟨a4, x4, rfl, h5⟩ := h4.c_i
  obtain ⟨a5, x5, rfl, h6⟩ := h5.c_i
  obtain ⟨a6, x6, rfl, h7⟩ := h6.c_i
  obtain ⟨a7, x7, rfl, h8⟩ := h7.c_i
  obtain ⟨a8, x8, rfl, h9⟩ := h8.c_i
  obtain ⟨a9, x9, rfl, h10⟩ := h9.c_i
  obtain ⟨a10, x10, rfl, h11⟩ := h10.c_i
  obtain ⟨a11, x11, rfl, h12⟩ := h11.c_i
  obtain ⟨a12, x12, rfl, h13⟩ := h12.c_i
  obtain rfl := h13.c_n
  exact ⟨a0, a1, a2, a3, a4, a5, a6, a7, a8, a9, a10, a11, a12, rfl⟩
theorem segRepStewService {w : World} {tt : Bool} {F : List Nat} {ds : List Dt} {cs : List Value} (h : Rep w tt shStewService F ds cs) : ∃ (a0 : ByteArray) (a1 : Int) (a2 : Bool) (a3 : Int) (a4 : Int) (a5 : Int) (a6 : Int) (a7 : Int) (a8 : Int) (a9 : Int) (a10 : Int) (a11 : Int) (a12 : Int), F = [] ∧ ds = .s a0 :: .i a1 :: .b a2 :: .i a3 :: .i a4 :: .i a5 :: .i a6 :: .i a7 :: .i a8 :: .i a9 :: .i a10 :: .i a11 :: .i a12 :: [] ∧ cs = .string a0 :: .int .i64 a1 :: .bool a2 :: .int .i64 a3 :: .int .i64 a4 :: .int .i64 a5 :: .int .i64 a6 :: .int .i64 a7 :: .int .i64 a8 :: .int .i64 a9 :: .int .i64 a10 :: .int .i64 a11 :: .int .i64 a12 :: [] := by
  obtain ⟨a0, a1, a2, a3, a4, a5, a6, a7, a8, a9, a10, a11, a12, rfl⟩ := segTypStewService h.raw.typ
  obtain ⟨x0, rfl, h1⟩ := h.c_s
  obtain ⟨x1, rfl, h2⟩ := h1.c_i
  obtain ⟨x2, rfl, h3⟩ := h2.c_b
  obtain ⟨x3, rfl, h4⟩ := h3.c_i
  obtain ⟨x4, rfl, h5⟩ := h4.c_i
  obtain ⟨x5, rfl, h6⟩ := h5.c_i
  obtain ⟨x6, rfl, h7⟩ := h6.c_i
  obtain ⟨x7, rfl, h8⟩ := h7.c_i
  obtain ⟨x8, rfl, h9⟩ := h8.c_i
  obtain ⟨x9, rfl, h10⟩ := h9.c_i
  obtain ⟨x10, rfl, h11⟩ := h10.c_i
  obtain ⟨x11, rfl, h12⟩ := h11.c_i
  obtain ⟨x12, rfl, h13⟩ := h12.c_i
  obtain ⟨rfl, rfl⟩ := h13.c_n
  exact ⟨a0, a1, a2, a3, a4, a5, a6, a7, a8, a9, a10, a11, a12, rfl, rfl, rfl⟩
theorem segRawStewService {w : World} {ds : List Dt} {cs : List Value} (h : Raw w shStewService ds cs) : ∃ (a0 : ByteArray) (a1 : Int) (a2 : Bool) (a3 : Int) (a4 : Int) (a5 : Int) (a6 : Int) (a7 : Int) (a8 : Int) (a9 : Int) (a10 : Int) (a11 : Int) (a12 : Int), ds = .s a0 :: .i a1 :: .b a2 :: .i a3 :: .i a4 :: .i a5 :: .i a6 :: .i a7 :: .i a8 :: .i a9 :: .i a10 :: .i a11 :: .i a12 :: [] ∧ cs = .string a0 :: .int .i64 a1 :: .bool a2 :: .int .i64 a3 :: .int .i64 a4 :: .int .i64 a5 :: .int .i64 a6 :: .int .i64 a7 :: .int .i64 a8 :: .int .i64 a9 :: .int .i64 a10 :: .int .i64 a11 :: .int .i64 a12 :: [] := by
  obtain ⟨a0, a1, a2, a3, a4, a5, a6, a7, a8, a9, a10, a11, a12, rfl⟩ := segTypStewService h.typ
  obtain ⟨x0, rfl, h1⟩ := h.c_s
  obtain ⟨x1, rfl, h2⟩ := h1.c_i
  obtain ⟨x2, rfl, h3⟩ := h2.c_b
  obtain ⟨x3, rfl, h4⟩ := h3.c_i
  obtain ⟨x4, rfl, h5⟩ := h4.c_i
  obtain ⟨x5, rfl, h6⟩ := h5.c_i
  obtain ⟨x6, rfl, h7⟩ := h6.c_i
  obtain ⟨x7, rfl, h8⟩ := h7.c_i
  obtain ⟨x8, rfl, h9⟩ := h8.c_i
  obtain ⟨x9, rfl, h10⟩ := h9.c_i
  obtain ⟨x10, rfl, h11⟩ := h10.c_i
  obtain ⟨x11, rfl, h12⟩ := h11.c_i
  obtain ⟨x12, rfl, h13⟩ := h12.c_i
  obtain rfl := h13.c_n
  exact ⟨a0, a1, a2, a3, a4, a5, a6, a7, a8, a9, a10, a11, a12, rfl, rfl⟩
theorem segRepStewService_mk {w : World} {tt : Bool} (a0 : ByteArray) (a1 : Int) (a2 : Bool) (a3 : Int) (a4 : Int) (a5 : Int) (a6 : Int) (a7 : Int) (a8 : Int) (a9 : Int) (a10 : Int) (a11 : Int) (a12 : Int) : Rep w tt shStewService [] (.s a0 :: .i a1 :: .b a2 :: .i a3 :: .i a4 :: .i a5 :: .i a6 :: .i a7 :: .i a8 :: .i a9 :: .i a10 :: .i a11 :: .i a12 :: []) (.string a0 :: .int .i64 a1 :: .bool a2 :: .int .i64 a3 :: .int .i64 a4 :: .int .i64 a5 :: .int .i64 a6 :: .int .i64 a7 :: .int .i64 a8 :: .int .i64 a9 :: .int .i64 a10 :: .int .i64 a11 :: .int .i64 a12 :: []) :=
  (.s a0 (.i a1 (.b a2 (.i a3 (.i a4 (.i a5 (.i a6 (.i a7 (.i a8 (.i a9 (.i a10 (.i a11 (.i a12 .nil)))))))))))))
theorem segRawStewService_mk {w : World} (a0 : ByteArray) (a1 : Int) (a2 : Bool) (a3 : Int) (a4 : Int) (a5 : Int) (a6 : Int) (a7 : Int) (a8 : Int) (a9 : Int) (a10 : Int) (a11 : Int) (a12 : Int) : Raw w shStewService (.s a0 :: .i a1 :: .b a2 :: .i a3 :: .i a4 :: .i a5 :: .i a6 :: .i a7 :: .i a8 :: .i a9 :: .i a10 :: .i a11 :: .i a12 :: []) (.string a0 :: .int .i64 a1 :: .bool a2 :: .int .i64 a3 :: .int .i64 a4 :: .int .i64 a5 :: .int .i64 a6 :: .int .i64 a7 :: .int .i64 a8 :: .int .i64 a9 :: .int .i64 a10 :: .int .i64 a11 :: .int .i64 a12 :: []) :=
  (.s a0 (.i a1 (.b a2 (.i a3 (.i a4 (.i a5 (.i a6 (.i a7 (.i a8 (.i a9 (.i a10 (.i a11 (.i a12 .nil)))))))))))))
theorem boxStewService {W : World} {B : Nat} {a0 : ByteArray} {a1 : Int} {a2 : Bool} {a3 : Int} {a4 : Int} {a5 : Int} {a6 : Int} {a7 : Int} {a8 : Int} {a9 : Int} {a10 : Int} {a11 : Int} {a12 : Int}  (h : W.rangeAt B 0 (.string a0 :: .int .i64 a1 :: .bool a2 :: .int .i64 a3 :: .int .i64 a4 :: .int .i64 a5 :: .int .i64 a6 :: .int .i64 a7 :: .int .i64 a8 :: .int .i64 a9 :: .int .i64 a10 :: .int .i64 a11 :: .int .i64 a12 :: [])) : W.cell? ⟨B, 0, none⟩ = some (.string a0) ∧ W.cell? ⟨B, 1, none⟩ = some (.int .i64 a1) ∧ W.cell? ⟨B, 2, none⟩ = some (.bool a2) ∧ W.cell? ⟨B, 3, none⟩ = some (.int .i64 a3) ∧ W.cell? ⟨B, 4, none⟩ = some (.int .i64 a4) ∧ W.cell? ⟨B, 5, none⟩ = some (.int .i64 a5) ∧ W.cell? ⟨B, 6, none⟩ = some (.int .i64 a6) ∧ W.cell? ⟨B, 7, none⟩ = some (.int .i64 a7) ∧ W.cell? ⟨B, 8, none⟩ = some (.int .i64 a8) ∧ W.cell? ⟨B, 9, none⟩ = some (.int .i64 a9) ∧ W.cell? ⟨B, 10, none⟩ = some (.int .i64 a10) ∧ W.cell? ⟨B, 11, none⟩ = some (.int .i64 a11) ∧ W.cell? ⟨B, 12, none⟩ = some (.int .i64 a12) := by
  obtain ⟨g0, k0⟩ := rA_cons h
  have h1 : W.rangeAt B 1 _ := k0
  obtain ⟨g1, k1⟩ := rA_cons h1
  have h2 : W.rangeAt B 2 _ := k1
  obtain ⟨g2, k2⟩ := rA_cons h2
  have h3 : W.rangeAt B 3 _ := k2
  obtain ⟨g3, k3⟩ := rA_cons h3
  have h4 : W.rangeAt B 4 _ := k3
  obtain ⟨g4, k4⟩ := rA_cons h4
  have h5 : W.rangeAt B 5 _ := k4
  obtain ⟨g5, k5⟩ := rA_cons h5
  have h6 : W.rangeAt B 6 _ := k5
  obtain ⟨g6, k6⟩ := rA_cons h6
  have h7 : W.rangeAt B 7 _ := k6
  obtain ⟨g7, k7⟩ := rA_cons h7
  have h8 : W.rangeAt B 8 _ := k7
  obtain ⟨g8, k8⟩ := rA_cons h8
  have h9 : W.rangeAt B 9 _ := k8
  obtain ⟨g9, k9⟩ := rA_cons h9
  have h10 : W.rangeAt B 10 _ := k9
  obtain ⟨g10, k10⟩ := rA_cons h10
  have h11 : W.rangeAt B 11 _ := k10
  obtain ⟨g11, k11⟩ := rA_cons h11
  have h12 : W.rangeAt B 12 _ := k11
  obtain ⟨g12, k12⟩ := rA_cons h12
  have h13 : W.rangeAt B 13 _ := k12
  exact ⟨g0, g1, g2, g3, g4, g5, g6, g7, g8, g9, g10, g11, g12⟩
theorem typStewCopy {ds : List Dt} (h : Typ shStewCopy ds) : ∃ a0 a1 a2 a3 a4 a5 a6, ds = [.s a0, .i a1, .i a2, .i a3, .i a4, .b a5, .s a6] := by
  obtain ⟨a0, x0, rfl, h1⟩ := h.c_s
  obtain ⟨a1, x1, rfl, h2⟩ := h1.c_i
  obtain ⟨a2, x2, rfl, h3⟩ := h2.c_i
  obtain ⟨a3, x3, rfl, h4⟩ := h3.c_i
  obtain ⟨a4, x4, rfl, h5⟩ := h4.c_i
  obtain ⟨a5, x5, rfl, h6⟩ := h5.c_b
  obtain ⟨a6, x6, rfl, h7⟩ := h6.c_s
  obtain rfl := h7.c_n
  exact ⟨a0, a1, a2, a3, a4, a5, a6, rfl⟩
theorem repStewCopy {w : World} {tt : Bool} {F : List Nat} {a0 : ByteArray} {a1 : Int} {a2 : Int} {a3 : Int} {a4 : Int} {a5 : Bool} {a6 : ByteArray} {cs : List Value} (h : Rep w tt shStewCopy F [.s a0, .i a1, .i a2, .i a3, .i a4, .b a5, .s a6] cs) : F = [] ∧ cs = [.string a0, .int .i64 a1, .int .i64 a2, .int .i64 a3, .int .i64 a4, .bool a5, .string a6] := by
  obtain ⟨x0, rfl, h1⟩ := h.c_s
  obtain ⟨x1, rfl, h2⟩ := h1.c_i
  obtain ⟨x2, rfl, h3⟩ := h2.c_i
  obtain ⟨x3, rfl, h4⟩ := h3.c_i
  obtain ⟨x4, rfl, h5⟩ := h4.c_i
  obtain ⟨x5, rfl, h6⟩ := h5.c_b
  obtain ⟨x6, rfl, h7⟩ := h6.c_s
  obtain ⟨rfl, rfl⟩ := h7.c_n
  exact ⟨rfl, rfl⟩
theorem rawStewCopy {w : World} {a0 : ByteArray} {a1 : Int} {a2 : Int} {a3 : Int} {a4 : Int} {a5 : Bool} {a6 : ByteArray} {cs : List Value} (h : Raw w shStewCopy [.s a0, .i a1, .i a2, .i a3, .i a4, .b a5, .s a6] cs) : cs = [.string a0, .int .i64 a1, .int .i64 a2, .int .i64 a3, .int .i64 a4, .bool a5, .string a6] := by
  obtain ⟨x0, rfl, h1⟩ := h.c_s
  obtain ⟨x1, rfl, h2⟩ := h1.c_i
  obtain ⟨x2, rfl, h3⟩ := h2.c_i
  obtain ⟨x3, rfl, h4⟩ := h3.c_i
  obtain ⟨x4, rfl, h5⟩ := h4.c_i
  obtain ⟨x5, rfl, h6⟩ := h5.c_b
  obtain ⟨x6, rfl, h7⟩ := h6.c_s
  obtain rfl := h7.c_n
  exact rfl
theorem repStewCopy_mk {w : World} {tt : Bool} (a0 : ByteArray) (a1 : Int) (a2 : Int) (a3 : Int) (a4 : Int) (a5 : Bool) (a6 : ByteArray) : Rep w tt shStewCopy ([]) [.s a0, .i a1, .i a2, .i a3, .i a4, .b a5, .s a6] [.string a0, .int .i64 a1, .int .i64 a2, .int .i64 a3, .int .i64 a4, .bool a5, .string a6] :=
  (.s a0 (.i a1 (.i a2 (.i a3 (.i a4 (.b a5 (.s a6 .nil)))))))
theorem rawStewCopy_mk {w : World} (a0 : ByteArray) (a1 : Int) (a2 : Int) (a3 : Int) (a4 : Int) (a5 : Bool) (a6 : ByteArray) : Raw w shStewCopy [.s a0, .i a1, .i a2, .i a3, .i a4, .b a5, .s a6] [.string a0, .int .i64 a1, .int .i64 a2, .int .i64 a3, .int .i64 a4, .bool a5, .string a6] :=
  (.s a0 (.i a1 (.i a2 (.i a3 (.i a4 (.b a5 (.s a6 .nil)))))))
theorem segTypStewCopy {ds : List Dt} (h : Typ shStewCopy ds) : ∃ (a0 : ByteArray) (a1 : Int) (a2 : Int) (a3 : Int) (a4 : Int) (a5 : Bool) (a6 : ByteArray), ds = .s a0 :: .i a1 :: .i a2 :: .i a3 :: .i a4 :: .b a5 :: .s a6 :: [] := by
  obtain ⟨a0, x0, rfl, h1⟩ := h.c_s
  obtain ⟨a1, x1, rfl, h2⟩ := h1.c_i
  obtain ⟨a2, x2, rfl, h3⟩ := h2.c_i
  obtain ⟨a3, x3, rfl, h4⟩ := h3.c_i
  obtain ⟨a4, x4, rfl, h5⟩ := h4.c_i
  obtain ⟨a5, x5, rfl, h6⟩ := h5.c_b
  obtain ⟨a6, x6, rfl, h7⟩ := h6.c_s
  obtain rfl := h7.c_n
  exact ⟨a0, a1, a2, a3, a4, a5, a6, rfl⟩
theorem segRepStewCopy {w : World} {tt : Bool} {F : List Nat} {ds : List Dt} {cs : List Value} (h : Rep w tt shStewCopy F ds cs) : ∃ (a0 : ByteArray) (a1 : Int) (a2 : Int) (a3 : Int) (a4 : Int) (a5 : Bool) (a6 : ByteArray), F = [] ∧ ds = .s a0 :: .i a1 :: .i a2 :: .i a3 :: .i a4 :: .b a5 :: .s a6 :: [] ∧ cs = .string a0 :: .int .i64 a1 :: .int .i64 a2 :: .int .i64 a3 :: .int .i64 a4 :: .bool a5 :: .string a6 :: [] := by
  obtain ⟨a0, a1, a2, a3, a4, a5, a6, rfl⟩ := segTypStewCopy h.raw.typ
  obtain ⟨x0, rfl, h1⟩ := h.c_s
  obtain ⟨x1, rfl, h2⟩ := h1.c_i
  obtain ⟨x2, rfl, h3⟩ := h2.c_i
  obtain ⟨x3, rfl, h4⟩ := h3.c_i
  obtain ⟨x4, rfl, h5⟩ := h4.c_i
  obtain ⟨x5, rfl, h6⟩ := h5.c_b
  obtain ⟨x6, rfl, h7⟩ := h6.c_s
  obtain ⟨rfl, rfl⟩ := h7.c_n
  exact ⟨a0, a1, a2, a3, a4, a5, a6, rfl, rfl, rfl⟩
theorem segRawStewCopy {w : World} {ds : List Dt} {cs : List Value} (h : Raw w shStewCopy ds cs) : ∃ (a0 : ByteArray) (a1 : Int) (a2 : Int) (a3 : Int) (a4 : Int) (a5 : Bool) (a6 : ByteArray), ds = .s a0 :: .i a1 :: .i a2 :: .i a3 :: .i a4 :: .b a5 :: .s a6 :: [] ∧ cs = .string a0 :: .int .i64 a1 :: .int .i64 a2 :: .int .i64 a3 :: .int .i64 a4 :: .bool a5 :: .string a6 :: [] := by
  obtain ⟨a0, a1, a2, a3, a4, a5, a6, rfl⟩ := segTypStewCopy h.typ
  obtain ⟨x0, rfl, h1⟩ := h.c_s
  obtain ⟨x1, rfl, h2⟩ := h1.c_i
  obtain ⟨x2, rfl, h3⟩ := h2.c_i
  obtain ⟨x3, rfl, h4⟩ := h3.c_i
  obtain ⟨x4, rfl, h5⟩ := h4.c_i
  obtain ⟨x5, rfl, h6⟩ := h5.c_b
  obtain ⟨x6, rfl, h7⟩ := h6.c_s
  obtain rfl := h7.c_n
  exact ⟨a0, a1, a2, a3, a4, a5, a6, rfl, rfl⟩
theorem segRepStewCopy_mk {w : World} {tt : Bool} (a0 : ByteArray) (a1 : Int) (a2 : Int) (a3 : Int) (a4 : Int) (a5 : Bool) (a6 : ByteArray) : Rep w tt shStewCopy [] (.s a0 :: .i a1 :: .i a2 :: .i a3 :: .i a4 :: .b a5 :: .s a6 :: []) (.string a0 :: .int .i64 a1 :: .int .i64 a2 :: .int .i64 a3 :: .int .i64 a4 :: .bool a5 :: .string a6 :: []) :=
  (.s a0 (.i a1 (.i a2 (.i a3 (.i a4 (.b a5 (.s a6 .nil)))))))
theorem segRawStewCopy_mk {w : World} (a0 : ByteArray) (a1 : Int) (a2 : Int) (a3 : Int) (a4 : Int) (a5 : Bool) (a6 : ByteArray) : Raw w shStewCopy (.s a0 :: .i a1 :: .i a2 :: .i a3 :: .i a4 :: .b a5 :: .s a6 :: []) (.string a0 :: .int .i64 a1 :: .int .i64 a2 :: .int .i64 a3 :: .int .i64 a4 :: .bool a5 :: .string a6 :: []) :=
  (.s a0 (.i a1 (.i a2 (.i a3 (.i a4 (.b a5 (.s a6 .nil)))))))
theorem boxStewCopy {W : World} {B : Nat} {a0 : ByteArray} {a1 : Int} {a2 : Int} {a3 : Int} {a4 : Int} {a5 : Bool} {a6 : ByteArray}  (h : W.rangeAt B 0 (.string a0 :: .int .i64 a1 :: .int .i64 a2 :: .int .i64 a3 :: .int .i64 a4 :: .bool a5 :: .string a6 :: [])) : W.cell? ⟨B, 0, none⟩ = some (.string a0) ∧ W.cell? ⟨B, 1, none⟩ = some (.int .i64 a1) ∧ W.cell? ⟨B, 2, none⟩ = some (.int .i64 a2) ∧ W.cell? ⟨B, 3, none⟩ = some (.int .i64 a3) ∧ W.cell? ⟨B, 4, none⟩ = some (.int .i64 a4) ∧ W.cell? ⟨B, 5, none⟩ = some (.bool a5) ∧ W.cell? ⟨B, 6, none⟩ = some (.string a6) := by
  obtain ⟨g0, k0⟩ := rA_cons h
  have h1 : W.rangeAt B 1 _ := k0
  obtain ⟨g1, k1⟩ := rA_cons h1
  have h2 : W.rangeAt B 2 _ := k1
  obtain ⟨g2, k2⟩ := rA_cons h2
  have h3 : W.rangeAt B 3 _ := k2
  obtain ⟨g3, k3⟩ := rA_cons h3
  have h4 : W.rangeAt B 4 _ := k3
  obtain ⟨g4, k4⟩ := rA_cons h4
  have h5 : W.rangeAt B 5 _ := k4
  obtain ⟨g5, k5⟩ := rA_cons h5
  have h6 : W.rangeAt B 6 _ := k5
  obtain ⟨g6, k6⟩ := rA_cons h6
  have h7 : W.rangeAt B 7 _ := k6
  exact ⟨g0, g1, g2, g3, g4, g5, g6⟩
theorem typStewBerth {ds : List Dt} (h : Typ shStewBerth ds) : ∃ a0 a1, ds = [.s a0, .b a1] := by
  obtain ⟨a0, x0, rfl, h1⟩ := h.c_s
  obtain ⟨a1, x1, rfl, h2⟩ := h1.c_b
  obtain rfl := h2.c_n
  exact ⟨a0, a1, rfl⟩
theorem repStewBerth {w : World} {tt : Bool} {F : List Nat} {a0 : ByteArray} {a1 : Bool} {cs : List Value} (h : Rep w tt shStewBerth F [.s a0, .b a1] cs) : F = [] ∧ cs = [.string a0, .bool a1] := by
  obtain ⟨x0, rfl, h1⟩ := h.c_s
  obtain ⟨x1, rfl, h2⟩ := h1.c_b
  obtain ⟨rfl, rfl⟩ := h2.c_n
  exact ⟨rfl, rfl⟩
theorem rawStewBerth {w : World} {a0 : ByteArray} {a1 : Bool} {cs : List Value} (h : Raw w shStewBerth [.s a0, .b a1] cs) : cs = [.string a0, .bool a1] := by
  obtain ⟨x0, rfl, h1⟩ := h.c_s
  obtain ⟨x1, rfl, h2⟩ := h1.c_b
  obtain rfl := h2.c_n
  exact rfl
theorem repStewBerth_mk {w : World} {tt : Bool} (a0 : ByteArray) (a1 : Bool) : Rep w tt shStewBerth ([]) [.s a0, .b a1] [.string a0, .bool a1] :=
  (.s a0 (.b a1 .nil))
theorem rawStewBerth_mk {w : World} (a0 : ByteArray) (a1 : Bool) : Raw w shStewBerth [.s a0, .b a1] [.string a0, .bool a1] :=
  (.s a0 (.b a1 .nil))
theorem segTypStewBerth {ds : List Dt} (h : Typ shStewBerth ds) : ∃ (a0 : ByteArray) (a1 : Bool), ds = .s a0 :: .b a1 :: [] := by
  obtain ⟨a0, x0, rfl, h1⟩ := h.c_s
  obtain ⟨a1, x1, rfl, h2⟩ := h1.c_b
  obtain rfl := h2.c_n
  exact ⟨a0, a1, rfl⟩
theorem segRepStewBerth {w : World} {tt : Bool} {F : List Nat} {ds : List Dt} {cs : List Value} (h : Rep w tt shStewBerth F ds cs) : ∃ (a0 : ByteArray) (a1 : Bool), F = [] ∧ ds = .s a0 :: .b a1 :: [] ∧ cs = .string a0 :: .bool a1 :: [] := by
  obtain ⟨a0, a1, rfl⟩ := segTypStewBerth h.raw.typ
  obtain ⟨x0, rfl, h1⟩ := h.c_s
  obtain ⟨x1, rfl, h2⟩ := h1.c_b
  obtain ⟨rfl, rfl⟩ := h2.c_n
  exact ⟨a0, a1, rfl, rfl, rfl⟩
theorem segRawStewBerth {w : World} {ds : List Dt} {cs : List Value} (h : Raw w shStewBerth ds cs) : ∃ (a0 : ByteArray) (a1 : Bool), ds = .s a0 :: .b a1 :: [] ∧ cs = .string a0 :: .bool a1 :: [] := by
  obtain ⟨a0, a1, rfl⟩ := segTypStewBerth h.typ
  obtain ⟨x0, rfl, h1⟩ := h.c_s
  obtain ⟨x1, rfl, h2⟩ := h1.c_b
  obtain rfl := h2.c_n
  exact ⟨a0, a1, rfl, rfl⟩
theorem segRepStewBerth_mk {w : World} {tt : Bool} (a0 : ByteArray) (a1 : Bool) : Rep w tt shStewBerth [] (.s a0 :: .b a1 :: []) (.string a0 :: .bool a1 :: []) :=
  (.s a0 (.b a1 .nil))
theorem segRawStewBerth_mk {w : World} (a0 : ByteArray) (a1 : Bool) : Raw w shStewBerth (.s a0 :: .b a1 :: []) (.string a0 :: .bool a1 :: []) :=
  (.s a0 (.b a1 .nil))
theorem boxStewBerth {W : World} {B : Nat} {a0 : ByteArray} {a1 : Bool}  (h : W.rangeAt B 0 (.string a0 :: .bool a1 :: [])) : W.cell? ⟨B, 0, none⟩ = some (.string a0) ∧ W.cell? ⟨B, 1, none⟩ = some (.bool a1) := by
  obtain ⟨g0, k0⟩ := rA_cons h
  have h1 : W.rangeAt B 1 _ := k0
  obtain ⟨g1, k1⟩ := rA_cons h1
  have h2 : W.rangeAt B 2 _ := k1
  exact ⟨g0, g1⟩
theorem typStewBook {ds : List Dt} (h : Typ shStewBook ds) : ∃ a0 n1 e1 n2 e2 n3 e3, ds = [.i a0, .row n1 e1, .row n2 e2, .row n3 e3] ∧ Typ (reps n1 shStewService) e1 ∧ Typ (reps n2 shStewCopy) e2 ∧ Typ (reps n3 shStewBerth) e3 := by
  obtain ⟨a0, x0, rfl, h1⟩ := h.c_i
  obtain ⟨n1, e1, x1, rfl, t1, h2⟩ := h1.c_r
  obtain ⟨n2, e2, x2, rfl, t2, h3⟩ := h2.c_r
  obtain ⟨n3, e3, x3, rfl, t3, h4⟩ := h3.c_r
  obtain rfl := h4.c_n
  exact ⟨a0, n1, e1, n2, e2, n3, e3, rfl, t1, t2, t3⟩
theorem repStewBook {w : World} {tt : Bool} {F : List Nat} {a0 : Int} {n1 : Nat} {e1 : List Dt} {n2 : Nat} {e2 : List Dt} {n3 : Nat} {e3 : List Dt} {cs : List Value} (h : Rep w tt shStewBook F [.i a0, .row n1 e1, .row n2 e2, .row n3 e3] cs) : ∃ F1 v1 F2 v2 F3 v3, F = F1 ++ (F2 ++ (F3 ++ [])) ∧ cs = [.int .i64 a0, v1, v2, v3] ∧ Rep w tt [.row 125 shStewService] F1 [.row n1 e1] [v1] ∧ Rep w tt [.row 128 shStewCopy] F2 [.row n2 e2] [v2] ∧ Rep w tt [.row 131 shStewBerth] F3 [.row n3 e3] [v3] := by
  obtain ⟨x0, rfl, h1⟩ := h.c_i
  obtain ⟨F1, G1, v1, x1, rfl, rfl, t1, h2⟩ := h1.c_r
  obtain ⟨F2, G2, v2, x2, rfl, rfl, t2, h3⟩ := h2.c_r
  obtain ⟨F3, G3, v3, x3, rfl, rfl, t3, h4⟩ := h3.c_r
  obtain ⟨rfl, rfl⟩ := h4.c_n
  exact ⟨F1, v1, F2, v2, F3, v3, rfl, rfl, t1, t2, t3⟩
theorem rawStewBook {w : World} {a0 : Int} {n1 : Nat} {e1 : List Dt} {n2 : Nat} {e2 : List Dt} {n3 : Nat} {e3 : List Dt} {cs : List Value} (h : Raw w shStewBook [.i a0, .row n1 e1, .row n2 e2, .row n3 e3] cs) : ∃ v1 v2 v3, cs = [.int .i64 a0, v1, v2, v3] ∧ Raw w [.row 125 shStewService] [.row n1 e1] [v1] ∧ Raw w [.row 128 shStewCopy] [.row n2 e2] [v2] ∧ Raw w [.row 131 shStewBerth] [.row n3 e3] [v3] := by
  obtain ⟨x0, rfl, h1⟩ := h.c_i
  obtain ⟨v1, x1, rfl, t1, h2⟩ := h1.c_r
  obtain ⟨v2, x2, rfl, t2, h3⟩ := h2.c_r
  obtain ⟨v3, x3, rfl, t3, h4⟩ := h3.c_r
  obtain rfl := h4.c_n
  exact ⟨v1, v2, v3, rfl, t1, t2, t3⟩
theorem repStewBook_mk {w : World} {tt : Bool} (a0 : Int) {F1 : List Nat} {n1 : Nat} {e1 : List Dt} {v1 : Value} (h1 : Rep w tt [.row 125 shStewService] F1 [.row n1 e1] [v1]) {F2 : List Nat} {n2 : Nat} {e2 : List Dt} {v2 : Value} (h2 : Rep w tt [.row 128 shStewCopy] F2 [.row n2 e2] [v2]) {F3 : List Nat} {n3 : Nat} {e3 : List Dt} {v3 : Value} (h3 : Rep w tt [.row 131 shStewBerth] F3 [.row n3 e3] [v3]) : Rep w tt shStewBook (F1 ++ (F2 ++ (F3 ++ []))) [.i a0, .row n1 e1, .row n2 e2, .row n3 e3] [.int .i64 a0, v1, v2, v3] :=
  (.i a0 (h1.app (h2.app (h3.app .nil))))
theorem rawStewBook_mk {w : World} (a0 : Int) {n1 : Nat} {e1 : List Dt} {v1 : Value} (h1 : Raw w [.row 125 shStewService] [.row n1 e1] [v1]) {n2 : Nat} {e2 : List Dt} {v2 : Value} (h2 : Raw w [.row 128 shStewCopy] [.row n2 e2] [v2]) {n3 : Nat} {e3 : List Dt} {v3 : Value} (h3 : Raw w [.row 131 shStewBerth] [.row n3 e3] [v3]) : Raw w shStewBook [.i a0, .row n1 e1, .row n2 e2, .row n3 e3] [.int .i64 a0, v1, v2, v3] :=
  (.i a0 (h1.app (h2.app (h3.app .nil))))
theorem segTypStewBook {ds : List Dt} (h : Typ shStewBook ds) : ∃ (a0 : Int) (n1 : Nat) (e1 : List Dt) (n2 : Nat) (e2 : List Dt) (n3 : Nat) (e3 : List Dt), ds = .i a0 :: .row n1 e1 :: .row n2 e2 :: .row n3 e3 :: [] ∧ Typ (reps n1 shStewService) e1 ∧ Typ (reps n2 shStewCopy) e2 ∧ Typ (reps n3 shStewBerth) e3 := by
  obtain ⟨a0, x0, rfl, h1⟩ := h.c_i
  obtain ⟨n1, e1, x1, rfl, t1, h2⟩ := h1.c_r
  obtain ⟨n2, e2, x2, rfl, t2, h3⟩ := h2.c_r
  obtain ⟨n3, e3, x3, rfl, t3, h4⟩ := h3.c_r
  obtain rfl := h4.c_n
  exact ⟨a0, n1, e1, n2, e2, n3, e3, rfl, t1, t2, t3⟩
theorem segRepStewBook {w : World} {tt : Bool} {F : List Nat} {ds : List Dt} {cs : List Value} (h : Rep w tt shStewBook F ds cs) : ∃ (a0 : Int) (F1 : List Nat) (n1 : Nat) (e1 : List Dt) (v1 : Value) (F2 : List Nat) (n2 : Nat) (e2 : List Dt) (v2 : Value) (F3 : List Nat) (n3 : Nat) (e3 : List Dt) (v3 : Value), F = (F1 ++ (F2 ++ (F3 ++ []))) ∧ ds = .i a0 :: .row n1 e1 :: .row n2 e2 :: .row n3 e3 :: [] ∧ cs = .int .i64 a0 :: v1 :: v2 :: v3 :: [] ∧ Rep w tt [.row 125 shStewService] F1 [.row n1 e1] [v1] ∧ Rep w tt [.row 128 shStewCopy] F2 [.row n2 e2] [v2] ∧ Rep w tt [.row 131 shStewBerth] F3 [.row n3 e3] [v3] := by
  obtain ⟨a0, n1, e1, n2, e2, n3, e3, rfl, tt1, tt2, tt3⟩ := segTypStewBook h.raw.typ
  obtain ⟨x0, rfl, h1⟩ := h.c_i
  obtain ⟨F1, G1, v1, x1, rfl, rfl, t1, h2⟩ := h1.c_r
  obtain ⟨F2, G2, v2, x2, rfl, rfl, t2, h3⟩ := h2.c_r
  obtain ⟨F3, G3, v3, x3, rfl, rfl, t3, h4⟩ := h3.c_r
  obtain ⟨rfl, rfl⟩ := h4.c_n
  exact ⟨a0, F1, n1, e1, v1, F2, n2, e2, v2, F3, n3, e3, v3, rfl, rfl, rfl, t1, t2, t3⟩
theorem segRawStewBook {w : World} {ds : List Dt} {cs : List Value} (h : Raw w shStewBook ds cs) : ∃ (a0 : Int) (n1 : Nat) (e1 : List Dt) (v1 : Value) (n2 : Nat) (e2 : List Dt) (v2 : Value) (n3 : Nat) (e3 : List Dt) (v3 : Value), ds = .i a0 :: .row n1 e1 :: .row n2 e2 :: .row n3 e3 :: [] ∧ cs = .int .i64 a0 :: v1 :: v2 :: v3 :: [] ∧ Raw w [.row 125 shStewService] [.row n1 e1] [v1] ∧ Raw w [.row 128 shStewCopy] [.row n2 e2] [v2] ∧ Raw w [.row 131 shStewBerth] [.row n3 e3] [v3] := by
  obtain ⟨a0, n1, e1, n2, e2, n3, e3, rfl, tt1, tt2, tt3⟩ := segTypStewBook h.typ
  obtain ⟨x0, rfl, h1⟩ := h.c_i
  obtain ⟨v1, x1, rfl, t1, h2⟩ := h1.c_r
  obtain ⟨v2, x2, rfl, t2, h3⟩ := h2.c_r
  obtain ⟨v3, x3, rfl, t3, h4⟩ := h3.c_r
  obtain rfl := h4.c_n
  exact ⟨a0, n1, e1, v1, n2, e2, v2, n3, e3, v3, rfl, rfl, t1, t2, t3⟩
theorem segRepStewBook_mk {w : World} {tt : Bool} (a0 : Int) {F1 : List Nat} {n1 : Nat} {e1 : List Dt} {v1 : Value} (h1 : Rep w tt [.row 125 shStewService] F1 [.row n1 e1] [v1]) {F2 : List Nat} {n2 : Nat} {e2 : List Dt} {v2 : Value} (h2 : Rep w tt [.row 128 shStewCopy] F2 [.row n2 e2] [v2]) {F3 : List Nat} {n3 : Nat} {e3 : List Dt} {v3 : Value} (h3 : Rep w tt [.row 131 shStewBerth] F3 [.row n3 e3] [v3]) : Rep w tt shStewBook (F1 ++ (F2 ++ (F3 ++ []))) (.i a0 :: .row n1 e1 :: .row n2 e2 :: .row n3 e3 :: []) (.int .i64 a0 :: v1 :: v2 :: v3 :: []) :=
  (.i a0 (h1.app (h2.app (h3.app .nil))))
theorem segRawStewBook_mk {w : World} (a0 : Int) {n1 : Nat} {e1 : List Dt} {v1 : Value} (h1 : Raw w [.row 125 shStewService] [.row n1 e1] [v1]) {n2 : Nat} {e2 : List Dt} {v2 : Value} (h2 : Raw w [.row 128 shStewCopy] [.row n2 e2] [v2]) {n3 : Nat} {e3 : List Dt} {v3 : Value} (h3 : Raw w [.row 131 shStewBerth] [.row n3 e3] [v3]) : Raw w shStewBook (.i a0 :: .row n1 e1 :: .row n2 e2 :: .row n3 e3 :: []) (.int .i64 a0 :: v1 :: v2 :: v3 :: []) :=
  (.i a0 (h1.app (h2.app (h3.app .nil))))
theorem boxStewBook {W : World} {B : Nat} {a0 : Int} {v1 : Value} {v2 : Value} {v3 : Value}  (h : W.rangeAt B 0 (.int .i64 a0 :: v1 :: v2 :: v3 :: [])) : W.cell? ⟨B, 0, none⟩ = some (.int .i64 a0) ∧ W.cell? ⟨B, 1, none⟩ = some (v1) ∧ W.cell? ⟨B, 2, none⟩ = some (v2) ∧ W.cell? ⟨B, 3, none⟩ = some (v3) := by
  obtain ⟨g0, k0⟩ := rA_cons h
  have h1 : W.rangeAt B 1 _ := k0
  obtain ⟨g1, k1⟩ := rA_cons h1
  have h2 : W.rangeAt B 2 _ := k1
  obtain ⟨g2, k2⟩ := rA_cons h2
  have h3 : W.rangeAt B 3 _ := k2
  obtain ⟨g3, k3⟩ := rA_cons h3
  have h4 : W.rangeAt B 4 _ := k3
  exact ⟨g0, g1, g2, g3⟩
theorem typHallBook {ds : List Dt} (h : Typ shHallBook ds) : ∃ a0 a1 a2 n3 e3 n4 e4 n5 e5 n6 e6 a7 n8 e8 n9 e9 n10 e10, ds = [.i a0, .i a1, .i a2, .row n3 e3, .row n4 e4, .row n5 e5, .row n6 e6, .i a7, .row n8 e8, .row n9 e9, .row n10 e10] ∧ Typ (reps n3 shGateObject) e3 ∧ Typ (reps n4 shGateGrant) e4 ∧ Typ (reps n5 shGateLedger) e5 ∧ Typ (reps n6 shGatePurse) e6 ∧ Typ (reps n8 shStewService) e8 ∧ Typ (reps n9 shStewCopy) e9 ∧ Typ (reps n10 shStewBerth) e10 := by
  obtain ⟨a0, x0, rfl, h1⟩ := h.c_i
  obtain ⟨a1, x1, rfl, h2⟩ := h1.c_i
  obtain ⟨a2, x2, rfl, h3⟩ := h2.c_i
  obtain ⟨n3, e3, x3, rfl, t3, h4⟩ := h3.c_r
  obtain ⟨n4, e4, x4, rfl, t4, h5⟩ := h4.c_r
  obtain ⟨n5, e5, x5, rfl, t5, h6⟩ := h5.c_r
  obtain ⟨n6, e6, x6, rfl, t6, h7⟩ := h6.c_r
  obtain ⟨a7, x7, rfl, h8⟩ := h7.c_i
  obtain ⟨n8, e8, x8, rfl, t8, h9⟩ := h8.c_r
  obtain ⟨n9, e9, x9, rfl, t9, h10⟩ := h9.c_r
  obtain ⟨n10, e10, x10, rfl, t10, h11⟩ := h10.c_r
  obtain rfl := h11.c_n
  exact ⟨a0, a1, a2, n3, e3, n4, e4, n5, e5, n6, e6, a7, n8, e8, n9, e9, n10, e10, rfl, t3, t4, t5, t6, t8, t9, t10⟩
theorem repHallBook {w : World} {tt : Bool} {F : List Nat} {a0 : Int} {a1 : Int} {a2 : Int} {n3 : Nat} {e3 : List Dt} {n4 : Nat} {e4 : List Dt} {n5 : Nat} {e5 : List Dt} {n6 : Nat} {e6 : List Dt} {a7 : Int} {n8 : Nat} {e8 : List Dt} {n9 : Nat} {e9 : List Dt} {n10 : Nat} {e10 : List Dt} {cs : List Value} (h : Rep w tt shHallBook F [.i a0, .i a1, .i a2, .row n3 e3, .row n4 e4, .row n5 e5, .row n6 e6, .i a7, .row n8 e8, .row n9 e9, .row n10 e10] cs) : ∃ F3 v3 F4 v4 F5 v5 F6 v6 F8 v8 F9 v9 F10 v10, F = F3 ++ (F4 ++ (F5 ++ (F6 ++ (F8 ++ (F9 ++ (F10 ++ [])))))) ∧ cs = [.int .i64 a0, .int .i64 a1, .int .i64 a2, v3, v4, v5, v6, .int .i64 a7, v8, v9, v10] ∧ Rep w tt [.row 83 shGateObject] F3 [.row n3 e3] [v3] ∧ Rep w tt [.row 61 shGateGrant] F4 [.row n4 e4] [v4] ∧ Rep w tt [.row 119 shGateLedger] F5 [.row n5 e5] [v5] ∧ Rep w tt [.row 122 shGatePurse] F6 [.row n6 e6] [v6] ∧ Rep w tt [.row 125 shStewService] F8 [.row n8 e8] [v8] ∧ Rep w tt [.row 128 shStewCopy] F9 [.row n9 e9] [v9] ∧ Rep w tt [.row 131 shStewBerth] F10 [.row n10 e10] [v10] := by
  obtain ⟨x0, rfl, h1⟩ := h.c_i
  obtain ⟨x1, rfl, h2⟩ := h1.c_i
  obtain ⟨x2, rfl, h3⟩ := h2.c_i
  obtain ⟨F3, G3, v3, x3, rfl, rfl, t3, h4⟩ := h3.c_r
  obtain ⟨F4, G4, v4, x4, rfl, rfl, t4, h5⟩ := h4.c_r
  obtain ⟨F5, G5, v5, x5, rfl, rfl, t5, h6⟩ := h5.c_r
  obtain ⟨F6, G6, v6, x6, rfl, rfl, t6, h7⟩ := h6.c_r
  obtain ⟨x7, rfl, h8⟩ := h7.c_i
  obtain ⟨F8, G8, v8, x8, rfl, rfl, t8, h9⟩ := h8.c_r
  obtain ⟨F9, G9, v9, x9, rfl, rfl, t9, h10⟩ := h9.c_r
  obtain ⟨F10, G10, v10, x10, rfl, rfl, t10, h11⟩ := h10.c_r
  obtain ⟨rfl, rfl⟩ := h11.c_n
  exact ⟨F3, v3, F4, v4, F5, v5, F6, v6, F8, v8, F9, v9, F10, v10, rfl, rfl, t3, t4, t5, t6, t8, t9, t10⟩
theorem rawHallBook {w : World} {a0 : Int} {a1 : Int} {a2 : Int} {n3 : Nat} {e3 : List Dt} {n4 : Nat} {e4 : List Dt} {n5 : Nat} {e5 : List Dt} {n6 : Nat} {e6 : List Dt} {a7 : Int} {n8 : Nat} {e8 : List Dt} {n9 : Nat} {e9 : List Dt} {n10 : Nat} {e10 : List Dt} {cs : List Value} (h : Raw w shHallBook [.i a0, .i a1, .i a2, .row n3 e3, .row n4 e4, .row n5 e5, .row n6 e6, .i a7, .row n8 e8, .row n9 e9, .row n10 e10] cs) : ∃ v3 v4 v5 v6 v8 v9 v10, cs = [.int .i64 a0, .int .i64 a1, .int .i64 a2, v3, v4, v5, v6, .int .i64 a7, v8, v9, v10] ∧ Raw w [.row 83 shGateObject] [.row n3 e3] [v3] ∧ Raw w [.row 61 shGateGrant] [.row n4 e4] [v4] ∧ Raw w [.row 119 shGateLedger] [.row n5 e5] [v5] ∧ Raw w [.row 122 shGatePurse] [.row n6 e6] [v6] ∧ Raw w [.row 125 shStewService] [.row n8 e8] [v8] ∧ Raw w [.row 128 shStewCopy] [.row n9 e9] [v9] ∧ Raw w [.row 131 shStewBerth] [.row n10 e10] [v10] := by
  obtain ⟨x0, rfl, h1⟩ := h.c_i
  obtain ⟨x1, rfl, h2⟩ := h1.c_i
  obtain ⟨x2, rfl, h3⟩ := h2.c_i
  obtain ⟨v3, x3, rfl, t3, h4⟩ := h3.c_r
  obtain ⟨v4, x4, rfl, t4, h5⟩ := h4.c_r
  obtain ⟨v5, x5, rfl, t5, h6⟩ := h5.c_r
  obtain ⟨v6, x6, rfl, t6, h7⟩ := h6.c_r
  obtain ⟨x7, rfl, h8⟩ := h7.c_i
  obtain ⟨v8, x8, rfl, t8, h9⟩ := h8.c_r
  obtain ⟨v9, x9, rfl, t9, h10⟩ := h9.c_r
  obtain ⟨v10, x10, rfl, t10, h11⟩ := h10.c_r
  obtain rfl := h11.c_n
  exact ⟨v3, v4, v5, v6, v8, v9, v10, rfl, t3, t4, t5, t6, t8, t9, t10⟩
theorem repHallBook_mk {w : World} {tt : Bool} (a0 : Int) (a1 : Int) (a2 : Int) {F3 : List Nat} {n3 : Nat} {e3 : List Dt} {v3 : Value} (h3 : Rep w tt [.row 83 shGateObject] F3 [.row n3 e3] [v3]) {F4 : List Nat} {n4 : Nat} {e4 : List Dt} {v4 : Value} (h4 : Rep w tt [.row 61 shGateGrant] F4 [.row n4 e4] [v4]) {F5 : List Nat} {n5 : Nat} {e5 : List Dt} {v5 : Value} (h5 : Rep w tt [.row 119 shGateLedger] F5 [.row n5 e5] [v5]) {F6 : List Nat} {n6 : Nat} {e6 : List Dt} {v6 : Value} (h6 : Rep w tt [.row 122 shGatePurse] F6 [.row n6 e6] [v6]) (a7 : Int) {F8 : List Nat} {n8 : Nat} {e8 : List Dt} {v8 : Value} (h8 : Rep w tt [.row 125 shStewService] F8 [.row n8 e8] [v8]) {F9 : List Nat} {n9 : Nat} {e9 : List Dt} {v9 : Value} (h9 : Rep w tt [.row 128 shStewCopy] F9 [.row n9 e9] [v9]) {F10 : List Nat} {n10 : Nat} {e10 : List Dt} {v10 : Value} (h10 : Rep w tt [.row 131 shStewBerth] F10 [.row n10 e10] [v10]) : Rep w tt shHallBook (F3 ++ (F4 ++ (F5 ++ (F6 ++ (F8 ++ (F9 ++ (F10 ++ []))))))) [.i a0, .i a1, .i a2, .row n3 e3, .row n4 e4, .row n5 e5, .row n6 e6, .i a7, .row n8 e8, .row n9 e9, .row n10 e10] [.int .i64 a0, .int .i64 a1, .int .i64 a2, v3, v4, v5, v6, .int .i64 a7, v8, v9, v10] :=
  (.i a0 (.i a1 (.i a2 (h3.app (h4.app (h5.app (h6.app (.i a7 (h8.app (h9.app (h10.app .nil)))))))))))
theorem rawHallBook_mk {w : World} (a0 : Int) (a1 : Int) (a2 : Int) {n3 : Nat} {e3 : List Dt} {v3 : Value} (h3 : Raw w [.row 83 shGateObject] [.row n3 e3] [v3]) {n4 : Nat} {e4 : List Dt} {v4 : Value} (h4 : Raw w [.row 61 shGateGrant] [.row n4 e4] [v4]) {n5 : Nat} {e5 : List Dt} {v5 : Value} (h5 : Raw w [.row 119 shGateLedger] [.row n5 e5] [v5]) {n6 : Nat} {e6 : List Dt} {v6 : Value} (h6 : Raw w [.row 122 shGatePurse] [.row n6 e6] [v6]) (a7 : Int) {n8 : Nat} {e8 : List Dt} {v8 : Value} (h8 : Raw w [.row 125 shStewService] [.row n8 e8] [v8]) {n9 : Nat} {e9 : List Dt} {v9 : Value} (h9 : Raw w [.row 128 shStewCopy] [.row n9 e9] [v9]) {n10 : Nat} {e10 : List Dt} {v10 : Value} (h10 : Raw w [.row 131 shStewBerth] [.row n10 e10] [v10]) : Raw w shHallBook [.i a0, .i a1, .i a2, .row n3 e3, .row n4 e4, .row n5 e5, .row n6 e6, .i a7, .row n8 e8, .row n9 e9, .row n10 e10] [.int .i64 a0, .int .i64 a1, .int .i64 a2, v3, v4, v5, v6, .int .i64 a7, v8, v9, v10] :=
  (.i a0 (.i a1 (.i a2 (h3.app (h4.app (h5.app (h6.app (.i a7 (h8.app (h9.app (h10.app .nil)))))))))))
theorem segTypHallBook {ds : List Dt} (h : Typ shHallBook ds) : ∃ (d0 : List Dt) (d1 : List Dt), ds = (d0 ++ ((d1 ++ ([])))) ∧ Typ shGateBook d0 ∧ Typ shStewBook d1 := by
  obtain ⟨d0, x0, rfl, t0, h1⟩ := Typ.cut shGateBook h
  obtain ⟨d1, x1, rfl, t1, h2⟩ := Typ.cut shStewBook h1
  obtain rfl := h2.c_n
  exact ⟨d0, d1, rfl, t0, t1⟩
theorem segRepHallBook {w : World} {tt : Bool} {F : List Nat} {ds : List Dt} {cs : List Value} (h : Rep w tt shHallBook F ds cs) : ∃ (F0 : List Nat) (d0 : List Dt) (c0 : List Value) (F1 : List Nat) (d1 : List Dt) (c1 : List Value), F = (F0 ++ (F1 ++ [])) ∧ ds = (d0 ++ ((d1 ++ ([])))) ∧ cs = (c0 ++ ((c1 ++ ([])))) ∧ Rep w tt shGateBook F0 d0 c0 ∧ Rep w tt shStewBook F1 d1 c1 := by
  obtain ⟨d0, d1, rfl, tt0, tt1⟩ := segTypHallBook h.raw.typ
  obtain ⟨F0, G0, c0, x0, rfl, rfl, t0, h1⟩ := Rep.cut2 h tt0
  obtain ⟨F1, G1, c1, x1, rfl, rfl, t1, h2⟩ := Rep.cut2 h1 tt1
  obtain ⟨rfl, rfl⟩ := h2.c_n
  exact ⟨F0, d0, c0, F1, d1, c1, rfl, rfl, rfl, t0, t1⟩
theorem segRawHallBook {w : World} {ds : List Dt} {cs : List Value} (h : Raw w shHallBook ds cs) : ∃ (d0 : List Dt) (c0 : List Value) (d1 : List Dt) (c1 : List Value), ds = (d0 ++ ((d1 ++ ([])))) ∧ cs = (c0 ++ ((c1 ++ ([])))) ∧ Raw w shGateBook d0 c0 ∧ Raw w shStewBook d1 c1 := by
  obtain ⟨d0, d1, rfl, tt0, tt1⟩ := segTypHallBook h.typ
  obtain ⟨c0, x0, rfl, t0, h1⟩ := Raw.cut2 h tt0
  obtain ⟨c1, x1, rfl, t1, h2⟩ := Raw.cut2 h1 tt1
  obtain rfl := h2.c_n
  exact ⟨d0, c0, d1, c1, rfl, rfl, t0, t1⟩
theorem segRepHallBook_mk {w : World} {tt : Bool} {F0 : List Nat} {d0 : List Dt} {c0 : List Value} (h0 : Rep w tt shGateBook F0 d0 c0) {F1 : List Nat} {d1 : List Dt} {c1 : List Value} (h1 : Rep w tt shStewBook F1 d1 c1) : Rep w tt shHallBook (F0 ++ (F1 ++ [])) ((d0 ++ ((d1 ++ ([]))))) ((c0 ++ ((c1 ++ ([]))))) :=
  (h0.app (h1.app .nil))
theorem segRawHallBook_mk {w : World} {d0 : List Dt} {c0 : List Value} (h0 : Raw w shGateBook d0 c0) {d1 : List Dt} {c1 : List Value} (h1 : Raw w shStewBook d1 c1) : Raw w shHallBook ((d0 ++ ((d1 ++ ([]))))) ((c0 ++ ((c1 ++ ([]))))) :=
  (h0.app (h1.app .nil))
theorem boxHallBook {W : World} {B : Nat} {c0 : List Value} {c1 : List Value} (l0 : c0.length = 7) (l1 : c1.length = 4) (h : W.rangeAt B 0 ((c0 ++ ((c1 ++ ([])))))) : W.rangeAt B 0 c0 ∧ W.rangeAt B 7 c1 := by
  obtain ⟨g0, k0⟩ := rA_cut h
  rw [l0] at k0
  have h1 : W.rangeAt B 7 _ := k0
  obtain ⟨g1, k1⟩ := rA_cut h1
  rw [l1] at k1
  have h2 : W.rangeAt B 11 _ := k1
  exact ⟨g0, g1⟩
end Go.Proofs.Ytkehaeppnmlafaa
