/-
  The shapes of an object and of a service.
-/
import Derived.Test.YtiiahpegdpbkgaaUB
namespace Go.Proofs.Ytiiahpegdpbkgaa
open Go.RowKit Go.Deep

abbrev shGateObject : List Sh := [.s, .s, .s, .row 9 [.s], .b, .row 9 [.s], .i]
abbrev shStewService : List Sh := [.s, .i, .b, .i, .i, .i, .i, .i, .i, .i, .i, .i, .i]
theorem typN1 {ds : List Dt} (h : Typ [.i] ds) : ∃ a0, ds = [.i a0] := by
  obtain ⟨a0, x0, rfl, h1⟩ := h.c_i
  obtain rfl := h1.c_n
  exact ⟨a0, rfl⟩
theorem repN1 {w : World} {tt : Bool} {F : List Nat} {a0 : Int} {cs : List Value} (h : Rep w tt [.i] F [.i a0] cs) : F = [] ∧ cs = [.int .i64 a0] := by
  obtain ⟨x0, rfl, h1⟩ := h.c_i
  obtain ⟨rfl, rfl⟩ := h1.c_n
  exact ⟨rfl, rfl⟩
theorem rawN1 {w : World} {a0 : Int} {cs : List Value} (h : Raw w [.i] [.i a0] cs) : cs = [.int .i64 a0] := by
  obtain ⟨x0, rfl, h1⟩ := h.c_i
  obtain rfl := h1.c_n
  exact rfl
theorem repN1_mk {w : World} {tt : Bool} (a0 : Int) : Rep w tt [.i] ([]) [.i a0] [.int .i64 a0] :=
  (.i a0 .nil)
theorem rawN1_mk {w : World} (a0 : Int) : Raw w [.i] [.i a0] [.int .i64 a0] :=
  (.i a0 .nil)
theorem typT1 {ds : List Dt} (h : Typ [.s] ds) : ∃ a0, ds = [.s a0] := by
  obtain ⟨a0, x0, rfl, h1⟩ := h.c_s
  obtain rfl := h1.c_n
  exact ⟨a0, rfl⟩
theorem repT1 {w : World} {tt : Bool} {F : List Nat} {a0 : ByteArray} {cs : List Value} (h : Rep w tt [.s] F [.s a0] cs) : F = [] ∧ cs = [.string a0] := by
  obtain ⟨x0, rfl, h1⟩ := h.c_s
  obtain ⟨rfl, rfl⟩ := h1.c_n
  exact ⟨rfl, rfl⟩
theorem rawT1 {w : World} {a0 : ByteArray} {cs : List Value} (h : Raw w [.s] [.s a0] cs) : cs = [.string a0] := by
  obtain ⟨x0, rfl, h1⟩ := h.c_s
  obtain rfl := h1.c_n
  exact rfl
theorem repT1_mk {w : World} {tt : Bool} (a0 : ByteArray) : Rep w tt [.s] ([]) [.s a0] [.string a0] :=
  (.s a0 .nil)
theorem rawT1_mk {w : World} (a0 : ByteArray) : Raw w [.s] [.s a0] [.string a0] :=
  (.s a0 .nil)
theorem typGateObject {ds : List Dt} (h : Typ shGateObject ds) : ∃ a0 a1 a2 n3 e3 a4 n5 e5 a6, ds = [.s a0, .s a1, .s a2, .row n3 e3, .b a4, .row n5 e5, .i a6] ∧ Typ (reps n3 [.s]) e3 ∧ Typ (reps n5 [.s]) e5 := by
  obtain ⟨a0, x0, rfl, h1⟩ := h.c_s
  obtain ⟨a1, x1, rfl, h2⟩ := h1.c_s
  obtain ⟨a2, x2, rfl, h3⟩ := h2.c_s
  obtain ⟨n3, e3, x3, rfl, t3, h4⟩ := h3.c_r
  obtain ⟨a4, x4, rfl, h5⟩ := h4.c_b
  obtain ⟨n5, e5, x5, rfl, t5, h6⟩ := h5.c_r
  obtain ⟨a6, x6, rfl, h7⟩ := h6.c_i
  obtain rfl := h7.c_n
  exact ⟨a0, a1, a2, n3, e3, a4, n5, e5, a6, rfl, t3, t5⟩
theorem repGateObject {w : World} {tt : Bool} {F : List Nat} {a0 : ByteArray} {a1 : ByteArray} {a2 : ByteArray} {n3 : Nat} {e3 : List Dt} {a4 : Bool} {n5 : Nat} {e5 : List Dt} {a6 : Int} {cs : List Value} (h : Rep w tt shGateObject F [.s a0, .s a1, .s a2, .row n3 e3, .b a4, .row n5 e5, .i a6] cs) : ∃ F3 v3 F5 v5, F = F3 ++ (F5 ++ []) ∧ cs = [.string a0, .string a1, .string a2, v3, .bool a4, v5, .int .i64 a6] ∧ Rep w tt [.row 9 [.s]] F3 [.row n3 e3] [v3] ∧ Rep w tt [.row 9 [.s]] F5 [.row n5 e5] [v5] := by
  obtain ⟨x0, rfl, h1⟩ := h.c_s
  obtain ⟨x1, rfl, h2⟩ := h1.c_s
  obtain ⟨x2, rfl, h3⟩ := h2.c_s
  obtain ⟨F3, G3, v3, x3, rfl, rfl, t3, h4⟩ := h3.c_r
  obtain ⟨x4, rfl, h5⟩ := h4.c_b
  obtain ⟨F5, G5, v5, x5, rfl, rfl, t5, h6⟩ := h5.c_r
  obtain ⟨x6, rfl, h7⟩ := h6.c_i
  obtain ⟨rfl, rfl⟩ := h7.c_n
  exact ⟨F3, v3, F5, v5, rfl, rfl, t3, t5⟩
theorem rawGateObject {w : World} {a0 : ByteArray} {a1 : ByteArray} {a2 : ByteArray} {n3 : Nat} {e3 : List Dt} {a4 : Bool} {n5 : Nat} {e5 : List Dt} {a6 : Int} {cs : List Value} (h : Raw w shGateObject [.s a0, .s a1, .s a2, .row n3 e3, .b a4, .row n5 e5, .i a6] cs) : ∃ v3 v5, cs = [.string a0, .string a1, .string a2, v3, .bool a4, v5, .int .i64 a6] ∧ Raw w [.row 9 [.s]] [.row n3 e3] [v3] ∧ Raw w [.row 9 [.s]] [.row n5 e5] [v5] := by
  obtain ⟨x0, rfl, h1⟩ := h.c_s
  obtain ⟨x1, rfl, h2⟩ := h1.c_s
  obtain ⟨x2, rfl, h3⟩ := h2.c_s
  obtain ⟨v3, x3, rfl, t3, h4⟩ := h3.c_r
  obtain ⟨x4, rfl, h5⟩ := h4.c_b
  obtain ⟨v5, x5, rfl, t5, h6⟩ := h5.c_r
  obtain ⟨x6, rfl, h7⟩ := h6.c_i
  obtain rfl := h7.c_n
  exact ⟨v3, v5, rfl, t3, t5⟩
theorem repGateObject_mk {w : World} {tt : Bool} (a0 : ByteArray) (a1 : ByteArray) (a2 : ByteArray) {F3 : List Nat} {n3 : Nat} {e3 : List Dt} {v3 : Value} (h3 : Rep w tt [.row 9 [.s]] F3 [.row n3 e3] [v3]) (a4 : Bool) {F5 : List Nat} {n5 : Nat} {e5 : List Dt} {v5 : Value} (h5 : Rep w tt [.row 9 [.s]] F5 [.row n5 e5] [v5]) (a6 : Int) : Rep w tt shGateObject (F3 ++ (F5 ++ [])) [.s a0, .s a1, .s a2, .row n3 e3, .b a4, .row n5 e5, .i a6] [.string a0, .string a1, .string a2, v3, .bool a4, v5, .int .i64 a6] :=
  (.s a0 (.s a1 (.s a2 (h3.app (.b a4 (h5.app (.i a6 .nil)))))))
theorem rawGateObject_mk {w : World} (a0 : ByteArray) (a1 : ByteArray) (a2 : ByteArray) {n3 : Nat} {e3 : List Dt} {v3 : Value} (h3 : Raw w [.row 9 [.s]] [.row n3 e3] [v3]) (a4 : Bool) {n5 : Nat} {e5 : List Dt} {v5 : Value} (h5 : Raw w [.row 9 [.s]] [.row n5 e5] [v5]) (a6 : Int) : Raw w shGateObject [.s a0, .s a1, .s a2, .row n3 e3, .b a4, .row n5 e5, .i a6] [.string a0, .string a1, .string a2, v3, .bool a4, v5, .int .i64 a6] :=
  (.s a0 (.s a1 (.s a2 (h3.app (.b a4 (h5.app (.i a6 .nil)))))))
theorem segTypGateObject {ds : List Dt} (h : Typ shGateObject ds) : ∃ (a0 : ByteArray) (a1 : ByteArray) (a2 : ByteArray) (n3 : Nat) (e3 : List Dt) (a4 : Bool) (n5 : Nat) (e5 : List Dt) (a6 : Int), ds = .s a0 :: .s a1 :: .s a2 :: .row n3 e3 :: .b a4 :: .row n5 e5 :: .i a6 :: [] ∧ Typ (reps n3 [.s]) e3 ∧ Typ (reps n5 [.s]) e5 := by
  obtain ⟨a0, x0, rfl, h1⟩ := h.c_s
  obtain ⟨a1, x1, rfl, h2⟩ := h1.c_s
  obtain ⟨a2, x2, rfl, h3⟩ := h2.c_s
  obtain ⟨n3, e3, x3, rfl, t3, h4⟩ := h3.c_r
  obtain ⟨a4, x4, rfl, h5⟩ := h4.c_b
  obtain ⟨n5, e5, x5, rfl, t5, h6⟩ := h5.c_r
  obtain ⟨a6, x6, rfl, h7⟩ := h6.c_i
  obtain rfl := h7.c_n
  exact ⟨a0, a1, a2, n3, e3, a4, n5, e5, a6, rfl, t3, t5⟩
theorem segRepGateObject {w : World} {tt : Bool} {F : List Nat} {ds : List Dt} {cs : List Value} (h : Rep w tt shGateObject F ds cs) : ∃ (a0 : ByteArray) (a1 : ByteArray) (a2 : ByteArray) (F3 : List Nat) (n3 : Nat) (e3 : List Dt) (v3 : Value) (a4 : Bool) (F5 : List Nat) (n5 : Nat) (e5 : List Dt) (v5 : Value) (a6 : Int), F = (F3 ++ (F5 ++ [])) ∧ ds = .s a0 :: .s a1 :: .s a2 :: .row n3 e3 :: .b a4 :: .row n5 e5 :: .i a6 :: [] ∧ cs = .string a0 :: .string a1 :: .string a2 :: v3 :: .bool a4 :: v5 :: .int .i64 a6 :: [] ∧ Rep w tt [.row 9 [.s]] F3 [.row n3 e3] [v3] ∧ Rep w tt [.row 9 [.s]] F5 [.row n5 e5] [v5] := by
  obtain ⟨a0, a1, a2, n3, e3, a4, n5, e5, a6, rfl, tt3, tt5⟩ := segTypGateObject h.raw.typ
  obtain ⟨x0, rfl, h1⟩ := h.c_s
  obtain ⟨x1, rfl, h2⟩ := h1.c_s
  obtain ⟨x2, rfl, h3⟩ := h2.c_s
  obtain ⟨F3, G3, v3, x3, rfl, rfl, t3, h4⟩ := h3.c_r
  obtain ⟨x4, rfl, h5⟩ := h4.c_b
  obtain ⟨F5, G5, v5, x5, rfl, rfl, t5, h6⟩ := h5.c_r
  obtain ⟨x6, rfl, h7⟩ := h6.c_i
  obtain ⟨rfl, rfl⟩ := h7.c_n
  exact ⟨a0, a1, a2, F3, n3, e3, v3, a4, F5, n5, e5, v5, a6, rfl, rfl, rfl, t3, t5⟩
theorem segRawGateObject {w : World} {ds : List Dt} {cs : List Value} (h : Raw w shGateObject ds cs) : ∃ (a0 : ByteArray) (a1 : ByteArray) (a2 : ByteArray) (n3 : Nat) (e3 : List Dt) (v3 : Value) (a4 : Bool) (n5 : Nat) (e5 : List Dt) (v5 : Value) (a6 : Int), ds = .s a0 :: .s a1 :: .s a2 :: .row n3 e3 :: .b a4 :: .row n5 e5 :: .i a6 :: [] ∧ cs = .string a0 :: .string a1 :: .string a2 :: v3 :: .bool a4 :: v5 :: .int .i64 a6 :: [] ∧ Raw w [.row 9 [.s]] [.row n3 e3] [v3] ∧ Raw w [.row 9 [.s]] [.row n5 e5] [v5] := by
  obtain ⟨a0, a1, a2, n3, e3, a4, n5, e5, a6, rfl, tt3, tt5⟩ := segTypGateObject h.typ
  obtain ⟨x0, rfl, h1⟩ := h.c_s
  obtain ⟨x1, rfl, h2⟩ := h1.c_s
  obtain ⟨x2, rfl, h3⟩ := h2.c_s
  obtain ⟨v3, x3, rfl, t3, h4⟩ := h3.c_r
  obtain ⟨x4, rfl, h5⟩ := h4.c_b
  obtain ⟨v5, x5, rfl, t5, h6⟩ := h5.c_r
  obtain ⟨x6, rfl, h7⟩ := h6.c_i
  obtain rfl := h7.c_n
  exact ⟨a0, a1, a2, n3, e3, v3, a4, n5, e5, v5, a6, rfl, rfl, t3, t5⟩
theorem segRepGateObject_mk {w : World} {tt : Bool} (a0 : ByteArray) (a1 : ByteArray) (a2 : ByteArray) {F3 : List Nat} {n3 : Nat} {e3 : List Dt} {v3 : Value} (h3 : Rep w tt [.row 9 [.s]] F3 [.row n3 e3] [v3]) (a4 : Bool) {F5 : List Nat} {n5 : Nat} {e5 : List Dt} {v5 : Value} (h5 : Rep w tt [.row 9 [.s]] F5 [.row n5 e5] [v5]) (a6 : Int) : Rep w tt shGateObject (F3 ++ (F5 ++ [])) (.s a0 :: .s a1 :: .s a2 :: .row n3 e3 :: .b a4 :: .row n5 e5 :: .i a6 :: []) (.string a0 :: .string a1 :: .string a2 :: v3 :: .bool a4 :: v5 :: .int .i64 a6 :: []) :=
  (.s a0 (.s a1 (.s a2 (h3.app (.b a4 (h5.app (.i a6 .nil)))))))
theorem segRawGateObject_mk {w : World} (a0 : ByteArray) (a1 : ByteArray) (a2 : ByteArray) {n3 : Nat} {e3 : List Dt} {v3 : Value} (h3 : Raw w [.row 9 [.s]] [.row n3 e3] [v3]) (a4 : Bool) {n5 : Nat} {e5 : List Dt} {v5 : Value} (h5 : Raw w [.row 9 [.s]] [.row n5 e5] [v5]) (a6 : Int) : Raw w shGateObject (.s a0 :: .s a1 :: .s a2 :: .row n3 e3 :: .b a4 :: .row n5 e5 :: .i a6 :: []) (.string a0 :: .string a1 :: .string a2 :: v3 :: .bool a4 :: v5 :: .int .i64 a6 :: []) :=
  (.s a0 (.s a1 (.s a2 (h3.app (.b a4 (h5.app (.i a6 .nil)))))))
theorem boxGateObject {W : World} {B : Nat} {a0 : ByteArray} {a1 : ByteArray} {a2 : ByteArray} {v3 : Value} {a4 : Bool} {v5 : Value} {a6 : Int}  (h : W.rangeAt B 0 (.string a0 :: .string a1 :: .string a2 :: v3 :: .bool a4 :: v5 :: .int .i64 a6 :: [])) : W.cell? ⟨B, 0, none⟩ = some (.string a0) ∧ W.cell? ⟨B, 1, none⟩ = some (.string a1) ∧ W.cell? ⟨B, 2, none⟩ = some (.string a2) ∧ W.cell? ⟨B, 3, none⟩ = some (v3) ∧ W.cell? ⟨B, 4, none⟩ = some (.bool a4) ∧ W.cell? ⟨B, 5, none⟩ = some (v5) ∧ W.cell? ⟨B, 6, none⟩ = some (.int .i64 a6) := by
  obtain ⟨g0, k0⟩ := rA_cons h
  have h1 : W.rangeAt B 1 _ := k0
  obtain ⟨g1, k1⟩ := rA_cons h1
  have h2 : W.rangeAt B 2 _ := k1
  obtain ⟨g2, k2⟩ := rA_cons h2
  have h3 : W.rangeAt B 3 _ := k2
  obtain ⟨g3, k3⟩ := rA_cons h3
  have h4 : W.rangeAt B 4 _ := k3
  obtain ⟨g4, k4⟩ := rA_cons h4
  have h5 : W.rangeAt B 5 _ := k4
  obtain ⟨g5, k5⟩ := rA_cons h5
  have h6 : W.rangeAt B 6 _ := k5
  obtain ⟨g6, k6⟩ := rA_cons h6
  have h7 : W.rangeAt B 7 _ := k6
  exact ⟨g0, g1, g2, g3, g4, g5, g6⟩
theorem typStewService {ds : List Dt} (h : Typ shStewService ds) : ∃ a0 a1 a2 a3 a4 a5 a6 a7 a8 a9 a10 a11 a12, ds = [.s a0, .i a1, .b a2, .i a3, .i a4, .i a5, .i a6, .i a7, .i a8, .i a9, .i a10, .i a11, .i a12] := by
  obtain ⟨a0, x0, rfl, h1⟩ := h.c_s
  obtain ⟨a1, x1, rfl, h2⟩ := h1.c_i
  obtain ⟨a2, x2, rfl, h3⟩ := h2.c_b
  obtain ⟨a3, x3, rfl, h4⟩ := h3.c_i
  obtain ⟨a4, x4, rfl, h5⟩ := h4.c_i
  obtain ⟨a5, x5, rfl, h6⟩ := h5.c_i
  obtain ⟨a6, x6, rfl, h7⟩ := h6.c_i
  obtain ⟨a7, x7, rfl, h8⟩ := h7.c_i
  obtain ⟨a8, x8, rfl, h9⟩ := h8.c_i
  obtain ⟨a9, x9, rfl, h10⟩ := h9.c_i
  obtain ⟨a10, x10, rfl, h11⟩ := h10.c_i
  obtain ⟨a11, x11, rfl, h12⟩ := h11.c_i
  obtain ⟨a12, x12, rfl, h13⟩ := h12.c_i
  obtain rfl := h13.c_n
  exact ⟨a0, a1, a2, a3, a4, a5, a6, a7, a8, a9, a10, a11, a12, rfl⟩
theorem repStewService {w : World} {tt : Bool} {F : List Nat} {a0 : ByteArray} {a1 : Int} {a2 : Bool} {a3 : Int} {a4 : Int} {a5 : Int} {a6 : Int} {a7 : Int} {a8 : Int} {a9 : Int} {a10 : Int} {a11 : Int} {a12 : Int} {cs : List Value} (h : Rep w tt shStewService F [.s a0, .i a1, .b a2, .i a3, .i a4, .i a5, .i a6, .i a7, .i a8, .i a9, .i a10, .i a11, .i a12] cs) : F = [] ∧ cs = [.string a0, .int .i64 a1, .bool a2, .int .i64 a3, .int .i64 a4, .int .i64 a5, .int .i64 a6, .int .i64 a7, .int .i64 a8, .int .i64 a9, .int .i64 a10, .int .i64 a11, .int .i64 a12] := by
  obtain ⟨x0, rfl, h1⟩ := h.c_s
  obtain ⟨x1, rfl, h2⟩ := h1.c_i
  obtain ⟨x2, rfl, h3⟩ := h2.c_b
  obtain ⟨x3, rfl, h4⟩ := h3.c_i
  obtain ⟨x4, rfl, h5⟩ := h4.c_i
  obtain ⟨x5, rfl, h6⟩ := h5.c_i
  obtain ⟨x6, rfl, h7⟩ := h6.c_i
  obtain ⟨x7, rfl, h8⟩ := h7.c_i
  obtain ⟨x8, rfl, h9⟩ := h8.c_i
  obtain ⟨x9, rfl, h10⟩ := h9.c_i
  obtain ⟨x10, rfl, h11⟩ := h10.c_i
  obtain ⟨x11, rfl, h12⟩ := h11.c_i
  obtain ⟨x12, rfl, h13⟩ := h12.c_i
  obtain ⟨rfl, rfl⟩ := h13.c_n
  exact ⟨rfl, rfl⟩
theorem rawStewService {w : World} {a0 : ByteArray} {a1 : Int} {a2 : Bool} {a3 : Int} {a4 : Int} {a5 : Int} {a6 : Int} {a7 : Int} {a8 : Int} {a9 : Int} {a10 : Int} {a11 : Int} {a12 : Int} {cs : List Value} (h : Raw w shStewService [.s a0, .i a1, .b a2, .i a3, .i a4, .i a5, .i a6, .i a7, .i a8, .i a9, .i a10, .i a11, .i a12] cs) : cs = [.string a0, .int .i64 a1, .bool a2, .int .i64 a3, .int .i64 a4, .int .i64 a5, .int .i64 a6, .int .i64 a7, .int .i64 a8, .int .i64 a9, .int .i64 a10, .int .i64 a11, .int .i64 a12] := by
  obtain ⟨x0, rfl, h1⟩ := h.c_s
  obtain ⟨x1, rfl, h2⟩ := h1.c_i
  obtain ⟨x2, rfl, h3⟩ := h2.c_b
  obtain ⟨x3, rfl, h4⟩ := h3.c_i
  obtain ⟨x4, rfl, h5⟩ := h4.c_i
  obtain ⟨x5, rfl, h6⟩ := h5.c_i
  obtain ⟨x6, rfl, h7⟩ := h6.c_i
  obtain ⟨x7, rfl, h8⟩ := h7.c_i
  obtain ⟨x8, rfl, h9⟩ := h8.c_i
  obtain ⟨x9, rfl, h10⟩ := h9.c_i
  obtain ⟨x10, rfl, h11⟩ := h10.c_i
  obtain ⟨x11, rfl, h12⟩ := h11.c_i
  obtain ⟨x12, rfl, h13⟩ := h12.c_i
  obtain rfl := h13.c_n
  exact rfl
theorem repStewService_mk {w : World} {tt : Bool} (a0 : ByteArray) (a1 : Int) (a2 : Bool) (a3 : Int) (a4 : Int) (a5 : Int) (a6 : Int) (a7 : Int) (a8 : Int) (a9 : Int) (a10 : Int) (a11 : Int) (a12 : Int) : Rep w tt shStewService ([]) [.s a0, .i a1, .b a2, .i a3, .i a4, .i a5, .i a6, .i a7, .i a8, .i a9, .i a10, .i a11, .i a12] [.string a0, .int .i64 a1, .bool a2, .int .i64 a3, .int .i64 a4, .int .i64 a5, .int .i64 a6, .int .i64 a7, .int .i64 a8, .int .i64 a9, .int .i64 a10, .int .i64 a11, .int .i64 a12] :=
  (.s a0 (.i a1 (.b a2 (.i a3 (.i a4 (.i a5 (.i a6 (.i a7 (.i a8 (.i a9 (.i a10 (.i a11 (.i a12 .nil)))))))))))))
theorem rawStewService_mk {w : World} (a0 : ByteArray) (a1 : Int) (a2 : Bool) (a3 : Int) (a4 : Int) (a5 : Int) (a6 : Int) (a7 : Int) (a8 : Int) (a9 : Int) (a10 : Int) (a11 : Int) (a12 : Int) : Raw w shStewService [.s a0, .i a1, .b a2, .i a3, .i a4, .i a5, .i a6, .i a7, .i a8, .i a9, .i a10, .i a11, .i a12] [.string a0, .int .i64 a1, .bool a2, .int .i64 a3, .int .i64 a4, .int .i64 a5, .int .i64 a6, .int .i64 a7, .int .i64 a8, .int .i64 a9, .int .i64 a10, .int .i64 a11, .int .i64 a12] :=
  (.s a0 (.i a1 (.b a2 (.i a3 (.i a4 (.i a5 (.i a6 (.i a7 (.i a8 (.i a9 (.i a10 (.i a11 (.i a12 .nil)))))))))))))
theorem segTypStewService {ds : List Dt} (h : Typ shStewService ds) : ∃ (a0 : ByteArray) (a1 : Int) (a2 : Bool) (a3 : Int) (a4 : Int) (a5 : Int) (a6 : Int) (a7 : Int) (a8 : Int) (a9 : Int) (a10 : Int) (a11 : Int) (a12 : Int), ds = .s a0 :: .i a1 :: .b a2 :: .i a3 :: .i a4 :: .i a5 :: .i a6 :: .i a7 :: .i a8 :: .i a9 :: .i a10 :: .i a11 :: .i a12 :: [] := by
  obtain ⟨a0, x0, rfl, h1⟩ := h.c_s
  obtain ⟨a1, x1, rfl, h2⟩ := h1.c_i
  obtain ⟨a2, x2, rfl, h3⟩ := h2.c_b
  obtain ⟨a3, x3, rfl, h4⟩ := h3.c_i
  obtain ⟨a4, x4, rfl, h5⟩ := h4.c_i
  obtain ⟨a5, x5, rfl, h6⟩ := h5.c_i
  obtain ⟨a6, x6, rfl, h7⟩ := h6.c_i
  obtain ⟨a7, x7, rfl, h8⟩ := h7.c_i
  obtain ⟨a8, x8, rfl, h9⟩ := h8.c_i
  obtain ⟨a9, x9, rfl, h10⟩ := h9.c_i
  obtain ⟨a10, x10, rfl, h11⟩ := h10.c_i
  obtain ⟨a11, x11, rfl, h12⟩ := h11.c_i
  obtain ⟨a12, x12, rfl, h13⟩ := h12.c_i
  obtain rfl := h13.c_n
  exact ⟨a0, a1, a2, a3, a4, a5, a6, a7, a8, a9, a10, a11, a12, rfl⟩
theorem segRepStewService {w : World} {tt : Bool} {F : List Nat} {ds : List Dt} {cs : List Value} (h : Rep w tt shStewService F ds cs) : ∃ (a0 : ByteArray) (a1 : Int) (a2 : Bool) (a3 : Int) (a4 : Int) (a5 : Int) (a6 : Int) (a7 : Int) (a8 : Int) (a9 : Int) (a10 : Int) (a11 : Int) (a12 : Int), F = [] ∧ ds = .s a0 :: .i a1 :: .b a2 :: .i a3 :: .i a4 :: .i a5 :: .i a6 :: .i a7 :: .i a8 :: .i a9 :: .i a10 :: .i a11 :: .i a12 :: [] ∧ cs = .string a0 :: .int .i64 a1 :: .bool a2 :: .int .i64 a3 :: .int .i64 a4 :: .int .i64 a5 :: .int .i64 a6 :: .int .i64 a7 :: .int .i64 a8 :: .int .i64 a9 :: .int .i64 a10 :: .int .i64 a11 :: .int .i64 a12 :: [] := by
  obtain ⟨a0, a1, a2, a3, a4, a5, a6, a7, a8, a9, a10, a11, a12, rfl⟩ := segTypStewService h.raw.typ
  obtain ⟨x0, rfl, h1⟩ := h.c_s
  obtain ⟨x1, rfl, h2⟩ := h1.c_i
  obtain ⟨x2, rfl, h3⟩ := h2.c_b
  obtain ⟨x3, rfl, h4⟩ := h3.c_i
  obtain ⟨x4, rfl, h5⟩ := h4.c_i
  obtain ⟨x5, rfl, h6⟩ := h5.c_i
  obtain ⟨x6, rfl, h7⟩ := h6.c_i
  obtain ⟨x7, rfl, h8⟩ := h7.c_i
  obtain ⟨x8, rfl, h9⟩ := h8.c_i
  obtain ⟨x9, rfl, h10⟩ := h9.c_i
  obtain ⟨x10, rfl, h11⟩ := h10.c_i
  obtain ⟨x11, rfl, h12⟩ := h11.c_i
  obtain ⟨x12, rfl, h13⟩ := h12.c_i
  obtain ⟨rfl, rfl⟩ := h13.c_n
  exact ⟨a0, a1, a2, a3, a4, a5, a6, a7, a8, a9, a10, a11, a12, rfl, rfl, rfl⟩
theorem segRawStewService {w : World} {ds : List Dt} {cs : List Value} (h : Raw w shStewService ds cs) : ∃ (a0 : ByteArray) (a1 : Int) (a2 : Bool) (a3 : Int) (a4 : Int) (a5 : Int) (a6 : Int) (a7 : Int) (a8 : Int) (a9 : Int) (a10 : Int) (a11 : Int) (a12 : Int), ds = .s a0 :: .i a1 :: .b a2 :: .i a3 :: .i a4 :: .i a5 :: .i a6 :: .i a7 :: .i a8 :: .i a9 :: .i a10 :: .i a11 :: .i a12 :: [] ∧ cs = .string a0 :: .int .i64 a1 :: .bool a2 :: .int .i64 a3 :: .int .i64 a4 :: .int .i64 a5 :: .int .i64 a6 :: .int .i64 a7 :: .int .i64 a8 :: .int .i64 a9 :: .int .i64 a10 :: .int .i64 a11 :: .int .i64 a12 :: [] := by
  obtain ⟨a0, a1, a2, a3, a4, a5, a6, a7, a8, a9, a10, a11, a12, rfl⟩ := segTypStewService h.typ
  obtain ⟨x0, rfl, h1⟩ := h.c_s
  obtain ⟨x1, rfl, h2⟩ := h1.c_i
  obtain ⟨x2, rfl, h3⟩ := h2.c_b
  obtain ⟨x3, rfl, h4⟩ := h3.c_i
  obtain ⟨x4, rfl, h5⟩ := h4.c_i
  obtain ⟨x5, rfl, h6⟩ := h5.c_i
  obtain ⟨x6, rfl, h7⟩ := h6.c_i
  obtain ⟨x7, rfl, h8⟩ := h7.c_i
  obtain ⟨x8, rfl, h9⟩ := h8.c_i
  obtain ⟨x9, rfl, h10⟩ := h9.c_i
  obtain ⟨x10, rfl, h11⟩ := h10.c_i
  obtain ⟨x11, rfl, h12⟩ := h11.c_i
  obtain ⟨x12, rfl, h13⟩ := h12.c_i
  obtain rfl := h13.c_n
  exact ⟨a0, a1, a2, a3, a4, a5, a6, a7, a8, a9, a10, a11, a12, rfl, rfl⟩
theorem segRepStewService_mk {w : World} {tt : Bool} (a0 : ByteArray) (a1 : Int) (a2 : Bool) (a3 : Int) (a4 : Int) (a5 : Int) (a6 : Int) (a7 : Int) (a8 : Int) (a9 : Int) (a10 : Int) (a11 : Int) (a12 : Int) : Rep w tt shStewService [] (.s a0 :: .i a1 :: .b a2 :: .i a3 :: .i a4 :: .i a5 :: .i a6 :: .i a7 :: .i a8 :: .i a9 :: .i a10 :: .i a11 :: .i a12 :: []) (.string a0 :: .int .i64 a1 :: .bool a2 :: .int .i64 a3 :: .int .i64 a4 :: .int .i64 a5 :: .int .i64 a6 :: .int .i64 a7 :: .int .i64 a8 :: .int .i64 a9 :: .int .i64 a10 :: .int .i64 a11 :: .int .i64 a12 :: []) :=
  (.s a0 (.i a1 (.b a2 (.i a3 (.i a4 (.i a5 (.i a6 (.i a7 (.i a8 (.i a9 (.i a10 (.i a11 (.i a12 .nil)))))))))))))
theorem segRawStewService_mk {w : World} (a0 : ByteArray) (a1 : Int) (a2 : Bool) (a3 : Int) (a4 : Int) (a5 : Int) (a6 : Int) (a7 : Int) (a8 : Int) (a9 : Int) (a10 : Int) (a11 : Int) (a12 : Int) : Raw w shStewService (.s a0 :: .i a1 :: .b a2 :: .i a3 :: .i a4 :: .i a5 :: .i a6 :: .i a7 :: .i a8 :: .i a9 :: .i a10 :: .i a11 :: .i a12 :: []) (.string a0 :: .int .i64 a1 :: .bool a2 :: .int .i64 a3 :: .int .i64 a4 :: .int .i64 a5 :: .int .i64 a6 :: .int .i64 a7 :: .int .i64 a8 :: .int .i64 a9 :: .int .i64 a10 :: .int .i64 a11 :: .int .i64 a12 :: []) :=
  (.s a0 (.i a1 (.b a2 (.i a3 (.i a4 (.i a5 (.i a6 (.i a7 (.i a8 (.i a9 (.i a10 (.i a11 (.i a12 .nil)))))))))))))
theorem boxStewService {W : World} {B : Nat} {a0 : ByteArray} {a1 : Int} {a2 : Bool} {a3 : Int} {a4 : Int} {a5 : Int} {a6 : Int} {a7 : Int} {a8 : Int} {a9 : Int} {a10 : Int} {a11 : Int} {a12 : Int}  (h : W.rangeAt B 0 (.string a0 :: .int .i64 a1 :: .bool a2 :: .int .i64 a3 :: .int .i64 a4 :: .int .i64 a5 :: .int .i64 a6 :: .int .i64 a7 :: .int .i64 a8 :: .int .i64 a9 :: .int .i64 a10 :: .int .i64 a11 :: .int .i64 a12 :: [])) : W.cell? ⟨B, 0, none⟩ = some (.string a0) ∧ W.cell? ⟨B, 1, none⟩ = some (.int .i64 a1) ∧ W.cell? ⟨B, 2, none⟩ = some (.bool a2) ∧ W.cell? ⟨B, 3, none⟩ = some (.int .i64 a3) ∧ W.cell? ⟨B, 4, none⟩ = some (.int .i64 a4) ∧ W.cell? ⟨B, 5, none⟩ = some (.int .i64 a5) ∧ W.cell? ⟨B, 6, none⟩ = some (.int .i64 a6) ∧ W.cell? ⟨B, 7, none⟩ = some (.int .i64 a7) ∧ W.cell? ⟨B, 8, none⟩ = some (.int .i64 a8) ∧ W.cell? ⟨B, 9, none⟩ = some (.int .i64 a9) ∧ W.cell? ⟨B, 10, none⟩ = some (.int .i64 a10) ∧ W.cell? ⟨B, 11, none⟩ = some (.int .i64 a11) ∧ W.cell? ⟨B, 12, none⟩ = some (.int .i64 a12) := by
  obtain ⟨g0, k0⟩ := rA_cons h
  have h1 : W.rangeAt B 1 _ := k0
  obtain ⟨g1, k1⟩ := rA_cons h1
  have h2 : W.rangeAt B 2 _ := k1
  obtain ⟨g2, k2⟩ := rA_cons h2
  have h3 : W.rangeAt B 3 _ := k2
  obtain ⟨g3, k3⟩ := rA_cons h3
  have h4 : W.rangeAt B 4 _ := k3
  obtain ⟨g4, k4⟩ := rA_cons h4
  have h5 : W.rangeAt B 5 _ := k4
  obtain ⟨g5, k5⟩ := rA_cons h5
  have h6 : W.rangeAt B 6 _ := k5
  obtain ⟨g6, k6⟩ := rA_cons h6
  have h7 : W.rangeAt B 7 _ := k6
  obtain ⟨g7, k7⟩ := rA_cons h7
  have h8 : W.rangeAt B 8 _ := k7
  obtain ⟨g8, k8⟩ := rA_cons h8
  have h9 : W.rangeAt B 9 _ := k8
  obtain ⟨g9, k9⟩ := rA_cons h9
  have h10 : W.rangeAt B 10 _ := k9
  obtain ⟨g10, k10⟩ := rA_cons h10
  have h11 : W.rangeAt B 11 _ := k10
  obtain ⟨g11, k11⟩ := rA_cons h11
  have h12 : W.rangeAt B 12 _ := k11
  obtain ⟨g12, k12⟩ := rA_cons h12
  have h13 : W.rangeAt B 13 _ := k12
  exact ⟨g0, g1, g2, g3, g4, g5, g6, g7, g8, g9, g10, g11, g12⟩
end Go.Proofs.Ytiiahpegdpbkgaa
