/-
  The shapes of what recorders are made of.
-/
import Derived.Test.YtfkkohfjkofgnaaGreatUB
namespace Go.Proofs.YtfkkohfjkofgnaaGreat
open Go.RowKit Go.Deep

abbrev shRecSlot : List Sh := [.i, .s]
abbrev shRecDisk : List Sh := [.i, .i, .row 139 shRecSlot]
abbrev shRecMessage : List Sh := [.i, .i, .i, .i, .i, .i, .s, .row 139 shRecSlot]
abbrev shRecAck : List Sh := [.i, .row 3 [.i]]
abbrev shRecorder : List Sh := [.i, .i, .b, .i, .i, .row 139 shRecSlot, .i, .i, .row 139 shRecSlot, .row 120 shRecMessage, .row 9 [.s], .b, .b, .i, .row 3 [.i], .row 139 shRecSlot, .row 141 shRecAck, .i]
theorem typN1 {ds : List Dt} (h : Typ [.i] ds) : ∃ a0, ds = [.i a0] := by
  obtain ⟨a0, x0, rfl, h1⟩ := h.c_i
  obtain rfl := h1.c_n
  exact ⟨a0, rfl⟩
theorem repN1 {w : World} {tt : Bool} {F : List Nat} {a0 : Int} {cs : List Value} (h : Rep w tt [.i] F [.i a0] cs) : F = [] ∧ cs = [.int .i64 a0] := by
  obtain ⟨x0, rfl, h1⟩ := h.c_i
  obtain ⟨rfl, rfl⟩ := h1.c_n
  exact ⟨rfl, rfl⟩
theorem rawN1 {w : World} {a0 : Int} {cs : List Value} (h : Raw w [.i] [.i a0] cs) : cs = [.int .i64 a0] := by
  obtain ⟨x0, rfl, h1⟩ := h.c_i
  obtain rfl := h1.c_n
  exact rfl
theorem repN1_mk {w : World} {tt : Bool} (a0 : Int) : Rep w tt [.i] ([]) [.i a0] [.int .i64 a0] :=
  (.i a0 .nil)
theorem rawN1_mk {w : World} (a0 : Int) : Raw w [.i] [.i a0] [.int .i64 a0] :=
  (.i a0 .nil)
theorem typT1 {ds : List Dt} (h : Typ [.s] ds) : ∃ a0, ds = [.s a0] := by
  obtain ⟨a0, x0, rfl, h1⟩ := h.c_s
  obtain rfl := h1.c_n
  exact ⟨a0, rfl⟩
theorem repT1 {w : World} {tt : Bool} {F : List Nat} {a0 : ByteArray} {cs : List Value} (h : Rep w tt [.s] F [.s a0] cs) : F = [] ∧ cs = [.string a0] := by
  obtain ⟨x0, rfl, h1⟩ := h.c_s
  obtain ⟨rfl, rfl⟩ := h1.c_n
  exact ⟨rfl, rfl⟩
theorem rawT1 {w : World} {a0 : ByteArray} {cs : List Value} (h : Raw w [.s] [.s a0] cs) : cs = [.string a0] := by
  obtain ⟨x0, rfl, h1⟩ := h.c_s
  obtain rfl := h1.c_n
  exact rfl
theorem repT1_mk {w : World} {tt : Bool} (a0 : ByteArray) : Rep w tt [.s] ([]) [.s a0] [.string a0] :=
  (.s a0 .nil)
theorem rawT1_mk {w : World} (a0 : ByteArray) : Raw w [.s] [.s a0] [.string a0] :=
  (.s a0 .nil)
theorem typRecSlot {ds : List Dt} (h : Typ shRecSlot ds) : ∃ a0 a1, ds = [.i a0, .s a1] := by
  obtain ⟨a0, x0, rfl, h1⟩ := h.c_i
  obtain ⟨a1, x1, rfl, h2⟩ := h1.c_s
  obtain rfl := h2.c_n
  exact ⟨a0, a1, rfl⟩
theorem repRecSlot {w : World} {tt : Bool} {F : List Nat} {a0 : Int} {a1 : ByteArray} {cs : List Value} (h : Rep w tt shRecSlot F [.i a0, .s a1] cs) : F = [] ∧ cs = [.int .i64 a0, .string a1] := by
  obtain ⟨x0, rfl, h1⟩ := h.c_i
  obtain ⟨x1, rfl, h2⟩ := h1.c_s
  obtain ⟨rfl, rfl⟩ := h2.c_n
  exact ⟨rfl, rfl⟩
theorem rawRecSlot {w : World} {a0 : Int} {a1 : ByteArray} {cs : List Value} (h : Raw w shRecSlot [.i a0, .s a1] cs) : cs = [.int .i64 a0, .string a1] := by
  obtain ⟨x0, rfl, h1⟩ := h.c_i
  obtain ⟨x1, rfl, h2⟩ := h1.c_s
  obtain rfl := h2.c_n
  exact rfl
theorem repRecSlot_mk {w : World} {tt : Bool} (a0 : Int) (a1 : ByteArray) : Rep w tt shRecSlot ([]) [.i a0, .s a1] [.int .i64 a0, .string a1] :=
  (.i a0 (.s a1 .nil))
theorem rawRecSlot_mk {w : World} (a0 : Int) (a1 : ByteArray) : Raw w shRecSlot [.i a0, .s a1] [.int .i64 a0, .string a1] :=
  (.i a0 (.s a1 .nil))
theorem segTypRecSlot {ds : List Dt} (h : Typ shRecSlot ds) : ∃ (a0 : Int) (a1 : ByteArray), ds = .i a0 :: .s a1 :: [] := by
  obtain ⟨a0, x0, rfl, h1⟩ := h.c_i
  obtain ⟨a1, x1, rfl, h2⟩ := h1.c_s
  obtain rfl := h2.c_n
  exact ⟨a0, a1, rfl⟩
theorem segRepRecSlot {w : World} {tt : Bool} {F : List Nat} {ds : List Dt} {cs : List Value} (h : Rep w tt shRecSlot F ds cs) : ∃ (a0 : Int) (a1 : ByteArray), F = [] ∧ ds = .i a0 :: .s a1 :: [] ∧ cs = .int .i64 a0 :: .string a1 :: [] := by
  obtain ⟨a0, a1, rfl⟩ := segTypRecSlot h.raw.typ
  obtain ⟨x0, rfl, h1⟩ := h.c_i
  obtain ⟨x1, rfl, h2⟩ := h1.c_s
  obtain ⟨rfl, rfl⟩ := h2.c_n
  exact ⟨a0, a1, rfl, rfl, rfl⟩
theorem segRawRecSlot {w : World} {ds : List Dt} {cs : List Value} (h : Raw w shRecSlot ds cs) : ∃ (a0 : Int) (a1 : ByteArray), ds = .i a0 :: .s a1 :: [] ∧ cs = .int .i64 a0 :: .string a1 :: [] := by
  obtain ⟨a0, a1, rfl⟩ := segTypRecSlot h.typ
  obtain ⟨x0, rfl, h1⟩ := h.c_i
  obtain ⟨x1, rfl, h2⟩ := h1.c_s
  obtain rfl := h2.c_n
  exact ⟨a0, a1, rfl, rfl⟩
theorem segRepRecSlot_mk {w : World} {tt : Bool} (a0 : Int) (a1 : ByteArray) : Rep w tt shRecSlot [] (.i a0 :: .s a1 :: []) (.int .i64 a0 :: .string a1 :: []) :=
  (.i a0 (.s a1 .nil))
theorem segRawRecSlot_mk {w : World} (a0 : Int) (a1 : ByteArray) : Raw w shRecSlot (.i a0 :: .s a1 :: []) (.int .i64 a0 :: .string a1 :: []) :=
  (.i a0 (.s a1 .nil))
theorem boxRecSlot {W : World} {B : Nat} {a0 : Int} {a1 : ByteArray}  (h : W.rangeAt B 0 (.int .i64 a0 :: .string a1 :: [])) : W.cell? ⟨B, 0, none⟩ = some (.int .i64 a0) ∧ W.cell? ⟨B, 1, none⟩ = some (.string a1) := by
  obtain ⟨g0, k0⟩ := rA_cons h
  have h1 : W.rangeAt B 1 _ := k0
  obtain ⟨g1, k1⟩ := rA_cons h1
  have h2 : W.rangeAt B 2 _ := k1
  exact ⟨g0, g1⟩
theorem typRecDisk {ds : List Dt} (h : Typ shRecDisk ds) : ∃ a0 a1 n2 e2, ds = [.i a0, .i a1, .row n2 e2] ∧ Typ (reps n2 shRecSlot) e2 := by
  obtain ⟨a0, x0, rfl, h1⟩ := h.c_i
  obtain ⟨a1, x1, rfl, h2⟩ := h1.c_i
  obtain ⟨n2, e2, x2, rfl, t2, h3⟩ := h2.c_r
  obtain rfl := h3.c_n
  exact ⟨a0, a1, n2, e2, rfl, t2⟩
theorem repRecDisk {w : World} {tt : Bool} {F : List Nat} {a0 : Int} {a1 : Int} {n2 : Nat} {e2 : List Dt} {cs : List Value} (h : Rep w tt shRecDisk F [.i a0, .i a1, .row n2 e2] cs) : ∃ F2 v2, F = F2 ++ [] ∧ cs = [.int .i64 a0, .int .i64 a1, v2] ∧ Rep w tt [.row 139 shRecSlot] F2 [.row n2 e2] [v2] := by
  obtain ⟨x0, rfl, h1⟩ := h.c_i
  obtain ⟨x1, rfl, h2⟩ := h1.c_i
  obtain ⟨F2, G2, v2, x2, rfl, rfl, t2, h3⟩ := h2.c_r
  obtain ⟨rfl, rfl⟩ := h3.c_n
  exact ⟨F2, v2, rfl, rfl, t2⟩
theorem rawRecDisk {w : World} {a0 : Int} {a1 : Int} {n2 : Nat} {e2 : List Dt} {cs : List Value} (h : Raw w shRecDisk [.i a0, .i a1, .row n2 e2] cs) : ∃ v2, cs = [.int .i64 a0, .int .i64 a1, v2] ∧ Raw w [.row 139 shRecSlot] [.row n2 e2] [v2] := by
  obtain ⟨x0, rfl, h1⟩ := h.c_i
  obtain ⟨x1, rfl, h2⟩ := h1.c_i
  obtain ⟨v2, x2, rfl, t2, h3⟩ := h2.c_r
  obtain rfl := h3.c_n
  exact ⟨v2, rfl, t2⟩
theorem repRecDisk_mk {w : World} {tt : Bool} (a0 : Int) (a1 : Int) {F2 : List Nat} {n2 : Nat} {e2 : List Dt} {v2 : Value} (h2 : Rep w tt [.row 139 shRecSlot] F2 [.row n2 e2] [v2]) : Rep w tt shRecDisk (F2 ++ []) [.i a0, .i a1, .row n2 e2] [.int .i64 a0, .int .i64 a1, v2] :=
  (.i a0 (.i a1 (h2.app .nil)))
theorem rawRecDisk_mk {w : World} (a0 : Int) (a1 : Int) {n2 : Nat} {e2 : List Dt} {v2 : Value} (h2 : Raw w [.row 139 shRecSlot] [.row n2 e2] [v2]) : Raw w shRecDisk [.i a0, .i a1, .row n2 e2] [.int .i64 a0, .int .i64 a1, v2] :=
  (.i a0 (.i a1 (h2.app .nil)))
theorem segTypRecDisk {ds : List Dt} (h : Typ shRecDisk ds) : ∃ (a0 : Int) (a1 : Int) (n2 : Nat) (e2 : List Dt), ds = .i a0 :: .i a1 :: .row n2 e2 :: [] ∧ Typ (reps n2 shRecSlot) e2 := by
  obtain ⟨a0, x0, rfl, h1⟩ := h.c_i
  obtain ⟨a1, x1, rfl, h2⟩ := h1.c_i
  obtain ⟨n2, e2, x2, rfl, t2, h3⟩ := h2.c_r
  obtain rfl := h3.c_n
  exact ⟨a0, a1, n2, e2, rfl, t2⟩
theorem segRepRecDisk {w : World} {tt : Bool} {F : List Nat} {ds : List Dt} {cs : List Value} (h : Rep w tt shRecDisk F ds cs) : ∃ (a0 : Int) (a1 : Int) (F2 : List Nat) (n2 : Nat) (e2 : List Dt) (v2 : Value), F = (F2 ++ []) ∧ ds = .i a0 :: .i a1 :: .row n2 e2 :: [] ∧ cs = .int .i64 a0 :: .int .i64 a1 :: v2 :: [] ∧ Rep w tt [.row 139 shRecSlot] F2 [.row n2 e2] [v2] := by
  obtain ⟨a0, a1, n2, e2, rfl, tt2⟩ := segTypRecDisk h.raw.typ
  obtain ⟨x0, rfl, h1⟩ := h.c_i
  obtain ⟨x1, rfl, h2⟩ := h1.c_i
  obtain ⟨F2, G2, v2, x2, rfl, rfl, t2, h3⟩ := h2.c_r
  obtain ⟨rfl, rfl⟩ := h3.c_n
  exact ⟨a0, a1, F2, n2, e2, v2, rfl, rfl, rfl, t2⟩
theorem segRawRecDisk {w : World} {ds : List Dt} {cs : List Value} (h : Raw w shRecDisk ds cs) : ∃ (a0 : Int) (a1 : Int) (n2 : Nat) (e2 : List Dt) (v2 : Value), ds = .i a0 :: .i a1 :: .row n2 e2 :: [] ∧ cs = .int .i64 a0 :: .int .i64 a1 :: v2 :: [] ∧ Raw w [.row 139 shRecSlot] [.row n2 e2] [v2] := by
  obtain ⟨a0, a1, n2, e2, rfl, tt2⟩ := segTypRecDisk h.typ
  obtain ⟨x0, rfl, h1⟩ := h.c_i
  obtain ⟨x1, rfl, h2⟩ := h1.c_i
  obtain ⟨v2, x2, rfl, t2, h3⟩ := h2.c_r
  obtain rfl := h3.c_n
  exact ⟨a0, a1, n2, e2, v2, rfl, rfl, t2⟩
theorem segRepRecDisk_mk {w : World} {tt : Bool} (a0 : Int) (a1 : Int) {F2 : List Nat} {n2 : Nat} {e2 : List Dt} {v2 : Value} (h2 : Rep w tt [.row 139 shRecSlot] F2 [.row n2 e2] [v2]) : Rep w tt shRecDisk (F2 ++ []) (.i a0 :: .i a1 :: .row n2 e2 :: []) (.int .i64 a0 :: .int .i64 a1 :: v2 :: []) :=
  (.i a0 (.i a1 (h2.app .nil)))
theorem segRawRecDisk_mk {w : World} (a0 : Int) (a1 : Int) {n2 : Nat} {e2 : List Dt} {v2 : Value} (h2 : Raw w [.row 139 shRecSlot] [.row n2 e2] [v2]) : Raw w shRecDisk (.i a0 :: .i a1 :: .row n2 e2 :: []) (.int .i64 a0 :: .int .i64 a1 :: v2 :: []) :=
  (.i a0 (.i a1 (h2.app .nil)))
theorem boxRecDisk {W : World} {B : Nat} {a0 : Int} {a1 : Int} {v2 : Value}  (h : W.rangeAt B 0 (.int .i64 a0 :: .int .i64 a1 :: v2 :: [])) : W.cell? ⟨B, 0, none⟩ = some (.int .i64 a0) ∧ W.cell? ⟨B, 1, none⟩ = some (.int .i64 a1) ∧ W.cell? ⟨B, 2, none⟩ = some (v2) := by
  obtain ⟨g0, k0⟩ := rA_cons h
  have h1 : W.rangeAt B 1 _ := k0
  obtain ⟨g1, k1⟩ := rA_cons h1
  have h2 : W.rangeAt B 2 _ := k1
  obtain ⟨g2, k2⟩ := rA_cons h2
  have h3 : W.rangeAt B 3 _ := k2
  exact ⟨g0, g1, g2⟩
theorem typRecMessage {ds : List Dt} (h : Typ shRecMessage ds) : ∃ a0 a1 a2 a3 a4 a5 a6 n7 e7, ds = [.i a0, .i a1, .i a2, .i a3, .i a4, .i a5, .s a6, .row n7 e7] ∧ Typ (reps n7 shRecSlot) e7 := by
  obtain ⟨a0, x0, rfl, h1⟩ := h.c_i
  obtain ⟨a1, x1, rfl, h2⟩ := h1.c_i
  obtain ⟨a2, x2, rfl, h3⟩ := h2.c_i
  obtain ⟨a3, x3, rfl, h4⟩ := h3.c_i
  obtain ⟨a4, x4, rfl, h5⟩ := h4.c_i
  obtain ⟨a5, x5, rfl, h6⟩ := h5.c_i
  obtain ⟨a6, x6, rfl, h7⟩ := h6.c_s
  obtain ⟨n7, e7, x7, rfl, t7, h8⟩ := h7.c_r
  obtain rfl := h8.c_n
  exact ⟨a0, a1, a2, a3, a4, a5, a6, n7, e7, rfl, t7⟩
theorem repRecMessage {w : World} {tt : Bool} {F : List Nat} {a0 : Int} {a1 : Int} {a2 : Int} {a3 : Int} {a4 : Int} {a5 : Int} {a6 : ByteArray} {n7 : Nat} {e7 : List Dt} {cs : List Value} (h : Rep w tt shRecMessage F [.i a0, .i a1, .i a2, .i a3, .i a4, .i a5, .s a6, .row n7 e7] cs) : ∃ F7 v7, F = F7 ++ [] ∧ cs = [.int .i64 a0, .int .i64 a1, .int .i64 a2, .int .i64 a3, .int .i64 a4, .int .i64 a5, .string a6, v7] ∧ Rep w tt [.row 139 shRecSlot] F7 [.row n7 e7] [v7] := by
  obtain ⟨x0, rfl, h1⟩ := h.c_i
  obtain ⟨x1, rfl, h2⟩ := h1.c_i
  obtain ⟨x2, rfl, h3⟩ := h2.c_i
  obtain ⟨x3, rfl, h4⟩ := h3.c_i
  obtain ⟨x4, rfl, h5⟩ := h4.c_i
  obtain ⟨x5, rfl, h6⟩ := h5.c_i
  obtain ⟨x6, rfl, h7⟩ := h6.c_s
  obtain ⟨F7, G7, v7, x7, rfl, rfl, t7, h8⟩ := h7.c_r
  obtain ⟨rfl, rfl⟩ := h8.c_n
  exact ⟨F7, v7, rfl, rfl, t7⟩
theorem rawRecMessage {w : World} {a0 : Int} {a1 : Int} {a2 : Int} {a3 : Int} {a4 : Int} {a5 : Int} {a6 : ByteArray} {n7 : Nat} {e7 : List Dt} {cs : List Value} (h : Raw w shRecMessage [.i a0, .i a1, .i a2, .i a3, .i a4, .i a5, .s a6, .row n7 e7] cs) : ∃ v7, cs = [.int .i64 a0, .int .i64 a1, .int .i64 a2, .int .i64 a3, .int .i64 a4, .int .i64 a5, .string a6, v7] ∧ Raw w [.row 139 shRecSlot] [.row n7 e7] [v7] := by
  obtain ⟨x0, rfl, h1⟩ := h.c_i
  obtain ⟨x1, rfl, h2⟩ := h1.c_i
  obtain ⟨x2, rfl, h3⟩ := h2.c_i
  obtain ⟨x3, rfl, h4⟩ := h3.c_i
  obtain ⟨x4, rfl, h5⟩ := h4.c_i
  obtain ⟨x5, rfl, h6⟩ := h5.c_i
  obtain ⟨x6, rfl, h7⟩ := h6.c_s
  obtain ⟨v7, x7, rfl, t7, h8⟩ := h7.c_r
  obtain rfl := h8.c_n
  exact ⟨v7, rfl, t7⟩
theorem repRecMessage_mk {w : World} {tt : Bool} (a0 : Int) (a1 : Int) (a2 : Int) (a3 : Int) (a4 : Int) (a5 : Int) (a6 : ByteArray) {F7 : List Nat} {n7 : Nat} {e7 : List Dt} {v7 : Value} (h7 : Rep w tt [.row 139 shRecSlot] F7 [.row n7 e7] [v7]) : Rep w tt shRecMessage (F7 ++ []) [.i a0, .i a1, .i a2, .i a3, .i a4, .i a5, .s a6, .row n7 e7] [.int .i64 a0, .int .i64 a1, .int .i64 a2, .int .i64 a3, .int .i64 a4, .int .i64 a5, .string a6, v7] :=
  (.i a0 (.i a1 (.i a2 (.i a3 (.i a4 (.i a5 (.s a6 (h7.app .nil))))))))
theorem rawRecMessage_mk {w : World} (a0 : Int) (a1 : Int) (a2 : Int) (a3 : Int) (a4 : Int) (a5 : Int) (a6 : ByteArray) {n7 : Nat} {e7 : List Dt} {v7 : Value} (h7 : Raw w [.row 139 shRecSlot] [.row n7 e7] [v7]) : Raw w shRecMessage [.i a0, .i a1, .i a2, .i a3, .i a4, .i a5, .s a6, .row n7 e7] [.int .i64 a0, .int .i64 a1, .int .i64 a2, .int .i64 a3, .int .i64 a4, .int .i64 a5, .string a6, v7] :=
  (.i a0 (.i a1 (.i a2 (.i a3 (.i a4 (.i a5 (.s a6 (h7.app .nil))))))))
theorem segTypRecMessage {ds : List Dt} (h : Typ shRecMessage ds) : ∃ (a0 : Int) (a1 : Int) (a2 : Int) (a3 : Int) (a4 : Int) (a5 : Int) (a6 : ByteArray) (n7 : Nat) (e7 : List Dt), ds = .i a0 :: .i a1 :: .i a2 :: .i a3 :: .i a4 :: .i a5 :: .s a6 :: .row n7 e7 :: [] ∧ Typ (reps n7 shRecSlot) e7 := by
  obtain ⟨a0, x0, rfl, h1⟩ := h.c_i
  obtain ⟨a1, x1, rfl, h2⟩ := h1.c_i
  obtain ⟨a2, x2, rfl, h3⟩ := h2.c_i
  obtain ⟨a3, x3, rfl, h4⟩ := h3.c_i
  obtain ⟨a4, x4, rfl, h5⟩ := h4.c_i
  obtain ⟨a5, x5, rfl, h6⟩ := h5.c_i
  obtain ⟨a6, x6, rfl, h7⟩ := h6.c_s
  obtain ⟨n7, e7, x7, rfl, t7, h8⟩ := h7.c_r
  obtain rfl := h8.c_n
  exact ⟨a0, a1, a2, a3, a4, a5, a6, n7, e7, rfl, t7⟩
theorem segRepRecMessage {w : World} {tt : Bool} {F : List Nat} {ds : List Dt} {cs : List Value} (h : Rep w tt shRecMessage F ds cs) : ∃ (a0 : Int) (a1 : Int) (a2 : Int) (a3 : Int) (a4 : Int) (a5 : Int) (a6 : ByteArray) (F7 : List Nat) (n7 : Nat) (e7 : List Dt) (v7 : Value), F = (F7 ++ []) ∧ ds = .i a0 :: .i a1 :: .i a2 :: .i a3 :: .i a4 :: .i a5 :: .s a6 :: .row n7 e7 :: [] ∧ cs = .int .i64 a0 :: .int .i64 a1 :: .int .i64 a2 :: .int .i64 a3 :: .int .i64 a4 :: .int .i64 a5 :: .string a6 :: v7 :: [] ∧ Rep w tt [.row 139 shRecSlot] F7 [.row n7 e7] [v7] := by
  obtain ⟨a0, a1, a2, a3, a4, a5, a6, n7, e7, rfl, tt7⟩ := segTypRecMessage h.raw.typ
  obtain ⟨x0, rfl, h1⟩ := h.c_i
  obtain ⟨x1, rfl, h2⟩ := h1.c_i
  obtain ⟨x2, rfl, h3⟩ := h2.c_i
  obtain ⟨x3, rfl, h4⟩ := h3.c_i
  obtain ⟨x4, rfl, h5⟩ := h4.c_i
  obtain ⟨x5, rfl, h6⟩ := h5.c_i
  obtain ⟨x6, rfl, h7⟩ := h6.c_s
  obtain ⟨F7, G7, v7, x7, rfl, rfl, t7, h8⟩ := h7.c_r
  obtain ⟨rfl, rfl⟩ := h8.c_n
  exact ⟨a0, a1, a2, a3, a4, a5, a6, F7, n7, e7, v7, rfl, rfl, rfl, t7⟩
theorem segRawRecMessage {w : World} {ds : List Dt} {cs : List Value} (h : Raw w shRecMessage ds cs) : ∃ (a0 : Int) (a1 : Int) (a2 : Int) (a3 : Int) (a4 : Int) (a5 : Int) (a6 : ByteArray) (n7 : Nat) (e7 : List Dt) (v7 : Value), ds = .i a0 :: .i a1 :: .i a2 :: .i a3 :: .i a4 :: .i a5 :: .s a6 :: .row n7 e7 :: [] ∧ cs = .int .i64 a0 :: .int .i64 a1 :: .int .i64 a2 :: .int .i64 a3 :: .int .i64 a4 :: .int .i64 a5 :: .string a6 :: v7 :: [] ∧ Raw w [.row 139 shRecSlot] [.row n7 e7] [v7] := by
  obtain ⟨a0, a1, a2, a3, a4, a5, a6, n7, e7, rfl, tt7⟩ := segTypRecMessage h.typ
  obtain ⟨x0, rfl, h1⟩ := h.c_i
  obtain ⟨x1, rfl, h2⟩ := h1.c_i
  obtain ⟨x2, rfl, h3⟩ := h2.c_i
  obtain ⟨x3, rfl, h4⟩ := h3.c_i
  obtain ⟨x4, rfl, h5⟩ := h4.c_i
  obtain ⟨x5, rfl, h6⟩ := h5.c_i
  obtain ⟨x6, rfl, h7⟩ := h6.c_s
  obtain ⟨v7, x7, rfl, t7, h8⟩ := h7.c_r
  obtain rfl := h8.c_n
  exact ⟨a0, a1, a2, a3, a4, a5, a6, n7, e7, v7, rfl, rfl, t7⟩
theorem segRepRecMessage_mk {w : World} {tt : Bool} (a0 : Int) (a1 : Int) (a2 : Int) (a3 : Int) (a4 : Int) (a5 : Int) (a6 : ByteArray) {F7 : List Nat} {n7 : Nat} {e7 : List Dt} {v7 : Value} (h7 : Rep w tt [.row 139 shRecSlot] F7 [.row n7 e7] [v7]) : Rep w tt shRecMessage (F7 ++ []) (.i a0 :: .i a1 :: .i a2 :: .i a3 :: .i a4 :: .i a5 :: .s a6 :: .row n7 e7 :: []) (.int .i64 a0 :: .int .i64 a1 :: .int .i64 a2 :: .int .i64 a3 :: .int .i64 a4 :: .int .i64 a5 :: .string a6 :: v7 :: []) :=
  (.i a0 (.i a1 (.i a2 (.i a3 (.i a4 (.i a5 (.s a6 (h7.app .nil))))))))
theorem segRawRecMessage_mk {w : World} (a0 : Int) (a1 : Int) (a2 : Int) (a3 : Int) (a4 : Int) (a5 : Int) (a6 : ByteArray) {n7 : Nat} {e7 : List Dt} {v7 : Value} (h7 : Raw w [.row 139 shRecSlot] [.row n7 e7] [v7]) : Raw w shRecMessage (.i a0 :: .i a1 :: .i a2 :: .i a3 :: .i a4 :: .i a5 :: .s a6 :: .row n7 e7 :: []) (.int .i64 a0 :: .int .i64 a1 :: .int .i64 a2 :: .int .i64 a3 :: .int .i64 a4 :: .int .i64 a5 :: .string a6 :: v7 :: []) :=
  (.i a0 (.i a1 (.i a2 (.i a3 (.i a4 (.i a5 (.s a6 (h7.app .nil))))))))
theorem boxRecMessage {W : World} {B : Nat} {a0 : Int} {a1 : Int} {a2 : Int} {a3 : Int} {a4 : Int} {a5 : Int} {a6 : ByteArray} {v7 : Value}  (h : W.rangeAt B 0 (.int .i64 a0 :: .int .i64 a1 :: .int .i64 a2 :: .int .i64 a3 :: .int .i64 a4 :: .int .i64 a5 :: .string a6 :: v7 :: [])) : W.cell? ⟨B, 0, none⟩ = some (.int .i64 a0) ∧ W.cell? ⟨B, 1, none⟩ = some (.int .i64 a1) ∧ W.cell? ⟨B, 2, none⟩ = some (.int .i64 a2) ∧ W.cell? ⟨B, 3, none⟩ = some (.int .i64 a3) ∧ W.cell? ⟨B, 4, none⟩ = some (.int .i64 a4) ∧ W.cell? ⟨B, 5, none⟩ = some (.int .i64 a5) ∧ W.cell? ⟨B, 6, none⟩ = some (.string a6) ∧ W.cell? ⟨B, 7, none⟩ = some (v7) := by
  obtain ⟨g0, k0⟩ := rA_cons h
  have h1 : W.rangeAt B 1 _ := k0
  obtain ⟨g1, k1⟩ := rA_cons h1
  have h2 : W.rangeAt B 2 _ := k1
  obtain ⟨g2, k2⟩ := rA_cons h2
  have h3 : W.rangeAt B 3 _ := k2
  obtain ⟨g3, k3⟩ := rA_cons h3
  have h4 : W.rangeAt B 4 _ := k3
  obtain ⟨g4, k4⟩ := rA_cons h4
  have h5 : W.rangeAt B 5 _ := k4
  obtain ⟨g5, k5⟩ := rA_cons h5
  have h6 : W.rangeAt B 6 _ := k5
  obtain ⟨g6, k6⟩ := rA_cons h6
  have h7 : W.rangeAt B 7 _ := k6
  obtain ⟨g7, k7⟩ := rA_cons h7
  have h8 : W.rangeAt B 8 _ := k7
  exact ⟨g0, g1, g2, g3, g4, g5, g6, g7⟩
theorem typRecAck {ds : List Dt} (h : Typ shRecAck ds) : ∃ a0 n1 e1, ds = [.i a0, .row n1 e1] ∧ Typ (reps n1 [.i]) e1 := by
  obtain ⟨a0, x0, rfl, h1⟩ := h.c_i
  obtain ⟨n1, e1, x1, rfl, t1, h2⟩ := h1.c_r
  obtain rfl := h2.c_n
  exact ⟨a0, n1, e1, rfl, t1⟩
theorem repRecAck {w : World} {tt : Bool} {F : List Nat} {a0 : Int} {n1 : Nat} {e1 : List Dt} {cs : List Value} (h : Rep w tt shRecAck F [.i a0, .row n1 e1] cs) : ∃ F1 v1, F = F1 ++ [] ∧ cs = [.int .i64 a0, v1] ∧ Rep w tt [.row 3 [.i]] F1 [.row n1 e1] [v1] := by
  obtain ⟨x0, rfl, h1⟩ := h.c_i
  obtain ⟨F1, G1, v1, x1, rfl, rfl, t1, h2⟩ := h1.c_r
  obtain ⟨rfl, rfl⟩ := h2.c_n
  exact ⟨F1, v1, rfl, rfl, t1⟩
theorem rawRecAck {w : World} {a0 : Int} {n1 : Nat} {e1 : List Dt} {cs : List Value} (h : Raw w shRecAck [.i a0, .row n1 e1] cs) : ∃ v1, cs = [.int .i64 a0, v1] ∧ Raw w [.row 3 [.i]] [.row n1 e1] [v1] := by
  obtain ⟨x0, rfl, h1⟩ := h.c_i
  obtain ⟨v1, x1, rfl, t1, h2⟩ := h1.c_r
  obtain rfl := h2.c_n
  exact ⟨v1, rfl, t1⟩
theorem repRecAck_mk {w : World} {tt : Bool} (a0 : Int) {F1 : List Nat} {n1 : Nat} {e1 : List Dt} {v1 : Value} (h1 : Rep w tt [.row 3 [.i]] F1 [.row n1 e1] [v1]) : Rep w tt shRecAck (F1 ++ []) [.i a0, .row n1 e1] [.int .i64 a0, v1] :=
  (.i a0 (h1.app .nil))
theorem rawRecAck_mk {w : World} (a0 : Int) {n1 : Nat} {e1 : List Dt} {v1 : Value} (h1 : Raw w [.row 3 [.i]] [.row n1 e1] [v1]) : Raw w shRecAck [.i a0, .row n1 e1] [.int .i64 a0, v1] :=
  (.i a0 (h1.app .nil))
theorem segTypRecAck {ds : List Dt} (h : Typ shRecAck ds) : ∃ (a0 : Int) (n1 : Nat) (e1 : List Dt), ds = .i a0 :: .row n1 e1 :: [] ∧ Typ (reps n1 [.i]) e1 := by
  obtain ⟨a0, x0, rfl, h1⟩ := h.c_i
  obtain ⟨n1, e1, x1, rfl, t1, h2⟩ := h1.c_r
  obtain rfl := h2.c_n
  exact ⟨a0, n1, e1, rfl, t1⟩
theorem segRepRecAck {w : World} {tt : Bool} {F : List Nat} {ds : List Dt} {cs : List Value} (h : Rep w tt shRecAck F ds cs) : ∃ (a0 : Int) (F1 : List Nat) (n1 : Nat) (e1 : List Dt) (v1 : Value), F = (F1 ++ []) ∧ ds = .i a0 :: .row n1 e1 :: [] ∧ cs = .int .i64 a0 :: v1 :: [] ∧ Rep w tt [.row 3 [.i]] F1 [.row n1 e1] [v1] := by
  obtain ⟨a0, n1, e1, rfl, tt1⟩ := segTypRecAck h.raw.typ
  obtain ⟨x0, rfl, h1⟩ := h.c_i
  obtain ⟨F1, G1, v1, x1, rfl, rfl, t1, h2⟩ := h1.c_r
  obtain ⟨rfl, rfl⟩ := h2.c_n
  exact ⟨a0, F1, n1, e1, v1, rfl, rfl, rfl, t1⟩
theorem segRawRecAck {w : World} {ds : List Dt} {cs : List Value} (h : Raw w shRecAck ds cs) : ∃ (a0 : Int) (n1 : Nat) (e1 : List Dt) (v1 : Value), ds = .i a0 :: .row n1 e1 :: [] ∧ cs = .int .i64 a0 :: v1 :: [] ∧ Raw w [.row 3 [.i]] [.row n1 e1] [v1] := by
  obtain ⟨a0, n1, e1, rfl, tt1⟩ := segTypRecAck h.typ
  obtain ⟨x0, rfl, h1⟩ := h.c_i
  obtain ⟨v1, x1, rfl, t1, h2⟩ := h1.c_r
  obtain rfl := h2.c_n
  exact ⟨a0, n1, e1, v1, rfl, rfl, t1⟩
theorem segRepRecAck_mk {w : World} {tt : Bool} (a0 : Int) {F1 : List Nat} {n1 : Nat} {e1 : List Dt} {v1 : Value} (h1 : Rep w tt [.row 3 [.i]] F1 [.row n1 e1] [v1]) : Rep w tt shRecAck (F1 ++ []) (.i a0 :: .row n1 e1 :: []) (.int .i64 a0 :: v1 :: []) :=
  (.i a0 (h1.app .nil))
theorem segRawRecAck_mk {w : World} (a0 : Int) {n1 : Nat} {e1 : List Dt} {v1 : Value} (h1 : Raw w [.row 3 [.i]] [.row n1 e1] [v1]) : Raw w shRecAck (.i a0 :: .row n1 e1 :: []) (.int .i64 a0 :: v1 :: []) :=
  (.i a0 (h1.app .nil))
theorem boxRecAck {W : World} {B : Nat} {a0 : Int} {v1 : Value}  (h : W.rangeAt B 0 (.int .i64 a0 :: v1 :: [])) : W.cell? ⟨B, 0, none⟩ = some (.int .i64 a0) ∧ W.cell? ⟨B, 1, none⟩ = some (v1) := by
  obtain ⟨g0, k0⟩ := rA_cons h
  have h1 : W.rangeAt B 1 _ := k0
  obtain ⟨g1, k1⟩ := rA_cons h1
  have h2 : W.rangeAt B 2 _ := k1
  exact ⟨g0, g1⟩
theorem typRecorder {ds : List Dt} (h : Typ shRecorder ds) : ∃ a0 a1 a2 a3 a4 n5 e5 a6 a7 n8 e8 n9 e9 n10 e10 a11 a12 a13 n14 e14 n15 e15 n16 e16 a17, ds = [.i a0, .i a1, .b a2, .i a3, .i a4, .row n5 e5, .i a6, .i a7, .row n8 e8, .row n9 e9, .row n10 e10, .b a11, .b a12, .i a13, .row n14 e14, .row n15 e15, .row n16 e16, .i a17] ∧ Typ (reps n5 shRecSlot) e5 ∧ Typ (reps n8 shRecSlot) e8 ∧ Typ (reps n9 shRecMessage) e9 ∧ Typ (reps n10 [.s]) e10 ∧ Typ (reps n14 [.i]) e14 ∧ Typ (reps n15 shRecSlot) e15 ∧ Typ (reps n16 shRecAck) e16 := by
  obtain ⟨a0, x0, rfl, h1⟩ := h.c_i
  obtain ⟨a1, x1, rfl, h2⟩ := h1.c_i
  obtain ⟨a2, x2, rfl, h3⟩ := h2.c_b
  obtain ⟨a3, x3, rfl, h4⟩ := h3.c_i
  obtain ⟨a4, x4, rfl, h5⟩ := h4.c_i
  obtain ⟨n5, e5, x5, rfl, t5, h6⟩ := h5.c_r
  obtain ⟨a6, x6, rfl, h7⟩ := h6.c_i
  obtain ⟨a7, x7, rfl, h8⟩ := h7.c_i
  obtain ⟨n8, e8, x8, rfl, t8, h9⟩ := h8.c_r
  obtain ⟨n9, e9, x9, rfl, t9, h10⟩ := h9.c_r
  obtain ⟨n10, e10, x10, rfl, t10, h11⟩ := h10.c_r
  obtain ⟨a11, x11, rfl, h12⟩ := h11.c_b
  obtain ⟨a12, x12, rfl, h13⟩ := h12.c_b
  obtain ⟨a13, x13, rfl, h14⟩ := h13.c_i
  obtain ⟨n14, e14, x14, rfl, t14, h15⟩ := h14.c_r
  obtain ⟨n15, e15, x15, rfl, t15, h16⟩ := h15.c_r
  obtain ⟨n16, e16, x16, rfl, t16, h17⟩ := h16.c_r
  obtain ⟨a17, x17, rfl, h18⟩ := h17.c_i
  obtain rfl := h18.c_n
  exact ⟨a0, a1, a2, a3, a4, n5, e5, a6, a7, n8, e8, n9, e9, n10, e10, a11, a12, a13, n14, e14, n15, e15, n16, e16, a17, rfl, t5, t8, t9, t10, t14, t15, t16⟩
theorem repRecorder {w : World} {tt : Bool} {F : List Nat} {a0 : Int} {a1 : Int} {a2 : Bool} {a3 : Int} {a4 : Int} {n5 : Nat} {e5 : List Dt} {a6 : Int} {a7 : Int} {n8 : Nat} {e8 : List Dt} {n9 : Nat} {e9 : List Dt} {n10 : Nat} {e10 : List Dt} {a11 : Bool} {a12 : Bool} {a13 : Int} {n14 : Nat} {e14 : List Dt} {n15 : Nat} {e15 : List Dt} {n16 : Nat} {e16 : List Dt} {a17 : Int} {cs : List Value} (h : Rep w tt shRecorder F [.i a0, .i a1, .b a2, .i a3, .i a4, .row n5 e5, .i a6, .i a7, .row n8 e8, .row n9 e9, .row n10 e10, .b a11, .b a12, .i a13, .row n14 e14, .row n15 e15, .row n16 e16, .i a17] cs) : ∃ F5 v5 F8 v8 F9 v9 F10 v10 F14 v14 F15 v15 F16 v16, F = F5 ++ (F8 ++ (F9 ++ (F10 ++ (F14 ++ (F15 ++ (F16 ++ [])))))) ∧ cs = [.int .i64 a0, .int .i64 a1, .bool a2, .int .i64 a3, .int .i64 a4, v5, .int .i64 a6, .int .i64 a7, v8, v9, v10, .bool a11, .bool a12, .int .i64 a13, v14, v15, v16, .int .i64 a17] ∧ Rep w tt [.row 139 shRecSlot] F5 [.row n5 e5] [v5] ∧ Rep w tt [.row 139 shRecSlot] F8 [.row n8 e8] [v8] ∧ Rep w tt [.row 120 shRecMessage] F9 [.row n9 e9] [v9] ∧ Rep w tt [.row 9 [.s]] F10 [.row n10 e10] [v10] ∧ Rep w tt [.row 3 [.i]] F14 [.row n14 e14] [v14] ∧ Rep w tt [.row 139 shRecSlot] F15 [.row n15 e15] [v15] ∧ Rep w tt [.row 141 shRecAck] F16 [.row n16 e16] [v16] := by
  obtain ⟨x0, rfl, h1⟩ := h.c_i
  obtain ⟨x1, rfl, h2⟩ := h1.c_i
  obtain ⟨x2, rfl, h3⟩ := h2.c_b
  obtain ⟨x3, rfl, h4⟩ := h3.c_i
  obtain ⟨x4, rfl, h5⟩ := h4.c_i
  obtain ⟨F5, G5, v5, x5, rfl, rfl, t5, h6⟩ := h5.c_r
  obtain ⟨x6, rfl, h7⟩ := h6.c_i
  obtain ⟨x7, rfl, h8⟩ := h7.c_i
  obtain ⟨F8, G8, v8, x8, rfl, rfl, t8, h9⟩ := h8.c_r
  obtain ⟨F9, G9, v9, x9, rfl, rfl, t9, h10⟩ := h9.c_r
  obtain ⟨F10, G10, v10, x10, rfl, rfl, t10, h11⟩ := h10.c_r
  obtain ⟨x11, rfl, h12⟩ := h11.c_b
  obtain ⟨x12, rfl, h13⟩ := h12.c_b
  obtain ⟨x13, rfl, h14⟩ := h13.c_i
  obtain ⟨F14, G14, v14, x14, rfl, rfl, t14, h15⟩ := h14.c_r
  obtain ⟨F15, G15, v15, x15, rfl, rfl, t15, h16⟩ := h15.c_r
  obtain ⟨F16, G16, v16, x16, rfl, rfl, t16, h17⟩ := h16.c_r
  obtain ⟨x17, rfl, h18⟩ := h17.c_i
  obtain ⟨rfl, rfl⟩ := h18.c_n
  exact ⟨F5, v5, F8, v8, F9, v9, F10, v10, F14, v14, F15, v15, F16, v16, rfl, rfl, t5, t8, t9, t10, t14, t15, t16⟩
theorem rawRecorder {w : World} {a0 : Int} {a1 : Int} {a2 : Bool} {a3 : Int} {a4 : Int} {n5 : Nat} {e5 : List Dt} {a6 : Int} {a7 : Int} {n8 : Nat} {e8 : List Dt} {n9 : Nat} {e9 : List Dt} {n10 : Nat} {e10 : List Dt} {a11 : Bool} {a12 : Bool} {a13 : Int} {n14 : Nat} {e14 : List Dt} {n15 : Nat} {e15 : List Dt} {n16 : Nat} {e16 : List Dt} {a17 : Int} {cs : List Value} (h : Raw w shRecorder [.i a0, .i a1, .b a2, .i a3, .i a4, .row n5 e5, .i a6, .i a7, .row n8 e8, .row n9 e9, .row n10 e10, .b a11, .b a12, .i a13, .row n14 e14, .row n15 e15, .row n16 e16, .i a17] cs) : ∃ v5 v8 v9 v10 v14 v15 v16, cs = [.int .i64 a0, .int .i64 a1, .bool a2, .int .i64 a3, .int .i64 a4, v5, .int .i64 a6, .int .i64 a7, v8, v9, v10, .bool a11, .bool a12, .int .i64 a13, v14, v15, v16, .int .i64 a17] ∧ Raw w [.row 139 shRecSlot] [.row n5 e5] [v5] ∧ Raw w [.row 139 shRecSlot] [.row n8 e8] [v8] ∧ Raw w [.row 120 shRecMessage] [.row n9 e9] [v9] ∧ Raw w [.row 9 [.s]] [.row n10 e10] [v10] ∧ Raw w [.row 3 [.i]] [.row n14 e14] [v14] ∧ Raw w [.row 139 shRecSlot] [.row n15 e15] [v15] ∧ Raw w [.row 141 shRecAck] [.row n16 e16] [v16] := by
  obtain ⟨x0, rfl, h1⟩ := h.c_i
  obtain ⟨x1, rfl, h2⟩ := h1.c_i
  obtain ⟨x2, rfl, h3⟩ := h2.c_b
  obtain ⟨x3, rfl, h4⟩ := h3.c_i
  obtain ⟨x4, rfl, h5⟩ := h4.c_i
  obtain ⟨v5, x5, rfl, t5, h6⟩ := h5.c_r
  obtain ⟨x6, rfl, h7⟩ := h6.c_i
  obtain ⟨x7, rfl, h8⟩ := h7.c_i
  obtain ⟨v8, x8, rfl, t8, h9⟩ := h8.c_r
  obtain ⟨v9, x9, rfl, t9, h10⟩ := h9.c_r
  obtain ⟨v10, x10, rfl, t10, h11⟩ := h10.c_r
  obtain ⟨x11, rfl, h12⟩ := h11.c_b
  obtain ⟨x12, rfl, h13⟩ := h12.c_b
  obtain ⟨x13, rfl, h14⟩ := h13.c_i
  obtain ⟨v14, x14, rfl, t14, h15⟩ := h14.c_r
  obtain ⟨v15, x15, rfl, t15, h16⟩ := h15.c_r
  obtain ⟨v16, x16, rfl, t16, h17⟩ := h16.c_r
  obtain ⟨x17, rfl, h18⟩ := h17.c_i
  obtain rfl := h18.c_n
  exact ⟨v5, v8, v9, v10, v14, v15, v16, rfl, t5, t8, t9, t10, t14, t15, t16⟩
theorem repRecorder_mk {w : World} {tt : Bool} (a0 : Int) (a1 : Int) (a2 : Bool) (a3 : Int) (a4 : Int) {F5 : List Nat} {n5 : Nat} {e5 : List Dt} {v5 : Value} (h5 : Rep w tt [.row 139 shRecSlot] F5 [.row n5 e5] [v5]) (a6 : Int) (a7 : Int) {F8 : List Nat} {n8 : Nat} {e8 : List Dt} {v8 : Value} (h8 : Rep w tt [.row 139 shRecSlot] F8 [.row n8 e8] [v8]) {F9 : List Nat} {n9 : Nat} {e9 : List Dt} {v9 : Value} (h9 : Rep w tt [.row 120 shRecMessage] F9 [.row n9 e9] [v9]) {F10 : List Nat} {n10 : Nat} {e10 : List Dt} {v10 : Value} (h10 : Rep w tt [.row 9 [.s]] F10 [.row n10 e10] [v10]) (a11 : Bool) (a12 : Bool) (a13 : Int) {F14 : List Nat} {n14 : Nat} {e14 : List Dt} {v14 : Value} (h14 : Rep w tt [.row 3 [.i]] F14 [.row n14 e14] [v14]) {F15 : List Nat} {n15 : Nat} {e15 : List Dt} {v15 : Value} (h15 : Rep w tt [.row 139 shRecSlot] F15 [.row n15 e15] [v15]) {F16 : List Nat} {n16 : Nat} {e16 : List Dt} {v16 : Value} (h16 : Rep w tt [.row 141 shRecAck] F16 [.row n16 e16] [v16]) (a17 : Int) : Rep w tt shRecorder (F5 ++ (F8 ++ (F9 ++ (F10 ++ (F14 ++ (F15 ++ (F16 ++ []))))))) [.i a0, .i a1, .b a2, .i a3, .i a4, .row n5 e5, .i a6, .i a7, .row n8 e8, .row n9 e9, .row n10 e10, .b a11, .b a12, .i a13, .row n14 e14, .row n15 e15, .row n16 e16, .i a17] [.int .i64 a0, .int .i64 a1, .bool a2, .int .i64 a3, .int .i64 a4, v5, .int .i64 a6, .int .i64 a7, v8, v9, v10, .bool a11, .bool a12, .int .i64 a13, v14, v15, v16, .int .i64 a17] :=
  (.i a0 (.i a1 (.b a2 (.i a3 (.i a4 (h5.app (.i a6 (.i a7 (h8.app (h9.app (h10.app (.b a11 (.b a12 (.i a13 (h14.app (h15.app (h16.app (.i a17 .nil))))))))))))))))))
theorem rawRecorder_mk {w : World} (a0 : Int) (a1 : Int) (a2 : Bool) (a3 : Int) (a4 : Int) {n5 : Nat} {e5 : List Dt} {v5 : Value} (h5 : Raw w [.row 139 shRecSlot] [.row n5 e5] [v5]) (a6 : Int) (a7 : Int) {n8 : Nat} {e8 : List Dt} {v8 : Value} (h8 : Raw w [.row 139 shRecSlot] [.row n8 e8] [v8]) {n9 : Nat} {e9 : List Dt} {v9 : Value} (h9 : Raw w [.row 120 shRecMessage] [.row n9 e9] [v9]) {n10 : Nat} {e10 : List Dt} {v10 : Value} (h10 : Raw w [.row 9 [.s]] [.row n10 e10] [v10]) (a11 : Bool) (a12 : Bool) (a13 : Int) {n14 : Nat} {e14 : List Dt} {v14 : Value} (h14 : Raw w [.row 3 [.i]] [.row n14 e14] [v14]) {n15 : Nat} {e15 : List Dt} {v15 : Value} (h15 : Raw w [.row 139 shRecSlot] [.row n15 e15] [v15]) {n16 : Nat} {e16 : List Dt} {v16 : Value} (h16 : Raw w [.row 141 shRecAck] [.row n16 e16] [v16]) (a17 : Int) : Raw w shRecorder [.i a0, .i a1, .b a2, .i a3, .i a4, .row n5 e5, .i a6, .i a7, .row n8 e8, .row n9 e9, .row n10 e10, .b a11, .b a12, .i a13, .row n14 e14, .row n15 e15, .row n16 e16, .i a17] [.int .i64 a0, .int .i64 a1, .bool a2, .int .i64 a3, .int .i64 a4, v5, .int .i64 a6, .int .i64 a7, v8, v9, v10, .bool a11, .bool a12, .int .i64 a13, v14, v15, v16, .int .i64 a17] :=
  (.i a0 (.i a1 (.b a2 (.i a3 (.i a4 (h5.app (.i a6 (.i a7 (h8.app (h9.app (h10.app (.b a11 (.b a12 (.i a13 (h14.app (h15.app (h16.app (.i a17 .nil))))))))))))))))))
theorem segTypRecorder {ds : List Dt} (h : Typ shRecorder ds) : ∃ (a0 : Int) (a1 : Int) (a2 : Bool) (d3 : List Dt) (d4 : List Dt) (n5 : Nat) (e5 : List Dt) (n6 : Nat) (e6 : List Dt) (a7 : Bool) (a8 : Bool) (a9 : Int) (n10 : Nat) (e10 : List Dt) (n11 : Nat) (e11 : List Dt) (n12 : Nat) (e12 : List Dt) (a13 : Int), ds = .i a0 :: .i a1 :: .b a2 :: (d3 ++ ((d4 ++ (.row n5 e5 :: .row n6 e6 :: .b a7 :: .b a8 :: .i a9 :: .row n10 e10 :: .row n11 e11 :: .row n12 e12 :: .i a13 :: [])))) ∧ Typ shRecDisk d3 ∧ Typ shRecDisk d4 ∧ Typ (reps n5 shRecMessage) e5 ∧ Typ (reps n6 [.s]) e6 ∧ Typ (reps n10 [.i]) e10 ∧ Typ (reps n11 shRecSlot) e11 ∧ Typ (reps n12 shRecAck) e12 := by
  obtain ⟨a0, x0, rfl, h1⟩ := h.c_i
  obtain ⟨a1, x1, rfl, h2⟩ := h1.c_i
  obtain ⟨a2, x2, rfl, h3⟩ := h2.c_b
  obtain ⟨d3, x3, rfl, t3, h4⟩ := Typ.cut shRecDisk h3
  obtain ⟨d4, x4, rfl, t4, h5⟩ := Typ.cut shRecDisk h4
  obtain ⟨n5, e5, x5, rfl, t5, h6⟩ := h5.c_r
  obtain ⟨n6, e6, x6, rfl, t6, h7⟩ := h6.c_r
  obtain ⟨a7, x7, rfl, h8⟩ := h7.c_b
  obtain ⟨a8, x8, rfl, h9⟩ := h8.c_b
  obtain ⟨a9, x9, rfl, h10⟩ := h9.c_i
  obtain ⟨n10, e10, x10, rfl, t10, h11⟩ := h10.c_r
  obtain ⟨n11, e11, x11, rfl, t11, h12⟩ := h11.c_r
  obtain ⟨n12, e12, x12, rfl, t12, h13⟩ := h12.c_r
  obtain ⟨a13, x13, rfl, h14⟩ := h13.c_i
  obtain rfl := h14.c_n
  exact ⟨a0, a1, a2, d3, d4, n5, e5, n6, e6, a7, a8, a9, n10, e10, n11, e11, n12, e12, a13, rfl, t3, t4, t5, t6, t10, t11, t12⟩
theorem segRepRecorder {w : World} {tt : Bool} {F : List Nat} {ds : List Dt} {cs : List Value} (h : Rep w tt shRecorder F ds cs) : ∃ (a0 : Int) (a1 : Int) (a2 : Bool) (F3 : List Nat) (d3 : List Dt) (c3 : List Value) (F4 : List Nat) (d4 : List Dt) (c4 : List Value) (F5 : List Nat) (n5 : Nat) (e5 : List Dt) (v5 : Value) (F6 : List Nat) (n6 : Nat) (e6 : List Dt) (v6 : Value) (a7 : Bool) (a8 : Bool) (a9 : Int) (F10 : List Nat) (n10 : Nat) (e10 : List Dt) (v10 : Value) (F11 : List Nat) (n11 : Nat) (e11 : List Dt) (v11 : Value) (F12 : List Nat) (n12 : Nat) (e12 : List Dt) (v12 : Value) (a13 : Int), F = (F3 ++ (F4 ++ (F5 ++ (F6 ++ (F10 ++ (F11 ++ (F12 ++ []))))))) ∧ ds = .i a0 :: .i a1 :: .b a2 :: (d3 ++ ((d4 ++ (.row n5 e5 :: .row n6 e6 :: .b a7 :: .b a8 :: .i a9 :: .row n10 e10 :: .row n11 e11 :: .row n12 e12 :: .i a13 :: [])))) ∧ cs = .int .i64 a0 :: .int .i64 a1 :: .bool a2 :: (c3 ++ ((c4 ++ (v5 :: v6 :: .bool a7 :: .bool a8 :: .int .i64 a9 :: v10 :: v11 :: v12 :: .int .i64 a13 :: [])))) ∧ Rep w tt shRecDisk F3 d3 c3 ∧ Rep w tt shRecDisk F4 d4 c4 ∧ Rep w tt [.row 120 shRecMessage] F5 [.row n5 e5] [v5] ∧ Rep w tt [.row 9 [.s]] F6 [.row n6 e6] [v6] ∧ Rep w tt [.row 3 [.i]] F10 [.row n10 e10] [v10] ∧ Rep w tt [.row 139 shRecSlot] F11 [.row n11 e11] [v11] ∧ Rep w tt [.row 141 shRecAck] F12 [.row n12 e12] [v12] := by
  obtain ⟨a0, a1, a2, d3, d4, n5, e5, n6, e6, a7, a8, a9, n10, e10, n11, e11, n12, e12, a13, rfl, tt3, tt4, tt5, tt6, tt10, tt11, tt12⟩ := segTypRecorder h.raw.typ
  obtain ⟨x0, rfl, h1⟩ := h.c_i
  obtain ⟨x1, rfl, h2⟩ := h1.c_i
  obtain ⟨x2, rfl, h3⟩ := h2.c_b
  obtain ⟨F3, G3, c3, x3, rfl, rfl, t3, h4⟩ := Rep.cut2 h3 tt3
  obtain ⟨F4, G4, c4, x4, rfl, rfl, t4, h5⟩ := Rep.cut2 h4 tt4
  obtain ⟨F5, G5, v5, x5, rfl, rfl, t5, h6⟩ := h5.c_r
  obtain ⟨F6, G6, v6, x6, rfl, rfl, t6, h7⟩ := h6.c_r
  obtain ⟨x7, rfl, h8⟩ := h7.c_b
  obtain ⟨x8, rfl, h9⟩ := h8.c_b
  obtain ⟨x9, rfl, h10⟩ := h9.c_i
  obtain ⟨F10, G10, v10, x10, rfl, rfl, t10, h11⟩ := h10.c_r
  obtain ⟨F11, G11, v11, x11, rfl, rfl, t11, h12⟩ := h11.c_r
  obtain ⟨F12, G12, v12, x12, rfl, rfl, t12, h13⟩ := h12.c_r
  obtain ⟨x13, rfl, h14⟩ := h13.c_i
  obtain ⟨rfl, rfl⟩ := h14.c_n
  exact ⟨a0, a1, a2, F3, d3, c3, F4, d4, c4, F5, n5, e5, v5, F6, n6, e6, v6, a7, a8, a9, F10, n10, e10, v10, F11, n11, e11, v11, F12, n12, e12, v12, a13, rfl, rfl, rfl, t3, t4, t5, t6, t10, t11, t12⟩
theorem segRawRecorder {w : World} {ds : List Dt} {cs : List Value} (h : Raw w shRecorder ds cs) : ∃ (a0 : Int) (a1 : Int) (a2 : Bool) (d3 : List Dt) (c3 : List Value) (d4 : List Dt) (c4 : List Value) (n5 : Nat) (e5 : List Dt) (v5 : Value) (n6 : Nat) (e6 : List Dt) (v6 : Value) (a7 : Bool) (a8 : Bool) (a9 : Int) (n10 : Nat) (e10 : List Dt) (v10 : Value) (n11 : Nat) (e11 : List Dt) (v11 : Value) (n12 : Nat) (e12 : List Dt) (v12 : Value) (a13 : Int), ds = .i a0 :: .i a1 :: .b a2 :: (d3 ++ ((d4 ++ (.row n5 e5 :: .row n6 e6 :: .b a7 :: .b a8 :: .i a9 :: .row n10 e10 :: .row n11 e11 :: .row n12 e12 :: .i a13 :: [])))) ∧ cs = .int .i64 a0 :: .int .i64 a1 :: .bool a2 :: (c3 ++ ((c4 ++ (v5 :: v6 :: .bool a7 :: .bool a8 :: .int .i64 a9 :: v10 :: v11 :: v12 :: .int .i64 a13 :: [])))) ∧ Raw w shRecDisk d3 c3 ∧ Raw w shRecDisk d4 c4 ∧ Raw w [.row 120 shRecMessage] [.row n5 e5] [v5] ∧ Raw w [.row 9 [.s]] [.row n6 e6] [v6] ∧ Raw w [.row 3 [.i]] [.row n10 e10] [v10] ∧ Raw w [.row 139 shRecSlot] [.row n11 e11] [v11] ∧ Raw w [.row 141 shRecAck] [.row n12 e12] [v12] := by
  obtain ⟨a0, a1, a2, d3, d4, n5, e5, n6, e6, a7, a8, a9, n10, e10, n11, e11, n12, e12, a13, rfl, tt3, tt4, tt5, tt6, tt10, tt11, tt12⟩ := segTypRecorder h.typ
  obtain ⟨x0, rfl, h1⟩ := h.c_i
  obtain ⟨x1, rfl, h2⟩ := h1.c_i
  obtain ⟨x2, rfl, h3⟩ := h2.c_b
  obtain ⟨c3, x3, rfl, t3, h4⟩ := Raw.cut2 h3 tt3
  obtain ⟨c4, x4, rfl, t4, h5⟩ := Raw.cut2 h4 tt4
  obtain ⟨v5, x5, rfl, t5, h6⟩ := h5.c_r
  obtain ⟨v6, x6, rfl, t6, h7⟩ := h6.c_r
  obtain ⟨x7, rfl, h8⟩ := h7.c_b
  obtain ⟨x8, rfl, h9⟩ := h8.c_b
  obtain ⟨x9, rfl, h10⟩ := h9.c_i
  obtain ⟨v10, x10, rfl, t10, h11⟩ := h10.c_r
  obtain ⟨v11, x11, rfl, t11, h12⟩ := h11.c_r
  obtain ⟨v12, x12, rfl, t12, h13⟩ := h12.c_r
  obtain ⟨x13, rfl, h14⟩ := h13.c_i
  obtain rfl := h14.c_n
  exact ⟨a0, a1, a2, d3, c3, d4, c4, n5, e5, v5, n6, e6, v6, a7, a8, a9, n10, e10, v10, n11, e11, v11, n12, e12, v12, a13, rfl, rfl, t3, t4, t5, t6, t10, t11, t12⟩
theorem segRepRecorder_mk {w : World} {tt : Bool} (a0 : Int) (a1 : Int) (a2 : Bool) {F3 : List Nat} {d3 : List Dt} {c3 : List Value} (h3 : Rep w tt shRecDisk F3 d3 c3) {F4 : List Nat} {d4 : List Dt} {c4 : List Value} (h4 : Rep w tt shRecDisk F4 d4 c4) {F5 : List Nat} {n5 : Nat} {e5 : List Dt} {v5 : Value} (h5 : Rep w tt [.row 120 shRecMessage] F5 [.row n5 e5] [v5]) {F6 : List Nat} {n6 : Nat} {e6 : List Dt} {v6 : Value} (h6 : Rep w tt [.row 9 [.s]] F6 [.row n6 e6] [v6]) (a7 : Bool) (a8 : Bool) (a9 : Int) {F10 : List Nat} {n10 : Nat} {e10 : List Dt} {v10 : Value} (h10 : Rep w tt [.row 3 [.i]] F10 [.row n10 e10] [v10]) {F11 : List Nat} {n11 : Nat} {e11 : List Dt} {v11 : Value} (h11 : Rep w tt [.row 139 shRecSlot] F11 [.row n11 e11] [v11]) {F12 : List Nat} {n12 : Nat} {e12 : List Dt} {v12 : Value} (h12 : Rep w tt [.row 141 shRecAck] F12 [.row n12 e12] [v12]) (a13 : Int) : Rep w tt shRecorder (F3 ++ (F4 ++ (F5 ++ (F6 ++ (F10 ++ (F11 ++ (F12 ++ []))))))) (.i a0 :: .i a1 :: .b a2 :: (d3 ++ ((d4 ++ (.row n5 e5 :: .row n6 e6 :: .b a7 :: .b a8 :: .i a9 :: .row n10 e10 :: .row n11 e11 :: .row n12 e12 :: .i a13 :: []))))) (.int .i64 a0 :: .int .i64 a1 :: .bool a2 :: (c3 ++ ((c4 ++ (v5 :: v6 :: .bool a7 :: .bool a8 :: .int .i64 a9 :: v10 :: v11 :: v12 :: .int .i64 a13 :: []))))) :=
  (.i a0 (.i a1 (.b a2 (h3.app (h4.app (h5.app (h6.app (.b a7 (.b a8 (.i a9 (h10.app (h11.app (h12.app (.i a13 .nil))))))))))))))
theorem segRawRecorder_mk {w : World} (a0 : Int) (a1 : Int) (a2 : Bool) {d3 : List Dt} {c3 : List Value} (h3 : Raw w shRecDisk d3 c3) {d4 : List Dt} {c4 : List Value} (h4 : Raw w shRecDisk d4 c4) {n5 : Nat} {e5 : List Dt} {v5 : Value} (h5 : Raw w [.row 120 shRecMessage] [.row n5 e5] [v5]) {n6 : Nat} {e6 : List Dt} {v6 : Value} (h6 : Raw w [.row 9 [.s]] [.row n6 e6] [v6]) (a7 : Bool) (a8 : Bool) (a9 : Int) {n10 : Nat} {e10 : List Dt} {v10 : Value} (h10 : Raw w [.row 3 [.i]] [.row n10 e10] [v10]) {n11 : Nat} {e11 : List Dt} {v11 : Value} (h11 : Raw w [.row 139 shRecSlot] [.row n11 e11] [v11]) {n12 : Nat} {e12 : List Dt} {v12 : Value} (h12 : Raw w [.row 141 shRecAck] [.row n12 e12] [v12]) (a13 : Int) : Raw w shRecorder (.i a0 :: .i a1 :: .b a2 :: (d3 ++ ((d4 ++ (.row n5 e5 :: .row n6 e6 :: .b a7 :: .b a8 :: .i a9 :: .row n10 e10 :: .row n11 e11 :: .row n12 e12 :: .i a13 :: []))))) (.int .i64 a0 :: .int .i64 a1 :: .bool a2 :: (c3 ++ ((c4 ++ (v5 :: v6 :: .bool a7 :: .bool a8 :: .int .i64 a9 :: v10 :: v11 :: v12 :: .int .i64 a13 :: []))))) :=
  (.i a0 (.i a1 (.b a2 (h3.app (h4.app (h5.app (h6.app (.b a7 (.b a8 (.i a9 (h10.app (h11.app (h12.app (.i a13 .nil))))))))))))))
theorem boxRecorder {W : World} {B : Nat} {a0 : Int} {a1 : Int} {a2 : Bool} {c3 : List Value} {c4 : List Value} {v5 : Value} {v6 : Value} {a7 : Bool} {a8 : Bool} {a9 : Int} {v10 : Value} {v11 : Value} {v12 : Value} {a13 : Int} (l3 : c3.length = 3) (l4 : c4.length = 3) (h : W.rangeAt B 0 (.int .i64 a0 :: .int .i64 a1 :: .bool a2 :: (c3 ++ ((c4 ++ (v5 :: v6 :: .bool a7 :: .bool a8 :: .int .i64 a9 :: v10 :: v11 :: v12 :: .int .i64 a13 :: [])))))) : W.cell? ⟨B, 0, none⟩ = some (.int .i64 a0) ∧ W.cell? ⟨B, 1, none⟩ = some (.int .i64 a1) ∧ W.cell? ⟨B, 2, none⟩ = some (.bool a2) ∧ W.rangeAt B 3 c3 ∧ W.rangeAt B 6 c4 ∧ W.cell? ⟨B, 9, none⟩ = some (v5) ∧ W.cell? ⟨B, 10, none⟩ = some (v6) ∧ W.cell? ⟨B, 11, none⟩ = some (.bool a7) ∧ W.cell? ⟨B, 12, none⟩ = some (.bool a8) ∧ W.cell? ⟨B, 13, none⟩ = some (.int .i64 a9) ∧ W.cell? ⟨B, 14, none⟩ = some (v10) ∧ W.cell? ⟨B, 15, none⟩ = some (v11) ∧ W.cell? ⟨B, 16, none⟩ = some (v12) ∧ W.cell? ⟨B, 17, none⟩ = some (.int .i64 a13) := by
  obtain ⟨g0, k0⟩ := rA_cons h
  have h1 : W.rangeAt B 1 _ := k0
  obtain ⟨g1, k1⟩ := rA_cons h1
  have h2 : W.rangeAt B 2 _ := k1
  obtain ⟨g2, k2⟩ := rA_cons h2
  have h3 : W.rangeAt B 3 _ := k2
  obtain ⟨g3, k3⟩ := rA_cut h3
  rw [l3] at k3
  have h4 : W.rangeAt B 6 _ := k3
  obtain ⟨g4, k4⟩ := rA_cut h4
  rw [l4] at k4
  have h5 : W.rangeAt B 9 _ := k4
  obtain ⟨g5, k5⟩ := rA_cons h5
  have h6 : W.rangeAt B 10 _ := k5
  obtain ⟨g6, k6⟩ := rA_cons h6
  have h7 : W.rangeAt B 11 _ := k6
  obtain ⟨g7, k7⟩ := rA_cons h7
  have h8 : W.rangeAt B 12 _ := k7
  obtain ⟨g8, k8⟩ := rA_cons h8
  have h9 : W.rangeAt B 13 _ := k8
  obtain ⟨g9, k9⟩ := rA_cons h9
  have h10 : W.rangeAt B 14 _ := k9
  obtain ⟨g10, k10⟩ := rA_cons h10
  have h11 : W.rangeAt B 15 _ := k10
  obtain ⟨g11, k11⟩ := rA_cons h11
  have h12 : W.rangeAt B 16 _ := k11
  obtain ⟨g12, k12⟩ := rA_cons h12
  have h13 : W.rangeAt B 17 _ := k12
  obtain ⟨g13, k13⟩ := rA_cons h13
  have h14 : W.rangeAt B 18 _ := k13
  exact ⟨g0, g1, g2, g3, g4, g5, g6, g7, g8, g9, g10, g11, g12, g13⟩
end Go.Proofs.YtfkkohfjkofgnaaGreat
