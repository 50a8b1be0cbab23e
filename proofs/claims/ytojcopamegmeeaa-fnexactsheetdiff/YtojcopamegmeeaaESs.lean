/-
  The shapes of lines, blocks and sheets.
-/
import Derived.Test.YtojcopamegmeeaaECs
namespace Go.Proofs.Ytojcopamegmeeaa
open Go.RowKit Go.Deep

abbrev shSheetLine : List Sh := [.s, .row 9 [.s]]
abbrev shSheetBlock : List Sh := [.s, .s, .row 69 shSheetLine]
abbrev shSheet : List Sh := [.row 42 shSheetBlock]
theorem typSheetLine {ds : List Dt} (h : Typ shSheetLine ds) : ∃ a0 n1 e1, ds = [.s a0, .row n1 e1] ∧ Typ (reps n1 [.s]) e1 := by
  obtain ⟨a0, x0, rfl, h1⟩ := h.c_s
  obtain ⟨n1, e1, x1, rfl, t1, h2⟩ := h1.c_r
  obtain rfl := h2.c_n
  exact ⟨a0, n1, e1, rfl, t1⟩
theorem repSheetLine {w : World} {tt : Bool} {F : List Nat} {a0 : ByteArray} {n1 : Nat} {e1 : List Dt} {cs : List Value} (h : Rep w tt shSheetLine F [.s a0, .row n1 e1] cs) : ∃ F1 v1, F = F1 ++ [] ∧ cs = [.string a0, v1] ∧ Rep w tt [.row 9 [.s]] F1 [.row n1 e1] [v1] := by
  obtain ⟨x0, rfl, h1⟩ := h.c_s
  obtain ⟨F1, G1, v1, x1, rfl, rfl, t1, h2⟩ := h1.c_r
  obtain ⟨rfl, rfl⟩ := h2.c_n
  exact ⟨F1, v1, rfl, rfl, t1⟩
theorem rawSheetLine {w : World} {a0 : ByteArray} {n1 : Nat} {e1 : List Dt} {cs : List Value} (h : Raw w shSheetLine [.s a0, .row n1 e1] cs) : ∃ v1, cs = [.string a0, v1] ∧ Raw w [.row 9 [.s]] [.row n1 e1] [v1] := by
  obtain ⟨x0, rfl, h1⟩ := h.c_s
  obtain ⟨v1, x1, rfl, t1, h2⟩ := h1.c_r
  obtain rfl := h2.c_n
  exact ⟨v1, rfl, t1⟩
theorem repSheetLine_mk {w : World} {tt : Bool} (a0 : ByteArray) {F1 : List Nat} {n1 : Nat} {e1 : List Dt} {v1 : Value} (h1 : Rep w tt [.row 9 [.s]] F1 [.row n1 e1] [v1]) : Rep w tt shSheetLine (F1 ++ []) [.s a0, .row n1 e1] [.string a0, v1] :=
  (.s a0 (h1.app .nil))
theorem rawSheetLine_mk {w : World} (a0 : ByteArray) {n1 : Nat} {e1 : List Dt} {v1 : Value} (h1 : Raw w [.row 9 [.s]] [.row n1 e1] [v1]) : Raw w shSheetLine [.s a0, .row n1 e1] [.string a0, v1] :=
  (.s a0 (h1.app .nil))
theorem segTypSheetLine {ds : List Dt} (h : Typ shSheetLine ds) : ∃ (a0 : ByteArray) (n1 : Nat) (e1 : List Dt), ds = .s a0 :: .row n1 e1 :: [] ∧ Typ (reps n1 [.s]) e1 := by
  obtain ⟨a0, x0, rfl, h1⟩ := h.c_s
  obtain ⟨n1, e1, x1, rfl, t1, h2⟩ := h1.c_r
  obtain rfl := h2.c_n
  exact ⟨a0, n1, e1, rfl, t1⟩
theorem segRepSheetLine {w : World} {tt : Bool} {F : List Nat} {ds : List Dt} {cs : List Value} (h : Rep w tt shSheetLine F ds cs) : ∃ (a0 : ByteArray) (F1 : List Nat) (n1 : Nat) (e1 : List Dt) (v1 : Value), F = (F1 ++ []) ∧ ds = .s a0 :: .row n1 e1 :: [] ∧ cs = .string a0 :: v1 :: [] ∧ Rep w tt [.row 9 [.s]] F1 [.row n1 e1] [v1] := by
  obtain ⟨a0, n1, e1, rfl, tt1⟩ := segTypSheetLine h.raw.typ
  obtain ⟨x0, rfl, h1⟩ := h.c_s
  obtain ⟨F1, G1, v1, x1, rfl, rfl, t1, h2⟩ := h1.c_r
  obtain ⟨rfl, rfl⟩ := h2.c_n
  exact ⟨a0, F1, n1, e1, v1, rfl, rfl, rfl, t1⟩
theorem segRawSheetLine {w : World} {ds : List Dt} {cs : List Value} (h : Raw w shSheetLine ds cs) : ∃ (a0 : ByteArray) (n1 : Nat) (e1 : List Dt) (v1 : Value), ds = .s a0 :: .row n1 e1 :: [] ∧ cs = .string a0 :: v1 :: [] ∧ Raw w [.row 9 [.s]] [.row n1 e1] [v1] := by
  obtain ⟨a0, n1, e1, rfl, tt1⟩ := segTypSheetLine h.typ
  obtain ⟨x0, rfl, h1⟩ := h.c_s
  obtain ⟨v1, x1, rfl, t1, h2⟩ := h1.c_r
  obtain rfl := h2.c_n
  exact ⟨a0, n1, e1, v1, rfl, rfl, t1⟩
theorem segRepSheetLine_mk {w : World} {tt : Bool} (a0 : ByteArray) {F1 : List Nat} {n1 : Nat} {e1 : List Dt} {v1 : Value} (h1 : Rep w tt [.row 9 [.s]] F1 [.row n1 e1] [v1]) : Rep w tt shSheetLine (F1 ++ []) (.s a0 :: .row n1 e1 :: []) (.string a0 :: v1 :: []) :=
  (.s a0 (h1.app .nil))
theorem segRawSheetLine_mk {w : World} (a0 : ByteArray) {n1 : Nat} {e1 : List Dt} {v1 : Value} (h1 : Raw w [.row 9 [.s]] [.row n1 e1] [v1]) : Raw w shSheetLine (.s a0 :: .row n1 e1 :: []) (.string a0 :: v1 :: []) :=
  (.s a0 (h1.app .nil))
theorem boxSheetLine {W : World} {B : Nat} {a0 : ByteArray} {v1 : Value}  (h : W.rangeAt B 0 (.string a0 :: v1 :: [])) : W.cell? ⟨B, 0, none⟩ = some (.string a0) ∧ W.cell? ⟨B, 1, none⟩ = some (v1) := by
  obtain ⟨g0, k0⟩ := rA_cons h
  have h1 : W.rangeAt B 1 _ := k0
  obtain ⟨g1, k1⟩ := rA_cons h1
  have h2 : W.rangeAt B 2 _ := k1
  exact ⟨g0, g1⟩
theorem typSheetBlock {ds : List Dt} (h : Typ shSheetBlock ds) : ∃ a0 a1 n2 e2, ds = [.s a0, .s a1, .row n2 e2] ∧ Typ (reps n2 shSheetLine) e2 := by
  obtain ⟨a0, x0, rfl, h1⟩ := h.c_s
  obtain ⟨a1, x1, rfl, h2⟩ := h1.c_s
  obtain ⟨n2, e2, x2, rfl, t2, h3⟩ := h2.c_r
  obtain rfl := h3.c_n
  exact ⟨a0, a1, n2, e2, rfl, t2⟩
theorem repSheetBlock {w : World} {tt : Bool} {F : List Nat} {a0 : ByteArray} {a1 : ByteArray} {n2 : Nat} {e2 : List Dt} {cs : List Value} (h : Rep w tt shSheetBlock F [.s a0, .s a1, .row n2 e2] cs) : ∃ F2 v2, F = F2 ++ [] ∧ cs = [.string a0, .string a1, v2] ∧ Rep w tt [.row 69 shSheetLine] F2 [.row n2 e2] [v2] := by
  obtain ⟨x0, rfl, h1⟩ := h.c_s
  obtain ⟨x1, rfl, h2⟩ := h1.c_s
  obtain ⟨F2, G2, v2, x2, rfl, rfl, t2, h3⟩ := h2.c_r
  obtain ⟨rfl, rfl⟩ := h3.c_n
  exact ⟨F2, v2, rfl, rfl, t2⟩
theorem rawSheetBlock {w : World} {a0 : ByteArray} {a1 : ByteArray} {n2 : Nat} {e2 : List Dt} {cs : List Value} (h : Raw w shSheetBlock [.s a0, .s a1, .row n2 e2] cs) : ∃ v2, cs = [.string a0, .string a1, v2] ∧ Raw w [.row 69 shSheetLine] [.row n2 e2] [v2] := by
  obtain ⟨x0, rfl, h1⟩ := h.c_s
  obtain ⟨x1, rfl, h2⟩ := h1.c_s
  obtain ⟨v2, x2, rfl, t2, h3⟩ := h2.c_r
  obtain rfl := h3.c_n
  exact ⟨v2, rfl, t2⟩
theorem repSheetBlock_mk {w : World} {tt : Bool} (a0 : ByteArray) (a1 : ByteArray) {F2 : List Nat} {n2 : Nat} {e2 : List Dt} {v2 : Value} (h2 : Rep w tt [.row 69 shSheetLine] F2 [.row n2 e2] [v2]) : Rep w tt shSheetBlock (F2 ++ []) [.s a0, .s a1, .row n2 e2] [.string a0, .string a1, v2] :=
  (.s a0 (.s a1 (h2.app .nil)))
theorem rawSheetBlock_mk {w : World} (a0 : ByteArray) (a1 : ByteArray) {n2 : Nat} {e2 : List Dt} {v2 : Value} (h2 : Raw w [.row 69 shSheetLine] [.row n2 e2] [v2]) : Raw w shSheetBlock [.s a0, .s a1, .row n2 e2] [.string a0, .string a1, v2] :=
  (.s a0 (.s a1 (h2.app .nil)))
theorem segTypSheetBlock {ds : List Dt} (h : Typ shSheetBlock ds) : ∃ (a0 : ByteArray) (a1 : ByteArray) (n2 : Nat) (e2 : List Dt), ds = .s a0 :: .s a1 :: .row n2 e2 :: [] ∧ Typ (reps n2 shSheetLine) e2 := by
  obtain ⟨a0, x0, rfl, h1⟩ := h.c_s
  obtain ⟨a1, x1, rfl, h2⟩ := h1.c_s
  obtain ⟨n2, e2, x2, rfl, t2, h3⟩ := h2.c_r
  obtain rfl := h3.c_n
  exact ⟨a0, a1, n2, e2, rfl, t2⟩
theorem segRepSheetBlock {w : World} {tt : Bool} {F : List Nat} {ds : List Dt} {cs : List Value} (h : Rep w tt shSheetBlock F ds cs) : ∃ (a0 : ByteArray) (a1 : ByteArray) (F2 : List Nat) (n2 : Nat) (e2 : List Dt) (v2 : Value), F = (F2 ++ []) ∧ ds = .s a0 :: .s a1 :: .row n2 e2 :: [] ∧ cs = .string a0 :: .string a1 :: v2 :: [] ∧ Rep w tt [.row 69 shSheetLine] F2 [.row n2 e2] [v2] := by
  obtain ⟨a0, a1, n2, e2, rfl, tt2⟩ := segTypSheetBlock h.raw.typ
  obtain ⟨x0, rfl, h1⟩ := h.c_s
  obtain ⟨x1, rfl, h2⟩ := h1.c_s
  obtain ⟨F2, G2, v2, x2, rfl, rfl, t2, h3⟩ := h2.c_r
  obtain ⟨rfl, rfl⟩ := h3.c_n
  exact ⟨a0, a1, F2, n2, e2, v2, rfl, rfl, rfl, t2⟩
theorem segRawSheetBlock {w : World} {ds : List Dt} {cs : List Value} (h : Raw w shSheetBlock ds cs) : ∃ (a0 : ByteArray) (a1 : ByteArray) (n2 : Nat) (e2 : List Dt) (v2 : Value), ds = .s a0 :: .s a1 :: .row n2 e2 :: [] ∧ cs = .string a0 :: .string a1 :: v2 :: [] ∧ Raw w [.row 69 shSheetLine] [.row n2 e2] [v2] := by
  obtain ⟨a0, a1, n2, e2, rfl, tt2⟩ := segTypSheetBlock h.typ
  obtain ⟨x0, rfl, h1⟩ := h.c_s
  obtain ⟨x1, rfl, h2⟩ := h1.c_s
  obtain ⟨v2, x2, rfl, t2, h3⟩ := h2.c_r
  obtain rfl := h3.c_n
  exact ⟨a0, a1, n2, e2, v2, rfl, rfl, t2⟩
theorem segRepSheetBlock_mk {w : World} {tt : Bool} (a0 : ByteArray) (a1 : ByteArray) {F2 : List Nat} {n2 : Nat} {e2 : List Dt} {v2 : Value} (h2 : Rep w tt [.row 69 shSheetLine] F2 [.row n2 e2] [v2]) : Rep w tt shSheetBlock (F2 ++ []) (.s a0 :: .s a1 :: .row n2 e2 :: []) (.string a0 :: .string a1 :: v2 :: []) :=
  (.s a0 (.s a1 (h2.app .nil)))
theorem segRawSheetBlock_mk {w : World} (a0 : ByteArray) (a1 : ByteArray) {n2 : Nat} {e2 : List Dt} {v2 : Value} (h2 : Raw w [.row 69 shSheetLine] [.row n2 e2] [v2]) : Raw w shSheetBlock (.s a0 :: .s a1 :: .row n2 e2 :: []) (.string a0 :: .string a1 :: v2 :: []) :=
  (.s a0 (.s a1 (h2.app .nil)))
theorem boxSheetBlock {W : World} {B : Nat} {a0 : ByteArray} {a1 : ByteArray} {v2 : Value}  (h : W.rangeAt B 0 (.string a0 :: .string a1 :: v2 :: [])) : W.cell? ⟨B, 0, none⟩ = some (.string a0) ∧ W.cell? ⟨B, 1, none⟩ = some (.string a1) ∧ W.cell? ⟨B, 2, none⟩ = some (v2) := by
  obtain ⟨g0, k0⟩ := rA_cons h
  have h1 : W.rangeAt B 1 _ := k0
  obtain ⟨g1, k1⟩ := rA_cons h1
  have h2 : W.rangeAt B 2 _ := k1
  obtain ⟨g2, k2⟩ := rA_cons h2
  have h3 : W.rangeAt B 3 _ := k2
  exact ⟨g0, g1, g2⟩
theorem typSheet {ds : List Dt} (h : Typ shSheet ds) : ∃ n0 e0, ds = [.row n0 e0] ∧ Typ (reps n0 shSheetBlock) e0 := by
  obtain ⟨n0, e0, x0, rfl, t0, h1⟩ := h.c_r
  obtain rfl := h1.c_n
  exact ⟨n0, e0, rfl, t0⟩
theorem repSheet {w : World} {tt : Bool} {F : List Nat} {n0 : Nat} {e0 : List Dt} {cs : List Value} (h : Rep w tt shSheet F [.row n0 e0] cs) : ∃ F0 v0, F = F0 ++ [] ∧ cs = [v0] ∧ Rep w tt [.row 42 shSheetBlock] F0 [.row n0 e0] [v0] := by
  obtain ⟨F0, G0, v0, x0, rfl, rfl, t0, h1⟩ := h.c_r
  obtain ⟨rfl, rfl⟩ := h1.c_n
  exact ⟨F0, v0, rfl, rfl, t0⟩
theorem rawSheet {w : World} {n0 : Nat} {e0 : List Dt} {cs : List Value} (h : Raw w shSheet [.row n0 e0] cs) : ∃ v0, cs = [v0] ∧ Raw w [.row 42 shSheetBlock] [.row n0 e0] [v0] := by
  obtain ⟨v0, x0, rfl, t0, h1⟩ := h.c_r
  obtain rfl := h1.c_n
  exact ⟨v0, rfl, t0⟩
theorem repSheet_mk {w : World} {tt : Bool} {F0 : List Nat} {n0 : Nat} {e0 : List Dt} {v0 : Value} (h0 : Rep w tt [.row 42 shSheetBlock] F0 [.row n0 e0] [v0]) : Rep w tt shSheet (F0 ++ []) [.row n0 e0] [v0] :=
  (h0.app .nil)
theorem rawSheet_mk {w : World} {n0 : Nat} {e0 : List Dt} {v0 : Value} (h0 : Raw w [.row 42 shSheetBlock] [.row n0 e0] [v0]) : Raw w shSheet [.row n0 e0] [v0] :=
  (h0.app .nil)
theorem segTypSheet {ds : List Dt} (h : Typ shSheet ds) : ∃ (n0 : Nat) (e0 : List Dt), ds = .row n0 e0 :: [] ∧ Typ (reps n0 shSheetBlock) e0 := by
  obtain ⟨n0, e0, x0, rfl, t0, h1⟩ := h.c_r
  obtain rfl := h1.c_n
  exact ⟨n0, e0, rfl, t0⟩
theorem segRepSheet {w : World} {tt : Bool} {F : List Nat} {ds : List Dt} {cs : List Value} (h : Rep w tt shSheet F ds cs) : ∃ (F0 : List Nat) (n0 : Nat) (e0 : List Dt) (v0 : Value), F = (F0 ++ []) ∧ ds = .row n0 e0 :: [] ∧ cs = v0 :: [] ∧ Rep w tt [.row 42 shSheetBlock] F0 [.row n0 e0] [v0] := by
  obtain ⟨n0, e0, rfl, tt0⟩ := segTypSheet h.raw.typ
  obtain ⟨F0, G0, v0, x0, rfl, rfl, t0, h1⟩ := h.c_r
  obtain ⟨rfl, rfl⟩ := h1.c_n
  exact ⟨F0, n0, e0, v0, rfl, rfl, rfl, t0⟩
theorem segRawSheet {w : World} {ds : List Dt} {cs : List Value} (h : Raw w shSheet ds cs) : ∃ (n0 : Nat) (e0 : List Dt) (v0 : Value), ds = .row n0 e0 :: [] ∧ cs = v0 :: [] ∧ Raw w [.row 42 shSheetBlock] [.row n0 e0] [v0] := by
  obtain ⟨n0, e0, rfl, tt0⟩ := segTypSheet h.typ
  obtain ⟨v0, x0, rfl, t0, h1⟩ := h.c_r
  obtain rfl := h1.c_n
  exact ⟨n0, e0, v0, rfl, rfl, t0⟩
theorem segRepSheet_mk {w : World} {tt : Bool} {F0 : List Nat} {n0 : Nat} {e0 : List Dt} {v0 : Value} (h0 : Rep w tt [.row 42 shSheetBlock] F0 [.row n0 e0] [v0]) : Rep w tt shSheet (F0 ++ []) (.row n0 e0 :: []) (v0 :: []) :=
  (h0.app .nil)
theorem segRawSheet_mk {w : World} {n0 : Nat} {e0 : List Dt} {v0 : Value} (h0 : Raw w [.row 42 shSheetBlock] [.row n0 e0] [v0]) : Raw w shSheet (.row n0 e0 :: []) (v0 :: []) :=
  (h0.app .nil)
theorem boxSheet {W : World} {B : Nat} {v0 : Value}  (h : W.rangeAt B 0 (v0 :: [])) : W.cell? ⟨B, 0, none⟩ = some (v0) := by
  obtain ⟨g0, k0⟩ := rA_cons h
  have h1 : W.rangeAt B 1 _ := k0
  exact g0
end Go.Proofs.Ytojcopamegmeeaa
