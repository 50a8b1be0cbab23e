/-
  The shape of a line's words.
-/
import Derived.Test.YtojcopamegmeeaaUB
namespace Go.Proofs.Ytojcopamegmeeaa
open Go.RowKit Go.Deep

abbrev shSheetCut : List Sh := [.row 9 [.s], .b]
theorem typN1 {ds : List Dt} (h : Typ [.i] ds) : ∃ a0, ds = [.i a0] := by
  obtain ⟨a0, x0, rfl, h1⟩ := h.c_i
  obtain rfl := h1.c_n
  exact ⟨a0, rfl⟩
theorem repN1 {w : World} {tt : Bool} {F : List Nat} {a0 : Int} {cs : List Value} (h : Rep w tt [.i] F [.i a0] cs) : F = [] ∧ cs = [.int .i64 a0] := by
  obtain ⟨x0, rfl, h1⟩ := h.c_i
  obtain ⟨rfl, rfl⟩ := h1.c_n
  exact ⟨rfl, rfl⟩
theorem rawN1 {w : World} {a0 : Int} {cs : List Value} (h : Raw w [.i] [.i a0] cs) : cs = [.int .i64 a0] := by
  obtain ⟨x0, rfl, h1⟩ := h.c_i
  obtain rfl := h1.c_n
  exact rfl
theorem repN1_mk {w : World} {tt : Bool} (a0 : Int) : Rep w tt [.i] ([]) [.i a0] [.int .i64 a0] :=
  (.i a0 .nil)
theorem rawN1_mk {w : World} (a0 : Int) : Raw w [.i] [.i a0] [.int .i64 a0] :=
  (.i a0 .nil)
theorem typT1 {ds : List Dt} (h : Typ [.s] ds) : ∃ a0, ds = [.s a0] := by
  obtain ⟨a0, x0, rfl, h1⟩ := h.c_s
  obtain rfl := h1.c_n
  exact ⟨a0, rfl⟩
theorem repT1 {w : World} {tt : Bool} {F : List Nat} {a0 : ByteArray} {cs : List Value} (h : Rep w tt [.s] F [.s a0] cs) : F = [] ∧ cs = [.string a0] := by
  obtain ⟨x0, rfl, h1⟩ := h.c_s
  obtain ⟨rfl, rfl⟩ := h1.c_n
  exact ⟨rfl, rfl⟩
theorem rawT1 {w : World} {a0 : ByteArray} {cs : List Value} (h : Raw w [.s] [.s a0] cs) : cs = [.string a0] := by
  obtain ⟨x0, rfl, h1⟩ := h.c_s
  obtain rfl := h1.c_n
  exact rfl
theorem repT1_mk {w : World} {tt : Bool} (a0 : ByteArray) : Rep w tt [.s] ([]) [.s a0] [.string a0] :=
  (.s a0 .nil)
theorem rawT1_mk {w : World} (a0 : ByteArray) : Raw w [.s] [.s a0] [.string a0] :=
  (.s a0 .nil)
theorem typSheetCut {ds : List Dt} (h : Typ shSheetCut ds) : ∃ n0 e0 a1, ds = [.row n0 e0, .b a1] ∧ Typ (reps n0 [.s]) e0 := by
  obtain ⟨n0, e0, x0, rfl, t0, h1⟩ := h.c_r
  obtain ⟨a1, x1, rfl, h2⟩ := h1.c_b
  obtain rfl := h2.c_n
  exact ⟨n0, e0, a1, rfl, t0⟩
theorem repSheetCut {w : World} {tt : Bool} {F : List Nat} {n0 : Nat} {e0 : List Dt} {a1 : Bool} {cs : List Value} (h : Rep w tt shSheetCut F [.row n0 e0, .b a1] cs) : ∃ F0 v0, F = F0 ++ [] ∧ cs = [v0, .bool a1] ∧ Rep w tt [.row 9 [.s]] F0 [.row n0 e0] [v0] := by
  obtain ⟨F0, G0, v0, x0, rfl, rfl, t0, h1⟩ := h.c_r
  obtain ⟨x1, rfl, h2⟩ := h1.c_b
  obtain ⟨rfl, rfl⟩ := h2.c_n
  exact ⟨F0, v0, rfl, rfl, t0⟩
theorem rawSheetCut {w : World} {n0 : Nat} {e0 : List Dt} {a1 : Bool} {cs : List Value} (h : Raw w shSheetCut [.row n0 e0, .b a1] cs) : ∃ v0, cs = [v0, .bool a1] ∧ Raw w [.row 9 [.s]] [.row n0 e0] [v0] := by
  obtain ⟨v0, x0, rfl, t0, h1⟩ := h.c_r
  obtain ⟨x1, rfl, h2⟩ := h1.c_b
  obtain rfl := h2.c_n
  exact ⟨v0, rfl, t0⟩
theorem repSheetCut_mk {w : World} {tt : Bool} {F0 : List Nat} {n0 : Nat} {e0 : List Dt} {v0 : Value} (h0 : Rep w tt [.row 9 [.s]] F0 [.row n0 e0] [v0]) (a1 : Bool) : Rep w tt shSheetCut (F0 ++ []) [.row n0 e0, .b a1] [v0, .bool a1] :=
  (h0.app (.b a1 .nil))
theorem rawSheetCut_mk {w : World} {n0 : Nat} {e0 : List Dt} {v0 : Value} (h0 : Raw w [.row 9 [.s]] [.row n0 e0] [v0]) (a1 : Bool) : Raw w shSheetCut [.row n0 e0, .b a1] [v0, .bool a1] :=
  (h0.app (.b a1 .nil))
theorem segTypSheetCut {ds : List Dt} (h : Typ shSheetCut ds) : ∃ (n0 : Nat) (e0 : List Dt) (a1 : Bool), ds = .row n0 e0 :: .b a1 :: [] ∧ Typ (reps n0 [.s]) e0 := by
  obtain ⟨n0, e0, x0, rfl, t0, h1⟩ := h.c_r
  obtain ⟨a1, x1, rfl, h2⟩ := h1.c_b
  obtain rfl := h2.c_n
  exact ⟨n0, e0, a1, rfl, t0⟩
theorem segRepSheetCut {w : World} {tt : Bool} {F : List Nat} {ds : List Dt} {cs : List Value} (h : Rep w tt shSheetCut F ds cs) : ∃ (F0 : List Nat) (n0 : Nat) (e0 : List Dt) (v0 : Value) (a1 : Bool), F = (F0 ++ []) ∧ ds = .row n0 e0 :: .b a1 :: [] ∧ cs = v0 :: .bool a1 :: [] ∧ Rep w tt [.row 9 [.s]] F0 [.row n0 e0] [v0] := by
  obtain ⟨n0, e0, a1, rfl, tt0⟩ := segTypSheetCut h.raw.typ
  obtain ⟨F0, G0, v0, x0, rfl, rfl, t0, h1⟩ := h.c_r
  obtain ⟨x1, rfl, h2⟩ := h1.c_b
  obtain ⟨rfl, rfl⟩ := h2.c_n
  exact ⟨F0, n0, e0, v0, a1, rfl, rfl, rfl, t0⟩
theorem segRawSheetCut {w : World} {ds : List Dt} {cs : List Value} (h : Raw w shSheetCut ds cs) : ∃ (n0 : Nat) (e0 : List Dt) (v0 : Value) (a1 : Bool), ds = .row n0 e0 :: .b a1 :: [] ∧ cs = v0 :: .bool a1 :: [] ∧ Raw w [.row 9 [.s]] [.row n0 e0] [v0] := by
  obtain ⟨n0, e0, a1, rfl, tt0⟩ := segTypSheetCut h.typ
  obtain ⟨v0, x0, rfl, t0, h1⟩ := h.c_r
  obtain ⟨x1, rfl, h2⟩ := h1.c_b
  obtain rfl := h2.c_n
  exact ⟨n0, e0, v0, a1, rfl, rfl, t0⟩
theorem segRepSheetCut_mk {w : World} {tt : Bool} {F0 : List Nat} {n0 : Nat} {e0 : List Dt} {v0 : Value} (h0 : Rep w tt [.row 9 [.s]] F0 [.row n0 e0] [v0]) (a1 : Bool) : Rep w tt shSheetCut (F0 ++ []) (.row n0 e0 :: .b a1 :: []) (v0 :: .bool a1 :: []) :=
  (h0.app (.b a1 .nil))
theorem segRawSheetCut_mk {w : World} {n0 : Nat} {e0 : List Dt} {v0 : Value} (h0 : Raw w [.row 9 [.s]] [.row n0 e0] [v0]) (a1 : Bool) : Raw w shSheetCut (.row n0 e0 :: .b a1 :: []) (v0 :: .bool a1 :: []) :=
  (h0.app (.b a1 .nil))
theorem boxSheetCut {W : World} {B : Nat} {v0 : Value} {a1 : Bool}  (h : W.rangeAt B 0 (v0 :: .bool a1 :: [])) : W.cell? ⟨B, 0, none⟩ = some (v0) ∧ W.cell? ⟨B, 1, none⟩ = some (.bool a1) := by
  obtain ⟨g0, k0⟩ := rA_cons h
  have h1 : W.rangeAt B 1 _ := k0
  obtain ⟨g1, k1⟩ := rA_cons h1
  have h2 : W.rangeAt B 2 _ := k1
  exact ⟨g0, g1⟩
end Go.Proofs.Ytojcopamegmeeaa
