/-
  The shape of a rule.
-/
import Derived.Test.YtfhobegepiijhaaECs
namespace Go.Proofs.Ytfhobegepiijhaa
open Go.RowKit Go.Deep

abbrev shSheetRule : List Sh := [.s, .row 3 [.i], .b, .row 9 [.s]]
theorem typSheetRule {ds : List Dt} (h : Typ shSheetRule ds) : ∃ a0 n1 e1 a2 n3 e3, ds = [.s a0, .row n1 e1, .b a2, .row n3 e3] ∧ Typ (reps n1 [.i]) e1 ∧ Typ (reps n3 [.s]) e3 := by
  obtain ⟨a0, x0, rfl, h1⟩ := h.c_s
  obtain ⟨n1, e1, x1, rfl, t1, h2⟩ := h1.c_r
  obtain ⟨a2, x2, rfl, h3⟩ := h2.c_b
  obtain ⟨n3, e3, x3, rfl, t3, h4⟩ := h3.c_r
  obtain rfl := h4.c_n
  exact ⟨a0, n1, e1, a2, n3, e3, rfl, t1, t3⟩
theorem repSheetRule {w : World} {tt : Bool} {F : List Nat} {a0 : ByteArray} {n1 : Nat} {e1 : List Dt} {a2 : Bool} {n3 : Nat} {e3 : List Dt} {cs : List Value} (h : Rep w tt shSheetRule F [.s a0, .row n1 e1, .b a2, .row n3 e3] cs) : ∃ F1 v1 F3 v3, F = F1 ++ (F3 ++ []) ∧ cs = [.string a0, v1, .bool a2, v3] ∧ Rep w tt [.row 3 [.i]] F1 [.row n1 e1] [v1] ∧ Rep w tt [.row 9 [.s]] F3 [.row n3 e3] [v3] := by
  obtain ⟨x0, rfl, h1⟩ := h.c_s
  obtain ⟨F1, G1, v1, x1, rfl, rfl, t1, h2⟩ := h1.c_r
  obtain ⟨x2, rfl, h3⟩ := h2.c_b
  obtain ⟨F3, G3, v3, x3, rfl, rfl, t3, h4⟩ := h3.c_r
  obtain ⟨rfl, rfl⟩ := h4.c_n
  exact ⟨F1, v1, F3, v3, rfl, rfl, t1, t3⟩
theorem rawSheetRule {w : World} {a0 : ByteArray} {n1 : Nat} {e1 : List Dt} {a2 : Bool} {n3 : Nat} {e3 : List Dt} {cs : List Value} (h : Raw w shSheetRule [.s a0, .row n1 e1, .b a2, .row n3 e3] cs) : ∃ v1 v3, cs = [.string a0, v1, .bool a2, v3] ∧ Raw w [.row 3 [.i]] [.row n1 e1] [v1] ∧ Raw w [.row 9 [.s]] [.row n3 e3] [v3] := by
  obtain ⟨x0, rfl, h1⟩ := h.c_s
  obtain ⟨v1, x1, rfl, t1, h2⟩ := h1.c_r
  obtain ⟨x2, rfl, h3⟩ := h2.c_b
  obtain ⟨v3, x3, rfl, t3, h4⟩ := h3.c_r
  obtain rfl := h4.c_n
  exact ⟨v1, v3, rfl, t1, t3⟩
theorem repSheetRule_mk {w : World} {tt : Bool} (a0 : ByteArray) {F1 : List Nat} {n1 : Nat} {e1 : List Dt} {v1 : Value} (h1 : Rep w tt [.row 3 [.i]] F1 [.row n1 e1] [v1]) (a2 : Bool) {F3 : List Nat} {n3 : Nat} {e3 : List Dt} {v3 : Value} (h3 : Rep w tt [.row 9 [.s]] F3 [.row n3 e3] [v3]) : Rep w tt shSheetRule (F1 ++ (F3 ++ [])) [.s a0, .row n1 e1, .b a2, .row n3 e3] [.string a0, v1, .bool a2, v3] :=
  (.s a0 (h1.app (.b a2 (h3.app .nil))))
theorem rawSheetRule_mk {w : World} (a0 : ByteArray) {n1 : Nat} {e1 : List Dt} {v1 : Value} (h1 : Raw w [.row 3 [.i]] [.row n1 e1] [v1]) (a2 : Bool) {n3 : Nat} {e3 : List Dt} {v3 : Value} (h3 : Raw w [.row 9 [.s]] [.row n3 e3] [v3]) : Raw w shSheetRule [.s a0, .row n1 e1, .b a2, .row n3 e3] [.string a0, v1, .bool a2, v3] :=
  (.s a0 (h1.app (.b a2 (h3.app .nil))))
theorem segTypSheetRule {ds : List Dt} (h : Typ shSheetRule ds) : ∃ (a0 : ByteArray) (n1 : Nat) (e1 : List Dt) (a2 : Bool) (n3 : Nat) (e3 : List Dt), ds = .s a0 :: .row n1 e1 :: .b a2 :: .row n3 e3 :: [] ∧ Typ (reps n1 [.i]) e1 ∧ Typ (reps n3 [.s]) e3 := by
  obtain ⟨a0, x0, rfl, h1⟩ := h.c_s
  obtain ⟨n1, e1, x1, rfl, t1, h2⟩ := h1.c_r
  obtain ⟨a2, x2, rfl, h3⟩ := h2.c_b
  obtain ⟨n3, e3, x3, rfl, t3, h4⟩ := h3.c_r
  obtain rfl := h4.c_n
  exact ⟨a0, n1, e1, a2, n3, e3, rfl, t1, t3⟩
theorem segRepSheetRule {w : World} {tt : Bool} {F : List Nat} {ds : List Dt} {cs : List Value} (h : Rep w tt shSheetRule F ds cs) : ∃ (a0 : ByteArray) (F1 : List Nat) (n1 : Nat) (e1 : List Dt) (v1 : Value) (a2 : Bool) (F3 : List Nat) (n3 : Nat) (e3 : List Dt) (v3 : Value), F = (F1 ++ (F3 ++ [])) ∧ ds = .s a0 :: .row n1 e1 :: .b a2 :: .row n3 e3 :: [] ∧ cs = .string a0 :: v1 :: .bool a2 :: v3 :: [] ∧ Rep w tt [.row 3 [.i]] F1 [.row n1 e1] [v1] ∧ Rep w tt [.row 9 [.s]] F3 [.row n3 e3] [v3] := by
  obtain ⟨a0, n1, e1, a2, n3, e3, rfl, tt1, tt3⟩ := segTypSheetRule h.raw.typ
  obtain ⟨x0, rfl, h1⟩ := h.c_s
  obtain ⟨F1, G1, v1, x1, rfl, rfl, t1, h2⟩ := h1.c_r
  obtain ⟨x2, rfl, h3⟩ := h2.c_b
  obtain ⟨F3, G3, v3, x3, rfl, rfl, t3, h4⟩ := h3.c_r
  obtain ⟨rfl, rfl⟩ := h4.c_n
  exact ⟨a0, F1, n1, e1, v1, a2, F3, n3, e3, v3, rfl, rfl, rfl, t1, t3⟩
theorem segRawSheetRule {w : World} {ds : List Dt} {cs : List Value} (h : Raw w shSheetRule ds cs) : ∃ (a0 : ByteArray) (n1 : Nat) (e1 : List Dt) (v1 : Value) (a2 : Bool) (n3 : Nat) (e3 : List Dt) (v3 : Value), ds = .s a0 :: .row n1 e1 :: .b a2 :: .row n3 e3 :: [] ∧ cs = .string a0 :: v1 :: .bool a2 :: v3 :: [] ∧ Raw w [.row 3 [.i]] [.row n1 e1] [v1] ∧ Raw w [.row 9 [.s]] [.row n3 e3] [v3] := by
  obtain ⟨a0, n1, e1, a2, n3, e3, rfl, tt1, tt3⟩ := segTypSheetRule h.typ
  obtain ⟨x0, rfl, h1⟩ := h.c_s
  obtain ⟨v1, x1, rfl, t1, h2⟩ := h1.c_r
  obtain ⟨x2, rfl, h3⟩ := h2.c_b
  obtain ⟨v3, x3, rfl, t3, h4⟩ := h3.c_r
  obtain rfl := h4.c_n
  exact ⟨a0, n1, e1, v1, a2, n3, e3, v3, rfl, rfl, t1, t3⟩
theorem segRepSheetRule_mk {w : World} {tt : Bool} (a0 : ByteArray) {F1 : List Nat} {n1 : Nat} {e1 : List Dt} {v1 : Value} (h1 : Rep w tt [.row 3 [.i]] F1 [.row n1 e1] [v1]) (a2 : Bool) {F3 : List Nat} {n3 : Nat} {e3 : List Dt} {v3 : Value} (h3 : Rep w tt [.row 9 [.s]] F3 [.row n3 e3] [v3]) : Rep w tt shSheetRule (F1 ++ (F3 ++ [])) (.s a0 :: .row n1 e1 :: .b a2 :: .row n3 e3 :: []) (.string a0 :: v1 :: .bool a2 :: v3 :: []) :=
  (.s a0 (h1.app (.b a2 (h3.app .nil))))
theorem segRawSheetRule_mk {w : World} (a0 : ByteArray) {n1 : Nat} {e1 : List Dt} {v1 : Value} (h1 : Raw w [.row 3 [.i]] [.row n1 e1] [v1]) (a2 : Bool) {n3 : Nat} {e3 : List Dt} {v3 : Value} (h3 : Raw w [.row 9 [.s]] [.row n3 e3] [v3]) : Raw w shSheetRule (.s a0 :: .row n1 e1 :: .b a2 :: .row n3 e3 :: []) (.string a0 :: v1 :: .bool a2 :: v3 :: []) :=
  (.s a0 (h1.app (.b a2 (h3.app .nil))))
theorem boxSheetRule {W : World} {B : Nat} {a0 : ByteArray} {v1 : Value} {a2 : Bool} {v3 : Value}  (h : W.rangeAt B 0 (.string a0 :: v1 :: .bool a2 :: v3 :: [])) : W.cell? ⟨B, 0, none⟩ = some (.string a0) ∧ W.cell? ⟨B, 1, none⟩ = some (v1) ∧ W.cell? ⟨B, 2, none⟩ = some (.bool a2) ∧ W.cell? ⟨B, 3, none⟩ = some (v3) := by
  obtain ⟨g0, k0⟩ := rA_cons h
  have h1 : W.rangeAt B 1 _ := k0
  obtain ⟨g1, k1⟩ := rA_cons h1
  have h2 : W.rangeAt B 2 _ := k1
  obtain ⟨g2, k2⟩ := rA_cons h2
  have h3 : W.rangeAt B 3 _ := k2
  obtain ⟨g3, k3⟩ := rA_cons h3
  have h4 : W.rangeAt B 4 _ := k3
  exact ⟨g0, g1, g2, g3⟩
end Go.Proofs.Ytfhobegepiijhaa
