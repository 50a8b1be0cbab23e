/-
  The shapes of worlds of recorders.
-/
import Derived.Test.YtfkkohfjkofgnaaGreatKSh
namespace Go.Proofs.YtfkkohfjkofgnaaGreat
open Go.RowKit Go.Deep

abbrev shRecFix : List Sh := [.i, .s]
abbrev shRecWorld : List Sh := [.row 84 shRecorder, .row 120 shRecMessage, .row 123 shRecFix]
theorem typRecFix {ds : List Dt} (h : Typ shRecFix ds) : ∃ a0 a1, ds = [.i a0, .s a1] := by
  obtain ⟨a0, x0, rfl, h1⟩ := h.c_i
  obtain ⟨a1, x1, rfl, h2⟩ := h1.c_s
  obtain rfl := h2.c_n
  exact ⟨a0, a1, rfl⟩
theorem repRecFix {w : World} {tt : Bool} {F : List Nat} {a0 : Int} {a1 : ByteArray} {cs : List Value} (h : Rep w tt shRecFix F [.i a0, .s a1] cs) : F = [] ∧ cs = [.int .i64 a0, .string a1] := by
  obtain ⟨x0, rfl, h1⟩ := h.c_i
  obtain ⟨x1, rfl, h2⟩ := h1.c_s
  obtain ⟨rfl, rfl⟩ := h2.c_n
  exact ⟨rfl, rfl⟩
theorem rawRecFix {w : World} {a0 : Int} {a1 : ByteArray} {cs : List Value} (h : Raw w shRecFix [.i a0, .s a1] cs) : cs = [.int .i64 a0, .string a1] := by
  obtain ⟨x0, rfl, h1⟩ := h.c_i
  obtain ⟨x1, rfl, h2⟩ := h1.c_s
  obtain rfl := h2.c_n
  exact rfl
theorem repRecFix_mk {w : World} {tt : Bool} (a0 : Int) (a1 : ByteArray) : Rep w tt shRecFix ([]) [.i a0, .s a1] [.int .i64 a0, .string a1] :=
  (.i a0 (.s a1 .nil))
theorem rawRecFix_mk {w : World} (a0 : Int) (a1 : ByteArray) : Raw w shRecFix [.i a0, .s a1] [.int .i64 a0, .string a1] :=
  (.i a0 (.s a1 .nil))
theorem segTypRecFix {ds : List Dt} (h : Typ shRecFix ds) : ∃ (a0 : Int) (a1 : ByteArray), ds = .i a0 :: .s a1 :: [] := by
  obtain ⟨a0, x0, rfl, h1⟩ := h.c_i
  obtain ⟨a1, x1, rfl, h2⟩ := h1.c_s
  obtain rfl := h2.c_n
  exact ⟨a0, a1, rfl⟩
theorem segRepRecFix {w : World} {tt : Bool} {F : List Nat} {ds : List Dt} {cs : List Value} (h : Rep w tt shRecFix F ds cs) : ∃ (a0 : Int) (a1 : ByteArray), F = [] ∧ ds = .i a0 :: .s a1 :: [] ∧ cs = .int .i64 a0 :: .string a1 :: [] := by
  obtain ⟨a0, a1, rfl⟩ := segTypRecFix h.raw.typ
  obtain ⟨x0, rfl, h1⟩ := h.c_i
  obtain ⟨x1, rfl, h2⟩ := h1.c_s
  obtain ⟨rfl, rfl⟩ := h2.c_n
  exact ⟨a0, a1, rfl, rfl, rfl⟩
theorem segRawRecFix {w : World} {ds : List Dt} {cs : List Value} (h : Raw w shRecFix ds cs) : ∃ (a0 : Int) (a1 : ByteArray), ds = .i a0 :: .s a1 :: [] ∧ cs = .int .i64 a0 :: .string a1 :: [] := by
  obtain ⟨a0, a1, rfl⟩ := segTypRecFix h.typ
  obtain ⟨x0, rfl, h1⟩ := h.c_i
  obtain ⟨x1, rfl, h2⟩ := h1.c_s
  obtain rfl := h2.c_n
  exact ⟨a0, a1, rfl, rfl⟩
theorem segRepRecFix_mk {w : World} {tt : Bool} (a0 : Int) (a1 : ByteArray) : Rep w tt shRecFix [] (.i a0 :: .s a1 :: []) (.int .i64 a0 :: .string a1 :: []) :=
  (.i a0 (.s a1 .nil))
theorem segRawRecFix_mk {w : World} (a0 : Int) (a1 : ByteArray) : Raw w shRecFix (.i a0 :: .s a1 :: []) (.int .i64 a0 :: .string a1 :: []) :=
  (.i a0 (.s a1 .nil))
theorem boxRecFix {W : World} {B : Nat} {a0 : Int} {a1 : ByteArray}  (h : W.rangeAt B 0 (.int .i64 a0 :: .string a1 :: [])) : W.cell? ⟨B, 0, none⟩ = some (.int .i64 a0) ∧ W.cell? ⟨B, 1, none⟩ = some (.string a1) := by
  obtain ⟨g0, k0⟩ := rA_cons h
  have h1 : W.rangeAt B 1 _ := k0
  obtain ⟨g1, k1⟩ := rA_cons h1
  have h2 : W.rangeAt B 2 _ := k1
  exact ⟨g0, g1⟩
theorem typRecWorld {ds : List Dt} (h : Typ shRecWorld ds) : ∃ n0 e0 n1 e1 n2 e2, ds = [.row n0 e0, .row n1 e1, .row n2 e2] ∧ Typ (reps n0 shRecorder) e0 ∧ Typ (reps n1 shRecMessage) e1 ∧ Typ (reps n2 shRecFix) e2 := by
  obtain ⟨n0, e0, x0, rfl, t0, h1⟩ := h.c_r
  obtain ⟨n1, e1, x1, rfl, t1, h2⟩ := h1.c_r
  obtain ⟨n2, e2, x2, rfl, t2, h3⟩ := h2.c_r
  obtain rfl := h3.c_n
  exact ⟨n0, e0, n1, e1, n2, e2, rfl, t0, t1, t2⟩
theorem repRecWorld {w : World} {tt : Bool} {F : List Nat} {n0 : Nat} {e0 : List Dt} {n1 : Nat} {e1 : List Dt} {n2 : Nat} {e2 : List Dt} {cs : List Value} (h : Rep w tt shRecWorld F [.row n0 e0, .row n1 e1, .row n2 e2] cs) : ∃ F0 v0 F1 v1 F2 v2, F = F0 ++ (F1 ++ (F2 ++ [])) ∧ cs = [v0, v1, v2] ∧ Rep w tt [.row 84 shRecorder] F0 [.row n0 e0] [v0] ∧ Rep w tt [.row 120 shRecMessage] F1 [.row n1 e1] [v1] ∧ Rep w tt [.row 123 shRecFix] F2 [.row n2 e2] [v2] := by
  obtain ⟨F0, G0, v0, x0, rfl, rfl, t0, h1⟩ := h.c_r
  obtain ⟨F1, G1, v1, x1, rfl, rfl, t1, h2⟩ := h1.c_r
  obtain ⟨F2, G2, v2, x2, rfl, rfl, t2, h3⟩ := h2.c_r
  obtain ⟨rfl, rfl⟩ := h3.c_n
  exact ⟨F0, v0, F1, v1, F2, v2, rfl, rfl, t0, t1, t2⟩
theorem rawRecWorld {w : World} {n0 : Nat} {e0 : List Dt} {n1 : Nat} {e1 : List Dt} {n2 : Nat} {e2 : List Dt} {cs : List Value} (h : Raw w shRecWorld [.row n0 e0, .row n1 e1, .row n2 e2] cs) : ∃ v0 v1 v2, cs = [v0, v1, v2] ∧ Raw w [.row 84 shRecorder] [.row n0 e0] [v0] ∧ Raw w [.row 120 shRecMessage] [.row n1 e1] [v1] ∧ Raw w [.row 123 shRecFix] [.row n2 e2] [v2] := by
  obtain ⟨v0, x0, rfl, t0, h1⟩ := h.c_r
  obtain ⟨v1, x1, rfl, t1, h2⟩ := h1.c_r
  obtain ⟨v2, x2, rfl, t2, h3⟩ := h2.c_r
  obtain rfl := h3.c_n
  exact ⟨v0, v1, v2, rfl, t0, t1, t2⟩
theorem repRecWorld_mk {w : World} {tt : Bool} {F0 : List Nat} {n0 : Nat} {e0 : List Dt} {v0 : Value} (h0 : Rep w tt [.row 84 shRecorder] F0 [.row n0 e0] [v0]) {F1 : List Nat} {n1 : Nat} {e1 : List Dt} {v1 : Value} (h1 : Rep w tt [.row 120 shRecMessage] F1 [.row n1 e1] [v1]) {F2 : List Nat} {n2 : Nat} {e2 : List Dt} {v2 : Value} (h2 : Rep w tt [.row 123 shRecFix] F2 [.row n2 e2] [v2]) : Rep w tt shRecWorld (F0 ++ (F1 ++ (F2 ++ []))) [.row n0 e0, .row n1 e1, .row n2 e2] [v0, v1, v2] :=
  (h0.app (h1.app (h2.app .nil)))
theorem rawRecWorld_mk {w : World} {n0 : Nat} {e0 : List Dt} {v0 : Value} (h0 : Raw w [.row 84 shRecorder] [.row n0 e0] [v0]) {n1 : Nat} {e1 : List Dt} {v1 : Value} (h1 : Raw w [.row 120 shRecMessage] [.row n1 e1] [v1]) {n2 : Nat} {e2 : List Dt} {v2 : Value} (h2 : Raw w [.row 123 shRecFix] [.row n2 e2] [v2]) : Raw w shRecWorld [.row n0 e0, .row n1 e1, .row n2 e2] [v0, v1, v2] :=
  (h0.app (h1.app (h2.app .nil)))
theorem segTypRecWorld {ds : List Dt} (h : Typ shRecWorld ds) : ∃ (n0 : Nat) (e0 : List Dt) (n1 : Nat) (e1 : List Dt) (n2 : Nat) (e2 : List Dt), ds = .row n0 e0 :: .row n1 e1 :: .row n2 e2 :: [] ∧ Typ (reps n0 shRecorder) e0 ∧ Typ (reps n1 shRecMessage) e1 ∧ Typ (reps n2 shRecFix) e2 := by
  obtain ⟨n0, e0, x0, rfl, t0, h1⟩ := h.c_r
  obtain ⟨n1, e1, x1, rfl, t1, h2⟩ := h1.c_r
  obtain ⟨n2, e2, x2, rfl, t2, h3⟩ := h2.c_r
  obtain rfl := h3.c_n
  exact ⟨n0, e0, n1, e1, n2, e2, rfl, t0, t1, t2⟩
theorem segRepRecWorld {w : World} {tt : Bool} {F : List Nat} {ds : List Dt} {cs : List Value} (h : Rep w tt shRecWorld F ds cs) : ∃ (F0 : List Nat) (n0 : Nat) (e0 : List Dt) (v0 : Value) (F1 : List Nat) (n1 : Nat) (e1 : List Dt) (v1 : Value) (F2 : List Nat) (n2 : Nat) (e2 : List Dt) (v2 : Value), F = (F0 ++ (F1 ++ (F2 ++ []))) ∧ ds = .row n0 e0 :: .row n1 e1 :: .row n2 e2 :: [] ∧ cs = v0 :: v1 :: v2 :: [] ∧ Rep w tt [.row 84 shRecorder] F0 [.row n0 e0] [v0] ∧ Rep w tt [.row 120 shRecMessage] F1 [.row n1 e1] [v1] ∧ Rep w tt [.row 123 shRecFix] F2 [.row n2 e2] [v2] := by
  obtain ⟨n0, e0, n1, e1, n2, e2, rfl, tt0, tt1, tt2⟩ := segTypRecWorld h.raw.typ
  obtain ⟨F0, G0, v0, x0, rfl, rfl, t0, h1⟩ := h.c_r
  obtain ⟨F1, G1, v1, x1, rfl, rfl, t1, h2⟩ := h1.c_r
  obtain ⟨F2, G2, v2, x2, rfl, rfl, t2, h3⟩ := h2.c_r
  obtain ⟨rfl, rfl⟩ := h3.c_n
  exact ⟨F0, n0, e0, v0, F1, n1, e1, v1, F2, n2, e2, v2, rfl, rfl, rfl, t0, t1, t2⟩
theorem segRawRecWorld {w : World} {ds : List Dt} {cs : List Value} (h : Raw w shRecWorld ds cs) : ∃ (n0 : Nat) (e0 : List Dt) (v0 : Value) (n1 : Nat) (e1 : List Dt) (v1 : Value) (n2 : Nat) (e2 : List Dt) (v2 : Value), ds = .row n0 e0 :: .row n1 e1 :: .row n2 e2 :: [] ∧ cs = v0 :: v1 :: v2 :: [] ∧ Raw w [.row 84 shRecorder] [.row n0 e0] [v0] ∧ Raw w [.row 120 shRecMessage] [.row n1 e1] [v1] ∧ Raw w [.row 123 shRecFix] [.row n2 e2] [v2] := by
  obtain ⟨n0, e0, n1, e1, n2, e2, rfl, tt0, tt1, tt2⟩ := segTypRecWorld h.typ
  obtain ⟨v0, x0, rfl, t0, h1⟩ := h.c_r
  obtain ⟨v1, x1, rfl, t1, h2⟩ := h1.c_r
  obtain ⟨v2, x2, rfl, t2, h3⟩ := h2.c_r
  obtain rfl := h3.c_n
  exact ⟨n0, e0, v0, n1, e1, v1, n2, e2, v2, rfl, rfl, t0, t1, t2⟩
theorem segRepRecWorld_mk {w : World} {tt : Bool} {F0 : List Nat} {n0 : Nat} {e0 : List Dt} {v0 : Value} (h0 : Rep w tt [.row 84 shRecorder] F0 [.row n0 e0] [v0]) {F1 : List Nat} {n1 : Nat} {e1 : List Dt} {v1 : Value} (h1 : Rep w tt [.row 120 shRecMessage] F1 [.row n1 e1] [v1]) {F2 : List Nat} {n2 : Nat} {e2 : List Dt} {v2 : Value} (h2 : Rep w tt [.row 123 shRecFix] F2 [.row n2 e2] [v2]) : Rep w tt shRecWorld (F0 ++ (F1 ++ (F2 ++ []))) (.row n0 e0 :: .row n1 e1 :: .row n2 e2 :: []) (v0 :: v1 :: v2 :: []) :=
  (h0.app (h1.app (h2.app .nil)))
theorem segRawRecWorld_mk {w : World} {n0 : Nat} {e0 : List Dt} {v0 : Value} (h0 : Raw w [.row 84 shRecorder] [.row n0 e0] [v0]) {n1 : Nat} {e1 : List Dt} {v1 : Value} (h1 : Raw w [.row 120 shRecMessage] [.row n1 e1] [v1]) {n2 : Nat} {e2 : List Dt} {v2 : Value} (h2 : Raw w [.row 123 shRecFix] [.row n2 e2] [v2]) : Raw w shRecWorld (.row n0 e0 :: .row n1 e1 :: .row n2 e2 :: []) (v0 :: v1 :: v2 :: []) :=
  (h0.app (h1.app (h2.app .nil)))
theorem boxRecWorld {W : World} {B : Nat} {v0 : Value} {v1 : Value} {v2 : Value}  (h : W.rangeAt B 0 (v0 :: v1 :: v2 :: [])) : W.cell? ⟨B, 0, none⟩ = some (v0) ∧ W.cell? ⟨B, 1, none⟩ = some (v1) ∧ W.cell? ⟨B, 2, none⟩ = some (v2) := by
  obtain ⟨g0, k0⟩ := rA_cons h
  have h1 : W.rangeAt B 1 _ := k0
  obtain ⟨g1, k1⟩ := rA_cons h1
  have h2 : W.rangeAt B 2 _ := k1
  obtain ⟨g2, k2⟩ := rA_cons h2
  have h3 : W.rangeAt B 3 _ := k2
  exact ⟨g0, g1, g2⟩
end Go.Proofs.YtfkkohfjkofgnaaGreat
