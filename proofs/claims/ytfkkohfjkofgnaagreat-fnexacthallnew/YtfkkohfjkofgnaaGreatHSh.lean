/-
  The shapes of houses.
-/
import Derived.Test.YtfkkohfjkofgnaaGreatUB
namespace Go.Proofs.YtfkkohfjkofgnaaGreat
open Go.RowKit Go.Deep

abbrev shGateTeam : List Sh := [.s, .s]
abbrev shGateRule : List Sh := [.row 3 [.i], .s, .s, .s]
abbrev shGateGrant : List Sh := [.i, .s, .s, .row 3 [.i], .s, .s, .s]
abbrev shHallHouse : List Sh := [.row 86 shGateTeam, .row 74 shGateGrant]
theorem typN1 {ds : List Dt} (h : Typ [.i] ds) : ∃ a0, ds = [.i a0] := by
  obtain ⟨a0, x0, rfl, h1⟩ := h.c_i
  obtain rfl := h1.c_n
  exact ⟨a0, rfl⟩
theorem repN1 {w : World} {tt : Bool} {F : List Nat} {a0 : Int} {cs : List Value} (h : Rep w tt [.i] F [.i a0] cs) : F = [] ∧ cs = [.int .i64 a0] := by
  obtain ⟨x0, rfl, h1⟩ := h.c_i
  obtain ⟨rfl, rfl⟩ := h1.c_n
  exact ⟨rfl, rfl⟩
theorem rawN1 {w : World} {a0 : Int} {cs : List Value} (h : Raw w [.i] [.i a0] cs) : cs = [.int .i64 a0] := by
  obtain ⟨x0, rfl, h1⟩ := h.c_i
  obtain rfl := h1.c_n
  exact rfl
theorem repN1_mk {w : World} {tt : Bool} (a0 : Int) : Rep w tt [.i] ([]) [.i a0] [.int .i64 a0] :=
  (.i a0 .nil)
theorem rawN1_mk {w : World} (a0 : Int) : Raw w [.i] [.i a0] [.int .i64 a0] :=
  (.i a0 .nil)
theorem typT1 {ds : List Dt} (h : Typ [.s] ds) : ∃ a0, ds = [.s a0] := by
  obtain ⟨a0, x0, rfl, h1⟩ := h.c_s
  obtain rfl := h1.c_n
  exact ⟨a0, rfl⟩
theorem repT1 {w : World} {tt : Bool} {F : List Nat} {a0 : ByteArray} {cs : List Value} (h : Rep w tt [.s] F [.s a0] cs) : F = [] ∧ cs = [.string a0] := by
  obtain ⟨x0, rfl, h1⟩ := h.c_s
  obtain ⟨rfl, rfl⟩ := h1.c_n
  exact ⟨rfl, rfl⟩
theorem rawT1 {w : World} {a0 : ByteArray} {cs : List Value} (h : Raw w [.s] [.s a0] cs) : cs = [.string a0] := by
  obtain ⟨x0, rfl, h1⟩ := h.c_s
  obtain rfl := h1.c_n
  exact rfl
theorem repT1_mk {w : World} {tt : Bool} (a0 : ByteArray) : Rep w tt [.s] ([]) [.s a0] [.string a0] :=
  (.s a0 .nil)
theorem rawT1_mk {w : World} (a0 : ByteArray) : Raw w [.s] [.s a0] [.string a0] :=
  (.s a0 .nil)
theorem typGateTeam {ds : List Dt} (h : Typ shGateTeam ds) : ∃ a0 a1, ds = [.s a0, .s a1] := by
  obtain ⟨a0, x0, rfl, h1⟩ := h.c_s
  obtain ⟨a1, x1, rfl, h2⟩ := h1.c_s
  obtain rfl := h2.c_n
  exact ⟨a0, a1, rfl⟩
theorem repGateTeam {w : World} {tt : Bool} {F : List Nat} {a0 : ByteArray} {a1 : ByteArray} {cs : List Value} (h : Rep w tt shGateTeam F [.s a0, .s a1] cs) : F = [] ∧ cs = [.string a0, .string a1] := by
  obtain ⟨x0, rfl, h1⟩ := h.c_s
  obtain ⟨x1, rfl, h2⟩ := h1.c_s
  obtain ⟨rfl, rfl⟩ := h2.c_n
  exact ⟨rfl, rfl⟩
theorem rawGateTeam {w : World} {a0 : ByteArray} {a1 : ByteArray} {cs : List Value} (h : Raw w shGateTeam [.s a0, .s a1] cs) : cs = [.string a0, .string a1] := by
  obtain ⟨x0, rfl, h1⟩ := h.c_s
  obtain ⟨x1, rfl, h2⟩ := h1.c_s
  obtain rfl := h2.c_n
  exact rfl
theorem repGateTeam_mk {w : World} {tt : Bool} (a0 : ByteArray) (a1 : ByteArray) : Rep w tt shGateTeam ([]) [.s a0, .s a1] [.string a0, .string a1] :=
  (.s a0 (.s a1 .nil))
theorem rawGateTeam_mk {w : World} (a0 : ByteArray) (a1 : ByteArray) : Raw w shGateTeam [.s a0, .s a1] [.string a0, .string a1] :=
  (.s a0 (.s a1 .nil))
theorem segTypGateTeam {ds : List Dt} (h : Typ shGateTeam ds) : ∃ (a0 : ByteArray) (a1 : ByteArray), ds = .s a0 :: .s a1 :: [] := by
  obtain ⟨a0, x0, rfl, h1⟩ := h.c_s
  obtain ⟨a1, x1, rfl, h2⟩ := h1.c_s
  obtain rfl := h2.c_n
  exact ⟨a0, a1, rfl⟩
theorem segRepGateTeam {w : World} {tt : Bool} {F : List Nat} {ds : List Dt} {cs : List Value} (h : Rep w tt shGateTeam F ds cs) : ∃ (a0 : ByteArray) (a1 : ByteArray), F = [] ∧ ds = .s a0 :: .s a1 :: [] ∧ cs = .string a0 :: .string a1 :: [] := by
  obtain ⟨a0, a1, rfl⟩ := segTypGateTeam h.raw.typ
  obtain ⟨x0, rfl, h1⟩ := h.c_s
  obtain ⟨x1, rfl, h2⟩ := h1.c_s
  obtain ⟨rfl, rfl⟩ := h2.c_n
  exact ⟨a0, a1, rfl, rfl, rfl⟩
theorem segRawGateTeam {w : World} {ds : List Dt} {cs : List Value} (h : Raw w shGateTeam ds cs) : ∃ (a0 : ByteArray) (a1 : ByteArray), ds = .s a0 :: .s a1 :: [] ∧ cs = .string a0 :: .string a1 :: [] := by
  obtain ⟨a0, a1, rfl⟩ := segTypGateTeam h.typ
  obtain ⟨x0, rfl, h1⟩ := h.c_s
  obtain ⟨x1, rfl, h2⟩ := h1.c_s
  obtain rfl := h2.c_n
  exact ⟨a0, a1, rfl, rfl⟩
theorem segRepGateTeam_mk {w : World} {tt : Bool} (a0 : ByteArray) (a1 : ByteArray) : Rep w tt shGateTeam [] (.s a0 :: .s a1 :: []) (.string a0 :: .string a1 :: []) :=
  (.s a0 (.s a1 .nil))
theorem segRawGateTeam_mk {w : World} (a0 : ByteArray) (a1 : ByteArray) : Raw w shGateTeam (.s a0 :: .s a1 :: []) (.string a0 :: .string a1 :: []) :=
  (.s a0 (.s a1 .nil))
theorem boxGateTeam {W : World} {B : Nat} {a0 : ByteArray} {a1 : ByteArray}  (h : W.rangeAt B 0 (.string a0 :: .string a1 :: [])) : W.cell? ⟨B, 0, none⟩ = some (.string a0) ∧ W.cell? ⟨B, 1, none⟩ = some (.string a1) := by
  obtain ⟨g0, k0⟩ := rA_cons h
  have h1 : W.rangeAt B 1 _ := k0
  obtain ⟨g1, k1⟩ := rA_cons h1
  have h2 : W.rangeAt B 2 _ := k1
  exact ⟨g0, g1⟩
theorem typGateRule {ds : List Dt} (h : Typ shGateRule ds) : ∃ n0 e0 a1 a2 a3, ds = [.row n0 e0, .s a1, .s a2, .s a3] ∧ Typ (reps n0 [.i]) e0 := by
  obtain ⟨n0, e0, x0, rfl, t0, h1⟩ := h.c_r
  obtain ⟨a1, x1, rfl, h2⟩ := h1.c_s
  obtain ⟨a2, x2, rfl, h3⟩ := h2.c_s
  obtain ⟨a3, x3, rfl, h4⟩ := h3.c_s
  obtain rfl := h4.c_n
  exact ⟨n0, e0, a1, a2, a3, rfl, t0⟩
theorem repGateRule {w : World} {tt : Bool} {F : List Nat} {n0 : Nat} {e0 : List Dt} {a1 : ByteArray} {a2 : ByteArray} {a3 : ByteArray} {cs : List Value} (h : Rep w tt shGateRule F [.row n0 e0, .s a1, .s a2, .s a3] cs) : ∃ F0 v0, F = F0 ++ [] ∧ cs = [v0, .string a1, .string a2, .string a3] ∧ Rep w tt [.row 3 [.i]] F0 [.row n0 e0] [v0] := by
  obtain ⟨F0, G0, v0, x0, rfl, rfl, t0, h1⟩ := h.c_r
  obtain ⟨x1, rfl, h2⟩ := h1.c_s
  obtain ⟨x2, rfl, h3⟩ := h2.c_s
  obtain ⟨x3, rfl, h4⟩ := h3.c_s
  obtain ⟨rfl, rfl⟩ := h4.c_n
  exact ⟨F0, v0, rfl, rfl, t0⟩
theorem rawGateRule {w : World} {n0 : Nat} {e0 : List Dt} {a1 : ByteArray} {a2 : ByteArray} {a3 : ByteArray} {cs : List Value} (h : Raw w shGateRule [.row n0 e0, .s a1, .s a2, .s a3] cs) : ∃ v0, cs = [v0, .string a1, .string a2, .string a3] ∧ Raw w [.row 3 [.i]] [.row n0 e0] [v0] := by
  obtain ⟨v0, x0, rfl, t0, h1⟩ := h.c_r
  obtain ⟨x1, rfl, h2⟩ := h1.c_s
  obtain ⟨x2, rfl, h3⟩ := h2.c_s
  obtain ⟨x3, rfl, h4⟩ := h3.c_s
  obtain rfl := h4.c_n
  exact ⟨v0, rfl, t0⟩
theorem repGateRule_mk {w : World} {tt : Bool} {F0 : List Nat} {n0 : Nat} {e0 : List Dt} {v0 : Value} (h0 : Rep w tt [.row 3 [.i]] F0 [.row n0 e0] [v0]) (a1 : ByteArray) (a2 : ByteArray) (a3 : ByteArray) : Rep w tt shGateRule (F0 ++ []) [.row n0 e0, .s a1, .s a2, .s a3] [v0, .string a1, .string a2, .string a3] :=
  (h0.app (.s a1 (.s a2 (.s a3 .nil))))
theorem rawGateRule_mk {w : World} {n0 : Nat} {e0 : List Dt} {v0 : Value} (h0 : Raw w [.row 3 [.i]] [.row n0 e0] [v0]) (a1 : ByteArray) (a2 : ByteArray) (a3 : ByteArray) : Raw w shGateRule [.row n0 e0, .s a1, .s a2, .s a3] [v0, .string a1, .string a2, .string a3] :=
  (h0.app (.s a1 (.s a2 (.s a3 .nil))))
theorem segTypGateRule {ds : List Dt} (h : Typ shGateRule ds) : ∃ (n0 : Nat) (e0 : List Dt) (a1 : ByteArray) (a2 : ByteArray) (a3 : ByteArray), ds = .row n0 e0 :: .s a1 :: .s a2 :: .s a3 :: [] ∧ Typ (reps n0 [.i]) e0 := by
  obtain ⟨n0, e0, x0, rfl, t0, h1⟩ := h.c_r
  obtain ⟨a1, x1, rfl, h2⟩ := h1.c_s
  obtain ⟨a2, x2, rfl, h3⟩ := h2.c_s
  obtain ⟨a3, x3, rfl, h4⟩ := h3.c_s
  obtain rfl := h4.c_n
  exact ⟨n0, e0, a1, a2, a3, rfl, t0⟩
theorem segRepGateRule {w : World} {tt : Bool} {F : List Nat} {ds : List Dt} {cs : List Value} (h : Rep w tt shGateRule F ds cs) : ∃ (F0 : List Nat) (n0 : Nat) (e0 : List Dt) (v0 : Value) (a1 : ByteArray) (a2 : ByteArray) (a3 : ByteArray), F = (F0 ++ []) ∧ ds = .row n0 e0 :: .s a1 :: .s a2 :: .s a3 :: [] ∧ cs = v0 :: .string a1 :: .string a2 :: .string a3 :: [] ∧ Rep w tt [.row 3 [.i]] F0 [.row n0 e0] [v0] := by
  obtain ⟨n0, e0, a1, a2, a3, rfl, tt0⟩ := segTypGateRule h.raw.typ
  obtain ⟨F0, G0, v0, x0, rfl, rfl, t0, h1⟩ := h.c_r
  obtain ⟨x1, rfl, h2⟩ := h1.c_s
  obtain ⟨x2, rfl, h3⟩ := h2.c_s
  obtain ⟨x3, rfl, h4⟩ := h3.c_s
  obtain ⟨rfl, rfl⟩ := h4.c_n
  exact ⟨F0, n0, e0, v0, a1, a2, a3, rfl, rfl, rfl, t0⟩
theorem segRawGateRule {w : World} {ds : List Dt} {cs : List Value} (h : Raw w shGateRule ds cs) : ∃ (n0 : Nat) (e0 : List Dt) (v0 : Value) (a1 : ByteArray) (a2 : ByteArray) (a3 : ByteArray), ds = .row n0 e0 :: .s a1 :: .s a2 :: .s a3 :: [] ∧ cs = v0 :: .string a1 :: .string a2 :: .string a3 :: [] ∧ Raw w [.row 3 [.i]] [.row n0 e0] [v0] := by
  obtain ⟨n0, e0, a1, a2, a3, rfl, tt0⟩ := segTypGateRule h.typ
  obtain ⟨v0, x0, rfl, t0, h1⟩ := h.c_r
  obtain ⟨x1, rfl, h2⟩ := h1.c_s
  obtain ⟨x2, rfl, h3⟩ := h2.c_s
  obtain ⟨x3, rfl, h4⟩ := h3.c_s
  obtain rfl := h4.c_n
  exact ⟨n0, e0, v0, a1, a2, a3, rfl, rfl, t0⟩
theorem segRepGateRule_mk {w : World} {tt : Bool} {F0 : List Nat} {n0 : Nat} {e0 : List Dt} {v0 : Value} (h0 : Rep w tt [.row 3 [.i]] F0 [.row n0 e0] [v0]) (a1 : ByteArray) (a2 : ByteArray) (a3 : ByteArray) : Rep w tt shGateRule (F0 ++ []) (.row n0 e0 :: .s a1 :: .s a2 :: .s a3 :: []) (v0 :: .string a1 :: .string a2 :: .string a3 :: []) :=
  (h0.app (.s a1 (.s a2 (.s a3 .nil))))
theorem segRawGateRule_mk {w : World} {n0 : Nat} {e0 : List Dt} {v0 : Value} (h0 : Raw w [.row 3 [.i]] [.row n0 e0] [v0]) (a1 : ByteArray) (a2 : ByteArray) (a3 : ByteArray) : Raw w shGateRule (.row n0 e0 :: .s a1 :: .s a2 :: .s a3 :: []) (v0 :: .string a1 :: .string a2 :: .string a3 :: []) :=
  (h0.app (.s a1 (.s a2 (.s a3 .nil))))
theorem boxGateRule {W : World} {B : Nat} {v0 : Value} {a1 : ByteArray} {a2 : ByteArray} {a3 : ByteArray}  (h : W.rangeAt B 0 (v0 :: .string a1 :: .string a2 :: .string a3 :: [])) : W.cell? ⟨B, 0, none⟩ = some (v0) ∧ W.cell? ⟨B, 1, none⟩ = some (.string a1) ∧ W.cell? ⟨B, 2, none⟩ = some (.string a2) ∧ W.cell? ⟨B, 3, none⟩ = some (.string a3) := by
  obtain ⟨g0, k0⟩ := rA_cons h
  have h1 : W.rangeAt B 1 _ := k0
  obtain ⟨g1, k1⟩ := rA_cons h1
  have h2 : W.rangeAt B 2 _ := k1
  obtain ⟨g2, k2⟩ := rA_cons h2
  have h3 : W.rangeAt B 3 _ := k2
  obtain ⟨g3, k3⟩ := rA_cons h3
  have h4 : W.rangeAt B 4 _ := k3
  exact ⟨g0, g1, g2, g3⟩
theorem typGateGrant {ds : List Dt} (h : Typ shGateGrant ds) : ∃ a0 a1 a2 n3 e3 a4 a5 a6, ds = [.i a0, .s a1, .s a2, .row n3 e3, .s a4, .s a5, .s a6] ∧ Typ (reps n3 [.i]) e3 := by
  obtain ⟨a0, x0, rfl, h1⟩ := h.c_i
  obtain ⟨a1, x1, rfl, h2⟩ := h1.c_s
  obtain ⟨a2, x2, rfl, h3⟩ := h2.c_s
  obtain ⟨n3, e3, x3, rfl, t3, h4⟩ := h3.c_r
  obtain ⟨a4, x4, rfl, h5⟩ := h4.c_s
  obtain ⟨a5, x5, rfl, h6⟩ := h5.c_s
  obtain ⟨a6, x6, rfl, h7⟩ := h6.c_s
  obtain rfl := h7.c_n
  exact ⟨a0, a1, a2, n3, e3, a4, a5, a6, rfl, t3⟩
theorem repGateGrant {w : World} {tt : Bool} {F : List Nat} {a0 : Int} {a1 : ByteArray} {a2 : ByteArray} {n3 : Nat} {e3 : List Dt} {a4 : ByteArray} {a5 : ByteArray} {a6 : ByteArray} {cs : List Value} (h : Rep w tt shGateGrant F [.i a0, .s a1, .s a2, .row n3 e3, .s a4, .s a5, .s a6] cs) : ∃ F3 v3, F = F3 ++ [] ∧ cs = [.int .i64 a0, .string a1, .string a2, v3, .string a4, .string a5, .string a6] ∧ Rep w tt [.row 3 [.i]] F3 [.row n3 e3] [v3] := by
  obtain ⟨x0, rfl, h1⟩ := h.c_i
  obtain ⟨x1, rfl, h2⟩ := h1.c_s
  obtain ⟨x2, rfl, h3⟩ := h2.c_s
  obtain ⟨F3, G3, v3, x3, rfl, rfl, t3, h4⟩ := h3.c_r
  obtain ⟨x4, rfl, h5⟩ := h4.c_s
  obtain ⟨x5, rfl, h6⟩ := h5.c_s
  obtain ⟨x6, rfl, h7⟩ := h6.c_s
  obtain ⟨rfl, rfl⟩ := h7.c_n
  exact ⟨F3, v3, rfl, rfl, t3⟩
theorem rawGateGrant {w : World} {a0 : Int} {a1 : ByteArray} {a2 : ByteArray} {n3 : Nat} {e3 : List Dt} {a4 : ByteArray} {a5 : ByteArray} {a6 : ByteArray} {cs : List Value} (h : Raw w shGateGrant [.i a0, .s a1, .s a2, .row n3 e3, .s a4, .s a5, .s a6] cs) : ∃ v3, cs = [.int .i64 a0, .string a1, .string a2, v3, .string a4, .string a5, .string a6] ∧ Raw w [.row 3 [.i]] [.row n3 e3] [v3] := by
  obtain ⟨x0, rfl, h1⟩ := h.c_i
  obtain ⟨x1, rfl, h2⟩ := h1.c_s
  obtain ⟨x2, rfl, h3⟩ := h2.c_s
  obtain ⟨v3, x3, rfl, t3, h4⟩ := h3.c_r
  obtain ⟨x4, rfl, h5⟩ := h4.c_s
  obtain ⟨x5, rfl, h6⟩ := h5.c_s
  obtain ⟨x6, rfl, h7⟩ := h6.c_s
  obtain rfl := h7.c_n
  exact ⟨v3, rfl, t3⟩
theorem repGateGrant_mk {w : World} {tt : Bool} (a0 : Int) (a1 : ByteArray) (a2 : ByteArray) {F3 : List Nat} {n3 : Nat} {e3 : List Dt} {v3 : Value} (h3 : Rep w tt [.row 3 [.i]] F3 [.row n3 e3] [v3]) (a4 : ByteArray) (a5 : ByteArray) (a6 : ByteArray) : Rep w tt shGateGrant (F3 ++ []) [.i a0, .s a1, .s a2, .row n3 e3, .s a4, .s a5, .s a6] [.int .i64 a0, .string a1, .string a2, v3, .string a4, .string a5, .string a6] :=
  (.i a0 (.s a1 (.s a2 (h3.app (.s a4 (.s a5 (.s a6 .nil)))))))
theorem rawGateGrant_mk {w : World} (a0 : Int) (a1 : ByteArray) (a2 : ByteArray) {n3 : Nat} {e3 : List Dt} {v3 : Value} (h3 : Raw w [.row 3 [.i]] [.row n3 e3] [v3]) (a4 : ByteArray) (a5 : ByteArray) (a6 : ByteArray) : Raw w shGateGrant [.i a0, .s a1, .s a2, .row n3 e3, .s a4, .s a5, .s a6] [.int .i64 a0, .string a1, .string a2, v3, .string a4, .string a5, .string a6] :=
  (.i a0 (.s a1 (.s a2 (h3.app (.s a4 (.s a5 (.s a6 .nil)))))))
theorem segTypGateGrant {ds : List Dt} (h : Typ shGateGrant ds) : ∃ (a0 : Int) (a1 : ByteArray) (a2 : ByteArray) (d3 : List Dt), ds = .i a0 :: .s a1 :: .s a2 :: (d3 ++ ([])) ∧ Typ shGateRule d3 := by
  obtain ⟨a0, x0, rfl, h1⟩ := h.c_i
  obtain ⟨a1, x1, rfl, h2⟩ := h1.c_s
  obtain ⟨a2, x2, rfl, h3⟩ := h2.c_s
  obtain ⟨d3, x3, rfl, t3, h4⟩ := Typ.cut shGateRule h3
  obtain rfl := h4.c_n
  exact ⟨a0, a1, a2, d3, rfl, t3⟩
theorem segRepGateGrant {w : World} {tt : Bool} {F : List Nat} {ds : List Dt} {cs : List Value} (h : Rep w tt shGateGrant F ds cs) : ∃ (a0 : Int) (a1 : ByteArray) (a2 : ByteArray) (F3 : List Nat) (d3 : List Dt) (c3 : List Value), F = (F3 ++ []) ∧ ds = .i a0 :: .s a1 :: .s a2 :: (d3 ++ ([])) ∧ cs = .int .i64 a0 :: .string a1 :: .string a2 :: (c3 ++ ([])) ∧ Rep w tt shGateRule F3 d3 c3 := by
  obtain ⟨a0, a1, a2, d3, rfl, tt3⟩ := segTypGateGrant h.raw.typ
  obtain ⟨x0, rfl, h1⟩ := h.c_i
  obtain ⟨x1, rfl, h2⟩ := h1.c_s
  obtain ⟨x2, rfl, h3⟩ := h2.c_s
  obtain ⟨F3, G3, c3, x3, rfl, rfl, t3, h4⟩ := Rep.cut2 h3 tt3
  obtain ⟨rfl, rfl⟩ := h4.c_n
  exact ⟨a0, a1, a2, F3, d3, c3, rfl, rfl, rfl, t3⟩
theorem segRawGateGrant {w : World} {ds : List Dt} {cs : List Value} (h : Raw w shGateGrant ds cs) : ∃ (a0 : Int) (a1 : ByteArray) (a2 : ByteArray) (d3 : List Dt) (c3 : List Value), ds = .i a0 :: .s a1 :: .s a2 :: (d3 ++ ([])) ∧ cs = .int .i64 a0 :: .string a1 :: .string a2 :: (c3 ++ ([])) ∧ Raw w shGateRule d3 c3 := by
  obtain ⟨a0, a1, a2, d3, rfl, tt3⟩ := segTypGateGrant h.typ
  obtain ⟨x0, rfl, h1⟩ := h.c_i
  obtain ⟨x1, rfl, h2⟩ := h1.c_s
  obtain ⟨x2, rfl, h3⟩ := h2.c_s
  obtain ⟨c3, x3, rfl, t3, h4⟩ := Raw.cut2 h3 tt3
  obtain rfl := h4.c_n
  exact ⟨a0, a1, a2, d3, c3, rfl, rfl, t3⟩
theorem segRepGateGrant_mk {w : World} {tt : Bool} (a0 : Int) (a1 : ByteArray) (a2 : ByteArray) {F3 : List Nat} {d3 : List Dt} {c3 : List Value} (h3 : Rep w tt shGateRule F3 d3 c3) : Rep w tt shGateGrant (F3 ++ []) (.i a0 :: .s a1 :: .s a2 :: (d3 ++ ([]))) (.int .i64 a0 :: .string a1 :: .string a2 :: (c3 ++ ([]))) :=
  (.i a0 (.s a1 (.s a2 (h3.app .nil))))
theorem segRawGateGrant_mk {w : World} (a0 : Int) (a1 : ByteArray) (a2 : ByteArray) {d3 : List Dt} {c3 : List Value} (h3 : Raw w shGateRule d3 c3) : Raw w shGateGrant (.i a0 :: .s a1 :: .s a2 :: (d3 ++ ([]))) (.int .i64 a0 :: .string a1 :: .string a2 :: (c3 ++ ([]))) :=
  (.i a0 (.s a1 (.s a2 (h3.app .nil))))
theorem boxGateGrant {W : World} {B : Nat} {a0 : Int} {a1 : ByteArray} {a2 : ByteArray} {c3 : List Value} (l3 : c3.length = 4) (h : W.rangeAt B 0 (.int .i64 a0 :: .string a1 :: .string a2 :: (c3 ++ ([])))) : W.cell? ⟨B, 0, none⟩ = some (.int .i64 a0) ∧ W.cell? ⟨B, 1, none⟩ = some (.string a1) ∧ W.cell? ⟨B, 2, none⟩ = some (.string a2) ∧ W.rangeAt B 3 c3 := by
  obtain ⟨g0, k0⟩ := rA_cons h
  have h1 : W.rangeAt B 1 _ := k0
  obtain ⟨g1, k1⟩ := rA_cons h1
  have h2 : W.rangeAt B 2 _ := k1
  obtain ⟨g2, k2⟩ := rA_cons h2
  have h3 : W.rangeAt B 3 _ := k2
  obtain ⟨g3, k3⟩ := rA_cut h3
  rw [l3] at k3
  have h4 : W.rangeAt B 7 _ := k3
  exact ⟨g0, g1, g2, g3⟩
theorem typHallHouse {ds : List Dt} (h : Typ shHallHouse ds) : ∃ n0 e0 n1 e1, ds = [.row n0 e0, .row n1 e1] ∧ Typ (reps n0 shGateTeam) e0 ∧ Typ (reps n1 shGateGrant) e1 := by
  obtain ⟨n0, e0, x0, rfl, t0, h1⟩ := h.c_r
  obtain ⟨n1, e1, x1, rfl, t1, h2⟩ := h1.c_r
  obtain rfl := h2.c_n
  exact ⟨n0, e0, n1, e1, rfl, t0, t1⟩
theorem repHallHouse {w : World} {tt : Bool} {F : List Nat} {n0 : Nat} {e0 : List Dt} {n1 : Nat} {e1 : List Dt} {cs : List Value} (h : Rep w tt shHallHouse F [.row n0 e0, .row n1 e1] cs) : ∃ F0 v0 F1 v1, F = F0 ++ (F1 ++ []) ∧ cs = [v0, v1] ∧ Rep w tt [.row 86 shGateTeam] F0 [.row n0 e0] [v0] ∧ Rep w tt [.row 74 shGateGrant] F1 [.row n1 e1] [v1] := by
  obtain ⟨F0, G0, v0, x0, rfl, rfl, t0, h1⟩ := h.c_r
  obtain ⟨F1, G1, v1, x1, rfl, rfl, t1, h2⟩ := h1.c_r
  obtain ⟨rfl, rfl⟩ := h2.c_n
  exact ⟨F0, v0, F1, v1, rfl, rfl, t0, t1⟩
theorem rawHallHouse {w : World} {n0 : Nat} {e0 : List Dt} {n1 : Nat} {e1 : List Dt} {cs : List Value} (h : Raw w shHallHouse [.row n0 e0, .row n1 e1] cs) : ∃ v0 v1, cs = [v0, v1] ∧ Raw w [.row 86 shGateTeam] [.row n0 e0] [v0] ∧ Raw w [.row 74 shGateGrant] [.row n1 e1] [v1] := by
  obtain ⟨v0, x0, rfl, t0, h1⟩ := h.c_r
  obtain ⟨v1, x1, rfl, t1, h2⟩ := h1.c_r
  obtain rfl := h2.c_n
  exact ⟨v0, v1, rfl, t0, t1⟩
theorem repHallHouse_mk {w : World} {tt : Bool} {F0 : List Nat} {n0 : Nat} {e0 : List Dt} {v0 : Value} (h0 : Rep w tt [.row 86 shGateTeam] F0 [.row n0 e0] [v0]) {F1 : List Nat} {n1 : Nat} {e1 : List Dt} {v1 : Value} (h1 : Rep w tt [.row 74 shGateGrant] F1 [.row n1 e1] [v1]) : Rep w tt shHallHouse (F0 ++ (F1 ++ [])) [.row n0 e0, .row n1 e1] [v0, v1] :=
  (h0.app (h1.app .nil))
theorem rawHallHouse_mk {w : World} {n0 : Nat} {e0 : List Dt} {v0 : Value} (h0 : Raw w [.row 86 shGateTeam] [.row n0 e0] [v0]) {n1 : Nat} {e1 : List Dt} {v1 : Value} (h1 : Raw w [.row 74 shGateGrant] [.row n1 e1] [v1]) : Raw w shHallHouse [.row n0 e0, .row n1 e1] [v0, v1] :=
  (h0.app (h1.app .nil))
theorem segTypHallHouse {ds : List Dt} (h : Typ shHallHouse ds) : ∃ (n0 : Nat) (e0 : List Dt) (n1 : Nat) (e1 : List Dt), ds = .row n0 e0 :: .row n1 e1 :: [] ∧ Typ (reps n0 shGateTeam) e0 ∧ Typ (reps n1 shGateGrant) e1 := by
  obtain ⟨n0, e0, x0, rfl, t0, h1⟩ := h.c_r
  obtain ⟨n1, e1, x1, rfl, t1, h2⟩ := h1.c_r
  obtain rfl := h2.c_n
  exact ⟨n0, e0, n1, e1, rfl, t0, t1⟩
theorem segRepHallHouse {w : World} {tt : Bool} {F : List Nat} {ds : List Dt} {cs : List Value} (h : Rep w tt shHallHouse F ds cs) : ∃ (F0 : List Nat) (n0 : Nat) (e0 : List Dt) (v0 : Value) (F1 : List Nat) (n1 : Nat) (e1 : List Dt) (v1 : Value), F = (F0 ++ (F1 ++ [])) ∧ ds = .row n0 e0 :: .row n1 e1 :: [] ∧ cs = v0 :: v1 :: [] ∧ Rep w tt [.row 86 shGateTeam] F0 [.row n0 e0] [v0] ∧ Rep w tt [.row 74 shGateGrant] F1 [.row n1 e1] [v1] := by
  obtain ⟨n0, e0, n1, e1, rfl, tt0, tt1⟩ := segTypHallHouse h.raw.typ
  obtain ⟨F0, G0, v0, x0, rfl, rfl, t0, h1⟩ := h.c_r
  obtain ⟨F1, G1, v1, x1, rfl, rfl, t1, h2⟩ := h1.c_r
  obtain ⟨rfl, rfl⟩ := h2.c_n
  exact ⟨F0, n0, e0, v0, F1, n1, e1, v1, rfl, rfl, rfl, t0, t1⟩
theorem segRawHallHouse {w : World} {ds : List Dt} {cs : List Value} (h : Raw w shHallHouse ds cs) : ∃ (n0 : Nat) (e0 : List Dt) (v0 : Value) (n1 : Nat) (e1 : List Dt) (v1 : Value), ds = .row n0 e0 :: .row n1 e1 :: [] ∧ cs = v0 :: v1 :: [] ∧ Raw w [.row 86 shGateTeam] [.row n0 e0] [v0] ∧ Raw w [.row 74 shGateGrant] [.row n1 e1] [v1] := by
  obtain ⟨n0, e0, n1, e1, rfl, tt0, tt1⟩ := segTypHallHouse h.typ
  obtain ⟨v0, x0, rfl, t0, h1⟩ := h.c_r
  obtain ⟨v1, x1, rfl, t1, h2⟩ := h1.c_r
  obtain rfl := h2.c_n
  exact ⟨n0, e0, v0, n1, e1, v1, rfl, rfl, t0, t1⟩
theorem segRepHallHouse_mk {w : World} {tt : Bool} {F0 : List Nat} {n0 : Nat} {e0 : List Dt} {v0 : Value} (h0 : Rep w tt [.row 86 shGateTeam] F0 [.row n0 e0] [v0]) {F1 : List Nat} {n1 : Nat} {e1 : List Dt} {v1 : Value} (h1 : Rep w tt [.row 74 shGateGrant] F1 [.row n1 e1] [v1]) : Rep w tt shHallHouse (F0 ++ (F1 ++ [])) (.row n0 e0 :: .row n1 e1 :: []) (v0 :: v1 :: []) :=
  (h0.app (h1.app .nil))
theorem segRawHallHouse_mk {w : World} {n0 : Nat} {e0 : List Dt} {v0 : Value} (h0 : Raw w [.row 86 shGateTeam] [.row n0 e0] [v0]) {n1 : Nat} {e1 : List Dt} {v1 : Value} (h1 : Raw w [.row 74 shGateGrant] [.row n1 e1] [v1]) : Raw w shHallHouse (.row n0 e0 :: .row n1 e1 :: []) (v0 :: v1 :: []) :=
  (h0.app (h1.app .nil))
theorem boxHallHouse {W : World} {B : Nat} {v0 : Value} {v1 : Value}  (h : W.rangeAt B 0 (v0 :: v1 :: [])) : W.cell? ⟨B, 0, none⟩ = some (v0) ∧ W.cell? ⟨B, 1, none⟩ = some (v1) := by
  obtain ⟨g0, k0⟩ := rA_cons h
  have h1 : W.rangeAt B 1 _ := k0
  obtain ⟨g1, k1⟩ := rA_cons h1
  have h2 : W.rangeAt B 2 _ := k1
  exact ⟨g0, g1⟩
end Go.Proofs.YtfkkohfjkofgnaaGreat
