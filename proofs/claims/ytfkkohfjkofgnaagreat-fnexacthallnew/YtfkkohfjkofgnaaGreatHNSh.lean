/-
  The shapes of worlds of the hall.
-/
import Derived.Test.YtfkkohfjkofgnaaGreatHSh
import Derived.Test.YtfkkohfjkofgnaaGreatKShw
namespace Go.Proofs.YtfkkohfjkofgnaaGreat
open Go.RowKit Go.Deep

abbrev shGateSaid : List Sh := [.i, .i, .i]
abbrev shHallAsked : List Sh := [.s, .i, .i, .i, .i, .i]
abbrev shHallWorld : List Sh := [.row 86 shGateTeam, .row 74 shGateGrant, .row 84 shRecorder, .row 120 shRecMessage, .row 123 shRecFix, .i, .row 98 shHallAsked]
theorem typGateSaid {ds : List Dt} (h : Typ shGateSaid ds) : ∃ a0 a1 a2, ds = [.i a0, .i a1, .i a2] := by
  obtain ⟨a0, x0, rfl, h1⟩ := h.c_i
  obtain ⟨a1, x1, rfl, h2⟩ := h1.c_i
  obtain ⟨a2, x2, rfl, h3⟩ := h2.c_i
  obtain rfl := h3.c_n
  exact ⟨a0, a1, a2, rfl⟩
theorem repGateSaid {w : World} {tt : Bool} {F : List Nat} {a0 : Int} {a1 : Int} {a2 : Int} {cs : List Value} (h : Rep w tt shGateSaid F [.i a0, .i a1, .i a2] cs) : F = [] ∧ cs = [.int .i64 a0, .int .i64 a1, .int .i64 a2] := by
  obtain ⟨x0, rfl, h1⟩ := h.c_i
  obtain ⟨x1, rfl, h2⟩ := h1.c_i
  obtain ⟨x2, rfl, h3⟩ := h2.c_i
  obtain ⟨rfl, rfl⟩ := h3.c_n
  exact ⟨rfl, rfl⟩
theorem rawGateSaid {w : World} {a0 : Int} {a1 : Int} {a2 : Int} {cs : List Value} (h : Raw w shGateSaid [.i a0, .i a1, .i a2] cs) : cs = [.int .i64 a0, .int .i64 a1, .int .i64 a2] := by
  obtain ⟨x0, rfl, h1⟩ := h.c_i
  obtain ⟨x1, rfl, h2⟩ := h1.c_i
  obtain ⟨x2, rfl, h3⟩ := h2.c_i
  obtain rfl := h3.c_n
  exact rfl
theorem repGateSaid_mk {w : World} {tt : Bool} (a0 : Int) (a1 : Int) (a2 : Int) : Rep w tt shGateSaid ([]) [.i a0, .i a1, .i a2] [.int .i64 a0, .int .i64 a1, .int .i64 a2] :=
  (.i a0 (.i a1 (.i a2 .nil)))
theorem rawGateSaid_mk {w : World} (a0 : Int) (a1 : Int) (a2 : Int) : Raw w shGateSaid [.i a0, .i a1, .i a2] [.int .i64 a0, .int .i64 a1, .int .i64 a2] :=
  (.i a0 (.i a1 (.i a2 .nil)))
theorem segTypGateSaid {ds : List Dt} (h : Typ shGateSaid ds) : ∃ (a0 : Int) (a1 : Int) (a2 : Int), ds = .i a0 :: .i a1 :: .i a2 :: [] := by
  obtain ⟨a0, x0, rfl, h1⟩ := h.c_i
  obtain ⟨a1, x1, rfl, h2⟩ := h1.c_i
  obtain ⟨a2, x2, rfl, h3⟩ := h2.c_i
  obtain rfl := h3.c_n
  exact ⟨a0, a1, a2, rfl⟩
theorem segRepGateSaid {w : World} {tt : Bool} {F : List Nat} {ds : List Dt} {cs : List Value} (h : Rep w tt shGateSaid F ds cs) : ∃ (a0 : Int) (a1 : Int) (a2 : Int), F = [] ∧ ds = .i a0 :: .i a1 :: .i a2 :: [] ∧ cs = .int .i64 a0 :: .int .i64 a1 :: .int .i64 a2 :: [] := by
  obtain ⟨a0, a1, a2, rfl⟩ := segTypGateSaid h.raw.typ
  obtain ⟨x0, rfl, h1⟩ := h.c_i
  obtain ⟨x1, rfl, h2⟩ := h1.c_i
  obtain ⟨x2, rfl, h3⟩ := h2.c_i
  obtain ⟨rfl, rfl⟩ := h3.c_n
  exact ⟨a0, a1, a2, rfl, rfl, rfl⟩
theorem segRawGateSaid {w : World} {ds : List Dt} {cs : List Value} (h : Raw w shGateSaid ds cs) : ∃ (a0 : Int) (a1 : Int) (a2 : Int), ds = .i a0 :: .i a1 :: .i a2 :: [] ∧ cs = .int .i64 a0 :: .int .i64 a1 :: .int .i64 a2 :: [] := by
  obtain ⟨a0, a1, a2, rfl⟩ := segTypGateSaid h.typ
  obtain ⟨x0, rfl, h1⟩ := h.c_i
  obtain ⟨x1, rfl, h2⟩ := h1.c_i
  obtain ⟨x2, rfl, h3⟩ := h2.c_i
  obtain rfl := h3.c_n
  exact ⟨a0, a1, a2, rfl, rfl⟩
theorem segRepGateSaid_mk {w : World} {tt : Bool} (a0 : Int) (a1 : Int) (a2 : Int) : Rep w tt shGateSaid [] (.i a0 :: .i a1 :: .i a2 :: []) (.int .i64 a0 :: .int .i64 a1 :: .int .i64 a2 :: []) :=
  (.i a0 (.i a1 (.i a2 .nil)))
theorem segRawGateSaid_mk {w : World} (a0 : Int) (a1 : Int) (a2 : Int) : Raw w shGateSaid (.i a0 :: .i a1 :: .i a2 :: []) (.int .i64 a0 :: .int .i64 a1 :: .int .i64 a2 :: []) :=
  (.i a0 (.i a1 (.i a2 .nil)))
theorem boxGateSaid {W : World} {B : Nat} {a0 : Int} {a1 : Int} {a2 : Int}  (h : W.rangeAt B 0 (.int .i64 a0 :: .int .i64 a1 :: .int .i64 a2 :: [])) : W.cell? ⟨B, 0, none⟩ = some (.int .i64 a0) ∧ W.cell? ⟨B, 1, none⟩ = some (.int .i64 a1) ∧ W.cell? ⟨B, 2, none⟩ = some (.int .i64 a2) := by
  obtain ⟨g0, k0⟩ := rA_cons h
  have h1 : W.rangeAt B 1 _ := k0
  obtain ⟨g1, k1⟩ := rA_cons h1
  have h2 : W.rangeAt B 2 _ := k1
  obtain ⟨g2, k2⟩ := rA_cons h2
  have h3 : W.rangeAt B 3 _ := k2
  exact ⟨g0, g1, g2⟩
theorem typHallAsked {ds : List Dt} (h : Typ shHallAsked ds) : ∃ a0 a1 a2 a3 a4 a5, ds = [.s a0, .i a1, .i a2, .i a3, .i a4, .i a5] := by
  obtain ⟨a0, x0, rfl, h1⟩ := h.c_s
  obtain ⟨a1, x1, rfl, h2⟩ := h1.c_i
  obtain ⟨a2, x2, rfl, h3⟩ := h2.c_i
  obtain ⟨a3, x3, rfl, h4⟩ := h3.c_i
  obtain ⟨a4, x4, rfl, h5⟩ := h4.c_i
  obtain ⟨a5, x5, rfl, h6⟩ := h5.c_i
  obtain rfl := h6.c_n
  exact ⟨a0, a1, a2, a3, a4, a5, rfl⟩
theorem repHallAsked {w : World} {tt : Bool} {F : List Nat} {a0 : ByteArray} {a1 : Int} {a2 : Int} {a3 : Int} {a4 : Int} {a5 : Int} {cs : List Value} (h : Rep w tt shHallAsked F [.s a0, .i a1, .i a2, .i a3, .i a4, .i a5] cs) : F = [] ∧ cs = [.string a0, .int .i64 a1, .int .i64 a2, .int .i64 a3, .int .i64 a4, .int .i64 a5] := by
  obtain ⟨x0, rfl, h1⟩ := h.c_s
  obtain ⟨x1, rfl, h2⟩ := h1.c_i
  obtain ⟨x2, rfl, h3⟩ := h2.c_i
  obtain ⟨x3, rfl, h4⟩ := h3.c_i
  obtain ⟨x4, rfl, h5⟩ := h4.c_i
  obtain ⟨x5, rfl, h6⟩ := h5.c_i
  obtain ⟨rfl, rfl⟩ := h6.c_n
  exact ⟨rfl, rfl⟩
theorem rawHallAsked {w : World} {a0 : ByteArray} {a1 : Int} {a2 : Int} {a3 : Int} {a4 : Int} {a5 : Int} {cs : List Value} (h : Raw w shHallAsked [.s a0, .i a1, .i a2, .i a3, .i a4, .i a5] cs) : cs = [.string a0, .int .i64 a1, .int .i64 a2, .int .i64 a3, .int .i64 a4, .int .i64 a5] := by
  obtain ⟨x0, rfl, h1⟩ := h.c_s
  obtain ⟨x1, rfl, h2⟩ := h1.c_i
  obtain ⟨x2, rfl, h3⟩ := h2.c_i
  obtain ⟨x3, rfl, h4⟩ := h3.c_i
  obtain ⟨x4, rfl, h5⟩ := h4.c_i
  obtain ⟨x5, rfl, h6⟩ := h5.c_i
  obtain rfl := h6.c_n
  exact rfl
theorem repHallAsked_mk {w : World} {tt : Bool} (a0 : ByteArray) (a1 : Int) (a2 : Int) (a3 : Int) (a4 : Int) (a5 : Int) : Rep w tt shHallAsked ([]) [.s a0, .i a1, .i a2, .i a3, .i a4, .i a5] [.string a0, .int .i64 a1, .int .i64 a2, .int .i64 a3, .int .i64 a4, .int .i64 a5] :=
  (.s a0 (.i a1 (.i a2 (.i a3 (.i a4 (.i a5 .nil))))))
theorem rawHallAsked_mk {w : World} (a0 : ByteArray) (a1 : Int) (a2 : Int) (a3 : Int) (a4 : Int) (a5 : Int) : Raw w shHallAsked [.s a0, .i a1, .i a2, .i a3, .i a4, .i a5] [.string a0, .int .i64 a1, .int .i64 a2, .int .i64 a3, .int .i64 a4, .int .i64 a5] :=
  (.s a0 (.i a1 (.i a2 (.i a3 (.i a4 (.i a5 .nil))))))
theorem segTypHallAsked {ds : List Dt} (h : Typ shHallAsked ds) : ∃ (a0 : ByteArray) (a1 : Int) (a2 : Int) (d3 : List Dt), ds = .s a0 :: .i a1 :: .i a2 :: (d3 ++ ([])) ∧ Typ shGateSaid d3 := by
  obtain ⟨a0, x0, rfl, h1⟩ := h.c_s
  obtain ⟨a1, x1, rfl, h2⟩ := h1.c_i
  obtain ⟨a2, x2, rfl, h3⟩ := h2.c_i
  obtain ⟨d3, x3, rfl, t3, h4⟩ := Typ.cut shGateSaid h3
  obtain rfl := h4.c_n
  exact ⟨a0, a1, a2, d3, rfl, t3⟩
theorem segRepHallAsked {w : World} {tt : Bool} {F : List Nat} {ds : List Dt} {cs : List Value} (h : Rep w tt shHallAsked F ds cs) : ∃ (a0 : ByteArray) (a1 : Int) (a2 : Int) (F3 : List Nat) (d3 : List Dt) (c3 : List Value), F = (F3 ++ []) ∧ ds = .s a0 :: .i a1 :: .i a2 :: (d3 ++ ([])) ∧ cs = .string a0 :: .int .i64 a1 :: .int .i64 a2 :: (c3 ++ ([])) ∧ Rep w tt shGateSaid F3 d3 c3 := by
  obtain ⟨a0, a1, a2, d3, rfl, tt3⟩ := segTypHallAsked h.raw.typ
  obtain ⟨x0, rfl, h1⟩ := h.c_s
  obtain ⟨x1, rfl, h2⟩ := h1.c_i
  obtain ⟨x2, rfl, h3⟩ := h2.c_i
  obtain ⟨F3, G3, c3, x3, rfl, rfl, t3, h4⟩ := Rep.cut2 h3 tt3
  obtain ⟨rfl, rfl⟩ := h4.c_n
  exact ⟨a0, a1, a2, F3, d3, c3, rfl, rfl, rfl, t3⟩
theorem segRawHallAsked {w : World} {ds : List Dt} {cs : List Value} (h : Raw w shHallAsked ds cs) : ∃ (a0 : ByteArray) (a1 : Int) (a2 : Int) (d3 : List Dt) (c3 : List Value), ds = .s a0 :: .i a1 :: .i a2 :: (d3 ++ ([])) ∧ cs = .string a0 :: .int .i64 a1 :: .int .i64 a2 :: (c3 ++ ([])) ∧ Raw w shGateSaid d3 c3 := by
  obtain ⟨a0, a1, a2, d3, rfl, tt3⟩ := segTypHallAsked h.typ
  obtain ⟨x0, rfl, h1⟩ := h.c_s
  obtain ⟨x1, rfl, h2⟩ := h1.c_i
  obtain ⟨x2, rfl, h3⟩ := h2.c_i
  obtain ⟨c3, x3, rfl, t3, h4⟩ := Raw.cut2 h3 tt3
  obtain rfl := h4.c_n
  exact ⟨a0, a1, a2, d3, c3, rfl, rfl, t3⟩
theorem segRepHallAsked_mk {w : World} {tt : Bool} (a0 : ByteArray) (a1 : Int) (a2 : Int) {F3 : List Nat} {d3 : List Dt} {c3 : List Value} (h3 : Rep w tt shGateSaid F3 d3 c3) : Rep w tt shHallAsked (F3 ++ []) (.s a0 :: .i a1 :: .i a2 :: (d3 ++ ([]))) (.string a0 :: .int .i64 a1 :: .int .i64 a2 :: (c3 ++ ([]))) :=
  (.s a0 (.i a1 (.i a2 (h3.app .nil))))
theorem segRawHallAsked_mk {w : World} (a0 : ByteArray) (a1 : Int) (a2 : Int) {d3 : List Dt} {c3 : List Value} (h3 : Raw w shGateSaid d3 c3) : Raw w shHallAsked (.s a0 :: .i a1 :: .i a2 :: (d3 ++ ([]))) (.string a0 :: .int .i64 a1 :: .int .i64 a2 :: (c3 ++ ([]))) :=
  (.s a0 (.i a1 (.i a2 (h3.app .nil))))
theorem boxHallAsked {W : World} {B : Nat} {a0 : ByteArray} {a1 : Int} {a2 : Int} {c3 : List Value} (l3 : c3.length = 3) (h : W.rangeAt B 0 (.string a0 :: .int .i64 a1 :: .int .i64 a2 :: (c3 ++ ([])))) : W.cell? ⟨B, 0, none⟩ = some (.string a0) ∧ W.cell? ⟨B, 1, none⟩ = some (.int .i64 a1) ∧ W.cell? ⟨B, 2, none⟩ = some (.int .i64 a2) ∧ W.rangeAt B 3 c3 := by
  obtain ⟨g0, k0⟩ := rA_cons h
  have h1 : W.rangeAt B 1 _ := k0
  obtain ⟨g1, k1⟩ := rA_cons h1
  have h2 : W.rangeAt B 2 _ := k1
  obtain ⟨g2, k2⟩ := rA_cons h2
  have h3 : W.rangeAt B 3 _ := k2
  obtain ⟨g3, k3⟩ := rA_cut h3
  rw [l3] at k3
  have h4 : W.rangeAt B 6 _ := k3
  exact ⟨g0, g1, g2, g3⟩
theorem typHallWorld {ds : List Dt} (h : Typ shHallWorld ds) : ∃ n0 e0 n1 e1 n2 e2 n3 e3 n4 e4 a5 n6 e6, ds = [.row n0 e0, .row n1 e1, .row n2 e2, .row n3 e3, .row n4 e4, .i a5, .row n6 e6] ∧ Typ (reps n0 shGateTeam) e0 ∧ Typ (reps n1 shGateGrant) e1 ∧ Typ (reps n2 shRecorder) e2 ∧ Typ (reps n3 shRecMessage) e3 ∧ Typ (reps n4 shRecFix) e4 ∧ Typ (reps n6 shHallAsked) e6 := by
  obtain ⟨n0, e0, x0, rfl, t0, h1⟩ := h.c_r
  obtain ⟨n1, e1, x1, rfl, t1, h2⟩ := h1.c_r
  obtain ⟨n2, e2, x2, rfl, t2, h3⟩ := h2.c_r
  obtain ⟨n3, e3, x3, rfl, t3, h4⟩ := h3.c_r
  obtain ⟨n4, e4, x4, rfl, t4, h5⟩ := h4.c_r
  obtain ⟨a5, x5, rfl, h6⟩ := h5.c_i
  obtain ⟨n6, e6, x6, rfl, t6, h7⟩ := h6.c_r
  obtain rfl := h7.c_n
  exact ⟨n0, e0, n1, e1, n2, e2, n3, e3, n4, e4, a5, n6, e6, rfl, t0, t1, t2, t3, t4, t6⟩
theorem repHallWorld {w : World} {tt : Bool} {F : List Nat} {n0 : Nat} {e0 : List Dt} {n1 : Nat} {e1 : List Dt} {n2 : Nat} {e2 : List Dt} {n3 : Nat} {e3 : List Dt} {n4 : Nat} {e4 : List Dt} {a5 : Int} {n6 : Nat} {e6 : List Dt} {cs : List Value} (h : Rep w tt shHallWorld F [.row n0 e0, .row n1 e1, .row n2 e2, .row n3 e3, .row n4 e4, .i a5, .row n6 e6] cs) : ∃ F0 v0 F1 v1 F2 v2 F3 v3 F4 v4 F6 v6, F = F0 ++ (F1 ++ (F2 ++ (F3 ++ (F4 ++ (F6 ++ []))))) ∧ cs = [v0, v1, v2, v3, v4, .int .i64 a5, v6] ∧ Rep w tt [.row 86 shGateTeam] F0 [.row n0 e0] [v0] ∧ Rep w tt [.row 74 shGateGrant] F1 [.row n1 e1] [v1] ∧ Rep w tt [.row 84 shRecorder] F2 [.row n2 e2] [v2] ∧ Rep w tt [.row 120 shRecMessage] F3 [.row n3 e3] [v3] ∧ Rep w tt [.row 123 shRecFix] F4 [.row n4 e4] [v4] ∧ Rep w tt [.row 98 shHallAsked] F6 [.row n6 e6] [v6] := by
  obtain ⟨F0, G0, v0, x0, rfl, rfl, t0, h1⟩ := h.c_r
  obtain ⟨F1, G1, v1, x1, rfl, rfl, t1, h2⟩ := h1.c_r
  obtain ⟨F2, G2, v2, x2, rfl, rfl, t2, h3⟩ := h2.c_r
  obtain ⟨F3, G3, v3, x3, rfl, rfl, t3, h4⟩ := h3.c_r
  obtain ⟨F4, G4, v4, x4, rfl, rfl, t4, h5⟩ := h4.c_r
  obtain ⟨x5, rfl, h6⟩ := h5.c_i
  obtain ⟨F6, G6, v6, x6, rfl, rfl, t6, h7⟩ := h6.c_r
  obtain ⟨rfl, rfl⟩ := h7.c_n
  exact ⟨F0, v0, F1, v1, F2, v2, F3, v3, F4, v4, F6, v6, rfl, rfl, t0, t1, t2, t3, t4, t6⟩
theorem rawHallWorld {w : World} {n0 : Nat} {e0 : List Dt} {n1 : Nat} {e1 : List Dt} {n2 : Nat} {e2 : List Dt} {n3 : Nat} {e3 : List Dt} {n4 : Nat} {e4 : List Dt} {a5 : Int} {n6 : Nat} {e6 : List Dt} {cs : List Value} (h : Raw w shHallWorld [.row n0 e0, .row n1 e1, .row n2 e2, .row n3 e3, .row n4 e4, .i a5, .row n6 e6] cs) : ∃ v0 v1 v2 v3 v4 v6, cs = [v0, v1, v2, v3, v4, .int .i64 a5, v6] ∧ Raw w [.row 86 shGateTeam] [.row n0 e0] [v0] ∧ Raw w [.row 74 shGateGrant] [.row n1 e1] [v1] ∧ Raw w [.row 84 shRecorder] [.row n2 e2] [v2] ∧ Raw w [.row 120 shRecMessage] [.row n3 e3] [v3] ∧ Raw w [.row 123 shRecFix] [.row n4 e4] [v4] ∧ Raw w [.row 98 shHallAsked] [.row n6 e6] [v6] := by
  obtain ⟨v0, x0, rfl, t0, h1⟩ := h.c_r
  obtain ⟨v1, x1, rfl, t1, h2⟩ := h1.c_r
  obtain ⟨v2, x2, rfl, t2, h3⟩ := h2.c_r
  obtain ⟨v3, x3, rfl, t3, h4⟩ := h3.c_r
  obtain ⟨v4, x4, rfl, t4, h5⟩ := h4.c_r
  obtain ⟨x5, rfl, h6⟩ := h5.c_i
  obtain ⟨v6, x6, rfl, t6, h7⟩ := h6.c_r
  obtain rfl := h7.c_n
  exact ⟨v0, v1, v2, v3, v4, v6, rfl, t0, t1, t2, t3, t4, t6⟩
theorem repHallWorld_mk {w : World} {tt : Bool} {F0 : List Nat} {n0 : Nat} {e0 : List Dt} {v0 : Value} (h0 : Rep w tt [.row 86 shGateTeam] F0 [.row n0 e0] [v0]) {F1 : List Nat} {n1 : Nat} {e1 : List Dt} {v1 : Value} (h1 : Rep w tt [.row 74 shGateGrant] F1 [.row n1 e1] [v1]) {F2 : List Nat} {n2 : Nat} {e2 : List Dt} {v2 : Value} (h2 : Rep w tt [.row 84 shRecorder] F2 [.row n2 e2] [v2]) {F3 : List Nat} {n3 : Nat} {e3 : List Dt} {v3 : Value} (h3 : Rep w tt [.row 120 shRecMessage] F3 [.row n3 e3] [v3]) {F4 : List Nat} {n4 : Nat} {e4 : List Dt} {v4 : Value} (h4 : Rep w tt [.row 123 shRecFix] F4 [.row n4 e4] [v4]) (a5 : Int) {F6 : List Nat} {n6 : Nat} {e6 : List Dt} {v6 : Value} (h6 : Rep w tt [.row 98 shHallAsked] F6 [.row n6 e6] [v6]) : Rep w tt shHallWorld (F0 ++ (F1 ++ (F2 ++ (F3 ++ (F4 ++ (F6 ++ [])))))) [.row n0 e0, .row n1 e1, .row n2 e2, .row n3 e3, .row n4 e4, .i a5, .row n6 e6] [v0, v1, v2, v3, v4, .int .i64 a5, v6] :=
  (h0.app (h1.app (h2.app (h3.app (h4.app (.i a5 (h6.app .nil)))))))
theorem rawHallWorld_mk {w : World} {n0 : Nat} {e0 : List Dt} {v0 : Value} (h0 : Raw w [.row 86 shGateTeam] [.row n0 e0] [v0]) {n1 : Nat} {e1 : List Dt} {v1 : Value} (h1 : Raw w [.row 74 shGateGrant] [.row n1 e1] [v1]) {n2 : Nat} {e2 : List Dt} {v2 : Value} (h2 : Raw w [.row 84 shRecorder] [.row n2 e2] [v2]) {n3 : Nat} {e3 : List Dt} {v3 : Value} (h3 : Raw w [.row 120 shRecMessage] [.row n3 e3] [v3]) {n4 : Nat} {e4 : List Dt} {v4 : Value} (h4 : Raw w [.row 123 shRecFix] [.row n4 e4] [v4]) (a5 : Int) {n6 : Nat} {e6 : List Dt} {v6 : Value} (h6 : Raw w [.row 98 shHallAsked] [.row n6 e6] [v6]) : Raw w shHallWorld [.row n0 e0, .row n1 e1, .row n2 e2, .row n3 e3, .row n4 e4, .i a5, .row n6 e6] [v0, v1, v2, v3, v4, .int .i64 a5, v6] :=
  (h0.app (h1.app (h2.app (h3.app (h4.app (.i a5 (h6.app .nil)))))))
theorem segTypHallWorld {ds : List Dt} (h : Typ shHallWorld ds) : ∃ (d0 : List Dt) (d1 : List Dt) (a2 : Int) (n3 : Nat) (e3 : List Dt), ds = (d0 ++ ((d1 ++ (.i a2 :: .row n3 e3 :: [])))) ∧ Typ shHallHouse d0 ∧ Typ shRecWorld d1 ∧ Typ (reps n3 shHallAsked) e3 := by
  obtain ⟨d0, x0, rfl, t0, h1⟩ := Typ.cut shHallHouse h
  obtain ⟨d1, x1, rfl, t1, h2⟩ := Typ.cut shRecWorld h1
  obtain ⟨a2, x2, rfl, h3⟩ := h2.c_i
  obtain ⟨n3, e3, x3, rfl, t3, h4⟩ := h3.c_r
  obtain rfl := h4.c_n
  exact ⟨d0, d1, a2, n3, e3, rfl, t0, t1, t3⟩
theorem segRepHallWorld {w : World} {tt : Bool} {F : List Nat} {ds : List Dt} {cs : List Value} (h : Rep w tt shHallWorld F ds cs) : ∃ (F0 : List Nat) (d0 : List Dt) (c0 : List Value) (F1 : List Nat) (d1 : List Dt) (c1 : List Value) (a2 : Int) (F3 : List Nat) (n3 : Nat) (e3 : List Dt) (v3 : Value), F = (F0 ++ (F1 ++ (F3 ++ []))) ∧ ds = (d0 ++ ((d1 ++ (.i a2 :: .row n3 e3 :: [])))) ∧ cs = (c0 ++ ((c1 ++ (.int .i64 a2 :: v3 :: [])))) ∧ Rep w tt shHallHouse F0 d0 c0 ∧ Rep w tt shRecWorld F1 d1 c1 ∧ Rep w tt [.row 98 shHallAsked] F3 [.row n3 e3] [v3] := by
  obtain ⟨d0, d1, a2, n3, e3, rfl, tt0, tt1, tt3⟩ := segTypHallWorld h.raw.typ
  obtain ⟨F0, G0, c0, x0, rfl, rfl, t0, h1⟩ := Rep.cut2 h tt0
  obtain ⟨F1, G1, c1, x1, rfl, rfl, t1, h2⟩ := Rep.cut2 h1 tt1
  obtain ⟨x2, rfl, h3⟩ := h2.c_i
  obtain ⟨F3, G3, v3, x3, rfl, rfl, t3, h4⟩ := h3.c_r
  obtain ⟨rfl, rfl⟩ := h4.c_n
  exact ⟨F0, d0, c0, F1, d1, c1, a2, F3, n3, e3, v3, rfl, rfl, rfl, t0, t1, t3⟩
theorem segRawHallWorld {w : World} {ds : List Dt} {cs : List Value} (h : Raw w shHallWorld ds cs) : ∃ (d0 : List Dt) (c0 : List Value) (d1 : List Dt) (c1 : List Value) (a2 : Int) (n3 : Nat) (e3 : List Dt) (v3 : Value), ds = (d0 ++ ((d1 ++ (.i a2 :: .row n3 e3 :: [])))) ∧ cs = (c0 ++ ((c1 ++ (.int .i64 a2 :: v3 :: [])))) ∧ Raw w shHallHouse d0 c0 ∧ Raw w shRecWorld d1 c1 ∧ Raw w [.row 98 shHallAsked] [.row n3 e3] [v3] := by
  obtain ⟨d0, d1, a2, n3, e3, rfl, tt0, tt1, tt3⟩ := segTypHallWorld h.typ
  obtain ⟨c0, x0, rfl, t0, h1⟩ := Raw.cut2 h tt0
  obtain ⟨c1, x1, rfl, t1, h2⟩ := Raw.cut2 h1 tt1
  obtain ⟨x2, rfl, h3⟩ := h2.c_i
  obtain ⟨v3, x3, rfl, t3, h4⟩ := h3.c_r
  obtain rfl := h4.c_n
  exact ⟨d0, c0, d1, c1, a2, n3, e3, v3, rfl, rfl, t0, t1, t3⟩
theorem segRepHallWorld_mk {w : World} {tt : Bool} {F0 : List Nat} {d0 : List Dt} {c0 : List Value} (h0 : Rep w tt shHallHouse F0 d0 c0) {F1 : List Nat} {d1 : List Dt} {c1 : List Value} (h1 : Rep w tt shRecWorld F1 d1 c1) (a2 : Int) {F3 : List Nat} {n3 : Nat} {e3 : List Dt} {v3 : Value} (h3 : Rep w tt [.row 98 shHallAsked] F3 [.row n3 e3] [v3]) : Rep w tt shHallWorld (F0 ++ (F1 ++ (F3 ++ []))) ((d0 ++ ((d1 ++ (.i a2 :: .row n3 e3 :: []))))) ((c0 ++ ((c1 ++ (.int .i64 a2 :: v3 :: []))))) :=
  (h0.app (h1.app (.i a2 (h3.app .nil))))
theorem segRawHallWorld_mk {w : World} {d0 : List Dt} {c0 : List Value} (h0 : Raw w shHallHouse d0 c0) {d1 : List Dt} {c1 : List Value} (h1 : Raw w shRecWorld d1 c1) (a2 : Int) {n3 : Nat} {e3 : List Dt} {v3 : Value} (h3 : Raw w [.row 98 shHallAsked] [.row n3 e3] [v3]) : Raw w shHallWorld ((d0 ++ ((d1 ++ (.i a2 :: .row n3 e3 :: []))))) ((c0 ++ ((c1 ++ (.int .i64 a2 :: v3 :: []))))) :=
  (h0.app (h1.app (.i a2 (h3.app .nil))))
theorem boxHallWorld {W : World} {B : Nat} {c0 : List Value} {c1 : List Value} {a2 : Int} {v3 : Value} (l0 : c0.length = 2) (l1 : c1.length = 3) (h : W.rangeAt B 0 ((c0 ++ ((c1 ++ (.int .i64 a2 :: v3 :: [])))))) : W.rangeAt B 0 c0 ∧ W.rangeAt B 2 c1 ∧ W.cell? ⟨B, 5, none⟩ = some (.int .i64 a2) ∧ W.cell? ⟨B, 6, none⟩ = some (v3) := by
  obtain ⟨g0, k0⟩ := rA_cut h
  rw [l0] at k0
  have h1 : W.rangeAt B 2 _ := k0
  obtain ⟨g1, k1⟩ := rA_cut h1
  rw [l1] at k1
  have h2 : W.rangeAt B 5 _ := k1
  obtain ⟨g2, k2⟩ := rA_cons h2
  have h3 : W.rangeAt B 6 _ := k2
  obtain ⟨g3, k3⟩ := rA_cons h3
  have h4 : W.rangeAt B 7 _ := k3
  exact ⟨g0, g1, g2, g3⟩
end Go.Proofs.YtfkkohfjkofgnaaGreat
