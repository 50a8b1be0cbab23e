/-
  The shape of a desk.
-/
import Derived.Test.YtjjobbalifjdkaaUB
namespace Go.Proofs.Ytjjobbalifjdkaa
open Go.RowKit Go.Deep

abbrev shDesk : List Sh := [.s, .s, .s, .s]
theorem typN1 {ds : List Dt} (h : Typ [.i] ds) : ∃ a0, ds = [.i a0] := by
  obtain ⟨a0, x0, rfl, h1⟩ := h.c_i
  obtain rfl := h1.c_n
  exact ⟨a0, rfl⟩
theorem repN1 {w : World} {tt : Bool} {F : List Nat} {a0 : Int} {cs : List Value} (h : Rep w tt [.i] F [.i a0] cs) : F = [] ∧ cs = [.int .i64 a0] := by
  obtain ⟨x0, rfl, h1⟩ := h.c_i
  obtain ⟨rfl, rfl⟩ := h1.c_n
  exact ⟨rfl, rfl⟩
theorem rawN1 {w : World} {a0 : Int} {cs : List Value} (h : Raw w [.i] [.i a0] cs) : cs = [.int .i64 a0] := by
  obtain ⟨x0, rfl, h1⟩ := h.c_i
  obtain rfl := h1.c_n
  exact rfl
theorem repN1_mk {w : World} {tt : Bool} (a0 : Int) : Rep w tt [.i] ([]) [.i a0] [.int .i64 a0] :=
  (.i a0 .nil)
theorem rawN1_mk {w : World} (a0 : Int) : Raw w [.i] [.i a0] [.int .i64 a0] :=
  (.i a0 .nil)
theorem typT1 {ds : List Dt} (h : Typ [.s] ds) : ∃ a0, ds = [.s a0] := by
  obtain ⟨a0, x0, rfl, h1⟩ := h.c_s
  obtain rfl := h1.c_n
  exact ⟨a0, rfl⟩
theorem repT1 {w : World} {tt : Bool} {F : List Nat} {a0 : ByteArray} {cs : List Value} (h : Rep w tt [.s] F [.s a0] cs) : F = [] ∧ cs = [.string a0] := by
  obtain ⟨x0, rfl, h1⟩ := h.c_s
  obtain ⟨rfl, rfl⟩ := h1.c_n
  exact ⟨rfl, rfl⟩
theorem rawT1 {w : World} {a0 : ByteArray} {cs : List Value} (h : Raw w [.s] [.s a0] cs) : cs = [.string a0] := by
  obtain ⟨x0, rfl, h1⟩ := h.c_s
  obtain rfl := h1.c_n
  exact rfl
theorem repT1_mk {w : World} {tt : Bool} (a0 : ByteArray) : Rep w tt [.s] ([]) [.s a0] [.string a0] :=
  (.s a0 .nil)
theorem rawT1_mk {w : World} (a0 : ByteArray) : Raw w [.s] [.s a0] [.string a0] :=
  (.s a0 .nil)
theorem typDesk {ds : List Dt} (h : Typ shDesk ds) : ∃ a0 a1 a2 a3, ds = [.s a0, .s a1, .s a2, .s a3] := by
  obtain ⟨a0, x0, rfl, h1⟩ := h.c_s
  obtain ⟨a1, x1, rfl, h2⟩ := h1.c_s
  obtain ⟨a2, x2, rfl, h3⟩ := h2.c_s
  obtain ⟨a3, x3, rfl, h4⟩ := h3.c_s
  obtain rfl := h4.c_n
  exact ⟨a0, a1, a2, a3, rfl⟩
theorem repDesk {w : World} {tt : Bool} {F : List Nat} {a0 : ByteArray} {a1 : ByteArray} {a2 : ByteArray} {a3 : ByteArray} {cs : List Value} (h : Rep w tt shDesk F [.s a0, .s a1, .s a2, .s a3] cs) : F = [] ∧ cs = [.string a0, .string a1, .string a2, .string a3] := by
  obtain ⟨x0, rfl, h1⟩ := h.c_s
  obtain ⟨x1, rfl, h2⟩ := h1.c_s
  obtain ⟨x2, rfl, h3⟩ := h2.c_s
  obtain ⟨x3, rfl, h4⟩ := h3.c_s
  obtain ⟨rfl, rfl⟩ := h4.c_n
  exact ⟨rfl, rfl⟩
theorem rawDesk {w : World} {a0 : ByteArray} {a1 : ByteArray} {a2 : ByteArray} {a3 : ByteArray} {cs : List Value} (h : Raw w shDesk [.s a0, .s a1, .s a2, .s a3] cs) : cs = [.string a0, .string a1, .string a2, .string a3] := by
  obtain ⟨x0, rfl, h1⟩ := h.c_s
  obtain ⟨x1, rfl, h2⟩ := h1.c_s
  obtain ⟨x2, rfl, h3⟩ := h2.c_s
  obtain ⟨x3, rfl, h4⟩ := h3.c_s
  obtain rfl := h4.c_n
  exact rfl
theorem repDesk_mk {w : World} {tt : Bool} (a0 : ByteArray) (a1 : ByteArray) (a2 : ByteArray) (a3 : ByteArray) : Rep w tt shDesk ([]) [.s a0, .s a1, .s a2, .s a3] [.string a0, .string a1, .string a2, .string a3] :=
  (.s a0 (.s a1 (.s a2 (.s a3 .nil))))
theorem rawDesk_mk {w : World} (a0 : ByteArray) (a1 : ByteArray) (a2 : ByteArray) (a3 : ByteArray) : Raw w shDesk [.s a0, .s a1, .s a2, .s a3] [.string a0, .string a1, .string a2, .string a3] :=
  (.s a0 (.s a1 (.s a2 (.s a3 .nil))))
theorem segTypDesk {ds : List Dt} (h : Typ shDesk ds) : ∃ (a0 : ByteArray) (a1 : ByteArray) (a2 : ByteArray) (a3 : ByteArray), ds = .s a0 :: .s a1 :: .s a2 :: .s a3 :: [] := by
  obtain ⟨a0, x0, rfl, h1⟩ := h.c_s
  obtain ⟨a1, x1, rfl, h2⟩ := h1.c_s
  obtain ⟨a2, x2, rfl, h3⟩ := h2.c_s
  obtain ⟨a3, x3, rfl, h4⟩ := h3.c_s
  obtain rfl := h4.c_n
  exact ⟨a0, a1, a2, a3, rfl⟩
theorem segRepDesk {w : World} {tt : Bool} {F : List Nat} {ds : List Dt} {cs : List Value} (h : Rep w tt shDesk F ds cs) : ∃ (a0 : ByteArray) (a1 : ByteArray) (a2 : ByteArray) (a3 : ByteArray), F = [] ∧ ds = .s a0 :: .s a1 :: .s a2 :: .s a3 :: [] ∧ cs = .string a0 :: .string a1 :: .string a2 :: .string a3 :: [] := by
  obtain ⟨a0, a1, a2, a3, rfl⟩ := segTypDesk h.raw.typ
  obtain ⟨x0, rfl, h1⟩ := h.c_s
  obtain ⟨x1, rfl, h2⟩ := h1.c_s
  obtain ⟨x2, rfl, h3⟩ := h2.c_s
  obtain ⟨x3, rfl, h4⟩ := h3.c_s
  obtain ⟨rfl, rfl⟩ := h4.c_n
  exact ⟨a0, a1, a2, a3, rfl, rfl, rfl⟩
theorem segRawDesk {w : World} {ds : List Dt} {cs : List Value} (h : Raw w shDesk ds cs) : ∃ (a0 : ByteArray) (a1 : ByteArray) (a2 : ByteArray) (a3 : ByteArray), ds = .s a0 :: .s a1 :: .s a2 :: .s a3 :: [] ∧ cs = .string a0 :: .string a1 :: .string a2 :: .string a3 :: [] := by
  obtain ⟨a0, a1, a2, a3, rfl⟩ := segTypDesk h.typ
  obtain ⟨x0, rfl, h1⟩ := h.c_s
  obtain ⟨x1, rfl, h2⟩ := h1.c_s
  obtain ⟨x2, rfl, h3⟩ := h2.c_s
  obtain ⟨x3, rfl, h4⟩ := h3.c_s
  obtain rfl := h4.c_n
  exact ⟨a0, a1, a2, a3, rfl, rfl⟩
theorem segRepDesk_mk {w : World} {tt : Bool} (a0 : ByteArray) (a1 : ByteArray) (a2 : ByteArray) (a3 : ByteArray) : Rep w tt shDesk [] (.s a0 :: .s a1 :: .s a2 :: .s a3 :: []) (.string a0 :: .string a1 :: .string a2 :: .string a3 :: []) :=
  (.s a0 (.s a1 (.s a2 (.s a3 .nil))))
theorem segRawDesk_mk {w : World} (a0 : ByteArray) (a1 : ByteArray) (a2 : ByteArray) (a3 : ByteArray) : Raw w shDesk (.s a0 :: .s a1 :: .s a2 :: .s a3 :: []) (.string a0 :: .string a1 :: .string a2 :: .string a3 :: []) :=
  (.s a0 (.s a1 (.s a2 (.s a3 .nil))))
theorem boxDesk {W : World} {B : Nat} {a0 : ByteArray} {a1 : ByteArray} {a2 : ByteArray} {a3 : ByteArray}  (h : W.rangeAt B 0 (.string a0 :: .string a1 :: .string a2 :: .string a3 :: [])) : W.cell? ⟨B, 0, none⟩ = some (.string a0) ∧ W.cell? ⟨B, 1, none⟩ = some (.string a1) ∧ W.cell? ⟨B, 2, none⟩ = some (.string a2) ∧ W.cell? ⟨B, 3, none⟩ = some (.string a3) := by
  obtain ⟨g0, k0⟩ := rA_cons h
  have h1 : W.rangeAt B 1 _ := k0
  obtain ⟨g1, k1⟩ := rA_cons h1
  have h2 : W.rangeAt B 2 _ := k1
  obtain ⟨g2, k2⟩ := rA_cons h2
  have h3 : W.rangeAt B 3 _ := k2
  obtain ⟨g3, k3⟩ := rA_cons h3
  have h4 : W.rangeAt B 4 _ := k3
  exact ⟨g0, g1, g2, g3⟩
end Go.Proofs.Ytjjobbalifjdkaa
