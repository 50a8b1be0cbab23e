/-
  Sheets: how a word is written: the specification.
-/
import Derived.Test.YtfhobegepiijhaaEBy
namespace Go.Proofs.Ytfhobegepiijhaa
open Go.RowKit Go.Deep

theorem wrap_byte (z : Int) (h0 : 0 ≤ z) (h1 : z ≤ 255) : IntKind.u8.wrap z = z := by
  simp [IntKind.wrap, IntKind.bits, IntKind.signed]; omega
def VEw (va : Value) (dx s : ByteArray) (k q r : Nat) (b : UInt8) : Nat → Value → World → Prop
  | 0, u, _ => u = va
  | 1, u, _ => u = .string dx
  | 2, u, _ => u = .string s
  | 3, u, _ => u = .int .i64 (k : Int)
  | 4, u, _ => u = .int .u8 (b.toNat : Int)
  | 5, u, _ => u = .int .u8 (q : Int)
  | 6, u, _ => u = .int .u8 ((Pl.hexd q).toNat : Int)
  | 7, u, _ => u = .string dx
  | 8, u, _ => u = .string s
  | 9, u, _ => u = .int .i64 (k : Int)
  | 10, u, _ => u = .int .u8 (b.toNat : Int)
  | 11, u, _ => u = .int .u8 (r : Int)
  | 12, u, _ => u = .int .u8 ((Pl.hexd r).toNat : Int)
  | 13, u, W => ∃ B, u = .slice (some ⟨B, 0, none⟩) 3 3 ∧ W.heap[B]? = some (.cells #[.int .u8 92, .int .u8 ((Pl.hexd q).toNat : Int), .int .u8 ((Pl.hexd r).toNat : Int)] 5 (0, 0))
  | _, _, _ => True
theorem VEw_mono (va : Value) (dx s : ByteArray) (k q r : Nat) (b : UInt8) : ∀ j u W W', Below W.heap.size W W' → VEw va dx s k q r b j u W → VEw va dx s k q r b j u W' := by
  intro j u W W' hb h
  match j with
  | 0 => exact h
  | 1 => exact h
  | 2 => exact h
  | 3 => exact h
  | 4 => exact h
  | 5 => exact h
  | 6 => exact h
  | 7 => exact h
  | 8 => exact h
  | 9 => exact h
  | 10 => exact h
  | 11 => exact h
  | 12 => exact h
  | 13 =>
    obtain ⟨B, e, hB⟩ := h
    exact ⟨B, e, (hb.block B (Array.getElem?_eq_some_iff.1 hB).1).trans hB⟩
  | n + 14 => exact trivial
end Go.Proofs.Ytfhobegepiijhaa
