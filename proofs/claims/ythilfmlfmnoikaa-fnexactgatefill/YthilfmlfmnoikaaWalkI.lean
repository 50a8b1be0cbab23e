/-
  The walk over the program's GateFits.
-/
import Derived.Test.YthilfmlfmnoikaaWalkH
namespace Go.Proofs.Ythilfmlfmnoikaa
open Go.RowKit

theorem fits1 (least most : Int) (ss : List ByteArray) (v : ByteArray) : (decide (1 ≤ v.size) && fitNum least most v) = Pl.fits 1 least most ss v := by
  cases h : Pl.decOk v
  · simp [fitNum, Pl.fits, h]
  · have h1 : 1 ≤ v.size := by simp only [Pl.decOk, Bool.and_eq_true, decide_eq_true_eq] at h; omega
    simp [fitNum, Pl.fits, h, decOut, h1]
theorem fits2 (least most : Int) (ss : List ByteArray) (v : ByteArray) : (decide (1 ≤ v.size) && Pl.has ss v) = Pl.fits 2 least most ss v := by
  simp [Pl.fits]
theorem fits3 (least most : Int) (ss : List ByteArray) (v : ByteArray) : (decide (1 ≤ v.size) && fitText least most v) = Pl.fits 3 least most ss v := by
  rw [Bool.eq_iff_iff]
  simp [Pl.fits, fitText]
  constructor
  · rintro ⟨a, ⟨b, c⟩, d⟩; exact ⟨⟨⟨a, d⟩, b⟩, c⟩
  · rintro ⟨⟨⟨a, d⟩, b⟩, c⟩; exact ⟨a, ⟨b, c⟩, d⟩
theorem fits4 (least most : Int) (ss : List ByteArray) (v : ByteArray) : (decide (1 ≤ v.size) && Pl.nameOk v) = Pl.fits 4 least most ss v := by
  rw [Bool.eq_iff_iff]
  simp [Pl.fits, Pl.nameOk]
  intro a _ _; exact a

end Go.Proofs.Ythilfmlfmnoikaa
