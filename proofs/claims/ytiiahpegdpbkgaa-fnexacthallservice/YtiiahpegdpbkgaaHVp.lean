/-
  The service that an object asks for: plain.
-/
import Derived.Test.YtiiahpegdpbkgaaOSh
import Derived.Test.YtiiahpegdpbkgaaUL
import Derived.Test.YtiiahpegdpbkgaaUG
import Derived.Test.YtiiahpegdpbkgaaUC
import Derived.Test.YtiiahpegdpbkgaaWalkB
import Derived.Test.YtiiahpegdpbkgaaWalkC
namespace Go.Proofs.Ytiiahpegdpbkgaa
open Go.RowKit Go.Deep


def svV (l : List ByteArray) (k : Nat) : Int := decOut (l.getD k ByteArray.empty)
def svD (nm : ByteArray) (en : Bool) (l : List ByteArray) (ow ol : Int) : List Dt :=
  if l.length = 6 then
    if svV l 4 = 0 then [.s nm, .i 0, .b en, .i (svV l 0), .i (svV l 1), .i (svV l 2), .i (svV l 3), .i 0, .i (svV l 4), .i 0, .i 0, .i 0, .i 0]
    else [.s nm, .i 0, .b en, .i (svV l 0), .i (if ow < svV l 1 then ow else svV l 1), .i (svV l 2), .i (svV l 3), .i 0, .i (svV l 4), .i 0, .i (svV l 1), .i ol, .i 0]
  else [.s ByteArray.empty, .i 0, .b false, .i 0, .i 0, .i 0, .i 0, .i 0, .i 0, .i 0, .i 0, .i 0, .i 0]
theorem decOut_pos (s : ByteArray) : 0 ≤ decOut s := by
  unfold decOut
  split
  · rename_i h
    have h7 : s.size ≤ 7 ∧ s.data.toList.all Pl.digit = true := by
      simp only [Pl.decOk, Bool.and_eq_true, decide_eq_true_eq] at h; exact ⟨h.1.1.2, h.2⟩
    have hk : s.data.toList.take s.size = s.data.toList := by rw [← Pl.len_data s, List.take_length]
    have := (Pl.decVal_small s s.size (Nat.le_refl _) h7.1 (by rw [hk]; exact h7.2)).1
    rwa [hk] at this
  · omega
theorem svV_pos (l : List ByteArray) (k : Nat) : 0 ≤ svV l k := decOut_pos _
theorem numb_dec (s : ByteArray) : (if Pl.numb s < 0 then 0 else Pl.numb s) = decOut s := by
  have h := decOut_pos s
  unfold decOut at h ⊢
  unfold Pl.numb
  by_cases e : Pl.decOk s = true
  · rw [if_pos e] at h ⊢; rw [if_neg (by omega)]; simp [e]
  · simp [e]
def eTx (t : ByteArray) : List Dt := [.s t]
theorem dTx (e : List Dt) (h : Typ [.s] e) : ∃ m, e = eTx m := by obtain ⟨a, rfl⟩ := typT1 h; exact ⟨a, rfl⟩
theorem repSv {W : World} {tt : Bool} (nm : ByteArray) (a1 : Int) (a2 : Bool) (a3 a4 a5 a6 a7 a8 a9 a10 a11 a12 : Int) : Rep W tt shStewService [] [.s nm, .i a1, .b a2, .i a3, .i a4, .i a5, .i a6, .i a7, .i a8, .i a9, .i a10, .i a11, .i a12] [.string nm, .int .i64 a1, .bool a2, .int .i64 a3, .int .i64 a4, .int .i64 a5, .int .i64 a6, .int .i64 a7, .int .i64 a8, .int .i64 a9, .int .i64 a10, .int .i64 a11, .int .i64 a12] := repStewService_mk nm a1 a2 a3 a4 a5 a6 a7 a8 a9 a10 a11 a12
end Go.Proofs.Ytiiahpegdpbkgaa
