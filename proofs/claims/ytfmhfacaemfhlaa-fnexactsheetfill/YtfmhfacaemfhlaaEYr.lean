/-
  Sheets: what a key means, what is filled, what is kept: plain.
-/
import Derived.Test.YtfmhfacaemfhlaaEPg
import Derived.Test.YtfmhfacaemfhlaaEPj
namespace Go.Proofs.Ytfmhfacaemfhlaa
open Go.RowKit Go.Deep

theorem ruIxF_key {key : ByteArray} : ∀ (l : List Pl.Ru) (i j : Nat), Pl.ruIxF key l i = some j → i ≤ j ∧ (l.getD (j - i) Pl.ruNo).key = key
  | [], _, _, h => by unfold Pl.ruIxF at h; cases h
  | r :: l, i, j, h => by
    unfold Pl.ruIxF at h
    split at h
    · rename_i hk
      injection h with h; subst h
      refine ⟨Nat.le_refl _, ?_⟩
      rw [Nat.sub_self]
      exact tl_inj (by simpa using hk)
    · have := ruIxF_key l (i + 1) j h
      refine ⟨by omega, ?_⟩
      have e : j - i = (j - (i + 1)) + 1 := by omega
      rw [e, List.getD_cons_succ]
      exact this.2
theorem ruIx_key {l : List Pl.Ru} {key : ByteArray} {j : Nat} (h : Pl.ruIx l key = some j) : (l.getD j Pl.ruNo).key = key := by
  have := (ruIxF_key l 0 j h).2
  rwa [Nat.sub_zero] at this
/-- What a key means. -/
def Pl.meant (ru : Pl.Ru) (l : List Pl.Ln) : List Pl.Ln := if decide ((Pl.linesOf l ru.key).length = 0) && !ru.many then [⟨ru.key, ru.dflt⟩] else Pl.linesOf l ru.key
/-- What is meant, key by key. -/
def Pl.filled (kind : ByteArray) (l : List Pl.Ln) : List Pl.Ln := (Pl.rulesOf kind).flatMap (fun r => Pl.meant r l)
/-- Two lists of texts alike. -/
def Pl.eqWs : List ByteArray → List ByteArray → Bool
  | [], [] => true
  | a :: x, b :: y => (a.toList == b.toList) && Pl.eqWs x y
  | _, _ => false
theorem eqWs_len : ∀ A B : List ByteArray, A.length ≠ B.length → Pl.eqWs A B = false
  | [], [], h => by simp at h
  | [], _ :: _, _ => rfl
  | _ :: _, [], _ => rfl
  | a :: x, b :: y, h => by
    rw [Pl.eqWs, eqWs_len x y (by simpa using h), Bool.and_false]
theorem eqWs_at {A B : List ByteArray} {k : Nat} (h1 : k < A.length) (h2 : k < B.length) : Pl.eqWs (A.drop k) (B.drop k) = ((A.getD k Pl.txNo).toList == (B.getD k Pl.txNo).toList && Pl.eqWs (A.drop (k + 1)) (B.drop (k + 1))) := by
  have e1 : A.getD k Pl.txNo = A[k] := by simp [h1]
  have e2 : B.getD k Pl.txNo = B[k] := by simp [h2]
  rw [List.drop_eq_getElem_cons h1, List.drop_eq_getElem_cons h2, Pl.eqWs, e1, e2]
theorem eqWs_iff : ∀ A B : List ByteArray, Pl.eqWs A B = true ↔ A = B
  | [], [] => by simp [Pl.eqWs]
  | [], _ :: _ => by simp [Pl.eqWs]
  | _ :: _, [] => by simp [Pl.eqWs]
  | a :: x, b :: y => by
    rw [Pl.eqWs, Bool.and_eq_true, eqWs_iff x y]
    constructor
    · rintro ⟨h1, h2⟩
      rw [tl_inj h1, h2]
    · intro h
      injection h with h1 h2
      subst h1; subst h2
      exact ⟨by simp, rfl⟩
/-- The lines that are kept. -/
def Pl.keepI (kind : ByteArray) (x : Pl.Ln) : Bool := match Pl.ruIx (Pl.rulesOf kind) x.key with
  | none => !Pl.eqWs x.ws []
  | some j => ((Pl.rulesOf kind).getD j Pl.ruNo).many || !Pl.eqWs x.ws ((Pl.rulesOf kind).getD j Pl.ruNo).dflt
def Pl.trimmed (kind : ByteArray) (l : List Pl.Ln) : List Pl.Ln := l.filter (Pl.keepI kind)

end Go.Proofs.Ytfmhfacaemfhlaa
