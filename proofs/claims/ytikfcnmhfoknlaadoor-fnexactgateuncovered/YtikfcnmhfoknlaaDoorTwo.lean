/-
  Two rows of texts of the call's own, which lie apart.
-/
import Derived.Test.YtikfcnmhfoknlaaDoorWalkSC
import Derived.Test.YtikfcnmhfoknlaaDoorWalkVB
import Derived.Maps.AppendAt
namespace Go.Proofs.YtikfcnmhfoknlaaDoor
open Go.RowKit Go.Deep

theorem Tryd.info9 : (Tryd.prog.info? 9).map (fun i => (i.zero, i.size, i.bytes)) = some (some (.string ⟨#[]⟩), 1, 16) := by kernel_rfl

/-- A row of texts of the call's own. -/
def RowT (w : World) (lo : Nat) (v : Value) (L : List ByteArray) : Prop := w.ownsRow lo 9 1 v L.length (L.map Value.string)

/-- Two rows that lie apart. -/
def Two (w : World) (lo : Nat) (v u : Value) (L M : List ByteArray) : Prop :=
  RowT w lo v L ∧ RowT w lo u M ∧ ∀ k, v.ownBlock = some k → u.ownBlock ≠ some k

theorem Two.symm {w : World} {lo : Nat} {v u : Value} {L M : List ByteArray} (h : Two w lo v u L M) : Two w lo u v M L :=
  ⟨h.2.1, h.1, fun k hk hv => h.2.2 k hv hk⟩

theorem Two.later {w w' : World} {lo : Nat} {v u : Value} {L M : List ByteArray} (h : Two w lo v u L M) (hb : Below w.heap.size w w') : Two w' lo v u L M :=
  ⟨owns_later h.1 hb, owns_later h.2.1 hb, h.2.2⟩

theorem Two.add {w w' : World} {lo : Nat} {v v' u : Value} {L M : List ByteArray} {q : ByteArray} (h : Two w lo v u L M)
    (ho : w'.ownsRow lo 9 1 v' (L.length + 1) (L.map Value.string ++ [.string q])) (hg : w.grownBy w' v.ownBlock) (ha : v'.ownBlock = v.ownBlock ∨ v'.ownBlock = some w.heap.size) :
    Two w' lo v' u (L ++ [q]) M := by
  refine ⟨?_, ?_, ?_⟩
  · unfold RowT
    rw [List.length_append, List.map_append]
    exact ho
  · refine World.ownsRow.kept h.2.1 hg ?_
    cases hu : u.ownBlock with
    | none => exact Or.inl rfl
    | some k => exact Or.inr (fun e => h.2.2 k e.symm hu)
  · intro k hk hu
    rcases ha with e | e
    · exact h.2.2 k (by rw [← e]; exact hk) hu
    · rw [e] at hk
      cases hk
      have := (World.ownsRow.lt h.2.1 _ hu).2
      omega

theorem RowT.at_ {w : World} {lo : Nat} {v : Value} {L : List ByteArray} (h : RowT w lo v L) (hl : L.length ≤ 4000000) : TextsAt w v L := by
  unfold RowT at h
  have hcs : ∀ g, v.ownBlock = some g → ∀ j u, (L.map Value.string)[j]? = some u → w.cell? ((⟨g, 0, none⟩ : Addr).add j) = some u := fun g hg => World.ownsRow.cells h hg
  rcases h.2 with ⟨rfl, hn⟩ | ⟨g, cap, cur, rfl, _, hg, _⟩
  · exact Or.inl ⟨List.length_eq_zero_iff.1 hn, _, _, rfl⟩
  · refine Or.inr ⟨g, cap, rfl, (Array.getElem?_eq_some_iff.1 hg).1, hl, fun i hi => ?_⟩
    have := hcs g rfl i (.string (L.getD i ByteArray.empty)) (by simp [hi])
    rw [Addr.add_lit, Nat.zero_add] at this
    exact this

theorem Two.start (w : World) (lo : Nat) (hlo : lo ≤ w.heap.size) :
    Two ((w.alloc (.cells #[] 9)).alloc (.cells #[] 9)) lo (.slice (some ⟨w.heap.size, 0, none⟩) 0 0) (.slice (some ⟨w.heap.size + 1, 0, none⟩) 0 0) [] [] := by
  refine ⟨?_, ?_, ?_⟩
  · exact owns_later (World.ownsRow_made (base := lo) (e := 9) (size := 1) w #[] 0 hlo (Nat.zero_le _) rfl) (blw_alloc (Below.refl _ _) _)
  · have := World.ownsRow_made (base := lo) (e := 9) (size := 1) (w.alloc (.cells #[] 9)) #[] 0 (by simp; omega) (Nat.zero_le _) rfl
    simpa [RowT] using this
  · intro k hk
    simp [Value.ownBlock] at hk ⊢
    omega

theorem take_snocK (rs : List Rul) (k : Nat) (hk : k < rs.length) : kindsOf (rs.take (k + 1)) = kindsOf (rs.take k) ++ [(rs.getD k Rul.none).kind] := by
  unfold kindsOf; rw [take_snocR rs k hk, List.map_append]; rfl
theorem take_snocN (rs : List Rul) (k : Nat) (hk : k < rs.length) : (rs.take (k + 1)).map (fun r => r.team) = (rs.take k).map (fun r => r.team) ++ [(rs.getD k Rul.none).team] := by
  rw [take_snocR rs k hk, List.map_append]; rfl

end Go.Proofs.YtikfcnmhfoknlaaDoor
