/-
  Draws of sheets: a line in the making.
-/
import Derived.Test.YtfhobegepiijhaaEDw
import Derived.Test.YtfhobegepiijhaaRgFr
import Derived.Test.YtfhobegepiijhaaERu
namespace Go.Proofs.Ytfhobegepiijhaa
open Go.RowKit Go.Deep

theorem Fr.mks {R : Nat} {S : Nat → Prop} {W X X' : World} (h : Fr R W X) (hm : Marks S X X') (hR : ∀ b, S b → W.heap.size ≤ b) (hl : R < W.heap.size) : Fr R W X' :=
  ⟨⟨hm.os.trans h.bel.os, hm.tape.trans h.bel.tape, hm.output.trans h.bel.output, Nat.le_trans h.bel.size hm.size, fun k hk => (hm.block k (Nat.lt_of_lt_of_le (by omega) h.bel.size) (fun e => by have := hR k e; omega)).trans (h.bel.block k hk)⟩,
   fun k h1 h2 => (hm.block k (Nat.lt_of_lt_of_le h2 h.bel.size) (fun e => by have := hR k e; omega)).trans (h.blk k h1 h2)⟩
theorem Fr.toMarks {R : Nat} {X X' : World} {v v' : Value} {n n' p p' : Nat} (h : Fr R X X') (h1 : Rd X R v n p) (h2 : Rd X' R v' n' p') : Marks (fun b => b = R) X X' :=
  ⟨h.bel.os, h.bel.tape, h.bel.output, h.bel.size, fun p hp hn => by
    rcases Nat.lt_or_ge p R with q | q
    · exact h.bel.block p q
    · exact h.blk p (by omega) hp, fun b t m hO => by
    by_cases e : b = R
    · subst e
      obtain ⟨c1, e1, s1⟩ := hO
      obtain ⟨c2, e2, s2⟩ := h1.own
      rw [e1] at e2
      injection e2 with e2
      injection e2 with e3 e4
      subst e3; subst e4
      obtain ⟨c3, e5, s3⟩ := h2.own
      exact ⟨c3, e5, by omega⟩
    · obtain ⟨c1, e1, s1⟩ := hO
      have hb : b < X.heap.size := (Array.getElem?_eq_some_iff.1 e1).1
      refine ⟨c1, ?_, s1⟩
      rcases Nat.lt_or_ge b R with q | q
      · exact (h.bel.block b q).trans e1
      · exact (h.blk b (by omega) hb).trans e1⟩
theorem Rd.blk {W W' : World} {R : Nat} {v : Value} {n p : Nat} (h : Rd W R v n p) (hb : ∀ k, k ≤ R → W'.heap[k]? = W.heap[k]?) : Rd W' R v n p := by
  have hc : ∀ b o, b ≤ R → W'.cell? ⟨b, o, none⟩ = W.cell? ⟨b, o, none⟩ := fun b o hbR => World.cell?_of_block (a := ⟨b, o, none⟩) (hb b hbR)
  obtain ⟨cs, e, hm⟩ := h.own
  refine ⟨⟨cs, (hb R (Nat.le_refl _)).trans e, hm⟩, (hc R 0 (Nat.le_refl _)).trans h.c0, (hc R 1 (Nat.le_refl _)).trans h.c1, h.len, ?_⟩
  rcases h.code with hq | ⟨b, off, cap, rfl, hb2, hx⟩
  · exact Or.inl hq
  · refine Or.inr ⟨b, off, cap, rfl, hb2, fun i hi => ?_⟩
    obtain ⟨x, h0, h1, hcx⟩ := hx i hi
    exact ⟨x, h0, h1, (hc b _ (by omega)).trans hcx⟩
theorem Rd.mks {S : Nat → Prop} {W W' : World} {R : Nat} {v : Value} {n p : Nat} (h : Rd W R v n p) (hm : Marks S W W') (hS : ∀ b, S b → R < b) : Rd W' R v n p :=
  h.blk fun k hk => hm.block k (by have := h.own.lt; omega) (fun e => by have := hS k e; omega)
theorem Rd.grown {W W' : World} {R : Nat} {v : Value} {n p : Nat} {row : Option Nat} (h : Rd W R v n p) (hg : W.grownBy W' row) (hn : ∀ b, row = some b → R < b) : Rd W' R v n p :=
  h.blk fun k hk => hg.block k (by have := h.own.lt; omega) (fun e => by have := hn k e.symm; omega)
theorem Fr.grown {R : Nat} {W X X' : World} {row : Option Nat} (h : Fr R W X) (hg : X.grownBy X' row) (hn : ∀ b, row = some b → W.heap.size ≤ b) (hl : R < W.heap.size) : Fr R W X' := by
  have hb : Below W.heap.size X X' := Below.grown (Below.refl _ _) hg h.bel.size fun q hq => hn q hq
  exact ⟨h.bel.trans (hb.mono (by omega)), fun k h1 h2 => (hb.block k h2).trans (h.blk k h1 h2)⟩
theorem TxR.fr {R : Nat} {W W' : World} {lo : Nat} {v : Value} {l : List ByteArray} (h : TxR W lo v l) (hF : Fr R W W') (hl : R < lo) : TxR W' lo v l := by
  refine ⟨h.1, h.2.imp id ?_⟩
  rintro ⟨g, cap, cur, h1, h2, h3, h4⟩
  exact ⟨g, cap, cur, h1, h2, (hF.blk g (by omega) (Array.getElem?_eq_some_iff.1 h3).1).trans h3, h4⟩
theorem WBox.fr {R : Nat} {W W' : World} {p : Nat} {u : TypeId} {cs : List Value} (h : WBox W p u cs) (hF : Fr R W W') (hl : R < p) : WBox W' p u cs := by
  have hb := hF.blk p hl h.own.lt
  obtain ⟨cs', h1, h2⟩ := h.own
  exact ⟨⟨cs', hb.trans h1, h2⟩, rA_same h.at_ fun j _ => World.cell?_of_block (a := ⟨p, 0 + j, none⟩) hb⟩

end Go.Proofs.Ytfhobegepiijhaa
