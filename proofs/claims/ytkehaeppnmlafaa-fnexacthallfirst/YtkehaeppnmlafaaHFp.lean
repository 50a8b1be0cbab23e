/-
  The first books of a house: plain.
-/
import Derived.Test.YtkehaeppnmlafaaHFc
namespace Go.Proofs.Ytkehaeppnmlafaa
open Go.RowKit Go.Deep


/-- Grants in a row, with what they lead to. -/
structure GnsR (w : World) (p : Nat) (l : List Gn) : Prop where
  lt : p < w.heap.size
  len : l.length ≤ 1048576
  at_ : ∀ i, i < l.length → ∃ vb, w.rangeAt p (i * 7) (let g := l.getD i Gn.none; [.int .i64 g.num, .string g.to_, .string g.by_, .slice (some ⟨vb, 0, none⟩) g.rul.verbs.length g.rul.verbs.length, .string g.rul.kind, .string g.rul.team, .string g.rul.pre]) ∧ (let g := l.getD i Gn.none; Raw w [.row 3 [.i]] [.row g.rul.verbs.length (g.rul.verbs.flatMap eNb)] [.slice (some ⟨vb, 0, none⟩) g.rul.verbs.length g.rul.verbs.length] ∧ g.rul.verbs.length ≤ 1048576)
theorem GnsR.later {w w' : World} {p : Nat} {l : List Gn} (h : GnsR w p l) (hb : Below w.heap.size w w') : GnsR w' p l :=
  ⟨Nat.lt_of_lt_of_le h.lt hb.size, h.len, fun i hi => by
    obtain ⟨vb, h1, h2, h3⟩ := h.at_ i hi
    exact ⟨vb, rA_later h1 h.lt hb, h2.later hb, h3⟩⟩
theorem vGnR {W : World} {F : List Nat} {l : List Gn} {v : Value} {t : TypeId} (h : Rep W true [.row t shGateGrant] F [.row l.length (l.flatMap eGn)] [v]) (hw : l.length + wtL (l.flatMap eGn) ≤ 1048576) : ∃ p, v = .slice (some ⟨p, 0, none⟩) l.length l.length ∧ GnsR W p l := by
  obtain ⟨p, rfl, hp, hm, hall⟩ := rep_at Gn.none eGn (fun _ => rfl) h
  refine ⟨p, rfl, hp, by omega, fun i hi => ?_⟩
  obtain ⟨ve, G, hg, hE⟩ := hall i hi
  obtain ⟨F3, v3, _, rfl, r3⟩ := repGateGrant hE
  have := wt_mem eGn l _ (getD_memH (d := Gn.none) hi)
  simp only [eGn, wtL] at this
  obtain ⟨vb, rfl, hv⟩ := vNb r3 (by omega)
  exact ⟨vb, hg, r3.raw, by omega⟩
theorem WBox.grown {W W' : World} {row : Option Nat} {p : Nat} {u : TypeId} {cs : List Value} (h : WBox W p u cs) (hg : W.grownBy W' row) (hn : row ≠ some p) : WBox W' p u cs := by
  have hb : W'.heap[p]? = W.heap[p]? := hg.block p h.own.lt (fun e => hn e.symm)
  refine ⟨?_, rA_same h.at_ fun j _ => World.cell?_of_block (a := ⟨p, 0 + j, none⟩) hb⟩
  obtain ⟨c, h1, h2⟩ := h.own
  exact ⟨c, hb.trans h1, h2⟩
theorem take_fm {α : Type} (f : α → List Dt) (d : α) (l : List α) (q : Nat) (h : q < l.length) : (l.take (q + 1)).flatMap f = (l.take q).flatMap f ++ f (l.getD q d) := by
  have e : l.getD q d = l[q] := by simp [h]
  rw [List.take_succ_eq_append_getElem h, List.flatMap_append, e]; simp
theorem app_nil {P : Program} (t ty e : TypeId) (ht : P.underlying t = some (.slice e)) (hinf : (P.info? e).isSome = true) (W : World) : (Builtin.append_ #[t, t] ty #[.slice none 0 0, .slice none 0 0]).run P W = .ok (.slice none 0 0) W := by
  obtain ⟨i, hi⟩ := Option.isSome_iff_exists.1 hinf
  have hsrc : Src P i.size t (.slice none 0 0) 0 [] W := Src.ofNil W ht 0
  have h1 := hsrc.len
  have h2 := hsrc.cells
  simp [Builtin.append_, run_underlying ht, sizeOf, typeInfo, hi, h1, h2]
/-- The first books. -/
def bookD (n : Nat) (gs : List Dt) : List Dt := [.i (n : Int), .i 0, .i (n : Int), .row 0 [], .row n gs, .row 0 [], .row 0 []]
def firstD (K : Hs) : List Dt := if houseOk K then [.i (K.grs.length : Int), .i 0, .i (K.grs.length : Int), .row 0 [], .row K.grs.length (K.grs.flatMap eGn), .row 0 [], .row 0 [], .i 0, .row 0 [], .row 0 [], .row 0 []] else [.i 0, .i 0, .i 0, .row 0 [], .row 0 [], .row 0 [], .row 0 [], .i 0, .row 0 [], .row 0 [], .row 0 []]
theorem cnt_first {K : Hs} (t : Typ shHallHouse (eHs K)) (hw : wtL (eHs K) ≤ 1048576) : cntT (firstD K) ≤ 1000000000 := by
  have h1 := cntT_le (eHs K)
  have h2 := cnt_wt t shB_hs
  have h3 : shHallHouse.length = 2 := rfl
  have h4 : cntL (K.grs.flatMap eGn) ≤ cntL (eHs K) := by simp only [eHs, cntL]; omega
  unfold firstD
  split
  · simp only [cntT, cntL]; omega
  · simp [cntT, cntL]
theorem cnt_houseF {K : Hs} (t : Typ shHallHouse (eHs K)) (hw : wtL (eHs K) ≤ 1048576) : cntT (eHs K) ≤ 1000000000 := by
  have h1 := cntT_le (eHs K)
  have h2 := cnt_wt t shB_hs
  have h3 : shHallHouse.length = 2 := rfl
  omega
theorem grant_rep {w : World} {tt : Bool} {F : List Nat} {g : Gn} {c : List Value} (h : Rep w tt shGateRule F (eRl g.rul) c) : ∃ v a m, v = .slice a g.rul.verbs.length m ∧ c = [v, .string g.rul.kind, .string g.rul.team, .string g.rul.pre] ∧ Rep w tt shGateGrant F (eGn g) ([.int .i64 g.num, .string g.to_, .string g.by_, v, .string g.rul.kind, .string g.rul.team, .string g.rul.pre]) := by
  obtain ⟨F0, v0, rfl, rfl, r0⟩ := repGateRule h
  obtain ⟨a, m, rfl⟩ := r0.raw.len0
  exact ⟨_, a, m, rfl, rfl, repGateGrant_mk _ _ _ r0 _ _ _⟩
end Go.Proofs.Ytkehaeppnmlafaa
