/-
  Plain functions: values that are mended.
-/
import Derived.Test.YtbannihkgglpaaaGreatWalkDA
import Derived.Test.YtbannihkgglpaaaGreatWalkMP
import Derived.Test.YtbannihkgglpaaaGreatWalkAI
namespace Go.Proofs.YtbannihkgglpaaaGreat
open Go.RowKit Go.Deep

def mendStep (L : List Mng) (vs : List ByteArray) (p : Nat) : List ByteArray := if decAt L p vs < L.length then vs.set p (givesB (L.getD (decAt L p vs) Mng.none) vs) else vs
def mendBy (L : List Mng) (vs : List ByteArray) (row : List Nat) : List ByteArray := row.foldl (mendStep L) vs
def mngsAt (ss : List Shp) (ms : List Mnd) (K : ByteArray) : List Mng := mngsOf (ss.getD (kindAt ss K) Shp.none).fields ms (ss.getD (kindAt ss K) Shp.none).kind
def rowAt (ss : List Shp) (ms : List Mnd) (K : ByteArray) : List Nat := rowG (rdOf (mngsAt ss ms K)) (ss.getD (kindAt ss K) Shp.none).fields.length (ss.getD (kindAt ss K) Shp.none).fields.length
def mendVals (ss : List Shp) (ms : List Mnd) (K : ByteArray) (vs : List ByteArray) : List ByteArray :=
  if hasKind ss K = true ∧ vs.length = (ss.getD (kindAt ss K) Shp.none).fields.length then mendBy (mngsAt ss ms K) vs (rowAt ss ms K) else vs

theorem mendStep_len (L : List Mng) (vs : List ByteArray) (p : Nat) : (mendStep L vs p).length = vs.length := by unfold mendStep; split <;> simp
theorem mendBy_len (L : List Mng) : ∀ (row : List Nat) (vs : List ByteArray), (mendBy L vs row).length = vs.length
  | [], _ => rfl
  | p :: row, vs => by show (mendBy L (mendStep L vs p) row).length = _; rw [mendBy_len L row, mendStep_len]
theorem mendVals_len (ss : List Shp) (ms : List Mnd) (K : ByteArray) (vs : List ByteArray) : (mendVals ss ms K vs).length = vs.length := by
  unfold mendVals; split
  · exact mendBy_len _ _ _
  · rfl
theorem mendBy_take (L : List Mng) (vs : List ByteArray) (row : List Nat) (k : Nat) (hk : k < row.length) : mendBy L vs (row.take (k + 1)) = mendStep L (mendBy L vs (row.take k)) (row.getD k 0) := by
  have e : row.getD k 0 = row[k] := by simp [hk]
  rw [List.take_succ_eq_append_getElem hk, e]
  unfold mendBy
  rw [List.foldl_append]
  rfl

theorem need_lt {fs : List Fld} {ms : List Mnd} {K : ByteArray} (hf : ∀ m ∈ ms, ofKind K m = true → found fs m) : ∀ x ∈ mngsOf fs ms K, ∀ n ∈ x.needs, n.place < fs.length := by
  intro x hx n hn
  unfold mngsOf at hx
  obtain ⟨m, hm, rfl⟩ := List.mem_map.1 hx
  obtain ⟨hm1, hm2⟩ := List.mem_filter.1 hm
  obtain ⟨_, f2, f3⟩ := hf m hm1 hm2
  have hn' : n ∈ needsOf fs m := hn
  unfold needsOf at hn'
  rcases List.mem_append.1 hn' with h | h
  · cases hw : Pl.isEmp m.whn
    · rw [hw] at h; simp at h; rw [h]; exact f2 hw
    · rw [hw] at h; simp at h
  · cases hw : Pl.isEmp m.frm
    · rw [hw] at h; simp at h; rw [h]; exact f3 hw
    · rw [hw] at h; simp at h

theorem mendOkF_of {ss : List Shp} {ms : List Mnd} (h : shapesOk ss = true) (hm : mendsTo ss ms ms.length = true) {i : Nat} (hi : i < ss.length) : ∀ m ∈ ms, ofKind (ss.getD i Shp.none).kind m = true → mendOkF (ss.getD i Shp.none).fields m = true := by
  intro m hmm hk
  unfold mendsTo at hm
  rw [all_range, List.all_eq_true] at hm
  have h1 := hm m hmm
  unfold mendOk at h1
  have hks := kindAt_self h hi hk
  rw [hks] at h1
  exact ((Bool.and_eq_true _ _).mp h1).2

theorem frm_lt {fs : List Fld} {ms : List Mnd} {K : ByteArray} (hf : ∀ m ∈ ms, ofKind K m = true → found fs m) (ho : ∀ m ∈ ms, ofKind K m = true → mendOkF fs m = true) : ∀ x ∈ mngsOf fs ms K, x.put.toList.isEmpty = true → x.frm < fs.length := by
  intro x hx hp
  unfold mngsOf at hx
  obtain ⟨m, hm, rfl⟩ := List.mem_map.1 hx
  obtain ⟨hm1, hm2⟩ := List.mem_filter.1 hm
  obtain ⟨_, _, f3⟩ := hf m hm1 hm2
  have h2 := ho m hm1 hm2
  unfold mendOkF at h2
  simp only [Bool.and_eq_true] at h2
  obtain ⟨⟨⟨⟨_, p2⟩, _⟩, _⟩, _⟩ := h2
  have hp' : Pl.isEmp m.put = true := hp
  have hfe : Pl.isEmp m.frm = false := by
    unfold badM at p2
    rw [hp'] at p2
    cases hh : Pl.isEmp m.frm
    · rfl
    · rw [hh] at p2; simp at p2
  show (if Pl.isEmp m.frm = true then 0 else nameAt fs m.frm) < fs.length
  rw [hfe]
  exact f3 hfe

theorem CT.setv {w : World} {lo hi : Nat} {g cap : Nat} {ss : List ByteArray} (h : CT w lo hi (.slice (some ⟨g, 0, none⟩) ss.length cap) ss) (p : Nat) (hp : p < ss.length) (z : ByteArray) : CT (w.setCell ⟨g, p, none⟩ (.string z)) lo hi (.slice (some ⟨g, 0, none⟩) ss.length cap) (ss.set p z) := by
  rcases h with ⟨e, e2⟩ | ⟨g', cap', e, h1, h2, h3, h4, h5⟩
  · rw [e2] at hp; exact absurd hp (Nat.not_lt_zero p)
  · injection e with e1 e3 e4
    injection e1 with e1
    injection e1 with e1
    subst e1 e4
    refine Or.inr ⟨g, cap, by rw [List.length_set], h1, h2, h3.setCell p _, by rw [List.length_set]; exact h4, fun i hi => ?_⟩
    rw [List.length_set] at hi
    by_cases hip : i = p
    · subst hip
      rw [sc_eq h3 i (by omega) _]
      simp [hi]
    · rw [sc_ne _ _ _ _ _ _ (Or.inr hip), h5 i hi]
      simp [hi, Ne.symm hip]

theorem FInv.setv {w wr : World} {X mid : Nat} {o : Ob} {vs : List ByteArray} {g cap : Nat} {v2 : Value} (h : FInv w wr X mid o vs (.slice (some ⟨g, 0, none⟩) vs.length cap) v2) (p : Nat) (hp : p < vs.length) (z : ByteArray) :
    FInv w (wr.setCell ⟨g, p, none⟩ (.string z)) X mid o (vs.set p z) (.slice (some ⟨g, 0, none⟩) vs.length cap) v2 := by
  obtain ⟨g1, g2, _, _, _, _⟩ := h.c1.row
  have m1 := h.m1
  have m2 := h.m2
  have c : ∀ j, (wr.setCell ⟨g, p, none⟩ (.string z)).cell? ⟨X, j, none⟩ = wr.cell? ⟨X, j, none⟩ := fun j => sc_ne _ _ _ _ _ _ (Or.inl (by omega))
  exact ⟨h.bel.setCell (p := ⟨g, p, none⟩) (by show w.heap.size ≤ g; omega) _, h.own.sc_other (by omega) _ _, by rw [sc_size']; exact h.lt, (c 0).trans h.x0, (c 1).trans h.x1, (c 2).trans h.x2, (c 3).trans h.x3, (c 4).trans h.x4, (c 5).trans h.x5, (c 6).trans h.x6, h.c1.setv p hp z, h.c2.sc (Or.inl (by omega)) _ _, m1, m2⟩

end Go.Proofs.YtbannihkgglpaaaGreat
