/-
  Stewards: what may be taken away, by the program.
-/
import Derived.Test.YtamhfnlogldpaaaStCI
namespace Go.Proofs.Ytamhfnlogldpaaa
open Go.RowKit Go.Deep

/-- The place of a copy, or the one that it would get. -/
def placeAt (l : List Cp) (svc : ByteArray) (num : Int) : Nat := l.findIdx fun x => !decide (cpCmp x.svc x.num svc num < 0)
theorem placeAt_le (l : List Cp) (svc : ByteArray) (num : Int) : placeAt l svc num ≤ l.length := List.findIdx_le_length
theorem placeAt_lt (l : List Cp) (svc : ByteArray) (num : Int) : ∀ i, i < placeAt l svc num → cpCmp (l.getD i Cp.none).svc (l.getD i Cp.none).num svc num < 0 := by
  intro i hi
  have hl : i < l.length := Nat.lt_of_lt_of_le hi (placeAt_le l svc num)
  have := List.not_of_lt_findIdx hi
  have e : l.getD i Cp.none = l[i] := by simp [hl]
  rw [e]
  simpa using this
theorem placeAt_ge {l : List Cp} (h : ascCp l = true) (svc : ByteArray) (num : Int) : ∀ i, placeAt l svc num ≤ i → i < l.length → 0 ≤ cpCmp (l.getD i Cp.none).svc (l.getD i Cp.none).num svc num := by
  intro i hi hl
  have hp : placeAt l svc num < l.length := by omega
  have h0 : 0 ≤ cpCmp (l.getD (placeAt l svc num) Cp.none).svc (l.getD (placeAt l svc num) Cp.none).num svc num := by
    have := List.findIdx_getElem (w := hp)
    have e : l.getD (placeAt l svc num) Cp.none = l[placeAt l svc num] := by simp [hp]
    rw [e]
    have q : (!decide (cpCmp l[placeAt l svc num].svc l[placeAt l svc num].num svc num < 0)) = true := this
    simp at q
    omega
  exact row_ge (lex_lin kc_lin num_lin) ((ascCp_iff l).1 h) (t := (svc.toList, num)) h0 i hi hl
theorem cmp_zero (x : Cp) (svc : ByteArray) (num : Int) : cpCmp x.svc x.num svc num = 0 ↔ (same x.svc svc && (x.num == num)) = true := by
  have := (lex_lin kc_lin num_lin).z (x.svc.toList, x.num) (svc.toList, num)
  refine Iff.trans this ?_
  simp [same]
theorem cpIx_place {l : List Cp} (h : ascCp l = true) (svc : ByteArray) (num : Int) :
    (decide (placeAt l svc num < l.length) && decide (cpCmp (l.getD (placeAt l svc num) Cp.none).svc (l.getD (placeAt l svc num) Cp.none).num svc num = 0)) = decide (0 ≤ cpIx l svc num) ∧ (0 ≤ cpIx l svc num → cpIx l svc num = (placeAt l svc num : Int) ∧ placeAt l svc num < l.length) := by
  have hno : ∀ i, cpCmp (l.getD i Cp.none).svc (l.getD i Cp.none).num svc num ≠ 0 → (same (l.getD i Cp.none).svc svc && ((l.getD i Cp.none).num == num)) = false := fun i hi => by
    rw [Bool.eq_false_iff]
    exact fun q => hi ((cmp_zero _ _ _).2 q)
  obtain ⟨p, hp⟩ : ∃ p, p = placeAt l svc num := ⟨_, rfl⟩
  have hlt := placeAt_lt l svc num
  have hge := placeAt_ge h svc num
  rw [← hp] at hlt hge ⊢
  by_cases h1 : p < l.length
  · by_cases h2 : cpCmp (l.getD p Cp.none).svc (l.getD p Cp.none).num svc num = 0
    · have e : cpIx l svc num = p := firstTo_hit h1 ((cmp_zero _ _ _).1 h2) fun i hi => hno i (by have := hlt i hi; omega)
      rw [e]
      exact ⟨by rw [decide_eq_true h1, decide_eq_true h2, decide_eq_true (show (0 : Int) ≤ (p : Int) by omega)]; rfl, fun _ => ⟨rfl, h1⟩⟩
    · have e : cpIx l svc num = -1 := firstTo_none fun i hi => by
        refine hno i fun q => ?_
        rcases Nat.lt_trichotomy i p with r | r | r
        · have := hlt i r; omega
        · subst r; exact h2 q
        · have k := row_lt (lex_lin kc_lin num_lin) ((ascCp_iff l).1 h) p i r hi
          have q' := ((lex_lin kc_lin num_lin).z ((l.getD i Cp.none).svc.toList, (l.getD i Cp.none).num) (svc.toList, num)).1 q
          have g : 0 ≤ lex kc numCmp ((l.getD p Cp.none).svc.toList, (l.getD p Cp.none).num) (svc.toList, num) := hge p (Nat.le_refl _) h1
          have k' : lex kc numCmp ((l.getD p Cp.none).svc.toList, (l.getD p Cp.none).num) ((l.getD i Cp.none).svc.toList, (l.getD i Cp.none).num) < 0 := k
          rw [q'] at k'
          omega
      rw [e]
      exact ⟨by rw [decide_eq_false h2, Bool.and_false]; rfl, fun q => absurd q (by decide)⟩
  · have e : cpIx l svc num = -1 := firstTo_none fun i hi => hno i (by have := hlt i (by omega); omega)
    rw [e]
    exact ⟨by rw [decide_eq_false h1, Bool.false_and]; rfl, fun q => absurd q (by decide)⟩

/-- The place of a service, 0 where there is none. -/
def svAt (l : List Sv) (nm : ByteArray) : Int := if 0 ≤ svIx l nm then svIx l nm else 0

/-- Whether nothing hangs on a copy. -/
def idle (s : Sv) (c : Cp) : Bool := c.state != 3 || s.gone
/-- Whether enough others are ready. -/
def spared (K : SBk) (s : Sv) : Bool := decide (s.want - s.down ≤ (cnL K.cps s.image (rowCp K.cps s.nm)).ready - 1)
theorem row_len {l : List Cp} (svc : ByteArray) : (rowCp l svc).length ≤ l.length := by
  have := runCp_le l svc (placeCp l svc) (placeCp_le l svc)
  simp only [rowCp, List.length_range']
  omega

/-- Whether a copy of a service may be taken away. -/
def mayGo (K : SBk) (s : Sv) (c : Cp) : Bool := !c.ending && (idle s c || spared K s)

theorem mayEnd_go {K : SBk} (ha : ascCp K.cps = true) (hn : ∀ i, i < K.cps.length → 1 ≤ (K.cps.getD i Cp.none).num) {svc : ByteArray} {num : Int} {k : Nat} (hix : svIx K.svcs svc = (k : Int)) (hnm : (K.svcs.getD k Sv.none).nm = svc) (hc : 0 ≤ cpIx K.cps svc num) :
    mayEnd K svc num = mayGo K (K.svcs.getD k Sv.none) (K.cps.getD (placeAt K.cps svc num) Cp.none) := by
  have hp := ((cpIx_place ha svc num).2 hc).1
  have e1 : cpGet K.cps (cpIx K.cps svc num) = K.cps.getD (placeAt K.cps svc num) Cp.none := by rw [hp]; unfold cpGet; rw [Int.toNat_natCast]
  have e2 : svGet K.svcs (svIx K.svcs svc) = K.svcs.getD k Sv.none := by rw [hix]; unfold svGet; rw [Int.toNat_natCast]
  have e3 : countOf K svc = cnL K.cps (K.svcs.getD k Sv.none).image (rowCp K.cps (K.svcs.getD k Sv.none).nm) := by
    unfold countOf
    rw [if_pos (by rw [hix]; omega), e2, hnm]
    exact cnTo_row ha hn _
  unfold mayEnd
  rw [e1, e2, e3, if_neg (by omega)]
  unfold mayGo idle spared
  obtain ⟨c, hc'⟩ : ∃ c, c = K.cps.getD (placeAt K.cps svc num) Cp.none := ⟨_, rfl⟩
  obtain ⟨s, hs'⟩ : ∃ s, s = K.svcs.getD k Sv.none := ⟨_, rfl⟩
  rw [← hc', ← hs']
  cases c.ending
  · by_cases q : c.state = 3
    · cases s.gone <;> simp [q]
    · simp [q]
  · simp

end Go.Proofs.Ytamhfnlogldpaaa
