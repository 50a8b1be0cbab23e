/-
  Sheets: what need not be said, left out: by the specification.
-/
import Derived.Test.YtfmhfacaemfhlaaETp
import Derived.Test.YtfmhfacaemfhlaaEFi
import Derived.Test.YtfmhfacaemfhlaaRgG
import Derived.Test.YtfmhfacaemfhlaaEFp
namespace Go.Proofs.Ytfmhfacaemfhlaa
open Go.RowKit Go.Deep

namespace RY
theorem region_nw {P : Program} {id : Nat} {Q : Exit → Act → World → Prop} {a0 : Act} {w : World} {l : List Oper} (v : World) (hv : Below v.heap.size v w)
    (V : Nat → Value → World → Option Nat → Prop) (hVm : ∀ j u W W' A, Below W.heap.size W W' → V j u W A → V j u W' A) (hVa : ∀ j u W, V j u W none → V j u W (some W.heap.size))
    (K : (Nat → Value) → World → Prop) (n fuel : Nat)
    (hm : P.follows .mixedOrders = true) (hasc : asc .any l.toArray = true) (hap : apartB l = true) (hpl : plainB l a0.tmps.size = true)
    (hlen : l.length = n + 1) (D : List Nat) (hD : (D.all fun d => decide (d < n) && waits l n d) = true)
    (hclo : ((List.range n).all fun i => (clo l fuel D).contains i) = true)
    (oS : Oper) (hS : l[n]? = some oS) (hSd : oS.dst = none)
    (hds : ((l.take n).all fun o => o.dst.isSome) = true)
    (iA kA : Nat) (oA : Oper) (hA : l[iA]? = some oA) (hAd : oA.dst = some kA) (hAn : iA < n) (T : TypeId) (zs : List Value)
    (r5 : ∀ (a : Act) (W : World), (execOp a.eval oA).run P W = .ok (.value (.pointer (some ⟨W.heap.size, 0, none⟩))) (W.alloc (.cells zs.toArray T)))
    (hop : ∀ (i : Nat) (o : Oper), l[i]? = some o → i < n → i ≠ iA → ∀ (a : Act) (W : World) (A : Option Nat), Below v.heap.size v W → (∀ q, A = some q → q < W.heap.size) → (∀ k, noDst l k = true → a.eval (.tmp k) = a0.eval (.tmp k)) →
      (∀ (j : Nat) (o' : Oper) (k : Nat), l[j]? = some o' → o'.dst = some k → (∃ e ∈ o.after, e.on = j ∧ Region.binds .any e = true) → j < n → j ≠ iA → V j (a.eval (.tmp k)) W A) →
      (∃ u W', (execOp a.eval o).run P W = .ok (.value u) W' ∧ Below W.heap.size W W' ∧ V i u W' A) ∨
      (∃ f args, (execOp a.eval o).run P W = .ok (.enter f args) W ∧ Calls P f args W fun e W' => ∃ u, e = .returned u ∧ Below W.heap.size W W' ∧ V i u W' A))
    (hfin : ∀ (a : Act) (W : World) (vals : Nat → Value) (q : Nat), Below v.heap.size v W → (∀ k, noDst l k = true → a.eval (.tmp k) = a0.eval (.tmp k)) → vals iA = .pointer (some ⟨q, 0, none⟩) → v.heap.size ≤ q → OwnBlk W q T zs.length → (∀ j, j < n → j ≠ iA → V j (vals j) W (some q)) →
      (∀ (j : Nat) (o' : Oper) (k : Nat), l[j]? = some o' → o'.dst = some k → (∃ e ∈ oS.after, e.on = j ∧ Region.binds .any e = true) → j < n → a.eval (.tmp k) = vals j) →
      ∃ W', (execOp a.eval oS).run P W = .ok .skip W' ∧ K vals W')
    (hend : ∀ (vals vs : Nat → Value) (W : World), K vals W → (∀ (i : Nat) (o : Oper) (k : Nat), l[i]? = some o → o.dst = some k → vs k = vals i) → Q .normal (putAll l a0 vs) W) :
    (Code.region id l.toArray true).wp P Q a0 w := by
  rw [List.all_eq_true] at hD
  refine region_TC (fun _ _ => True) (fun up vals W => (up n = false → Below v.heap.size v W ∧ ∃ A : Option Nat, (up iA = false → A = none) ∧ (up iA = true → ∃ q, A = some q ∧ vals iA = .pointer (some ⟨q, 0, none⟩) ∧ v.heap.size ≤ q ∧ OwnBlk W q T zs.length) ∧ ∀ j, j < n → j ≠ iA → up j = true → V j (vals j) W A) ∧ (up n = true → K vals W)) hm hasc hap hpl ?_ ?_ ?_
  · intro vals
    exact ⟨fun _ => ⟨Below.drew hv, none, fun _ => rfl, fun h => by simp at h, fun j _ _ h => by simp at h⟩, fun h => by simp at h⟩
  · intro up vals i o ho hi hcl a W hk hdep hT
    have hil : i < n + 1 := by rw [← hlen]; exact (List.getElem?_eq_some_iff.1 ho).1
    have hcl2 : (∀ d ∈ D, up d = true) → ∀ j, j < n → up j = true := fun h j hj => by
      rw [List.all_eq_true] at hclo
      have := hclo j (by simp; omega)
      exact clo_up hcl fuel D h j (by simpa using this)
    by_cases hS0 : up n = true
    · exfalso
      have hall : ∀ j, j < n + 1 → up j = true := fun j hj => by
        by_cases e : j = n
        · rw [e]; exact hS0
        · exact hcl2 (fun d hd => by
            have h2 := hD d hd
            rw [Bool.and_eq_true, decide_eq_true_eq] at h2
            obtain ⟨e, he, hej, hbd⟩ := waits_spec h2.2 hS
            rw [← hej]; exact hcl n oS e hS he hbd hS0) j (by omega)
      rw [hall i hil] at hi; cases hi
    · have hS0 : up n = false := by simpa using hS0
      obtain ⟨hBW, A, hA0, hA1, hV⟩ := hT.1 hS0
      have hdst : i < n → o.dst.isSome = true := fun h => by
        rw [List.all_eq_true] at hds
        exact hds _ (List.mem_of_getElem? (i := i) (by rw [List.getElem?_take_of_lt h]; exact ho))
      have hni : i < n → ¬ n = i := fun h => by omega
      by_cases hin : i < n
      · by_cases hia : i = iA
        · subst hia
          obtain rfl : o = oA := Option.some.inj (ho.symm.trans hA)
          have hAN : A = none := hA0 hi
          subst hAN
          have hb : Below W.heap.size W (W.alloc (.cells zs.toArray T)) := blw_alloc (Below.refl _ _) _
          refine Or.inl ⟨_, _, r5 a W, hdst hin, trivial, fun _ => ⟨blw_trans hBW hb, some W.heap.size, fun h => by simp at h, fun _ => ⟨W.heap.size, rfl, by simp, hBW.size, OwnBlk.alloc W _ _ _ (by simp)⟩, fun j hj hja hu => ?_⟩, fun h => ?_⟩
          · have hu : up j = true := by simpa [hja] using hu
            simp only [hja, if_false]
            exact hVm _ _ _ _ _ hb (hVa _ _ _ (hV j hj hja hu))
          · have : up n = true := by simpa [hni hin] using h
            rw [hS0] at this; cases this
        · have hAq : ∀ q, A = some q → q < W.heap.size := fun q e => by
            cases h : up iA
            · rw [hA0 h] at e; cases e
            · obtain ⟨q', e1, _, _, e4⟩ := hA1 h
              rw [e1] at e; injection e with e; subst e; exact e4.lt
          have hai : ¬ iA = i := fun e => hia e.symm
          have key : ∀ u W', Below W.heap.size W W' → V i u W' A → ((fun j => (j == i) || up j) n = false → Below v.heap.size v W' ∧ ∃ A : Option Nat, ((fun j => (j == i) || up j) iA = false → A = none) ∧ ((fun j => (j == i) || up j) iA = true → ∃ q, A = some q ∧ (fun j => if j = i then u else vals j) iA = .pointer (some ⟨q, 0, none⟩) ∧ v.heap.size ≤ q ∧ OwnBlk W' q T zs.length) ∧ ∀ j, j < n → j ≠ iA → (fun j => (j == i) || up j) j = true → V j ((fun j => if j = i then u else vals j) j) W' A) ∧ ((fun j => (j == i) || up j) n = true → K (fun j => if j = i then u else vals j) W') := fun u W' hW hVi => by
            refine ⟨fun _ => ⟨blw_trans hBW hW, A, fun h => hA0 (by simpa [hai] using h), fun h => ?_, fun j hj hja hu => ?_⟩, fun h => ?_⟩
            · obtain ⟨q, e1, e2, e3, e4⟩ := hA1 (by simpa [hai] using h)
              exact ⟨q, e1, by simpa [hai] using e2, e3, e4.later hW⟩
            · by_cases e : j = i
              · simp only [e, if_true]; exact hVi
              · have hu : up j = true := by simpa [e] using hu
                simp only [e, if_false]
                exact hVm _ _ _ _ _ hW (hV j hj hja hu)
            · have : up n = true := by simpa [hni hin] using h
              rw [hS0] at this; cases this
          rcases hop i o ho hin hia a W A hBW hAq hk (fun j o' k hj hk' hd hjn hja => by
              obtain ⟨q1, q2, _⟩ := hdep j o' k hj hk' hd
              rw [q2]; exact hV j hjn hja q1) with ⟨u, W', hr, hW, hVi⟩ | ⟨f, args, hr, hc⟩
          · exact Or.inl ⟨u, W', hr, hdst hin, trivial, key u W' hW hVi⟩
          · refine Or.inr (Or.inr ⟨f, args, hr, hdst hin, hc.mono ?_⟩)
            rintro e W' ⟨u, rfl, hW, hVi⟩
            exact ⟨u, rfl, trivial, key u W' hW hVi⟩
      · obtain rfl : i = n := by omega
        rw [hS] at ho
        injection ho with ho
        subst ho
        have hsub : ∀ j, j < i → up j = true := hcl2 fun d hd => by
          have h2 := hD d hd
          rw [Bool.and_eq_true, decide_eq_true_eq] at h2
          obtain ⟨e, he, hej, hbd⟩ := waits_spec h2.2 hS
          have hdl : d < l.length := by rw [hlen]; omega
          have hq : (l[d]).dst.isSome = true := by
            rw [List.all_eq_true] at hds
            exact hds _ (List.mem_of_getElem? (i := d) (by rw [List.getElem?_take_of_lt h2.1]; simp))
          obtain ⟨k, hk'⟩ := Option.isSome_iff_exists.1 hq
          exact (hdep d l[d] k (by simp) hk' ⟨e, he, hej, hbd⟩).1
        obtain ⟨q, e1, e2, e3, e4⟩ := hA1 (hsub iA hAn)
        subst e1
        obtain ⟨W', hr, hK⟩ := hfin a W vals q hBW hk e2 e3 e4 (fun j hj hja => hV j hj hja (hsub j hj)) (fun j o' k hj hk' hd hjn => (hdep j o' k hj hk' hd).2.1)
        exact Or.inr (Or.inl ⟨W', hr, hSd, fun h => by simp at h, fun _ => hK⟩)
  · intro up vals vs W hall hv2 hT
    exact hend vals vs W (hT.2 (hall n (by omega))) (fun i o k hi hd => (hv2 i o k hi hd).1)
end RY
end Go.Proofs.Ytfmhfacaemfhlaa

namespace Go.Proofs.Ytfmhfacaemfhlaa
open Go.RowKit Go.Deep

def VTa (pb : Nat) (p2 : Nat) (o2 : Nat) (lc : Nat) (k : Nat) (j : Nat) (y : Pl.Bl) (x : Pl.Ln) (r : Pl.Ru) : Nat → Value → World → Option Nat → Prop
  | 0, vv, _, _ => vv = .pointer (some ⟨pb, 0, none⟩)
  | 1, vv, _, _ => vv = .string y.kind
  | 2, vv, W, A_ => ∃ v F, vv = v ∧ Rep W false [.row 44 shSheetRule] F [rulesD (Pl.rulesOf y.kind)] [v] ∧ ∀ b ∈ F, A_ ≠ some b
  | 3, vv, _, _ => vv = .pointer (some ⟨pb, 0, none⟩)
  | 4, vv, _, _ => vv = .string y.kind
  | 5, vv, _, _ => vv = .pointer (some ⟨pb, 2, none⟩)
  | 6, vv, _, _ => vv = .slice (some ⟨p2, o2, none⟩) y.lines.length lc
  | 7, vv, _, _ => vv = .int .i64 (k : Int)
  | 8, vv, _, _ => vv = .pointer (some ⟨p2, o2 + k * 2, none⟩)
  | 9, vv, _, _ => vv = .pointer (some ⟨p2, o2 + k * 2, none⟩)
  | 10, vv, _, _ => vv = .string x.key
  | 11, vv, _, _ => vv = .int .i64 (j : Int)
  | 12, vv, W, A_ => ∃ rp ro, vv = .pointer (some ⟨rp, ro + j * 4, none⟩) ∧ rp < W.heap.size ∧ ∃ a1 c1 a3 c3 F, W.rangeAt rp (ro + j * 4) [.string r.key, .slice a1 r.args.length c1, .bool r.many, .slice a3 r.dflt.length c3] ∧ Rep W false shTxs F [.row r.dflt.length (txD r.dflt)] [.slice a3 r.dflt.length c3] ∧ ∀ b ∈ F, A_ ≠ some b
  | 13, vv, W, A_ => ∃ a1 c1 a3 c3 F, vv = .agg #[.string r.key, .slice a1 r.args.length c1, .bool r.many, .slice a3 r.dflt.length c3] ∧ Rep W false shTxs F [.row r.dflt.length (txD r.dflt)] [.slice a3 r.dflt.length c3] ∧ ∀ b ∈ F, A_ ≠ some b
  | 14, _, _, _ => True
  | _, _, _, _ => True
theorem VTa_mono (pb : Nat) (p2 : Nat) (o2 : Nat) (lc : Nat) (k : Nat) (j : Nat) (y : Pl.Bl) (x : Pl.Ln) (r : Pl.Ru) : ∀ jj vv W W' A_, Below W.heap.size W W' → VTa pb p2 o2 lc k j y x r jj vv W A_ → VTa pb p2 o2 lc k j y x r jj vv W' A_ := by
  intro jj vv W W' A_ hb h
  match jj with
  | 0 => exact h
  | 1 => exact h
  | 2 =>
    obtain ⟨v, F, h1, h2, h3⟩ := h
    exact ⟨v, F, h1, h2.later hb, h3⟩
  | 3 => exact h
  | 4 => exact h
  | 5 => exact h
  | 6 => exact h
  | 7 => exact h
  | 8 => exact h
  | 9 => exact h
  | 10 => exact h
  | 11 => exact h
  | 12 =>
    obtain ⟨rp, ro, h1, h2, a1, c1, a3, c3, F, h3, h4, h5⟩ := h
    exact ⟨rp, ro, h1, Nat.lt_of_lt_of_le h2 hb.size, a1, c1, a3, c3, F, rA_later h3 h2 hb, h4.later hb, h5⟩
  | 13 =>
    obtain ⟨a1, c1, a3, c3, F, h1, h2, h3⟩ := h
    exact ⟨a1, c1, a3, c3, F, h1, h2.later hb, h3⟩
  | 14 => exact h
  | n + 15 => exact trivial
theorem VTa_na (pb : Nat) (p2 : Nat) (o2 : Nat) (lc : Nat) (k : Nat) (j : Nat) (y : Pl.Bl) (x : Pl.Ln) (r : Pl.Ru) : ∀ jj vv W, VTa pb p2 o2 lc k j y x r jj vv W none → VTa pb p2 o2 lc k j y x r jj vv W (some W.heap.size) := by
  intro jj vv W h
  match jj with
  | 0 => exact h
  | 1 => exact h
  | 2 =>
    obtain ⟨v, F, h1, h2, h3⟩ := h
    exact ⟨v, F, h1, h2, fun b hb e => by injection e with e; have := h2.lt b hb; omega⟩
  | 3 => exact h
  | 4 => exact h
  | 5 => exact h
  | 6 => exact h
  | 7 => exact h
  | 8 => exact h
  | 9 => exact h
  | 10 => exact h
  | 11 => exact h
  | 12 =>
    obtain ⟨rp, ro, h1, h2, a1, c1, a3, c3, F, h3, h4, h5⟩ := h
    exact ⟨rp, ro, h1, h2, a1, c1, a3, c3, F, h3, h4, fun b hb e => by injection e with e; have := h4.lt b hb; omega⟩
  | 13 =>
    obtain ⟨a1, c1, a3, c3, F, h1, h2, h3⟩ := h
    exact ⟨a1, c1, a3, c3, F, h1, h2, fun b hb e => by injection e with e; have := h2.lt b hb; omega⟩
  | 14 => exact h
  | n + 15 => exact trivial
def VTb (q : Nat) : Nat → Value → World → Prop
  | 0, vv, _ => vv = .pointer (some ⟨q, 2, none⟩)
  | 1, vv, _ => vv = .bool true
  | 2, vv, _ => vv = .bool true
  | 3, vv, _ => vv = undef
  | 4, vv, _ => vv = undef
  | 5, vv, _ => vv = undef
  | 6, vv, _ => vv = undef
  | 7, vv, _ => vv = undef
  | 8, vv, _ => vv = undef
  | 9, vv, _ => vv = undef
  | 10, vv, _ => vv = undef
  | 11, vv, _ => vv = undef
  | 12, vv, _ => vv = undef
  | 13, vv, _ => vv = .bool true
  | _, _, _ => True
theorem VTb_mono (q : Nat) : ∀ jj vv W W', Below W.heap.size W W' → VTb q jj vv W → VTb q jj vv W' := by
  intro jj vv W W' hb h
  match jj with
  | 0 => exact h
  | 1 => exact h
  | 2 => exact h
  | 3 => exact h
  | 4 => exact h
  | 5 => exact h
  | 6 => exact h
  | 7 => exact h
  | 8 => exact h
  | 9 => exact h
  | 10 => exact h
  | 11 => exact h
  | 12 => exact h
  | 13 => exact h
  | n + 14 => exact trivial
def VTc (pb : Nat) (q : Nat) (p2 : Nat) (o2 : Nat) (lc : Nat) (k : Nat) (y : Pl.Bl) (x : Pl.Ln) (r : Pl.Ru) (a3 : Option Addr) (aw : Option Addr) (c3 : Nat) (cw : Nat) : Nat → Value → World → Prop
  | 0, vv, _ => vv = .pointer (some ⟨q, 2, none⟩)
  | 1, vv, _ => vv = .bool false
  | 2, vv, _ => vv = .bool false
  | 3, vv, _ => vv = .pointer (some ⟨q, 3, none⟩)
  | 4, vv, _ => vv = .slice a3 r.dflt.length c3
  | 5, vv, _ => vv = .pointer (some ⟨pb, 2, none⟩)
  | 6, vv, _ => vv = .slice (some ⟨p2, o2, none⟩) y.lines.length lc
  | 7, vv, _ => vv = .int .i64 (k : Int)
  | 8, vv, _ => vv = .pointer (some ⟨p2, o2 + k * 2, none⟩)
  | 9, vv, _ => vv = .pointer (some ⟨p2, o2 + k * 2 + 1, none⟩)
  | 10, vv, _ => vv = .slice aw x.ws.length cw
  | 11, vv, _ => vv = .bool (Pl.wordsEq r.dflt x.ws)
  | 12, vv, _ => vv = .bool (!Pl.wordsEq r.dflt x.ws)
  | 13, vv, _ => vv = .bool (!Pl.wordsEq r.dflt x.ws)
  | _, _, _ => True
theorem VTc_mono (pb : Nat) (q : Nat) (p2 : Nat) (o2 : Nat) (lc : Nat) (k : Nat) (y : Pl.Bl) (x : Pl.Ln) (r : Pl.Ru) (a3 : Option Addr) (aw : Option Addr) (c3 : Nat) (cw : Nat) : ∀ jj vv W W', Below W.heap.size W W' → VTc pb q p2 o2 lc k y x r a3 aw c3 cw jj vv W → VTc pb q p2 o2 lc k y x r a3 aw c3 cw jj vv W' := by
  intro jj vv W W' hb h
  match jj with
  | 0 => exact h
  | 1 => exact h
  | 2 => exact h
  | 3 => exact h
  | 4 => exact h
  | 5 => exact h
  | 6 => exact h
  | 7 => exact h
  | 8 => exact h
  | 9 => exact h
  | 10 => exact h
  | 11 => exact h
  | 12 => exact h
  | 13 => exact h
  | n + 14 => exact trivial

set_option maxRecDepth 8000 in
set_option maxHeartbeats 16000000 in
theorem sheetTrimS (s : List Pl.Bl) (v : Value) (w : World) (h : Raw w shBls [blsD s] [v]) (hs : ∀ b ∈ s, Sm 1048576 b) :
    Calls Try.prog 12 #[.agg #[v]] w (Ans shSheet [blsD (Pl.trimOut s)] w) := by
  have HL := uh h
  have HSM := uh hs
  obtain ⟨va, vc, ev⟩ := h.len0
  subst ev
  clear h hs
  obtain ⟨wa, hwa⟩ : ∃ wa, wa = (w.alloc (.cells #[.slice va s.length vc] 28)).alloc (.cells #[.slice none 0 0] 28) := ⟨_, rfl⟩
  obtain ⟨b0, hb0⟩ : ∃ b0, b0 = w.heap.size := ⟨_, rfl⟩
  have HBZ := uh hb0
  have HB : Hid (Below w.heap.size w wa) := by show Below _ _ _; rw [hwa]; exact blw_alloc (blw_alloc (Below.refl _ _) _) _
  have HUB : Hid (LBox wa b0 [.slice va s.length vc]) := by show LBox _ _ _; rw [hwa, hb0]; exact (LBox.new w #[.slice va s.length vc] _ _ rfl).past _
  have HRS : Hid (WBox wa (b0 + 1) 28 [.slice none 0 0]) := by show WBox _ _ _ _; rw [hwa, hb0]; exact WBox.new (w.alloc (.cells #[.slice va s.length vc] 28)) [.slice none 0 0] 28 _ (by simp)
  go_enter Try.func12, Try.ntmps12
  go_upto_region 1 with fail
  rw [← hwa, ← hb0]
  clear hwa hb0
  have HC1 := uh (fun (X : World) (hX : Below w.heap.size w X) => sheetValidS s (.slice va s.length vc) X (HL.out.later hX) (sm_tx HSM.out))
  have xz := HUB.out.lt
  have xa := HUB.out.at_
  go_wp2_with (refine wpList_load_mid rfl 28 _ rfl b0 0 rfl [.slice va s.length vc] _ xa Try.underlying28 rfl (by kernel_rfl) ?_)
  refine (HC1.out wa HB.out).mono ?_
  rintro e w1 ⟨rfl, hb⟩
  replace HB := uh (blw_trans HB.out hb)
  replace HUB := uh (HUB.out.later hb)
  replace HRS := uh (HRS.out.later hb)
  clear hb xz xa HC1
  cases hvs : Pl.validS s
  · have HE : Hid (Pl.trimOut s = []) := by show _ = _; unfold Pl.trimOut; rw [hvs]; rfl
    have HRES := HRS
    have HBW := HB
    have hth : w1.there (b0 + 1) 0 (#[.slice none 0 0] : Array Value).size := uthere HRES.out.own _ _ (by simp)
    obtain ⟨we, hwe⟩ : ∃ we, we = w1.setCells (b0 + 1) 0 [.slice none 0 0] := ⟨_, rfl⟩
    have hrt : we.rangeAt (b0 + 1) 0 [.slice none 0 0] := by rw [hwe]; exact World.rangeAt_setCells_same _ _ _ _ hth
    have HM2 : Hid (Marks (fun b => b = b0 + 1) w1 we) := by show Marks _ _ _; rw [hwe]; exact mks_scs (S := fun b => b = b0 + 1) rfl _ _ _
    go_wp2_with (refine wpList_store_mid rfl 28 _ _ rfl (b0 + 1) 0 #[.slice none 0 0] rfl rfl hth (by kernel_rfl) (by simp [Value.oneCell']) ?_)
    first | rw [← hwe] | (simp only [List.toList_toArray]; rw [← hwe])
    try simp only [Act.put]
    refine bodyPost_ret (v := .agg #[.slice none 0 0]) (by simp [results, Try.results12, asAddr, run_loadVar_mid (P := Try.prog) _ _ _ 28 [.slice none 0 0] _ hrt Try.underlying28 rfl (by kernel_rfl)]) rfl ?_
    have hz := HBZ.out
    rw [HE.out]
    exact ⟨[.slice none 0 0], [], rfl, .emp _ _ _ rfl .nil, List.nodup_nil, by simp, HM2.out.below (fun b e => by omega) HBW.out⟩
  have HE0 : Hid (Pl.trimOut s = s.map Pl.trimBl) := by show _ = _; unfold Pl.trimOut; rw [hvs]; rfl
  have hls := Pl.valid_len hvs
  have HVS := uh hvs
  clear hvs
  have xz := HUB.out.lt
  have xa := HUB.out.at_
  have HC1 := uh (l39CopyS s (.slice va s.length vc) w1 (HL.out.later HB.out) (by omega) (fun b hb => ⟨Nat.le_trans (HSM.out b hb).ln (by omega), fun x hx => ((HSM.out b hb).ws x hx).1⟩))
  go_wp2_with (refine wpList_load_mid rfl 28 _ rfl b0 0 rfl [.slice va s.length vc] _ xa Try.underlying28 rfl (by kernel_rfl) ?_)
  refine HC1.out.mono ?_
  rintro e w2 ⟨cc, FF, rfl, rep, nd, fr, hb⟩
  obtain ⟨F2, v2, hFF, hcc, r2⟩ := repSheet rep
  subst hcc
  obtain ⟨a2, m2, hv2⟩ := r2.raw.len0
  subst hv2
  rw [hFF, List.append_nil] at nd fr
  have HLO : Hid (b0 + 2 ≤ w1.heap.size) := HRS.out.own.lt
  have HFL : Hid (∀ b ∈ F2, b < w2.heap.size) := r2.lt
  replace HB := uh (blw_trans HB.out hb)
  replace HUB := uh (HUB.out.later hb)
  replace HRS := uh (HRS.out.later hb)
  have HRP := uh (And.intro r2 (And.intro nd fr))
  clear rep nd fr r2 hb xz xa HC1 hFF
  obtain ⟨lo, hlo⟩ : ∃ lo, lo = w1.heap.size := ⟨_, rfl⟩
  rw [← hlo] at HLO HRP
  clear hlo
  obtain ⟨px, hpx⟩ : ∃ px, px = w2.heap.size := ⟨_, rfl⟩
  obtain ⟨wx, hwx⟩ : ∃ wx, wx = w2.alloc (.cells #[.slice a2 s.length m2] 28) := ⟨_, rfl⟩
  have hbx : Below w2.heap.size w2 wx := by rw [hwx]; exact blw_alloc (Below.refl _ _) _
  have HXB : Hid (LBox wx px [.slice a2 s.length m2]) := by show LBox _ _ _; rw [hwx, hpx]; exact LBox.new w2 #[.slice a2 s.length m2] _ _ rfl
  replace HB := uh (blw_trans HB.out hbx)
  replace HUB := uh (HUB.out.later hbx)
  replace HRS := uh (HRS.out.later hbx)
  replace HRP := uh (And.intro (HRP.out.1.later hbx) HRP.out.2)
  rw [← hpx] at HFL
  clear hbx
  go_upto_region 4 with fail
  rw [← hwx, ← hpx]
  clear hwx hpx
  by_cases hz : s.length = 0
  · have hse : s = [] := List.eq_nil_of_length_eq_zero hz
    subst hse
    have HE : Hid (Pl.trimOut [] = []) := by show _ = _; rw [HE0.out]; rfl
    have x0 := HXB.out.get 0 _ rfl
    have xl := HXB.out.lt
    have xa := HXB.out.at_
    have HC2 := uh (l39CopyS [] (.slice a2 0 m2) wx (HRP.out.1.raw) (by simp) (by simp))
    have hHLE : ¬ ((0 : Int) < 0) := by omega
    go_wp2
    refine wp_loop_rounds 1 ?_
    rw [rounds_succ]
    go_wp2_with (refine wpList_load_mid rfl 28 _ rfl px 0 rfl [.slice a2 0 m2] _ xa Try.underlying28 rfl (by kernel_rfl) ?_)
    refine HC2.out.mono ?_
    rintro e w3 ⟨cc, FF, rfl, rep, nd, fr, hb⟩
    obtain ⟨F3, v3, hFF, hcc, r3⟩ := repSheet rep
    subst hcc
    obtain ⟨a3, m3, hv3⟩ := r3.raw.len0
    subst hv3
    have HRES := uh (HRS.out.later hb)
    have HBW := uh (blw_trans HB.out hb)
    have HRP3 := uh (And.intro rep (And.intro nd fr))
    have HZV : Hid (b0 + 1 < wx.heap.size) := HRS.out.own.lt
    clear rep nd fr r3 hb hFF xl x0 xa HC2
    have hth : w3.there (b0 + 1) 0 (#[.slice a3 0 m3] : Array Value).size := uthere HRES.out.own _ _ (by simp)
    obtain ⟨we, hwe⟩ : ∃ we, we = w3.setCells (b0 + 1) 0 [.slice a3 0 m3] := ⟨_, rfl⟩
    have hrt : we.rangeAt (b0 + 1) 0 [.slice a3 0 m3] := by rw [hwe]; exact World.rangeAt_setCells_same _ _ _ _ hth
    have HM2 : Hid (Marks (fun b => b = b0 + 1) w3 we) := by show Marks _ _ _; rw [hwe]; exact mks_scs (S := fun b => b = b0 + 1) rfl _ _ _
    go_wp2_with (refine wpList_store_mid rfl 28 _ _ rfl (b0 + 1) 0 #[.slice a3 0 m3] rfl rfl hth (by kernel_rfl) (by simp [Value.oneCell']) ?_)
    first | rw [← hwe] | (simp only [List.toList_toArray]; rw [← hwe])
    try simp only [Act.put]
    refine bodyPost_ret (v := .agg #[.slice a3 0 m3]) (by simp [results, Try.results12, asAddr, run_loadVar_mid (P := Try.prog) _ _ _ 28 [.slice a3 0 m3] _ hrt Try.underlying28 rfl (by kernel_rfl)]) rfl ?_
    have hz := HBZ.out
    rw [HE.out]
    exact ⟨_, FF, rfl, HRP3.out.1.keep HM2.out (fun b hb e => by have := HRP3.out.2.2 b hb; have := HZV.out; omega), HRP3.out.2.1, fun b hb => by have := HRP3.out.2.2 b hb; have := HZV.out; omega, HM2.out.below (fun b e => by omega) HBW.out⟩
  obtain ⟨p, o, c, hv, hcn, hrow⟩ := rowX_of HRP.out.1 HRP.out.2.1 HRP.out.2.2 (by omega)
  injection hv with g1 g2 g3
  subst g1; subst g3
  obtain ⟨n, hn⟩ : ∃ n, n = s.length := ⟨_, rfl⟩
  have HN := uh hn
  have HPP : Hid (px ≠ p) := by
    intro e
    rcases HRP.out.1.slice with ⟨_, h0, _⟩ | ⟨p', o', c', u', m', G', hv', hF', _⟩
    · omega
    · injection hv' with q1
      injection q1 with q1
      injection q1 with q1
      have := HFL.out p' (by rw [hF']; simp)
      omega
  have H0 : Hid (Xw w b0 px p o n m2 lo (.slice va s.length vc) s wx) := ⟨HB.out, HUB.out, HRS.out, by rw [hn]; exact HXB.out, hrow⟩
  have hnl : n ≤ 60 := by omega
  have HCN : Hid (n ≤ m2) := by show _ ≤ _; rw [hn]; exact hcn
  clear HB HUB HRS HXB HRP HFL hrow hcn hz hls
  rw [← hn]
  rw [← hn] at H0
  clear hn
  go_wp2
  go_loopw [4] (fun vi wr => ∃ (i : Nat), i ≤ n ∧ vi = .int .i64 i ∧ Xw w b0 px p o n m2 lo (.slice va n vc) (Pl.curG Pl.trimBl s i) wr) (fun vi _ => n - (intOf vi).toNat)
  case atStart => exact ⟨0, Nat.zero_le _, rfl, by rw [Pl.curG_zero]; exact H0.out⟩
  case round =>
    obtain ⟨i, hi, rfl, hO⟩ := hrel
    have HO := uh hO
    clear hO H0
    have x0 := HO.out.x.get 0 _ rfl
    have xl := HO.out.x.lt
    by_cases hlt : i < n
    rotate_left
    · obtain rfl : i = n := by omega
      have hnlt : ¬ ((i : Int) < (i : Int)) := by omega
      have HCU : Hid (Pl.curG Pl.trimBl s i = s.map Pl.trimBl) := by show _ = _; rw [HN.out, Pl.curG_end]
      rw [HCU.out] at HO
      have HML : Hid ((s.map Pl.trimBl).length = i) := by show _ = _; rw [List.length_map]; exact HN.out.symm
      have HE : Hid (Pl.trimOut s = s.map Pl.trimBl) := HE0
      have HSN : Hid (∀ b ∈ s.map Pl.trimBl, b.lines.length ≤ 4194304 ∧ ∀ x ∈ b.lines, x.ws.length ≤ 4194304) := fun b hb => by
        obtain ⟨y, hy, rfl⟩ := List.mem_map.1 hb
        have h1 := HSM.out y hy
        exact ⟨Nat.le_trans (List.length_filter_le _ _) (by have := h1.ln; omega), fun x hx => (h1.ws x (List.mem_filter.1 hx).1).1⟩
      obtain ⟨z, hz⟩ : ∃ z, z = s.map Pl.trimBl := ⟨_, rfl⟩
      rw [← hz] at HO HML HE HSN
      clear hz
      go_upto_region 16 with fail
      clear x0 xl hnlt
      have xa := HO.out.x.at_
      have xl := HO.out.x.lt
      have HC2 := uh (l39CopyS z (.slice (some ⟨p, o, none⟩) z.length m2) wr (HO.out.row.raw ⟨by rw [HML.out]; unfold maxLen; omega, by rw [HML.out]; exact HCN.out⟩) (by rw [HML.out]; omega) HSN.out)
      rw [HML.out] at HC2
      go_wp2_with (refine wpList_load_mid rfl 28 _ rfl px 0 rfl [.slice (some ⟨p, o, none⟩) i m2] _ xa Try.underlying28 rfl (by kernel_rfl) ?_)
      refine HC2.out.mono ?_
      rintro e w3 ⟨cc, FF, rfl, rep, nd, fr, hb⟩
      obtain ⟨F3, v3, hFF, hcc, r3⟩ := repSheet rep
      subst hcc
      obtain ⟨a3, m3, hv3⟩ := r3.raw.len0
      subst hv3
      have HRES := uh (HO.out.res.later hb)
      have HBW := uh (blw_trans HO.out.bel hb)
      have HRP3 := uh (And.intro rep (And.intro nd fr))
      have HZV : Hid (b0 + 1 < wr.heap.size) := HO.out.res.own.lt
      clear rep nd fr r3 hb hFF xl xa HC2
      have hth : w3.there (b0 + 1) 0 (#[.slice a3 z.length m3] : Array Value).size := uthere HRES.out.own _ _ (by simp)
      obtain ⟨we, hwe⟩ : ∃ we, we = w3.setCells (b0 + 1) 0 [.slice a3 z.length m3] := ⟨_, rfl⟩
      have hrt : we.rangeAt (b0 + 1) 0 [.slice a3 z.length m3] := by rw [hwe]; exact World.rangeAt_setCells_same _ _ _ _ hth
      have HM2 : Hid (Marks (fun b => b = b0 + 1) w3 we) := by show Marks _ _ _; rw [hwe]; exact mks_scs (S := fun b => b = b0 + 1) rfl _ _ _
      go_wp2_with (refine wpList_store_mid rfl 28 _ _ rfl (b0 + 1) 0 #[.slice a3 z.length m3] rfl rfl hth (by kernel_rfl) (by simp [Value.oneCell']) ?_)
      first | rw [← hwe] | (simp only [List.toList_toArray]; rw [← hwe])
      try simp only [Act.put]
      refine bodyPost_ret (v := .agg #[.slice a3 z.length m3]) (by simp [results, Try.results12, asAddr, run_loadVar_mid (P := Try.prog) _ _ _ 28 [.slice a3 z.length m3] _ hrt Try.underlying28 rfl (by kernel_rfl)]) rfl ?_
      have hz := HBZ.out
      rw [HE.out]
      exact ⟨_, FF, rfl, HRP3.out.1.keep HM2.out (fun b hb e => by have := HRP3.out.2.2 b hb; have := HZV.out; omega), HRP3.out.2.1, fun b hb => by have := HRP3.out.2.2 b hb; have := HZV.out; omega, HM2.out.below (fun b e => by omega) HBW.out⟩
    have his : i < s.length := by have := HN.out; omega
    have HCL : Hid ((Pl.curG Pl.trimBl s i).length = n) := by show _ = _; rw [HN.out]; exact Pl.curG_len Pl.trimBl s i (by omega)
    obtain ⟨y, hy⟩ : ∃ y, y = s.getD i Pl.blNo := ⟨_, rfl⟩
    have HSY : Hid (Sm 1048576 y) := by show Sm _ _; rw [hy]; exact sm_at HSM.out his
    have HSE := uh (Pl.curG_step Pl.trimBl s i his)
    have HVL : Hid (∀ k, k < y.lines.length → ∃ j, Pl.ruIx (Pl.rulesOf y.kind) (y.lines.getD k Pl.lnNo).key = some j) := by
      show ∀ k, _ → _
      rw [hy]; exact fun k hk => Pl.valid_line HVS.out his hk
    have HGE := uh (Pl.curG_get Pl.trimBl s i his)
    rw [← hy] at HSE HGE
    obtain ⟨pb, hpb⟩ : ∃ pb, pb = wr.heap.size := ⟨_, rfl⟩
    obtain ⟨la, lc, hgx, hdy⟩ := HO.out.row.at_ (k := i) (by rw [HCL.out]; exact hlt) (N := pb + 1) (by omega)
    rw [HGE.out] at hgx hdy
    have hpl := HO.out.row.lt
    obtain ⟨cur, hcur⟩ : ∃ cur, cur = Pl.curG Pl.trimBl s i := ⟨_, rfl⟩
    rw [← hcur] at HO HCL HSE HGE
    clear hcur hy
    have hi0 : (0 : Int) ≤ (i : Int) := by omega
    have hin : (i : Int) < (n : Int) := by omega
    obtain ⟨wb, hwb⟩ : ∃ wb, wb = wr.alloc (.cells #[.string y.kind, .string y.name, .slice la y.lines.length lc] 40) := ⟨_, rfl⟩
    have hbb : Below wr.heap.size wr wb := by rw [hwb]; exact blw_alloc (Below.refl _ _) _
    have HBV : Hid (LBox wb pb [.string y.kind, .string y.name, .slice la y.lines.length lc]) := by show LBox _ _ _; rw [hwb, hpb]; exact LBox.new wr #[.string y.kind, .string y.name, .slice la y.lines.length lc] _ _ rfl
    have HPL : Hid (p < pb) := by show _ < _; rw [hpb]; exact hpl
    have HZB : Hid (wb.heap.size = pb + 1) := by show _ = _; rw [hwb, hpb]; simp
    have HDY := uh (hdy.later hbb)
    replace HO := uh (HO.out.later hbb)
    go_upto_region 8 with (refine wpList_load_mid rfl 40 _ rfl p (o + i * 3) rfl [.string y.kind, .string y.name, .slice la y.lines.length lc] _ hgx Try.underlying40 rfl (by kernel_rfl) ?_)
    rw [← hwb, ← hpb]
    clear hwb hpb hgx hdy hbb hpl x0 xl hi0 hin
    have HBV0 := HBV
    go_wp2
    go_loopw [6, 7] (fun vo vi wr => ∃ (k : Nat) (xs : List Value) (G : List Nat), k ≤ y.lines.length ∧ vi = .int .i64 k ∧ Sv wb wr 48 shSheetLine vo ((y.lines.take k).filter (Pl.keepLn y.kind)).length (((y.lines.take k).filter (Pl.keepLn y.kind)).flatMap lnD) xs ∧ Rep wb false (reps ((y.lines.take k).filter (Pl.keepLn y.kind)).length shSheetLine) G (((y.lines.take k).filter (Pl.keepLn y.kind)).flatMap lnD) xs ∧ (∀ b ∈ G, lo ≤ b ∧ b ≠ p) ∧ Below wb.heap.size wb wr) (fun _ vi _ => y.lines.length - (intOf vi).toNat)
    case atStart => exact ⟨0, [], [], Nat.zero_le _, rfl, Sv.emp shSheetLine (heap_alloc_new wb _) (Nat.le_refl _), .nil, by simp, blw_alloc (Below.refl _ _) _⟩
    case round =>
      obtain ⟨k, xs, G, hk, rfl, hS, hR, hG, hB⟩ := hrel
      have HSv := uh hS
      have HRp := uh (And.intro hR hG)
      have HBr := uh hB
      obtain ⟨ua, uc, huu⟩ := hS.shape
      subst huu
      clear hS hR hG hB
      replace HBV := uh (HBV0.out.later HBr.out)
      have x2 := HBV.out.get 2 _ rfl
      have xl := HBV.out.lt
      by_cases hkt : k < y.lines.length
      rotate_left
      · have hks : y.lines.take k = y.lines := List.take_of_length_le (by omega)
        rw [hks] at HSv HRp ⊢
        obtain rfl : k = y.lines.length := by omega
        have hnlt : ¬ ((y.lines.length : Int) < (y.lines.length : Int)) := by omega
        clear hks hkt hk
        replace HO := uh (HO.out.later HBr.out)
        obtain ⟨ls, hls⟩ : ∃ ls, ls = y.lines.filter (Pl.keepLn y.kind) := ⟨_, rfl⟩
        have HTE : Hid (cur.set i ⟨(cur.getD i Pl.blNo).kind, (cur.getD i Pl.blNo).name, ls⟩ = Pl.curG Pl.trimBl s (i + 1)) := by show _ = _; rw [← HSE.out, HGE.out, hls]; rfl
        rw [← hls] at HSv HRp ⊢
        clear hls
        obtain ⟨FL, rL, hFL⟩ := owns_rep (sh := shSheetLine) HSv.out.row (HRp.out.1.later HBr.out)
        have HDL : Hid (Dat (fun b => lo ≤ b ∧ b ≠ p) (pb + 1) (pb + 1) wr shLns [lnsD ls] [.slice ua ls.length uc]) := by
          refine ⟨FL, rL, fun b hb => ?_⟩
          rcases hFL b hb with q | q
          · exact Or.inr (by have := HZB.out; omega)
          · exact Or.inl ⟨HRp.out.2 b q, by have := HRp.out.1.lt b q; have := HZB.out; omega⟩
        have HPB : Hid (p < pb + 1) := by show _ < _; have := HPL.out; omega
        clear rL hFL
        obtain ⟨wn, hwn⟩ : ∃ wn, wn = wr.setCell ⟨p, o + i * 3 + 2, none⟩ (.slice ua ls.length uc) := ⟨_, rfl⟩
        have hil : i < cur.length := by rw [HCL.out]; exact hlt
        have HN2 : Hid (Xw w b0 px p o n m2 lo (.slice va n vc) (Pl.curG Pl.trimBl s (i + 1)) wn) := by
          have hm : Marks (fun b => b = p) wr wn := by rw [hwn]; exact Marks.sc (S := fun b => b = p) wr rfl _ _
          have hp := HO.out.row.lo
          have hz := HBZ.out
          have hl := HLO.out
          refine ⟨hm.below (fun b e => by omega) HO.out.bel, HO.out.arg.mks hm (by omega), HO.out.res.mks hm (by omega), HO.out.x.mks hm HPP.out, ?_⟩
          rw [hwn, ← HTE.out]
          exact HO.out.row.putL hil ls HDL.out HPB.out
        obtain ⟨v0, hc0⟩ := HO.out.row.cell2 hil
        have hcf := HO.out.row.frozen (o + i * 3 + 2)
        have hcl := HO.out.row.lt
        have hxl := HO.out.x.lt
        have hx0 := HO.out.x.get 0 _ rfl
        have hi0 : (0 : Int) ≤ (i : Int) := by omega
        have hin : (i : Int) < (n : Int) := by omega
        go_wp2
        rw [← hwn]
        clear hwn hc0 hcf hcl hxl hx0 x2 xl hnlt hi0 hin
        go_roundw
        case rel => exact ⟨i + 1, by omega, by go_num, HN2.out⟩
        case measure => simp [intOf]; omega
      obtain ⟨p2, o2, c2, aw, cw, Gx, hv, hp2, hgx, hrx, hfx⟩ := line_free HDY.out (by have := HZB.out; omega) hkt
      injection hv with g1 g2 g3
      subst g1; subst g3
      obtain ⟨j, hj⟩ := HVL.out k hkt
      have hjl : j < (Pl.rulesOf y.kind).length := Pl.ruIx_lt hj
      obtain ⟨x, hx⟩ : ∃ x, x = y.lines.getD k Pl.lnNo := ⟨_, rfl⟩
      have HST := uh (Pl.filt_step (p := Pl.keepLn y.kind) hkt)
      rw [← hx] at hgx hrx hj HST
      obtain ⟨r, hr⟩ : ∃ r, r = (Pl.rulesOf y.kind).getD j Pl.ruNo := ⟨_, rfl⟩
      have HRR : Hid ((Pl.rulesOf y.kind).getD j Pl.ruNo = r) := hr.symm
      have HKP : Hid (Pl.keepLn y.kind x = (r.many || !Pl.wordsEq r.dflt x.ws)) := by show _ = _; unfold Pl.keepLn; rw [hj, hr]
      have HC38 : Hid (∀ X, Calls Try.prog 26 #[.string y.kind, .string x.key] X fun e w' => e = .returned (.int .i64 (j : Int)) ∧ Below X.heap.size X w') := fun X => by
        have := l38RuleS y.kind x.key X
        rw [hj] at this; exact this
      have HRX := uh (And.intro hrx hfx)
      have HRW : Hid (Raw wb shTxs [.row x.ws.length (txD x.ws)] [.slice aw x.ws.length cw]) := by
        obtain ⟨v1, hc, r1⟩ := rawSheetLine hrx.raw
        injection hc with _ hc
        injection hc with hc _
        rw [hc]; exact r1
      have HGX : Hid (wr.rangeAt p2 (o2 + k * 2) [.string x.key, .slice aw x.ws.length cw]) := rA_later hgx hp2 HBr.out
      have HPX2 : Hid (p2 < wr.heap.size) := Nat.lt_of_lt_of_le hp2 HBr.out.size
      have hk0 : (0 : Int) ≤ (k : Int) := by omega
      have hkn : (k : Int) < (y.lines.length : Int) := by omega
      have hj0 : (0 : Int) ≤ (j : Int) := by omega
      have hjn : (j : Int) < ((Pl.rulesOf y.kind).length : Int) := by omega
      obtain ⟨m, hm⟩ : ∃ m, m = ((y.lines.take k).filter (Pl.keepLn y.kind)).length := ⟨_, rfl⟩
      have HMl : Hid (m ≤ y.lines.length) := by
        show _ ≤ _
        rw [hm]
        have := List.length_filter_le (Pl.keepLn y.kind) (y.lines.take k)
        rw [List.length_take] at this; omega
      have HM := uh hm
      rw [← hm] at HSv HRp ⊢
      clear hx hr hj hgx hp2 hrx hfx hm
      go_upto_region 12 with fail
      clear x2 xl
      refine RY.region_nw wr (Below.refl _ _) (VTa pb p2 o2 lc k j y x r) (VTa_mono _ _ _ _ _ _ _ _ _) (VTa_na _ _ _ _ _ _ _ _ _) (fun vals W' => ∃ q a1 c1 a3 c3, vals 14 = .pointer (some ⟨q, 0, none⟩) ∧ Below wr.heap.size wr W' ∧ WBox W' q 44 [.string r.key, .slice a1 r.args.length c1, .bool r.many, .slice a3 r.dflt.length c3] ∧ Raw W' shTxs [.row r.dflt.length (txD r.dflt)] [.slice a3 r.dflt.length c3]) 15 12 (by kernel_rfl) (by kernel_rfl) (by kernel_rfl) (by kernel_rfl) rfl [13, 14] (by kernel_rfl) (by kernel_rfl) _ rfl rfl (by kernel_rfl) 14 8 _ rfl rfl (by decide) 44 [.string { data := #[] }, .slice none 0 0, .bool false, .slice none 0 0] ?_ ?_ ?_ ?_
      · intro a Wx
        kernel_rfl
      · intro ii o' ho hii hia a X A_ hX hAq hk hd
        have zpb := HBV.out.later hX
        have zpbl := zpb.lt
        match ii, ho with
        | 0, ho =>
          injection ho with ho; subst ho
          have e5 : a.tmps[5]?.getD undef = .pointer (some ⟨pb, 0, none⟩) := (RY.ev_tmp a 5).trans ((hk 5 (by kernel_rfl)).trans rfl)
          exact Or.inl ⟨.pointer (some ⟨pb, 0, none⟩), X, by simp [execOp, go_sem, e5], Below.refl _ _, rfl⟩
        | 1, ho =>
          injection ho with ho; subst ho
          have e35 : a.tmps[35]?.getD undef = .pointer (some ⟨pb, 0, none⟩) := (RY.ev_tmp a 35).trans (hd 0 _ 35 rfl rfl ⟨⟨0, .data⟩, by simp, rfl, rfl⟩ (by decide) (by decide))
          have yc := zpb.get 0 _ rfl
          exact Or.inl ⟨.string y.kind, X, by simp [execOp, go_sem, e35, yc], Below.refl _ _, rfl⟩
        | 2, ho =>
          injection ho with ho; subst ho
          have e36 : a.tmps[36]?.getD undef = .string y.kind := (RY.ev_tmp a 36).trans (hd 1 _ 36 rfl rfl ⟨⟨1, .data⟩, by simp, rfl, rfl⟩ (by decide) (by decide))
          refine Or.inr ⟨17, #[.string y.kind], by simp [go_sem, e36], (sheetRulesS y.kind X).mono ?_⟩
          rintro e W' ⟨v, F, rfl, hr, nd, fr, hb⟩
          exact ⟨_, rfl, hb, v, F, rfl, hr, fun b hb e => by have := fr b hb; have := hAq b e; omega⟩
        | 3, ho =>
          injection ho with ho; subst ho
          have e5 : a.tmps[5]?.getD undef = .pointer (some ⟨pb, 0, none⟩) := (RY.ev_tmp a 5).trans ((hk 5 (by kernel_rfl)).trans rfl)
          exact Or.inl ⟨.pointer (some ⟨pb, 0, none⟩), X, by simp [execOp, go_sem, e5], Below.refl _ _, rfl⟩
        | 4, ho =>
          injection ho with ho; subst ho
          have e38 : a.tmps[38]?.getD undef = .pointer (some ⟨pb, 0, none⟩) := (RY.ev_tmp a 38).trans (hd 3 _ 38 rfl rfl ⟨⟨3, .data⟩, by simp, rfl, rfl⟩ (by decide) (by decide))
          have yc := zpb.get 0 _ rfl
          exact Or.inl ⟨.string y.kind, X, by simp [execOp, go_sem, e38, yc], Below.refl _ _, rfl⟩
        | 5, ho =>
          injection ho with ho; subst ho
          have e5 : a.tmps[5]?.getD undef = .pointer (some ⟨pb, 0, none⟩) := (RY.ev_tmp a 5).trans ((hk 5 (by kernel_rfl)).trans rfl)
          exact Or.inl ⟨.pointer (some ⟨pb, 2, none⟩), X, by simp [execOp, go_sem, e5], Below.refl _ _, rfl⟩
        | 6, ho =>
          injection ho with ho; subst ho
          have e40 : a.tmps[40]?.getD undef = .pointer (some ⟨pb, 2, none⟩) := (RY.ev_tmp a 40).trans (hd 5 _ 40 rfl rfl ⟨⟨5, .data⟩, by simp, rfl, rfl⟩ (by decide) (by decide))
          have yc := zpb.get 2 _ rfl
          exact Or.inl ⟨.slice (some ⟨p2, o2, none⟩) y.lines.length lc, X, by simp [execOp, go_sem, e40, yc], Below.refl _ _, rfl⟩
        | 7, ho =>
          injection ho with ho; subst ho
          have e7 : a.tmps[7]?.getD undef = .int .i64 (k : Int) := (RY.ev_tmp a 7).trans ((hk 7 (by kernel_rfl)).trans rfl)
          exact Or.inl ⟨.int .i64 (k : Int), X, by simp [execOp, go_sem, e7], Below.refl _ _, rfl⟩
        | 8, ho =>
          injection ho with ho; subst ho
          have e41 : a.tmps[41]?.getD undef = .slice (some ⟨p2, o2, none⟩) y.lines.length lc := (RY.ev_tmp a 41).trans (hd 6 _ 41 rfl rfl ⟨⟨6, .data⟩, by simp, rfl, rfl⟩ (by decide) (by decide))
          have e42 : a.tmps[42]?.getD undef = .int .i64 (k : Int) := (RY.ev_tmp a 42).trans (hd 7 _ 42 rfl rfl ⟨⟨7, .data⟩, by simp, rfl, rfl⟩ (by decide) (by decide))
          exact Or.inl ⟨.pointer (some ⟨p2, o2 + k * 2, none⟩), X, by simp [execOp, go_sem, e41, e42, hk0, hkn], Below.refl _ _, rfl⟩
        | 9, ho =>
          injection ho with ho; subst ho
          have e43 : a.tmps[43]?.getD undef = .pointer (some ⟨p2, o2 + k * 2, none⟩) := (RY.ev_tmp a 43).trans (hd 8 _ 43 rfl rfl ⟨⟨8, .data⟩, by simp, rfl, rfl⟩ (by decide) (by decide))
          exact Or.inl ⟨.pointer (some ⟨p2, o2 + k * 2, none⟩), X, by simp [execOp, go_sem, e43], Below.refl _ _, rfl⟩
        | 10, ho =>
          injection ho with ho; subst ho
          have e44 : a.tmps[44]?.getD undef = .pointer (some ⟨p2, o2 + k * 2, none⟩) := (RY.ev_tmp a 44).trans (hd 9 _ 44 rfl rfl ⟨⟨9, .data⟩, by simp, rfl, rfl⟩ (by decide) (by decide))
          have yp := Nat.lt_of_lt_of_le HPX2.out hX.size
          have yc : X.cell? ⟨p2, o2 + k * 2, none⟩ = some (.string x.key) := by have q := rA_get (rA_later HGX.out HPX2.out hX) 0 _ rfl; simpa using q
          exact Or.inl ⟨.string x.key, X, by simp [execOp, go_sem, e44, yc], Below.refl _ _, rfl⟩
        | 11, ho =>
          injection ho with ho; subst ho
          have e39 : a.tmps[39]?.getD undef = .string y.kind := (RY.ev_tmp a 39).trans (hd 4 _ 39 rfl rfl ⟨⟨4, .data⟩, by simp, rfl, rfl⟩ (by decide) (by decide))
          have e45 : a.tmps[45]?.getD undef = .string x.key := (RY.ev_tmp a 45).trans (hd 10 _ 45 rfl rfl ⟨⟨10, .data⟩, by simp, rfl, rfl⟩ (by decide) (by decide))
          refine Or.inr ⟨26, #[.string y.kind, .string x.key], by simp [go_sem, e39, e45], (HC38.out X).mono ?_⟩
          rintro e W' ⟨rfl, hb⟩
          exact ⟨_, rfl, hb, rfl⟩
        | 12, ho =>
          injection ho with ho; subst ho
          obtain ⟨v37, F37, q37, hR37, hA37⟩ := hd 2 _ 37 rfl rfl ⟨⟨2, .data⟩, by simp, rfl, rfl⟩ (by decide) (by decide)
          have e37 : a.tmps[37]?.getD undef = v37 := (RY.ev_tmp a 37).trans q37
          have e46 : a.tmps[46]?.getD undef = .int .i64 (j : Int) := (RY.ev_tmp a 46).trans (hd 11 _ 46 rfl rfl ⟨⟨11, .data⟩, by simp, rfl, rfl⟩ (by decide) (by decide))
          obtain ⟨rp, ro, rc, a1, c1, a3, c3, F3, hv, hp, hg, hr3, hf3⟩ := rule_rep hR37 hA37 hjl
          rw [hv] at e37
          rw [HRR.out] at hg hr3
          exact Or.inl ⟨.pointer (some ⟨rp, ro + j * 4, none⟩), X, by simp [execOp, go_sem, e37, e46, hj0, hjn], Below.refl _ _, rp, ro, rfl, hp, a1, c1, a3, c3, F3, hg, hr3, hf3⟩
        | 13, ho =>
          injection ho with ho; subst ho
          obtain ⟨rp, ro, q47, hp47, a1, c1, a3, c3, F47, hg47, hr47, hA47⟩ := hd 12 _ 47 rfl rfl ⟨⟨12, .data⟩, by simp, rfl, rfl⟩ (by decide) (by decide)
          have e47 : a.tmps[47]?.getD undef = .pointer (some ⟨rp, ro + j * 4, none⟩) := (RY.ev_tmp a 47).trans q47
          exact Or.inl ⟨_, X, exec_load_mid 44 _ rfl rp (ro + j * 4) q47 [.string r.key, .slice a1 r.args.length c1, .bool r.many, .slice a3 r.dflt.length c3] _ hg47 Try.underlying44 rfl (by kernel_rfl), Below.refl _ _, a1, c1, a3, c3, F47, rfl, hr47, hA47⟩
        | 14, ho =>
          exact absurd rfl hia
        | n + 15, ho => omega
      · intro a X vals q hX hk hqv hq hown hV hd
        obtain ⟨a1, c1, a3, c3, F, e1, hr3, hf3⟩ := hV 13 (by decide) (by decide)
        have t48 : a.eval (.tmp 48) = _ := (hd 13 _ 48 rfl rfl ⟨⟨13, .data⟩, by simp, rfl, rfl⟩ (by decide)).trans e1
        have t8 : a.eval (.tmp 8) = _ := (hd 14 _ 8 rfl rfl ⟨⟨14, .data⟩, by simp, rfl, rfl⟩ (by decide)).trans hqv
        have hth : X.there q 0 4 := uthere hown _ _ (by simp)
        refine ⟨X.setCells q 0 [.string r.key, .slice a1 r.args.length c1, .bool r.many, .slice a3 r.dflt.length c3], RY.exec_store_mid _ _ _ rfl t8 t48 hth (by kernel_rfl) (by simp [Value.oneCell']), q, a1, c1, a3, c3, hqv, blw_scs hq _ _ _ hX, ⟨own_scs _ _ _ hown, World.rangeAt_setCells_same _ _ _ _ hth⟩, ?_⟩
        exact (hr3.keep (mks_scs (S := fun b => b = q) rfl _ _ _) fun b hb e => hf3 b hb (by rw [e])).raw
      · intro vals vs X hK hvs
        simp only [RY.putAll, Act.put, List.setIfInBounds_toArray, List.set_cons_zero, List.set_cons_succ]
        have q8 := hvs 14 _ 8 rfl rfl
        generalize vs 35 = s35
        generalize vs 36 = s36
        generalize vs 37 = s37
        generalize vs 38 = s38
        generalize vs 39 = s39
        generalize vs 40 = s40
        generalize vs 41 = s41
        generalize vs 42 = s42
        generalize vs 43 = s43
        generalize vs 44 = s44
        generalize vs 45 = s45
        generalize vs 46 = s46
        generalize vs 47 = s47
        generalize vs 48 = s48
        clear hvs
        obtain ⟨q, a1, c1, a3, c3, e8, hB1, hQ, hRd⟩ := hK
        rw [q8, e8]
        clear q8 e8
        obtain ⟨W1, hW1⟩ : ∃ W1, W1 = X := ⟨_, rfl⟩
        rw [← hW1] at hB1 hQ hRd ⊢
        clear hW1
        have HQ := uh hQ
        have HRD := uh hRd
        replace HBr := uh (blw_trans HBr.out hB1)
        replace HSv := uh (HSv.out.later hB1)
        replace HBV := uh (HBV.out.later hB1)
        replace HGX := uh (rA_later HGX.out HPX2.out hB1)
        replace HPX2 := uh (Nat.lt_of_lt_of_le HPX2.out hB1.size)
        clear hQ hRd hB1
        have HCW := uh (fun (X : World) (hX : Below W1.heap.size W1 X) => l39WordsS r.dflt x.ws (.slice a3 r.dflt.length c3) (.slice aw x.ws.length cw) X (HRD.out.later hX) ((HRW.out.later HBr.out).later hX))
        cases hmn : r.many
        · rw [hmn] at HQ HKP
          go_upto_region 13 with fail
          refine RY.region_pastG W1 (Below.refl _ _) (VTc pb q p2 o2 lc k y x r a3 aw c3 cw) (VTc_mono _ _ _ _ _ _ _ _ _ _ _ _ _) (by kernel_rfl) (by kernel_rfl) (by kernel_rfl) (by kernel_rfl) ?_ ?_
          · intro ii o' ho a X hX hk hd
            have zpb := HBV.out.later hX
            have zpbl := zpb.lt
            have zq := HQ.out.later hX
            have zql := zq.own.lt
            match ii, ho with
            | 0, ho =>
              injection ho with ho; subst ho
              have e8 : a.tmps[8]?.getD undef = .pointer (some ⟨q, 0, none⟩) := (RY.ev_tmp a 8).trans ((hk 8 (by kernel_rfl)).trans rfl)
              exact Or.inl ⟨RY.wanted_no rfl, Or.inl ⟨.pointer (some ⟨q, 2, none⟩), X, by simp [execOp, go_sem, e8], Below.refl _ _, rfl⟩⟩
            | 1, ho =>
              injection ho with ho; subst ho
              have e49 : a.tmps[49]?.getD undef = .pointer (some ⟨q, 2, none⟩) := (RY.ev_tmp a 49).trans (hd 0 _ 49 rfl rfl ⟨⟨0, .data⟩, by simp, rfl, rfl⟩)
              have yc := zq.get 2 _ rfl
              exact Or.inl ⟨RY.wanted_no rfl, Or.inl ⟨.bool false, X, by simp [execOp, go_sem, e49, yc], Below.refl _ _, rfl⟩⟩
            | 2, ho =>
              injection ho with ho; subst ho
              have e50 : a.tmps[50]?.getD undef = .bool false := (RY.ev_tmp a 50).trans (hd 1 _ 50 rfl rfl ⟨⟨1, .data⟩, by simp, rfl, rfl⟩)
              exact Or.inl ⟨RY.wanted_no rfl, Or.inl ⟨.bool false, X, by simp [execOp, go_sem, e50], Below.refl _ _, rfl⟩⟩
            | 3, ho =>
              injection ho with ho; subst ho
              have gd := hd 2 _ 51 rfl rfl ⟨⟨2, .guard⟩, by simp, rfl, rfl⟩
              have e8 : a.tmps[8]?.getD undef = .pointer (some ⟨q, 0, none⟩) := (RY.ev_tmp a 8).trans ((hk 8 (by kernel_rfl)).trans rfl)
              exact Or.inl ⟨(RY.wanted_at rfl rfl rfl gd).trans rfl, Or.inl ⟨.pointer (some ⟨q, 3, none⟩), X, by simp [execOp, go_sem, e8], Below.refl _ _, rfl⟩⟩
            | 4, ho =>
              injection ho with ho; subst ho
              have gd := hd 2 _ 51 rfl rfl ⟨⟨2, .guard⟩, by simp, rfl, rfl⟩
              have e52 : a.tmps[52]?.getD undef = .pointer (some ⟨q, 3, none⟩) := (RY.ev_tmp a 52).trans (hd 3 _ 52 rfl rfl ⟨⟨3, .data⟩, by simp, rfl, rfl⟩)
              have yc := zq.get 3 _ rfl
              exact Or.inl ⟨(RY.wanted_at rfl rfl rfl gd).trans rfl, Or.inl ⟨.slice a3 r.dflt.length c3, X, by simp [execOp, go_sem, e52, yc], Below.refl _ _, rfl⟩⟩
            | 5, ho =>
              injection ho with ho; subst ho
              have gd := hd 2 _ 51 rfl rfl ⟨⟨2, .guard⟩, by simp, rfl, rfl⟩
              have e5 : a.tmps[5]?.getD undef = .pointer (some ⟨pb, 0, none⟩) := (RY.ev_tmp a 5).trans ((hk 5 (by kernel_rfl)).trans rfl)
              exact Or.inl ⟨(RY.wanted_at rfl rfl rfl gd).trans rfl, Or.inl ⟨.pointer (some ⟨pb, 2, none⟩), X, by simp [execOp, go_sem, e5], Below.refl _ _, rfl⟩⟩
            | 6, ho =>
              injection ho with ho; subst ho
              have gd := hd 2 _ 51 rfl rfl ⟨⟨2, .guard⟩, by simp, rfl, rfl⟩
              have e54 : a.tmps[54]?.getD undef = .pointer (some ⟨pb, 2, none⟩) := (RY.ev_tmp a 54).trans (hd 5 _ 54 rfl rfl ⟨⟨5, .data⟩, by simp, rfl, rfl⟩)
              have yc := zpb.get 2 _ rfl
              exact Or.inl ⟨(RY.wanted_at rfl rfl rfl gd).trans rfl, Or.inl ⟨.slice (some ⟨p2, o2, none⟩) y.lines.length lc, X, by simp [execOp, go_sem, e54, yc], Below.refl _ _, rfl⟩⟩
            | 7, ho =>
              injection ho with ho; subst ho
              have gd := hd 2 _ 51 rfl rfl ⟨⟨2, .guard⟩, by simp, rfl, rfl⟩
              have e7 : a.tmps[7]?.getD undef = .int .i64 (k : Int) := (RY.ev_tmp a 7).trans ((hk 7 (by kernel_rfl)).trans rfl)
              exact Or.inl ⟨(RY.wanted_at rfl rfl rfl gd).trans rfl, Or.inl ⟨.int .i64 (k : Int), X, by simp [execOp, go_sem, e7], Below.refl _ _, rfl⟩⟩
            | 8, ho =>
              injection ho with ho; subst ho
              have gd := hd 2 _ 51 rfl rfl ⟨⟨2, .guard⟩, by simp, rfl, rfl⟩
              have e55 : a.tmps[55]?.getD undef = .slice (some ⟨p2, o2, none⟩) y.lines.length lc := (RY.ev_tmp a 55).trans (hd 6 _ 55 rfl rfl ⟨⟨6, .data⟩, by simp, rfl, rfl⟩)
              have e56 : a.tmps[56]?.getD undef = .int .i64 (k : Int) := (RY.ev_tmp a 56).trans (hd 7 _ 56 rfl rfl ⟨⟨7, .data⟩, by simp, rfl, rfl⟩)
              exact Or.inl ⟨(RY.wanted_at rfl rfl rfl gd).trans rfl, Or.inl ⟨.pointer (some ⟨p2, o2 + k * 2, none⟩), X, by simp [execOp, go_sem, e55, e56, hk0, hkn], Below.refl _ _, rfl⟩⟩
            | 9, ho =>
              injection ho with ho; subst ho
              have gd := hd 2 _ 51 rfl rfl ⟨⟨2, .guard⟩, by simp, rfl, rfl⟩
              have e57 : a.tmps[57]?.getD undef = .pointer (some ⟨p2, o2 + k * 2, none⟩) := (RY.ev_tmp a 57).trans (hd 8 _ 57 rfl rfl ⟨⟨8, .data⟩, by simp, rfl, rfl⟩)
              exact Or.inl ⟨(RY.wanted_at rfl rfl rfl gd).trans rfl, Or.inl ⟨.pointer (some ⟨p2, o2 + k * 2 + 1, none⟩), X, by simp [execOp, go_sem, e57], Below.refl _ _, rfl⟩⟩
            | 10, ho =>
              injection ho with ho; subst ho
              have gd := hd 2 _ 51 rfl rfl ⟨⟨2, .guard⟩, by simp, rfl, rfl⟩
              have e58 : a.tmps[58]?.getD undef = .pointer (some ⟨p2, o2 + k * 2 + 1, none⟩) := (RY.ev_tmp a 58).trans (hd 9 _ 58 rfl rfl ⟨⟨9, .data⟩, by simp, rfl, rfl⟩)
              have yp := Nat.lt_of_lt_of_le HPX2.out hX.size
              have yc : X.cell? ⟨p2, o2 + k * 2 + 1, none⟩ = some (.slice aw x.ws.length cw) := by have q := rA_get (rA_later HGX.out HPX2.out hX) 1 _ rfl; simpa using q
              exact Or.inl ⟨(RY.wanted_at rfl rfl rfl gd).trans rfl, Or.inl ⟨.slice aw x.ws.length cw, X, by simp [execOp, go_sem, e58, yc], Below.refl _ _, rfl⟩⟩
            | 11, ho =>
              injection ho with ho; subst ho
              have gd := hd 2 _ 51 rfl rfl ⟨⟨2, .guard⟩, by simp, rfl, rfl⟩
              have e53 : a.tmps[53]?.getD undef = .slice a3 r.dflt.length c3 := (RY.ev_tmp a 53).trans (hd 4 _ 53 rfl rfl ⟨⟨4, .data⟩, by simp, rfl, rfl⟩)
              have e59 : a.tmps[59]?.getD undef = .slice aw x.ws.length cw := (RY.ev_tmp a 59).trans (hd 10 _ 59 rfl rfl ⟨⟨10, .data⟩, by simp, rfl, rfl⟩)
              refine Or.inl ⟨(RY.wanted_at rfl rfl rfl gd).trans rfl, Or.inr ⟨27, #[.slice a3 r.dflt.length c3, .slice aw x.ws.length cw], by simp [go_sem, e53, e59], (HCW.out X hX).mono ?_⟩⟩
              rintro e W' ⟨rfl, hb⟩
              exact ⟨_, rfl, hb, rfl⟩
            | 12, ho =>
              injection ho with ho; subst ho
              have gd := hd 2 _ 51 rfl rfl ⟨⟨2, .guard⟩, by simp, rfl, rfl⟩
              have e60 : a.tmps[60]?.getD undef = .bool (Pl.wordsEq r.dflt x.ws) := (RY.ev_tmp a 60).trans (hd 11 _ 60 rfl rfl ⟨⟨11, .data⟩, by simp, rfl, rfl⟩)
              exact Or.inl ⟨(RY.wanted_at rfl rfl rfl gd).trans rfl, Or.inl ⟨.bool (!Pl.wordsEq r.dflt x.ws), X, by simp [execOp, go_sem, e60], Below.refl _ _, rfl⟩⟩
            | 13, ho =>
              injection ho with ho; subst ho
              have e51 : a.tmps[51]?.getD undef = .bool false := (RY.ev_tmp a 51).trans (hd 2 _ 51 rfl rfl ⟨⟨2, .data⟩, by simp, rfl, rfl⟩)
              have e61 : a.tmps[61]?.getD undef = .bool (!Pl.wordsEq r.dflt x.ws) := (RY.ev_tmp a 61).trans (hd 12 _ 61 rfl rfl ⟨⟨12, .data⟩, by simp, rfl, rfl⟩)
              exact Or.inl ⟨RY.wanted_no rfl, Or.inl ⟨.bool (!Pl.wordsEq r.dflt x.ws), X, by simp [execOp, go_sem, e51, e61], Below.refl _ _, rfl⟩⟩
            | n + 14, ho => simp at ho
          intro X vs hX hvs
          have q62 : vs 62 = _ := hvs 13 _ 62 rfl rfl
          simp only [RY.putAll, Act.put, List.setIfInBounds_toArray, List.set_cons_zero, List.set_cons_succ]
          rw [q62]
          generalize vs 49 = s49
          generalize vs 50 = s50
          generalize vs 51 = s51
          generalize vs 52 = s52
          generalize vs 53 = s53
          generalize vs 54 = s54
          generalize vs 55 = s55
          generalize vs 56 = s56
          generalize vs 57 = s57
          generalize vs 58 = s58
          generalize vs 59 = s59
          generalize vs 60 = s60
          generalize vs 61 = s61
          clear hvs q62
          replace HBr := uh (blw_trans HBr.out hX)
          replace HSv := uh (HSv.out.later hX)
          replace HBV := uh (HBV.out.later hX)
          replace HGX := uh (rA_later HGX.out HPX2.out hX)
          replace HPX2 := uh (Nat.lt_of_lt_of_le HPX2.out hX.size)
          clear hX HCW HQ HRD
          cases hwe : Pl.wordsEq r.dflt x.ws
          rotate_left
          · have HKT : Hid (Pl.keepLn y.kind x = false) := by show _ = _; rw [HKP.out, hwe]; rfl
            have HE : Hid ((y.lines.take (k + 1)).filter (Pl.keepLn y.kind) = (y.lines.take k).filter (Pl.keepLn y.kind)) := by show _ = _; rw [HST.out, HKT.out]; rfl
            have hsl := HSY.out.ln
            go_wp2
            go_roundw
            case rel => exact ⟨k + 1, xs, G, by omega, by go_num, by rw [HE.out, ← HM.out]; exact HSv.out, by rw [HE.out, ← HM.out]; exact HRp.out.1, HRp.out.2, HBr.out⟩
            case measure => simp [intOf]; omega
          have HKT : Hid (Pl.keepLn y.kind x = true) := by show _ = _; rw [HKP.out, hwe]; rfl
          have HE : Hid ((y.lines.take (k + 1)).filter (Pl.keepLn y.kind) = (y.lines.take k).filter (Pl.keepLn y.kind) ++ [x]) := by show _ = _; rw [HST.out, HKT.out]; rfl
          have hgr := HGX.out
          have hpg := HPX2.out
          have y2 := HBV.out.get 2 _ rfl
          have yl := HBV.out.lt
          have hml := HMl.out
          have hsl := HSY.out.ln
          go_wp2_with first | refine wpList_load_mid rfl 48 _ rfl p2 (o2 + k * 2) rfl [.string x.key, .slice aw x.ws.length cw] _ hgr Try.underlying48 rfl (by kernel_rfl) ?_ | (refine sv_push (wa := wb) rfl _ _ rfl (.slice ua m uc) m _ xs rfl (HSv.out.later (blw_alloc (Below.refl _ _) _)) X.heap.size 1 (lnD x) [.string x.key, .slice aw x.ws.length cw] rfl HRX.out.1.raw (World.news_of_block (cs := #[.string x.key, .slice aw x.ws.length cw]) (heap_alloc_new X _)) (by omega) (Nat.le_trans HBr.out.size (by simp)) ?_; intro gg1 cc1 w1 q1 q2; have HQ2 := uh (And.intro q1 (HSv.out.later (blw_alloc (Below.refl _ _) _) |>.below (blw_alloc HBr.out _) q2)); clear q1 q2)
          go_roundw
          case rel => exact ⟨k + 1, _, G ++ Gx, by omega, by go_num, by rw [HE.out, List.length_append, ← HM.out, List.flatMap_append, List.flatMap_singleton]; exact HQ2.out.1, by rw [HE.out, List.length_append, ← HM.out, List.flatMap_append, List.flatMap_singleton]; show Rep _ _ (reps (m + 1) _) _ _ _; rw [reps_snoc]; exact HRp.out.1.app HRX.out.1, fun b hb => (List.mem_append.1 hb).elim (HRp.out.2 b) (HRX.out.2 b), HQ2.out.2⟩
          case measure => simp [intOf]; omega
        · rw [hmn] at HQ HKP
          go_upto_region 13 with fail
          refine RY.region_pastG W1 (Below.refl _ _) (VTb q) (VTb_mono _) (by kernel_rfl) (by kernel_rfl) (by kernel_rfl) (by kernel_rfl) ?_ ?_
          · intro ii o' ho a X hX hk hd
            have zpb := HBV.out.later hX
            have zpbl := zpb.lt
            have zq := HQ.out.later hX
            have zql := zq.own.lt
            match ii, ho with
            | 0, ho =>
              injection ho with ho; subst ho
              have e8 : a.tmps[8]?.getD undef = .pointer (some ⟨q, 0, none⟩) := (RY.ev_tmp a 8).trans ((hk 8 (by kernel_rfl)).trans rfl)
              exact Or.inl ⟨RY.wanted_no rfl, Or.inl ⟨.pointer (some ⟨q, 2, none⟩), X, by simp [execOp, go_sem, e8], Below.refl _ _, rfl⟩⟩
            | 1, ho =>
              injection ho with ho; subst ho
              have e49 : a.tmps[49]?.getD undef = .pointer (some ⟨q, 2, none⟩) := (RY.ev_tmp a 49).trans (hd 0 _ 49 rfl rfl ⟨⟨0, .data⟩, by simp, rfl, rfl⟩)
              have yc := zq.get 2 _ rfl
              exact Or.inl ⟨RY.wanted_no rfl, Or.inl ⟨.bool true, X, by simp [execOp, go_sem, e49, yc], Below.refl _ _, rfl⟩⟩
            | 2, ho =>
              injection ho with ho; subst ho
              have e50 : a.tmps[50]?.getD undef = .bool true := (RY.ev_tmp a 50).trans (hd 1 _ 50 rfl rfl ⟨⟨1, .data⟩, by simp, rfl, rfl⟩)
              exact Or.inl ⟨RY.wanted_no rfl, Or.inl ⟨.bool true, X, by simp [execOp, go_sem, e50], Below.refl _ _, rfl⟩⟩
            | 3, ho =>
              injection ho with ho; subst ho
              have gd := hd 2 _ 51 rfl rfl ⟨⟨2, .guard⟩, by simp, rfl, rfl⟩
              exact Or.inr ⟨(RY.wanted_at rfl rfl rfl gd).trans rfl, rfl⟩
            | 4, ho =>
              injection ho with ho; subst ho
              have gd := hd 2 _ 51 rfl rfl ⟨⟨2, .guard⟩, by simp, rfl, rfl⟩
              exact Or.inr ⟨(RY.wanted_at rfl rfl rfl gd).trans rfl, rfl⟩
            | 5, ho =>
              injection ho with ho; subst ho
              have gd := hd 2 _ 51 rfl rfl ⟨⟨2, .guard⟩, by simp, rfl, rfl⟩
              exact Or.inr ⟨(RY.wanted_at rfl rfl rfl gd).trans rfl, rfl⟩
            | 6, ho =>
              injection ho with ho; subst ho
              have gd := hd 2 _ 51 rfl rfl ⟨⟨2, .guard⟩, by simp, rfl, rfl⟩
              exact Or.inr ⟨(RY.wanted_at rfl rfl rfl gd).trans rfl, rfl⟩
            | 7, ho =>
              injection ho with ho; subst ho
              have gd := hd 2 _ 51 rfl rfl ⟨⟨2, .guard⟩, by simp, rfl, rfl⟩
              exact Or.inr ⟨(RY.wanted_at rfl rfl rfl gd).trans rfl, rfl⟩
            | 8, ho =>
              injection ho with ho; subst ho
              have gd := hd 2 _ 51 rfl rfl ⟨⟨2, .guard⟩, by simp, rfl, rfl⟩
              exact Or.inr ⟨(RY.wanted_at rfl rfl rfl gd).trans rfl, rfl⟩
            | 9, ho =>
              injection ho with ho; subst ho
              have gd := hd 2 _ 51 rfl rfl ⟨⟨2, .guard⟩, by simp, rfl, rfl⟩
              exact Or.inr ⟨(RY.wanted_at rfl rfl rfl gd).trans rfl, rfl⟩
            | 10, ho =>
              injection ho with ho; subst ho
              have gd := hd 2 _ 51 rfl rfl ⟨⟨2, .guard⟩, by simp, rfl, rfl⟩
              exact Or.inr ⟨(RY.wanted_at rfl rfl rfl gd).trans rfl, rfl⟩
            | 11, ho =>
              injection ho with ho; subst ho
              have gd := hd 2 _ 51 rfl rfl ⟨⟨2, .guard⟩, by simp, rfl, rfl⟩
              exact Or.inr ⟨(RY.wanted_at rfl rfl rfl gd).trans rfl, rfl⟩
            | 12, ho =>
              injection ho with ho; subst ho
              have gd := hd 2 _ 51 rfl rfl ⟨⟨2, .guard⟩, by simp, rfl, rfl⟩
              exact Or.inr ⟨(RY.wanted_at rfl rfl rfl gd).trans rfl, rfl⟩
            | 13, ho =>
              injection ho with ho; subst ho
              have e51 : a.tmps[51]?.getD undef = .bool true := (RY.ev_tmp a 51).trans (hd 2 _ 51 rfl rfl ⟨⟨2, .data⟩, by simp, rfl, rfl⟩)
              have e61 : a.tmps[61]?.getD undef = undef := (RY.ev_tmp a 61).trans (hd 12 _ 61 rfl rfl ⟨⟨12, .data⟩, by simp, rfl, rfl⟩)
              exact Or.inl ⟨RY.wanted_no rfl, Or.inl ⟨.bool true, X, by simp [execOp, go_sem, e51, e61], Below.refl _ _, rfl⟩⟩
            | n + 14, ho => simp at ho
          intro X vs hX hvs
          have q62 : vs 62 = _ := hvs 13 _ 62 rfl rfl
          simp only [RY.putAll, Act.put, List.setIfInBounds_toArray, List.set_cons_zero, List.set_cons_succ]
          rw [q62]
          generalize vs 49 = s49
          generalize vs 50 = s50
          generalize vs 51 = s51
          generalize vs 52 = s52
          generalize vs 53 = s53
          generalize vs 54 = s54
          generalize vs 55 = s55
          generalize vs 56 = s56
          generalize vs 57 = s57
          generalize vs 58 = s58
          generalize vs 59 = s59
          generalize vs 60 = s60
          generalize vs 61 = s61
          clear hvs q62
          replace HBr := uh (blw_trans HBr.out hX)
          replace HSv := uh (HSv.out.later hX)
          replace HBV := uh (HBV.out.later hX)
          replace HGX := uh (rA_later HGX.out HPX2.out hX)
          replace HPX2 := uh (Nat.lt_of_lt_of_le HPX2.out hX.size)
          clear hX HCW HQ HRD
          have HKT : Hid (Pl.keepLn y.kind x = true) := HKP.out
          have HE : Hid ((y.lines.take (k + 1)).filter (Pl.keepLn y.kind) = (y.lines.take k).filter (Pl.keepLn y.kind) ++ [x]) := by show _ = _; rw [HST.out, HKT.out]; rfl
          have hgr := HGX.out
          have hpg := HPX2.out
          have y2 := HBV.out.get 2 _ rfl
          have yl := HBV.out.lt
          have hml := HMl.out
          have hsl := HSY.out.ln
          go_wp2_with first | refine wpList_load_mid rfl 48 _ rfl p2 (o2 + k * 2) rfl [.string x.key, .slice aw x.ws.length cw] _ hgr Try.underlying48 rfl (by kernel_rfl) ?_ | (refine sv_push (wa := wb) rfl _ _ rfl (.slice ua m uc) m _ xs rfl (HSv.out.later (blw_alloc (Below.refl _ _) _)) X.heap.size 1 (lnD x) [.string x.key, .slice aw x.ws.length cw] rfl HRX.out.1.raw (World.news_of_block (cs := #[.string x.key, .slice aw x.ws.length cw]) (heap_alloc_new X _)) (by omega) (Nat.le_trans HBr.out.size (by simp)) ?_; intro gg1 cc1 w1 q1 q2; have HQ2 := uh (And.intro q1 (HSv.out.later (blw_alloc (Below.refl _ _) _) |>.below (blw_alloc HBr.out _) q2)); clear q1 q2)
          go_roundw
          case rel => exact ⟨k + 1, _, G ++ Gx, by omega, by go_num, by rw [HE.out, List.length_append, ← HM.out, List.flatMap_append, List.flatMap_singleton]; exact HQ2.out.1, by rw [HE.out, List.length_append, ← HM.out, List.flatMap_append, List.flatMap_singleton]; show Rep _ _ (reps (m + 1) _) _ _ _; rw [reps_snoc]; exact HRp.out.1.app HRX.out.1, fun b hb => (List.mem_append.1 hb).elim (HRp.out.2 b) (HRX.out.2 b), HQ2.out.2⟩
          case measure => simp [intOf]; omega


end Go.Proofs.Ytfmhfacaemfhlaa
