/-
  Sheets: a copy of a sheet: the specification.
-/
import Derived.Test.YtojcopamegmeeaaRel
import Derived.Test.YtojcopamegmeeaaECl
import Derived.Test.YtojcopamegmeeaaUC
import Derived.Test.YtojcopamegmeeaaETx
namespace Go.Proofs.Ytojcopamegmeeaa
open Go.RowKit Go.Deep
namespace RY

theorem region_finS {P : Program} {id : Nat} {Q : Exit → Act → World → Prop} {a0 : Act} {w : World} {l : List Oper} (v : World) (hv : Below v.heap.size v w) (V : Nat → Value → World → Prop) (hVm : ∀ j u W W', Below W.heap.size W W' → V j u W → V j u W') (K K2 : Value → World → Prop) (pv : Value) (n fuel kL kP : Nat)
    (hm : P.follows .mixedOrders = true) (hasc : asc .any l.toArray = true) (hap : apartB l = true) (hpl : plainB l a0.tmps.size = true)
    (hclo : ((List.range n).all fun i => (clo l fuel [n]).contains i) = true) (hlen : l.length = n + 3) (hds : ((l.take (n + 2)).all fun o => o.dst.isSome) = true)
    (oL oP oS : Oper) (hL : l[n]? = some oL) (hLd : oL.dst = some kL) (hP : l[n + 1]? = some oP) (hPd : oP.dst = some kP) (hS : l[n + 2]? = some oS) (hSd : oS.dst = none) (hSL : waits l (n + 2) n = true) (hSP : waits l (n + 2) (n + 1) = true)
    (hop : ∀ (i : Nat) (o : Oper), l[i]? = some o → i < n → ∀ (a : Act) (W : World), Below v.heap.size v W → (∀ k, noDst l k = true → a.eval (.tmp k) = a0.eval (.tmp k)) →
      (∀ (j : Nat) (o' : Oper) (k : Nat), l[j]? = some o' → o'.dst = some k → (∃ e ∈ o.after, e.on = j ∧ Region.binds .any e = true) → j < n → V j (a.eval (.tmp k)) W) →
      (∃ u W', (execOp a.eval o).run P W = .ok (.value u) W' ∧ Below W.heap.size W W' ∧ V i u W') ∨ (∃ f args, (execOp a.eval o).run P W = .ok (.enter f args) W ∧ Calls P f args W fun e W' => ∃ u, e = .returned u ∧ Below W.heap.size W W' ∧ V i u W'))
    (hfin : ∀ (a : Act) (W : World), Below v.heap.size v W → (∀ k, noDst l k = true → a.eval (.tmp k) = a0.eval (.tmp k)) →
      (∀ (j : Nat) (o' : Oper) (k : Nat), l[j]? = some o' → o'.dst = some k → (∃ e ∈ oL.after, e.on = j ∧ Region.binds .any e = true) → j < n → V j (a.eval (.tmp k)) W) →
      ∃ u W', (execOp a.eval oL).run P W = .ok (.value u) W' ∧ K u W')
    (hpt : ∀ (a : Act) (W : World), (∀ k, noDst l k = true → a.eval (.tmp k) = a0.eval (.tmp k)) → (execOp a.eval oP).run P W = .ok (.value pv) W)
    (hst : ∀ (a : Act) (W : World), K (a.eval (.tmp kL)) W → a.eval (.tmp kP) = pv → ∃ W', (execOp a.eval oS).run P W = .ok .skip W' ∧ K2 (a.eval (.tmp kL)) W')
    (hend : ∀ (vs : Nat → Value) (W : World), K2 (vs kL) W → vs kP = pv → Q .normal (putAll l a0 vs) W) :
    (Code.region id l.toArray true).wp P Q a0 w := by
  have hdst : ∀ {i : Nat} {o : Oper}, l[i]? = some o → i < n + 2 → o.dst.isSome = true := fun h hi => by
    rw [List.all_eq_true] at hds
    exact hds _ (List.mem_of_getElem? ((List.getElem?_take_of_lt hi).trans h))
  refine region_TO (fun _ _ => True) (fun up vals W => (up n = false → up (n + 2) = false ∧ Below v.heap.size v W ∧ ∀ j, j < n → up j = true → V j (vals j) W) ∧ (up n = true → up (n + 2) = false → K (vals n) W) ∧ (up (n + 1) = true → vals (n + 1) = pv) ∧ (up (n + 2) = true → K2 (vals n) W)) hm hasc hap hpl ?_ ?_ ?_
  · intro vals
    exact ⟨fun _ => ⟨rfl, Below.drew hv, fun _ _ h => (by cases h)⟩, fun h => (by cases h), fun h => (by cases h), fun h => (by cases h)⟩
  · intro up vals i o ho hi hcl a W hk hd hT
    have hkk : ∀ k, noDst l k = true → a.eval (.tmp k) = a0.eval (.tmp k) := fun k h => hk k fun j o' hj hj' => absurd hj' (noDst_spec h hj)
    have hall : up n = true → ∀ j, j < n → up j = true := fun hn j hj => by
      rw [List.all_eq_true] at hclo
      have := hclo j (List.mem_range.2 hj)
      rw [List.contains_iff_mem] at this
      exact clo_up hcl fuel [n] (by simpa using hn) j this
    have hil : i < n + 3 := by rw [← hlen]; exact (List.getElem?_eq_some_iff.1 ho).1
    have hS2 : up (n + 2) = true → up n = true ∧ up (n + 1) = true := fun h => by
      obtain ⟨e, he, h4, h5⟩ := waits_spec hSL hS
      obtain ⟨e', he', h4', h5'⟩ := waits_spec hSP hS
      exact ⟨by have := hcl (n + 2) oS e hS he h5 h; rwa [h4] at this, by have := hcl (n + 2) oS e' hS he' h5' h; rwa [h4'] at this⟩
    by_cases h1 : i < n
    · have hn : up n = false := by
        cases e : up n
        · rfl
        · rw [hall e i h1] at hi; cases hi
      obtain ⟨hn2, hB, hV⟩ := hT.1 hn
      have hop' := hop i o ho h1 a W hB hkk
        (fun j o' k hj hk' hdep hjn => by
          obtain ⟨q1, q2, _⟩ := hd j o' k hj hk' hdep
          rw [q2]; exact hV j hjn q1)
      have e0 : n ≠ i := by omega
      have e1 : n + 1 ≠ i := by omega
      have e2 : n + 2 ≠ i := by omega
      have stp : ∀ u W', Below W.heap.size W W' → V i u W' → (((fun j => (j == i) || up j) n = false → (fun j => (j == i) || up j) (n + 2) = false ∧ Below v.heap.size v W' ∧ ∀ j, j < n → (fun j => (j == i) || up j) j = true → V j ((fun j => if j = i then u else vals j) j) W') ∧ ((fun j => (j == i) || up j) n = true → (fun j => (j == i) || up j) (n + 2) = false → K ((fun j => if j = i then u else vals j) n) W') ∧ ((fun j => (j == i) || up j) (n + 1) = true → (fun j => if j = i then u else vals j) (n + 1) = pv) ∧ ((fun j => (j == i) || up j) (n + 2) = true → K2 ((fun j => if j = i then u else vals j) n) W')) := by
        intro u W' hb hu
        refine ⟨fun _ => ⟨?_, blw_trans hB hb, fun j hj hup => ?_⟩, fun h => ?_, fun h => ?_, fun h => ?_⟩
        · simpa [e2] using hn2
        · by_cases e : j = i
          · subst e; dsimp only; rw [if_pos rfl]; exact hu
          · dsimp only; rw [if_neg e]
            have : up j = true := by simpa [e] using hup
            exact hVm _ _ _ _ hb (hV j hj this)
        · have : up n = true := by simpa [e0] using h
          rw [hn] at this; cases this
        · dsimp only; rw [if_neg e1]; exact hT.2.2.1 (by simpa [e1] using h)
        · have : up (n + 2) = true := by simpa [e2] using h
          rw [hn2] at this; cases this
      rcases hop' with ⟨u, W', hr, hb, hu⟩ | ⟨f, args, hr, hc⟩
      · exact Or.inl ⟨u, W', hr, hdst ho (by omega), trivial, stp u W' hb hu⟩
      · exact Or.inr (Or.inr ⟨f, args, hr, hdst ho (by omega), hc.mono fun e W' ⟨u, he, hb, hu⟩ => ⟨u, he, trivial, stp u W' hb hu⟩⟩)
    · by_cases h2 : i = n
      · subst h2
        obtain ⟨hn2, hB, hV⟩ := hT.1 hi
        obtain rfl : o = oL := Option.some.inj (ho.symm.trans hL)
        obtain ⟨u, W', hr, hK⟩ := hfin a W hB hkk
          (fun j o' k hj hk' hdep hjn => by
            obtain ⟨q1, q2, _⟩ := hd j o' k hj hk' hdep
            rw [q2]; exact hV j hjn q1)
        have e1 : i + 1 ≠ i := by omega
        have e2 : i + 2 ≠ i := by omega
        refine Or.inl ⟨u, W', hr, hdst ho (by omega), trivial, ⟨fun h => by simp at h, fun _ _ => by dsimp only; rw [if_pos rfl]; exact hK, fun h => ?_, fun h => ?_⟩⟩
        · dsimp only; rw [if_neg e1]; exact hT.2.2.1 (by simpa [e1] using h)
        · have : up (i + 2) = true := by simpa [e2] using h
          rw [hn2] at this; cases this
      · by_cases h3 : i = n + 1
        · subst h3
          obtain rfl : o = oP := Option.some.inj (ho.symm.trans hP)
          have hn2 : up (n + 2) = false := by
            cases e : up (n + 2)
            · rfl
            · rw [(hS2 e).2] at hi; cases hi
          have e0 : n ≠ n + 1 := by omega
          have e2 : n + 2 ≠ n + 1 := by omega
          refine Or.inl ⟨pv, W, hpt a W hkk, hdst ho (by omega), trivial, ⟨fun h => ?_, fun h _ => ?_, fun _ => ?_, fun h => ?_⟩⟩
          · obtain ⟨q1, q2, q3⟩ := hT.1 (by simpa [e0] using h)
            refine ⟨by simpa [e2] using q1, q2, fun j hj hup => ?_⟩
            have e : j ≠ n + 1 := by omega
            dsimp only; rw [if_neg e]; exact q3 j hj (by simpa [e] using hup)
          · dsimp only; rw [if_neg e0]; exact hT.2.1 (by simpa [e0] using h) hn2
          · dsimp only; rw [if_pos rfl]
          · have : up (n + 2) = true := by simpa [e2] using h
            rw [hn2] at this; cases this
        · have h4 : i = n + 2 := by omega
          subst h4
          obtain rfl : o = oS := Option.some.inj (ho.symm.trans hS)
          obtain ⟨u1, q1, _⟩ := hd n oL kL hL hLd (by obtain ⟨e, he, h4, h5⟩ := waits_spec hSL hS; exact ⟨e, he, h4, h5⟩)
          obtain ⟨u2, q2, _⟩ := hd (n + 1) oP kP hP hPd (by obtain ⟨e, he, h4, h5⟩ := waits_spec hSP hS; exact ⟨e, he, h4, h5⟩)
          obtain ⟨W', hr, hK2⟩ := hst a W (by rw [q1]; exact hT.2.1 u1 hi) (by rw [q2]; exact hT.2.2.1 u2)
          refine Or.inr (Or.inl ⟨W', hr, hSd, ⟨fun h => ?_, fun _ h => ?_, fun _ => hT.2.2.1 u2, fun _ => by rw [← q1]; exact hK2⟩⟩)
          · dsimp only at h; rw [u1] at h; simp at h
          · simp at h
  · intro up vals vs W hup hvs hT
    have h1 := hvs n oL kL hL hLd
    have h2 := hvs (n + 1) oP kP hP hPd
    refine hend vs W ?_ ?_
    · rw [h1.1]; exact hT.2.2.2 (hup (n + 2) (by omega))
    · rw [h2.1]; exact hT.2.2.1 (hup (n + 1) (by omega))
end RY
end Go.Proofs.Ytojcopamegmeeaa

namespace Go.Proofs.Ytojcopamegmeeaa
open Go.RowKit Go.Deep

end Go.Proofs.Ytojcopamegmeeaa

namespace Go.Proofs.Ytojcopamegmeeaa
open Go.RowKit Go.Deep

theorem Try.under_blocks : Try.prog.underlying 28 = some (.slice 42) := by kernel_rfl
theorem Try.info_block : (Try.prog.info? 42).map (fun i => (i.zero, i.size, i.bytes)) = some (some (.agg #[.string { data := #[] }, .string { data := #[] }, .slice none 0 0]), 3, 56) := by kernel_rfl
/-- While a sheet is copied: the variables (the argument's, the answer's, the copy's). -/
structure CyK (w : World) (b0 : Nat) (lv uv : Value) (W : World) : Prop where
  bel : Below w.heap.size w W
  arg : LBox W b0 [lv]
  res : WBox W (b0 + 1) 30 [.slice none 0 0]
  out : WBox W (b0 + 2) 30 [uv]
structure Cy (w : World) (b0 : Nat) (lv uv : Value) (k : Nat) (G : List Nat) (es : List Dt) (xs : List Value) (W : World) : Prop extends CyK w b0 lv uv W where
  row : Gr W (b0 + 3) 42 shSheetBlock uv k G es xs
theorem LBox.sc {W : World} {p q : Nat} {cs : List Value} (h : LBox W p cs) (hn : p ≠ q) (j : Nat) (x : Value) : LBox (W.setCell ⟨q, j, none⟩ x) p cs :=
  h.mks (Marks.sc (S := fun b => b = q) W rfl j x) hn
theorem Gr.sc {W : World} {lo : Nat} {t : TypeId} {sh : List Sh} {v : Value} {n : Nat} {G : List Nat} {es : List Dt} {xs : List Value} (h : Gr W lo t sh v n G es xs) {q : Nat} (hq : q < lo) (j : Nat) (x : Value) : Gr (W.setCell ⟨q, j, none⟩ x) lo t sh v n G es xs :=
  ⟨owns_mks h.row (Marks.sc (S := fun b => b = q) W rfl j x) fun b hb e => by omega, h.rep.keep (Marks.sc (S := fun b => b = q) W rfl j x) fun b hb e => by have := (h.fr b hb).1; omega, h.nd, h.fr⟩
theorem CyK.put {w W : World} {b0 : Nat} {lv uv u : Value} {k : Nat} {G : List Nat} {es : List Dt} {xs : List Value} (h : CyK w b0 lv uv W) (hb : b0 = w.heap.size) (hg : Gr W (b0 + 3) 42 shSheetBlock u k G es xs) : Cy w b0 lv u k G es xs (W.setCell ⟨b0 + 2, 0, none⟩ u) :=
  ⟨⟨h.bel.setCell (p := ⟨b0 + 2, 0, none⟩) (by show w.heap.size ≤ b0 + 2; omega) _, h.arg.sc (by omega) _ _, h.res.other (by omega) _ _, h.out.set 0 u (by simp)⟩, hg.sc (by omega) _ _⟩
def VCy (uv lv : Value) (b0 bz p o k : Nat) (x : Pl.Bl) (ax : Option Addr) (cx : Nat) : Nat → Value → World → Prop
  | 0, u, _ => u = .pointer (some ⟨b0 + 2, 0, none⟩)
  | 1, u, _ => u = uv
  | 2, u, _ => u = .pointer (some ⟨b0, 0, none⟩)
  | 3, u, _ => u = lv
  | 4, u, _ => u = .int .i64 (k : Int)
  | 5, u, _ => u = .pointer (some ⟨p, o + k * 3, none⟩)
  | 6, u, _ => u = .agg #[.string x.kind, .string x.name, .slice ax x.lines.length cx]
  | 7, u, W => ∃ a c F, u = .agg #[.string x.kind, .string x.name, .slice a x.lines.length c] ∧ Rep W false shSheetBlock F (blD x) [.string x.kind, .string x.name, .slice a x.lines.length c] ∧ F.Nodup ∧ ∀ b ∈ F, bz ≤ b
  | 8, u, W => ∃ q a c F, u = .slice (some ⟨q, 0, none⟩) 1 1 ∧ W.heap[q]? = some (.cells #[.string x.kind, .string x.name, .slice a x.lines.length c] 42 (0, 0)) ∧ Rep W false shSheetBlock F (blD x) [.string x.kind, .string x.name, .slice a x.lines.length c] ∧ F.Nodup ∧ ∀ b ∈ F, bz ≤ b
  | _, _, _ => True
theorem VCy_mono (uv lv : Value) (b0 bz p o k : Nat) (x : Pl.Bl) (ax : Option Addr) (cx : Nat) : ∀ j u W W', Below W.heap.size W W' → VCy uv lv b0 bz p o k x ax cx j u W → VCy uv lv b0 bz p o k x ax cx j u W' := by
  intro j u W W' hb h
  match j with
  | 0 => exact h
  | 1 => exact h
  | 2 => exact h
  | 3 => exact h
  | 4 => exact h
  | 5 => exact h
  | 6 =>
    exact h
  | 7 =>
    obtain ⟨a, c, F, e, hr, nd, lo⟩ := h
    exact ⟨a, c, F, e, hr.later hb, nd, lo⟩
  | 8 =>
    obtain ⟨q, a, c, F, e, hc, hr, nd, lo⟩ := h
    exact ⟨q, a, c, F, e, (hb.block q (Array.getElem?_eq_some_iff.1 hc).1).trans hc, hr.later hb, nd, lo⟩
  | n + 9 => exact trivial

end Go.Proofs.Ytojcopamegmeeaa
