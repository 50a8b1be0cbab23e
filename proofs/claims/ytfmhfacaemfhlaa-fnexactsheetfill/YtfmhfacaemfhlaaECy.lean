/-
  Sheets: a copy of a sheet: the specification.
-/
import Derived.Test.YtfmhfacaemfhlaaRel
import Derived.Test.YtfmhfacaemfhlaaECl
import Derived.Test.YtfmhfacaemfhlaaUC
import Derived.Test.YtfmhfacaemfhlaaETx
namespace Go.Proofs.Ytfmhfacaemfhlaa
open Go.RowKit Go.Deep
namespace RY

theorem region_finS {P : Program} {id : Nat} {Q : Exit → Act → World → Prop} {a0 : Act} {w : World} {l : List Oper} (v : World) (hv : Below v.heap.size v w) (V : Nat → Value → World → Prop) (hVm : ∀ j u W W', Below W.heap.size W W' → V j u W → V j u W') (K K2 : Value → World → Prop) (pv : Value) (n fuel kL kP : Nat)
    (hm : P.follows .mixedOrders = true) (hasc : asc .any l.toArray = true) (hap : apartB l = true) (hpl : plainB l a0.tmps.size = true)
    (hclo : ((List.range n).all fun i => (clo l fuel [n]).contains i) = true) (hlen : l.length = n + 3) (hds : ((l.take (n + 2)).all fun o => o.dst.isSome) = true)
    (oL oP oS : Oper) (hL : l[n]? = some oL) (hLd : oL.dst = some kL) (hP : l[n + 1]? = some oP) (hPd : oP.dst = some kP) (hS : l[n + 2]? = some oS) (hSd : oS.dst = none) (hSL : waits l (n + 2) n = true) (hSP : waits l (n + 2) (n + 1) = true)
    (hop : ∀ (i : Nat) (o : Oper), l[i]? = some o → i < n → ∀ (a : Act) (W : World), Below v.heap.size v W → (∀ k, noDst l k = true → a.eval (.tmp k) = a0.eval (.tmp k)) →
      (∀ (j : Nat) (o' : Oper) (k : Nat), l[j]? = some o' → o'.dst = some k → (∃ e ∈ o.after, e.on = j ∧ Region.binds .any e = true) → j < n → V j (a.eval (.tmp k)) W) →
      (∃ u W', (execOp a.eval o).run P W = .ok (.value u) W' ∧ Below W.heap.size W W' ∧ V i u W') ∨ (∃ f args, (execOp a.eval o).run P W = .ok (.enter f args) W ∧ Calls P f args W fun e W' => ∃ u, e = .returned u ∧ Below W.heap.size W W' ∧ V i u W'))
    (hfin : ∀ (a : Act) (W : World), Below v.heap.size v W → (∀ k, noDst l k = true → a.eval (.tmp k) = a0.eval (.tmp k)) →
      (∀ (j : Nat) (o' : Oper) (k : Nat), l[j]? = some o' → o'.dst = some k → (∃ e ∈ oL.after, e.on = j ∧ Region.binds .any e = true) → j < n → V j (a.eval (.tmp k)) W) →
      ∃ u W', (execOp a.eval oL).run P W = .ok (.value u) W' ∧ K u W')
    (hpt : ∀ (a : Act) (W : World), (∀ k, noDst l k = true → a.eval (.tmp k) = a0.eval (.tmp k)) → (execOp a.eval oP).run P W = .ok (.value pv) W)
    (hst : ∀ (a : Act) (W : World), K (a.eval (.tmp kL)) W → a.eval (.tmp kP) = pv → ∃ W', (execOp a.eval oS).run P W = .ok .skip W' ∧ K2 (a.eval (.tmp kL)) W')
    (hend : ∀ (vs : Nat → Value) (W : World), K2 (vs kL) W → vs kP = pv → Q .normal (putAll l a0 vs) W) :
    (Code.region id l.toArray true).wp P Q a0 w := by
  have hdst : ∀ {i : Nat} {o : Oper}, l[i]? = some o → i < n + 2 → o.dst.isSome = true := fun h hi => by
    rw [List.all_eq_true] at hds
    exact hds _ (List.mem_of_getElem? ((List.getElem?_take_of_lt hi).trans h))
  refine region_TO (fun _ _ => True) (fun up vals W => (up n = false → up (n + 2) = false ∧ Below v.heap.size v W ∧ ∀ j, j < n → up j = true → V j (vals j) W) ∧ (up n = true → up (n + 2) = false → K (vals n) W) ∧ (up (n + 1) = true → vals (n + 1) = pv) ∧ (up (n + 2) = true → K2 (vals n) W)) hm hasc hap hpl ?_ ?_ ?_
  · intro vals
    exact ⟨fun _ => ⟨rfl, Below.drew hv, fun _ _ h => (by cases h)⟩, fun h => (by cases h), fun h => (by cases h), fun h => (by cases h)⟩
  · intro up vals i o ho hi hcl a W hk hd hT
    have hkk : ∀ k, noDst l k = true → a.eval (.tmp k) = a0.eval (.tmp k) := fun k h => hk k fun j o' hj hj' => absurd hj' (noDst_spec h hj)
    have hall : up n = true → ∀ j, j < n → up j = true := fun hn j hj => by
      rw [List.all_eq_true] at hclo
      have := hclo j (List.mem_range.2 hj)
      rw [List.contains_iff_mem] at this
      exact clo_up hcl fuel [n] (by simpa using hn) j this
    have hil : i < n + 3 := by rw [← hlen]; exact (List.getElem?_eq_some_iff.1 ho).1
    have hS2 : up (n + 2) = true → up n = true ∧ up (n + 1) = true := fun h => by
      obtain ⟨e, he, h4, h5⟩ := waits_spec hSL hS
      obtain ⟨e', he', h4', h5'⟩ := waits_spec hSP hS
      exact ⟨by have := hcl (n + 2) oS e hS he h5 h; rwa [h4] at this, by have := hcl (n + 2) oS e' hS he' h5' h; rwa [h4'] at this⟩
    by_cases h1 : i < n
    · have hn : up n = false := by
        cases e : up n
        · rfl
        · rw [hall e i h1] at hi; cases hi
      obtain ⟨hn2, hB, hV⟩ := hT.1 hn
      have hop' := hop i o ho h1 a W hB hkk
        (fun j o' k hj hk' hdep hjn => by
          obtain ⟨q1, q2, _⟩ := hd j o' k hj hk' hdep
          rw [q2]; exact hV j hjn q1)
      have e0 : n ≠ i := by omega
      have e1 : n + 1 ≠ i := by omega
      have e2 : n + 2 ≠ i := by omega
      have stp : ∀ u W', Below W.heap.size W W' → V i u W' → (((fun j => (j == i) || up j) n = false → (fun j => (j == i) || up j) (n + 2) = false ∧ Below v.heap.size v W' ∧ ∀ j, j < n → (fun j => (j == i) || up j) j = true → V j ((fun j => if j = i then u else vals j) j) W') ∧ ((fun j => (j == i) || up j) n = true → (fun j => (j == i) || up j) (n + 2) = false → K ((fun j => if j = i then u else vals j) n) W') ∧ ((fun j => (j == i) || up j) (n + 1) = true → (fun j => if j = i then u else vals j) (n + 1) = pv) ∧ ((fun j => (j == i) || up j) (n + 2) = true → K2 ((fun j => if j = i then u else vals j) n) W')) := by
        intro u W' hb hu
        refine ⟨fun _ => ⟨?_, blw_trans hB hb, fun j hj hup => ?_⟩, fun h => ?_, fun h => ?_, fun h => ?_⟩
        · simpa [e2] using hn2
        · by_cases e : j = i
          · subst e; dsimp only; rw [if_pos rfl]; exact hu
          · dsimp only; rw [if_neg e]
            have : up j = true := by simpa [e] using hup
            exact hVm _ _ _ _ hb (hV j hj this)
        · have : up n = true := by simpa [e0] using h
          rw [hn] at this; cases this
        · dsimp only; rw [if_neg e1]; exact hT.2.2.1 (by simpa [e1] using h)
        · have : up (n + 2) = true := by simpa [e2] using h
          rw [hn2] at this; cases this
      rcases hop' with ⟨u, W', hr, hb, hu⟩ | ⟨f, args, hr, hc⟩
      · exact Or.inl ⟨u, W', hr, hdst ho (by omega), trivial, stp u W' hb hu⟩
      · exact Or.inr (Or.inr ⟨f, args, hr, hdst ho (by omega), hc.mono fun e W' ⟨u, he, hb, hu⟩ => ⟨u, he, trivial, stp u W' hb hu⟩⟩)
    · by_cases h2 : i = n
      · subst h2
        obtain ⟨hn2, hB, hV⟩ := hT.1 hi
        obtain rfl : o = oL := Option.some.inj (ho.symm.trans hL)
        obtain ⟨u, W', hr, hK⟩ := hfin a W hB hkk
          (fun j o' k hj hk' hdep hjn => by
            obtain ⟨q1, q2, _⟩ := hd j o' k hj hk' hdep
            rw [q2]; exact hV j hjn q1)
        have e1 : i + 1 ≠ i := by omega
        have e2 : i + 2 ≠ i := by omega
        refine Or.inl ⟨u, W', hr, hdst ho (by omega), trivial, ⟨fun h => by simp at h, fun _ _ => by dsimp only; rw [if_pos rfl]; exact hK, fun h => ?_, fun h => ?_⟩⟩
        · dsimp only; rw [if_neg e1]; exact hT.2.2.1 (by simpa [e1] using h)
        · have : up (i + 2) = true := by simpa [e2] using h
          rw [hn2] at this; cases this
      · by_cases h3 : i = n + 1
        · subst h3
          obtain rfl : o = oP := Option.some.inj (ho.symm.trans hP)
          have hn2 : up (n + 2) = false := by
            cases e : up (n + 2)
            · rfl
            · rw [(hS2 e).2] at hi; cases hi
          have e0 : n ≠ n + 1 := by omega
          have e2 : n + 2 ≠ n + 1 := by omega
          refine Or.inl ⟨pv, W, hpt a W hkk, hdst ho (by omega), trivial, ⟨fun h => ?_, fun h _ => ?_, fun _ => ?_, fun h => ?_⟩⟩
          · obtain ⟨q1, q2, q3⟩ := hT.1 (by simpa [e0] using h)
            refine ⟨by simpa [e2] using q1, q2, fun j hj hup => ?_⟩
            have e : j ≠ n + 1 := by omega
            dsimp only; rw [if_neg e]; exact q3 j hj (by simpa [e] using hup)
          · dsimp only; rw [if_neg e0]; exact hT.2.1 (by simpa [e0] using h) hn2
          · dsimp only; rw [if_pos rfl]
          · have : up (n + 2) = true := by simpa [e2] using h
            rw [hn2] at this; cases this
        · have h4 : i = n + 2 := by omega
          subst h4
          obtain rfl : o = oS := Option.some.inj (ho.symm.trans hS)
          obtain ⟨u1, q1, _⟩ := hd n oL kL hL hLd (by obtain ⟨e, he, h4, h5⟩ := waits_spec hSL hS; exact ⟨e, he, h4, h5⟩)
          obtain ⟨u2, q2, _⟩ := hd (n + 1) oP kP hP hPd (by obtain ⟨e, he, h4, h5⟩ := waits_spec hSP hS; exact ⟨e, he, h4, h5⟩)
          obtain ⟨W', hr, hK2⟩ := hst a W (by rw [q1]; exact hT.2.1 u1 hi) (by rw [q2]; exact hT.2.2.1 u2)
          refine Or.inr (Or.inl ⟨W', hr, hSd, ⟨fun h => ?_, fun _ h => ?_, fun _ => hT.2.2.1 u2, fun _ => by rw [← q1]; exact hK2⟩⟩)
          · dsimp only at h; rw [u1] at h; simp at h
          · simp at h
  · intro up vals vs W hup hvs hT
    have h1 := hvs n oL kL hL hLd
    have h2 := hvs (n + 1) oP kP hP hPd
    refine hend vs W ?_ ?_
    · rw [h1.1]; exact hT.2.2.2 (hup (n + 2) (by omega))
    · rw [h2.1]; exact hT.2.2.1 (hup (n + 1) (by omega))
end RY
end Go.Proofs.Ytfmhfacaemfhlaa

namespace Go.Proofs.Ytfmhfacaemfhlaa
open Go.RowKit Go.Deep

set_option maxRecDepth 8000 in
set_option maxHeartbeats 4000000 in
theorem l39BlockS (b : Pl.Bl) (lv : Value) (w : World) (h : Raw w shLns [lnsD b.lines] [lv]) (hl : b.lines.length ≤ 4194304) (hw : ∀ x ∈ b.lines, x.ws.length ≤ 4194304) :
    Calls Try.prog 33 #[.agg #[.string b.kind, .string b.name, lv]] w (Ans shSheetBlock (blD b) w) := by
  obtain ⟨va, vc, ev⟩ := h.len0
  subst ev
  obtain ⟨n, hn⟩ : ∃ n, n = b.lines.length := ⟨_, rfl⟩
  rw [← hn] at h ⊢
  obtain ⟨wa, hwa⟩ : ∃ wa, wa = (w.alloc (.cells #[.string b.kind, .string b.name, .slice va n vc] 40)).alloc (.cells #[.string { data := #[] }, .string { data := #[] }, .slice none 0 0] 40) := ⟨_, rfl⟩
  have hba : Below w.heap.size w wa := by rw [hwa]; exact blw_alloc (blw_alloc (Below.refl _ _) _) _
  have hsa : wa.heap.size = w.heap.size + 2 := by rw [hwa]; simp
  have HX : Hid (WBox wa w.heap.size 40 [.string b.kind, .string b.name, .slice va n vc]) := by
    show WBox _ _ _ _; rw [hwa]; exact (WBox.new w [.string b.kind, .string b.name, .slice va n vc] 40 _ rfl).later (blw_alloc (Below.refl _ _) _)
  have HR : Hid (WBox wa (w.heap.size + 1) 40 [.string { data := #[] }, .string { data := #[] }, .slice none 0 0]) := by
    show WBox _ _ _ _; rw [hwa]; exact WBox.new (w.alloc (.cells #[.string b.kind, .string b.name, .slice va n vc] 40)) [.string { data := #[] }, .string { data := #[] }, .slice none 0 0] 40 _ (by simp)
  have HC := uh (l39LinesS b.lines _ wa (h.later hba) hl hw)
  have HBA := uh hba
  have HSA := uh hsa
  clear h hl hw hn hba hsa
  go_enter Try.func33, Try.ntmps33
  go_upto_region 1 with fail
  rw [← hwa]
  clear hwa
  obtain ⟨b0, hb0⟩ : ∃ b0, b0 = w.heap.size := ⟨_, rfl⟩
  rw [← hb0] at HX HR HSA ⊢
  have HB0 := uh hb0
  clear hb0
  have x2 := HX.out.get 2 _ rfl
  have xl := HX.out.own.lt
  go_wp2_with fail
  refine HC.out.mono ?_
  rintro e w1 ⟨v1, F, rfl, hr, nd, lo, hb⟩
  obtain ⟨a1, c1, hv1⟩ := hr.raw.len0
  subst hv1
  clear x2 xl HC
  have H1 := uh (HX.out.later hb)
  have H2 := uh (HR.out.later hb)
  have HRP := uh (And.intro hr (And.intro nd lo))
  have HB1 := uh hb
  clear hr nd lo hb HX HR
  have x2 := H1.out.get 2 _ rfl
  have xl := H1.out.own.lt
  have xf := H1.out.own.frozen 2
  go_upto_region 2 with fail
  clear x2 xl xf
  obtain ⟨w2, hw2⟩ : ∃ w2, w2 = w1.setCell ⟨b0, 2, none⟩ (.slice a1 b.lines.length c1) := ⟨_, rfl⟩
  have H3 : Hid (WBox w2 b0 40 [.string b.kind, .string b.name, .slice a1 b.lines.length c1]) := by show WBox _ _ _ _; rw [hw2]; exact H1.out.set 2 (.slice a1 b.lines.length c1) (by simp)
  have H4 : Hid (WBox w2 (b0 + 1) 40 [.string { data := #[] }, .string { data := #[] }, .slice none 0 0]) := by show WBox _ _ _ _; rw [hw2]; exact H2.out.other (by omega) _ _
  have HM1 : Hid (Marks (fun b => b = b0) w1 w2) := by show Marks _ _ _; rw [hw2]; exact Marks.sc (S := fun b => b = b0) w1 rfl 2 (.slice a1 b.lines.length c1)
  rw [← hw2]
  clear hw2 H1 H2
  have hxa := H3.out.at_
  have hxl := H3.out.own.lt
  have hol := H4.out.own.lt
  have hth : w2.there (b0 + 1) 0 (#[.string b.kind, .string b.name, .slice a1 b.lines.length c1] : Array Value).size := uthere H4.out.own _ _ (by simp)
  obtain ⟨we, hwe⟩ : ∃ we, we = w2.setCells (b0 + 1) 0 [.string b.kind, .string b.name, .slice a1 b.lines.length c1] := ⟨_, rfl⟩
  have hrt : we.rangeAt (b0 + 1) 0 [.string b.kind, .string b.name, .slice a1 b.lines.length c1] := by rw [hwe]; exact World.rangeAt_setCells_same _ _ _ _ hth
  have HM2 : Hid (Marks (fun b => b = b0 + 1) w2 we) := by show Marks _ _ _; rw [hwe]; exact mks_scs (S := fun b => b = b0 + 1) rfl _ _ _
  have hone : ∀ x ∈ [Value.string b.kind, .string b.name, .slice a1 b.lines.length c1], x.oneCell' = true := fun x hx => (rawSheetBlock_mk b.kind b.name HRP.out.1.raw).one x hx
  have hon := all_oneCell_toArray hone
  clear hone
  go_wp2_with (first | (refine wpList_load_mid rfl 40 _ rfl b0 0 rfl [.string b.kind, .string b.name, .slice a1 b.lines.length c1] _ hxa Try.underlying40 rfl (by kernel_rfl) ?_) | (refine wpList_store_mid rfl 40 _ _ rfl (b0 + 1) 0 #[.string b.kind, .string b.name, .slice a1 b.lines.length c1] rfl rfl hth (by kernel_rfl) hon ?_))
  first | rw [← hwe] | (simp only [List.toList_toArray]; rw [← hwe])
  try simp only [Act.put]
  refine bodyPost_ret (v := .agg #[.string b.kind, .string b.name, .slice a1 b.lines.length c1]) (by simp [results, Try.results33, asAddr, run_loadVar_mid (P := Try.prog) _ _ _ 40 [.string b.kind, .string b.name, .slice a1 b.lines.length c1] _ hrt Try.underlying40 rfl (by kernel_rfl)]) rfl ?_
  have hnb : ∀ b ∈ F, b0 + 2 ≤ b := fun b hb => by have := HRP.out.2.2 b hb; have := HSA.out; omega
  refine ⟨[.string b.kind, .string b.name, .slice a1 b.lines.length c1], F ++ [], rfl, repSheetBlock_mk b.kind b.name ((HRP.out.1.keep HM1.out fun b hb e => by have := hnb b hb; omega).keep HM2.out fun b hb e => by have := hnb b hb; omega), by rw [List.append_nil]; exact HRP.out.2.1, fun b hb => ?_, ?_⟩
  · rw [List.append_nil] at hb
    have := hnb b hb; have := HB0.out; omega
  · have h1 := blw_trans HBA.out HB1.out
    have h2 := HM1.out.below (fun b e => by have := HB0.out; omega) h1
    exact HM2.out.below (fun b e => by have := HB0.out; omega) h2

end Go.Proofs.Ytfmhfacaemfhlaa

namespace Go.Proofs.Ytfmhfacaemfhlaa
open Go.RowKit Go.Deep

theorem Try.under_blocks : Try.prog.underlying 26 = some (.slice 40) := by kernel_rfl
theorem Try.info_block : (Try.prog.info? 40).map (fun i => (i.zero, i.size, i.bytes)) = some (some (.agg #[.string { data := #[] }, .string { data := #[] }, .slice none 0 0]), 3, 56) := by kernel_rfl
/-- While a sheet is copied: the variables (the argument's, the answer's, the copy's). -/
structure CyK (w : World) (b0 : Nat) (lv uv : Value) (W : World) : Prop where
  bel : Below w.heap.size w W
  arg : LBox W b0 [lv]
  res : WBox W (b0 + 1) 28 [.slice none 0 0]
  out : WBox W (b0 + 2) 28 [uv]
structure Cy (w : World) (b0 : Nat) (lv uv : Value) (k : Nat) (G : List Nat) (es : List Dt) (xs : List Value) (W : World) : Prop extends CyK w b0 lv uv W where
  row : Gr W (b0 + 3) 40 shSheetBlock uv k G es xs
theorem LBox.sc {W : World} {p q : Nat} {cs : List Value} (h : LBox W p cs) (hn : p ≠ q) (j : Nat) (x : Value) : LBox (W.setCell ⟨q, j, none⟩ x) p cs :=
  h.mks (Marks.sc (S := fun b => b = q) W rfl j x) hn
theorem Gr.sc {W : World} {lo : Nat} {t : TypeId} {sh : List Sh} {v : Value} {n : Nat} {G : List Nat} {es : List Dt} {xs : List Value} (h : Gr W lo t sh v n G es xs) {q : Nat} (hq : q < lo) (j : Nat) (x : Value) : Gr (W.setCell ⟨q, j, none⟩ x) lo t sh v n G es xs :=
  ⟨owns_mks h.row (Marks.sc (S := fun b => b = q) W rfl j x) fun b hb e => by omega, h.rep.keep (Marks.sc (S := fun b => b = q) W rfl j x) fun b hb e => by have := (h.fr b hb).1; omega, h.nd, h.fr⟩
theorem CyK.put {w W : World} {b0 : Nat} {lv uv u : Value} {k : Nat} {G : List Nat} {es : List Dt} {xs : List Value} (h : CyK w b0 lv uv W) (hb : b0 = w.heap.size) (hg : Gr W (b0 + 3) 40 shSheetBlock u k G es xs) : Cy w b0 lv u k G es xs (W.setCell ⟨b0 + 2, 0, none⟩ u) :=
  ⟨⟨h.bel.setCell (p := ⟨b0 + 2, 0, none⟩) (by show w.heap.size ≤ b0 + 2; omega) _, h.arg.sc (by omega) _ _, h.res.other (by omega) _ _, h.out.set 0 u (by simp)⟩, hg.sc (by omega) _ _⟩
def VCy (uv lv : Value) (b0 bz p o k : Nat) (x : Pl.Bl) (ax : Option Addr) (cx : Nat) : Nat → Value → World → Prop
  | 0, u, _ => u = .pointer (some ⟨b0 + 2, 0, none⟩)
  | 1, u, _ => u = uv
  | 2, u, _ => u = .pointer (some ⟨b0, 0, none⟩)
  | 3, u, _ => u = lv
  | 4, u, _ => u = .int .i64 (k : Int)
  | 5, u, _ => u = .pointer (some ⟨p, o + k * 3, none⟩)
  | 6, u, _ => u = .agg #[.string x.kind, .string x.name, .slice ax x.lines.length cx]
  | 7, u, W => ∃ a c F, u = .agg #[.string x.kind, .string x.name, .slice a x.lines.length c] ∧ Rep W false shSheetBlock F (blD x) [.string x.kind, .string x.name, .slice a x.lines.length c] ∧ F.Nodup ∧ ∀ b ∈ F, bz ≤ b
  | 8, u, W => ∃ q a c F, u = .slice (some ⟨q, 0, none⟩) 1 1 ∧ W.heap[q]? = some (.cells #[.string x.kind, .string x.name, .slice a x.lines.length c] 40 (0, 0)) ∧ Rep W false shSheetBlock F (blD x) [.string x.kind, .string x.name, .slice a x.lines.length c] ∧ F.Nodup ∧ ∀ b ∈ F, bz ≤ b
  | _, _, _ => True
theorem VCy_mono (uv lv : Value) (b0 bz p o k : Nat) (x : Pl.Bl) (ax : Option Addr) (cx : Nat) : ∀ j u W W', Below W.heap.size W W' → VCy uv lv b0 bz p o k x ax cx j u W → VCy uv lv b0 bz p o k x ax cx j u W' := by
  intro j u W W' hb h
  match j with
  | 0 => exact h
  | 1 => exact h
  | 2 => exact h
  | 3 => exact h
  | 4 => exact h
  | 5 => exact h
  | 6 =>
    exact h
  | 7 =>
    obtain ⟨a, c, F, e, hr, nd, lo⟩ := h
    exact ⟨a, c, F, e, hr.later hb, nd, lo⟩
  | 8 =>
    obtain ⟨q, a, c, F, e, hc, hr, nd, lo⟩ := h
    exact ⟨q, a, c, F, e, (hb.block q (Array.getElem?_eq_some_iff.1 hc).1).trans hc, hr.later hb, nd, lo⟩
  | n + 9 => exact trivial

set_option maxRecDepth 8000 in
set_option maxHeartbeats 8000000 in
theorem l39CopyS (s : List Pl.Bl) (v : Value) (w : World) (h : Raw w shBls [blsD s] [v]) (hl : s.length ≤ 4194304) (hll : ∀ b ∈ s, b.lines.length ≤ 4194304 ∧ ∀ x ∈ b.lines, x.ws.length ≤ 4194304) :
    Calls Try.prog 16 #[.agg #[v]] w (Ans shSheet [blsD s] w) := by
  obtain ⟨i0, hi0, hz0, hz1, hz2⟩ := uinfo Try.info_block
  have HL := uh h
  have HLL := uh hll
  obtain ⟨va, vc, ev⟩ := h.len0
  subst ev
  clear h hll
  obtain ⟨n, hn⟩ : ∃ n, n = s.length := ⟨_, rfl⟩
  have HN := uh hn
  have hnz : n ≤ 4194304 := by omega
  have hnn : s.length = n := hn.symm
  clear hn hl
  rw [hnn]
  clear hnn
  obtain ⟨wa, hwa⟩ : ∃ wa, wa = ((w.alloc (.cells #[.slice va n vc] 28)).alloc (.cells #[.slice none 0 0] 28)).alloc (.cells #[.slice none 0 0] 28) := ⟨_, rfl⟩
  obtain ⟨b0, hb0⟩ : ∃ b0, b0 = w.heap.size := ⟨_, rfl⟩
  have HBZ := uh hb0
  have H0 : Hid (Cy w b0 (.slice va n vc) (.slice none 0 0) 0 [] [] [] wa) := by
    show Cy _ _ _ _ _ _ _ _ _
    refine ⟨⟨?_, ?_, ?_, ?_⟩, Gr.nil _ _ _ _⟩
    · rw [hwa]; exact blw_alloc (blw_alloc (blw_alloc (Below.refl _ _) _) _) _
    · rw [hwa, hb0]; exact ((LBox.new w #[.slice va n vc] _ _ rfl).past _).past _
    · rw [hwa, hb0]; exact (WBox.new (w.alloc (.cells #[.slice va n vc] 28)) [.slice none 0 0] 28 _ (by simp)).later (blw_alloc (Below.refl _ _) _)
    · rw [hwa, hb0]; exact WBox.new ((w.alloc (.cells #[.slice va n vc] 28)).alloc (.cells #[.slice none 0 0] 28)) [.slice none 0 0] 28 _ (by simp)
  go_enter Try.func16, Try.ntmps16
  go_upto_region 2 with fail
  rw [← hwa, ← hb0]
  clear hwa hb0
  go_wp2
  go_loopw [4] (fun vi wr => ∃ (k : Nat) (uv : Value) (G : List Nat) (xs : List Value), k ≤ n ∧ vi = .int .i64 k ∧ Cy w b0 (.slice va n vc) uv k G ((s.take k).flatMap blD) xs wr) (fun vi _ => n - (intOf vi).toNat)
  case atStart => exact ⟨0, _, [], [], Nat.zero_le _, rfl, H0.out⟩
  case round =>
    obtain ⟨k, uv, G, xs, hk, rfl, hO⟩ := hrel
    have HO := uh hO
    obtain ⟨ua, uc, huu⟩ := hO.row.shape
    subst huu
    clear hO H0
    have x0 := HO.out.arg.get 0 _ rfl
    have xl := HO.out.arg.lt
    by_cases hlt : k < n
    rotate_left
    · have hks : s.take k = s := List.take_of_length_le (by have := HN.out; omega)
      rw [hks] at HO
      obtain rfl : k = s.length := by have := HN.out; omega
      clear hks
      go_upto_region 6 with fail
      clear x0 xl
      have hxa := HO.out.out.at_
      have hxl := HO.out.out.own.lt
      have hol := HO.out.res.own.lt
      have hth : wr.there (b0 + 1) 0 (#[.slice ua s.length uc] : Array Value).size := uthere HO.out.res.own _ _ (by simp)
      obtain ⟨we, hwe⟩ : ∃ we, we = wr.setCells (b0 + 1) 0 [.slice ua s.length uc] := ⟨_, rfl⟩
      have hrt : we.rangeAt (b0 + 1) 0 [.slice ua s.length uc] := by rw [hwe]; exact World.rangeAt_setCells_same _ _ _ _ hth
      have HM2 : Hid (Marks (fun b => b = b0 + 1) wr we) := by show Marks _ _ _; rw [hwe]; exact mks_scs (S := fun b => b = b0 + 1) rfl _ _ _
      go_wp2_with (first | (refine wpList_load_mid rfl 28 _ rfl (b0 + 2) 0 rfl [.slice ua s.length uc] _ hxa Try.underlying28 rfl (by kernel_rfl) ?_) | (refine wpList_store_mid rfl 28 _ _ rfl (b0 + 1) 0 #[.slice ua s.length uc] rfl rfl hth (by kernel_rfl) (by simp [Value.oneCell']) ?_))
      first | rw [← hwe] | (simp only [List.toList_toArray]; rw [← hwe])
      try simp only [Act.put]
      refine bodyPost_ret (v := .agg #[.slice ua s.length uc]) (by simp [results, Try.results16, asAddr, run_loadVar_mid (P := Try.prog) _ _ _ 28 [.slice ua s.length uc] _ hrt Try.underlying28 rfl (by kernel_rfl)]) rfl ?_
      obtain ⟨F, r, nd, fr⟩ := HO.out.row.done
      refine ⟨[.slice ua s.length uc], F ++ [], rfl, repSheet_mk (r.keep HM2.out fun b hb e => by have := fr b hb; omega), by rw [List.append_nil]; exact nd, fun b hb => ?_, HM2.out.below (fun b e => by have := HBZ.out; omega) HO.out.bel⟩
      rw [List.append_nil] at hb
      have := fr b hb; have := HBZ.out; omega
    have hkL : k < s.length := by have := HN.out; omega
    rcases bls_open (HL.out.later HO.out.bel) with ⟨e0, _⟩ | ⟨p, o, c, hv, hp, hml, hopen⟩
    · omega
    rw [← HN.out] at hv hml
    injection hv with g1 _ g3
    subst g1; subst g3
    obtain ⟨ax, cx, hgx, hrx⟩ := hopen k hkL
    have HTK := uh (Pl.take_snocD Pl.blNo s k hkL)
    have hlb : (s.getD k Pl.blNo).lines.length ≤ 4194304 ∧ ∀ x ∈ (s.getD k Pl.blNo).lines, x.ws.length ≤ 4194304 := by
      have e : s.getD k Pl.blNo = s[k] := by simp [hkL]
      rw [e]; exact HLL.out _ (List.getElem_mem hkL)
    obtain ⟨x, hx⟩ : ∃ x, x = s.getD k Pl.blNo := ⟨_, rfl⟩
    rw [← hx] at hgx hrx HTK hlb
    have HCB := uh (fun (X : World) (hX : Below wr.heap.size wr X) => l39BlockS x (.slice ax x.lines.length cx) X (hrx.later hX) hlb.1 hlb.2)
    have HGX := uh hgx
    have HPZ := uh hp
    have hk0 : (0 : Int) ≤ (k : Int) := by omega
    have hkn : (k : Int) < (n : Int) := by omega
    clear hx hgx hrx hlb hp hopen hml
    go_upto_region 5 with fail
    clear x0 xl
    refine RY.region_finS wr (Below.refl _ _) (VCy (.slice ua k uc) (.slice (some ⟨p, o, none⟩) n vc) b0 wr.heap.size p o k x ax cx) (VCy_mono _ _ _ _ _ _ _ _ _ _) (fun u W' => ∃ g cap G' xs', u = .slice (some ⟨g, 0, none⟩) (k + 1) cap ∧ CyK w b0 (.slice (some ⟨p, o, none⟩) n vc) (.slice ua k uc) W' ∧ Gr W' (b0 + 3) 40 shSheetBlock u (k + 1) G' ((s.take (k + 1)).flatMap blD) xs') (fun u W' => ∃ g cap G' xs', u = .slice (some ⟨g, 0, none⟩) (k + 1) cap ∧ Cy w b0 (.slice (some ⟨p, o, none⟩) n vc) u (k + 1) G' ((s.take (k + 1)).flatMap blD) xs' W') (.pointer (some ⟨b0 + 2, 0, none⟩)) 9 12 22 23 (by kernel_rfl) (by kernel_rfl) (by kernel_rfl) (by kernel_rfl) (by kernel_rfl) rfl (by kernel_rfl) _ _ _ rfl rfl rfl rfl rfl rfl (by kernel_rfl) (by kernel_rfl) ?_ ?_ ?_ ?_ ?_
    · intro i o' ho hin a X hX hk hd
      have z2 := (HO.out.out.later hX).get 0 _ rfl
      have z0 := (HO.out.arg.later hX).get 0 _ rfl
      have zl2 := (HO.out.out.later hX).own.lt
      have zl0 := (HO.out.arg.later hX).lt
      match i, ho with
      | 0, ho =>
        injection ho with ho; subst ho
        have e3 : a.tmps[3]?.getD undef = .pointer (some ⟨b0 + 2, 0, none⟩) := (RY.ev_tmp a 3).trans ((hk 3 (by kernel_rfl)).trans rfl)
        exact Or.inl ⟨.pointer (some ⟨b0 + 2, 0, none⟩), X, by simp [execOp, go_sem, e3], Below.refl _ _, rfl⟩
      | 1, ho =>
        injection ho with ho; subst ho
        have e13 : a.tmps[13]?.getD undef = _ := (RY.ev_tmp a 13).trans (hd 0 _ 13 rfl rfl ⟨⟨0, .data⟩, by simp, rfl, rfl⟩ (by decide))
        exact Or.inl ⟨.slice ua k uc, X, by simp [execOp, go_sem, e13, z2], Below.refl _ _, rfl⟩
      | 2, ho =>
        injection ho with ho; subst ho
        have e1 : a.tmps[1]?.getD undef = .pointer (some ⟨b0, 0, none⟩) := (RY.ev_tmp a 1).trans ((hk 1 (by kernel_rfl)).trans rfl)
        exact Or.inl ⟨.pointer (some ⟨b0, 0, none⟩), X, by simp [execOp, go_sem, e1], Below.refl _ _, rfl⟩
      | 3, ho =>
        injection ho with ho; subst ho
        have e15 : a.tmps[15]?.getD undef = _ := (RY.ev_tmp a 15).trans (hd 2 _ 15 rfl rfl ⟨⟨2, .data⟩, by simp, rfl, rfl⟩ (by decide))
        exact Or.inl ⟨.slice (some ⟨p, o, none⟩) n vc, X, by simp [execOp, go_sem, e15, z0], Below.refl _ _, rfl⟩
      | 4, ho =>
        injection ho with ho; subst ho
        have e4 : a.tmps[4]?.getD undef = .int .i64 (k : Int) := (RY.ev_tmp a 4).trans ((hk 4 (by kernel_rfl)).trans rfl)
        exact Or.inl ⟨.int .i64 (k : Int), X, by simp [execOp, go_sem, e4], Below.refl _ _, rfl⟩
      | 5, ho =>
        injection ho with ho; subst ho
        have e16 : a.tmps[16]?.getD undef = _ := (RY.ev_tmp a 16).trans (hd 3 _ 16 rfl rfl ⟨⟨3, .data⟩, by simp, rfl, rfl⟩ (by decide))
        have e17 : a.tmps[17]?.getD undef = _ := (RY.ev_tmp a 17).trans (hd 4 _ 17 rfl rfl ⟨⟨4, .data⟩, by simp, rfl, rfl⟩ (by decide))
        exact Or.inl ⟨.pointer (some ⟨p, o + k * 3, none⟩), X, by simp [execOp, go_sem, e16, e17, hk0, hkn], Below.refl _ _, rfl⟩
      | 6, ho =>
        injection ho with ho; subst ho
        have e1 := hd 5 _ 18 rfl rfl ⟨⟨5, .data⟩, by simp, rfl, rfl⟩ (by decide)
        exact Or.inl ⟨_, X, exec_load_mid 40 _ rfl p (o + k * 3) e1 [.string x.kind, .string x.name, .slice ax x.lines.length cx] _ (rA_later HGX.out HPZ.out hX) Try.underlying40 rfl (by kernel_rfl), Below.refl _ _, rfl⟩
      | 7, ho =>
        injection ho with ho; subst ho
        have e19 := (RY.ev_tmp a 19).trans (hd 6 _ 19 rfl rfl ⟨⟨6, .data⟩, by simp, rfl, rfl⟩ (by decide))
        refine Or.inr ⟨33, #[.agg #[.string x.kind, .string x.name, .slice ax x.lines.length cx]], by simp [go_sem, e19], (HCB.out X hX).mono ?_⟩
        rintro e W' ⟨c, F, rfl, hr, nd, lo, hb⟩
        obtain ⟨v1, hc, r1⟩ := rawSheetBlock hr.raw
        subst hc
        obtain ⟨a1, c1, hv1⟩ := r1.len0
        subst hv1
        exact ⟨_, rfl, hb, a1, c1, F, rfl, hr, nd, fun b hb => Nat.le_trans hX.size (lo b hb)⟩
      | 8, ho =>
        injection ho with ho; subst ho
        obtain ⟨a1, c1, F, e1, hr, nd, lo⟩ := hd 7 _ 20 rfl rfl ⟨⟨7, .data⟩, by simp, rfl, rfl⟩ (by decide)
        have e20 := (RY.ev_tmp a 20).trans e1
        exact Or.inl ⟨.slice (some ⟨X.heap.size, 0, none⟩) 1 1, X.alloc (.cells #[.string x.kind, .string x.name, .slice a1 x.lines.length c1] 40), by simp [execOp, go_sem, e20], blw_alloc (Below.refl _ _) _, X.heap.size, a1, c1, F, rfl, heap_alloc_new X _, hr.later (blw_alloc (Below.refl _ _) _), nd, lo⟩
      | n + 9, ho => omega
    · intro a X hX hk hd
      have z2 := (HO.out.out.later hX).get 0 _ rfl
      have z0 := (HO.out.arg.later hX).get 0 _ rfl
      have zl2 := (HO.out.out.later hX).own.lt
      have zl0 := (HO.out.arg.later hX).lt
      have e0 := hd 1 _ 14 rfl rfl ⟨⟨1, .data⟩, by simp, rfl, rfl⟩ (by decide)
      obtain ⟨q, a1, c1, FW, e1, hbb, hrep, nd, fr⟩ := hd 8 _ 21 rfl rfl ⟨⟨8, .data⟩, by simp, rfl, rfl⟩ (by decide)
      have hGX := HO.out.row.later hX
      obtain ⟨g, cap, X', hrun, hown, hgrow, hgg, _⟩ := run_append_lies (P := Try.prog) (w := X) 26 26 (b0 + 3) 40 i0 _ 3 56 Try.under_blocks hi0 hz0 hz1 hz2 rfl (by decide) (.slice ua k uc) k xs hGX.row ⟨q, 0, none⟩ 1 1 [.string x.kind, .string x.name, .slice a1 x.lines.length c1] rfl (fun j y hy => by rw [Addr.add_mid, Nat.zero_add]; simp only [World.cell?, hbb]; simpa using hy) (fun y hy => hrep.raw.one y hy) (by decide) (by unfold maxLen; omega) (by omega) (by have := HO.out.out.own.lt; have := hX.size; omega) X.heap.size rfl
      have hn : ∀ q, q < b0 + 3 → (Value.slice ua k uc).ownBlock ≠ some q := fun q hq e => by have := (owns_blk_lt hGX.row e).1; omega
      refine ⟨_, X', uexec_append (.tmp 14) (.tmp 21) 26 rfl e0 e1 hrun, g, cap, G ++ FW, xs ++ [.string x.kind, .string x.name, .slice a1 x.lines.length c1], rfl, ⟨?_, ?_, ?_, ?_⟩, ?_⟩
      · exact blw_grown (blw_trans HO.out.bel hX) hgrow (fun b hb => by have := (owns_blk_lt hGX.row hb).1; have := HBZ.out; omega)
      · exact (HO.out.arg.later hX).grown hgrow (hn _ (by omega))
      · exact (HO.out.res.later hX).grow hgrow (hn _ (by omega))
      · exact (HO.out.out.later hX).grow hgrow (hn _ (by omega))
      · have := HO.out.row.push (F := FW) hX hrep nd fr (by have := HO.out.out.own.lt; omega) hown hgrow (Nat.le_refl _) hgg
        rw [HTK.out, List.flatMap_append, List.flatMap_singleton]
        exact this
    · intro a X hk
      have e3 : a.tmps[3]?.getD undef = .pointer (some ⟨b0 + 2, 0, none⟩) := (RY.ev_tmp a 3).trans ((hk 3 (by kernel_rfl)).trans rfl)
      simp [execOp, go_sem, e3]
    · intro a X hK hp
      obtain ⟨g, cap, G', xs', e1, hK, hg⟩ := hK
      have t22 := (RY.ev_tmp a 22).trans e1
      have t23 := (RY.ev_tmp a 23).trans hp
      have z2 := hK.out.get 0 _ rfl
      have zf := hK.out.own.frozen 0
      refine ⟨X.setCell ⟨b0 + 2, 0, none⟩ (.slice (some ⟨g, 0, none⟩) (k + 1) cap), by simp [execOp, go_sem, t22, t23, z2, zf], g, cap, G', xs', e1, ?_⟩
      rw [e1] at hg ⊢
      exact hK.put HBZ.out hg
    · rintro vals X hK e2
      simp only [RY.putAll, Act.put, List.setIfInBounds_toArray, List.set_cons_zero, List.set_cons_succ]
      rw [e2]
      generalize vals 13 = s13
      generalize vals 14 = s14
      generalize vals 15 = s15
      generalize vals 16 = s16
      generalize vals 17 = s17
      generalize vals 18 = s18
      generalize vals 19 = s19
      generalize vals 20 = s20
      generalize vals 21 = s21
      obtain ⟨g, cap, G', xs', e1, hO⟩ := hK
      rw [e1] at hO ⊢
      have HN := uh hO
      clear hO e1 e2 HO
      go_wp2
      go_roundw
      case rel => exact ⟨k + 1, _, G', xs', by omega, by go_num, HN.out⟩
      case measure => simp [intOf]; omega

end Go.Proofs.Ytfmhfacaemfhlaa
