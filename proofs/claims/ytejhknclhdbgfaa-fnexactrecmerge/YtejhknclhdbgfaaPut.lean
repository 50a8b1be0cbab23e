/-
  A region that draws its order and ends by storing a value into a variable that is there.
-/
import Derived.Test.YtejhknclhdbgfaaLet
import Derived.Test.YtejhknclhdbgfaaMemRs
namespace Go.Proofs.Ytejhknclhdbgfaa
open Go.RowKit Go.Deep

/-- W is v but for the block p, and more. -/
structure BelX (p : Nat) (v W : World) : Prop where
  os : W.os = v.os
  tape : W.tape = v.tape
  output : W.output = v.output
  size : v.heap.size ≤ W.heap.size
  block : ∀ q, q < v.heap.size → q ≠ p → W.heap[q]? = v.heap[q]?
theorem BelX.refl (p : Nat) (v : World) : BelX p v v := ⟨rfl, rfl, rfl, Nat.le_refl _, fun _ _ _ => rfl⟩
theorem BelX.drew {p : Nat} {v W : World} (h : BelX p v W) : BelX p v W.drew := ⟨h.os, h.tape, h.output, h.size, h.block⟩
theorem BelX.on {p : Nat} {v W W' : World} (h : BelX p v W) (hb : Below W.heap.size W W') : BelX p v W' :=
  ⟨hb.os.trans h.os, hb.tape.trans h.tape, hb.output.trans h.output, Nat.le_trans h.size hb.size, fun q hq hn => (hb.block q (Nat.lt_of_lt_of_le hq h.size)).trans (h.block q hq hn)⟩
theorem BelX.cell {p : Nat} {v W : World} (h : BelX p v W) {b : Nat} (hb : b < v.heap.size) (hn : b ≠ p) (o : Nat) : W.cell? ⟨b, o, none⟩ = v.cell? ⟨b, o, none⟩ :=
  World.cell?_of_block (w := v) (h.block b hb hn)
theorem BelX.below {p : Nat} {u v W : World} (h : BelX p v W) (hu : Below u.heap.size u v) (hp : u.heap.size ≤ p) : Below u.heap.size u W :=
  ⟨h.os.trans hu.os, h.tape.trans hu.tape, h.output.trans hu.output, Nat.le_trans hu.size h.size, fun q hq => (h.block q (Nat.lt_of_lt_of_le hq hu.size) (by omega)).trans (hu.block q hq)⟩
theorem BelX.sc {p : Nat} {v W : World} (h : BelX p v W) (o : Nat) (x : Value) : BelX p v (W.setCell ⟨p, o, none⟩ x) :=
  ⟨h.os, h.tape, h.output, by rw [sc_size]; exact h.size, fun q hq hn => (Below.heap_setCell W ⟨p, o, none⟩ x q hn).trans (h.block q hq hn)⟩
theorem BelX.scs {p : Nat} {v : World} : ∀ (cs : List Value) (o : Nat) (W : World), BelX p v W → BelX p v (W.setCells p o cs)
  | [], _, _, h => h
  | x :: vs, o, W, h => by rw [World.setCells]; exact BelX.scs vs (o + 1) _ (h.sc o x)

namespace RY
theorem keeps_scs {p : Nat} {A : World → Prop} (hA : ∀ W o x, A W → A (W.setCell ⟨p, o, none⟩ x)) : ∀ (cs : List Value) (o : Nat) (W : World), A W → A (W.setCells p o cs)
  | [], _, _, h => h
  | x :: vs, o, W, h => by rw [World.setCells]; exact keeps_scs hA vs (o + 1) _ (hA W o x h)

/-- A region that draws its order, unguarded, each slot written once; it stores what iV yields into the variable p of the call's own (iS). -/
theorem region_put {P : Program} {id : Nat} {Q : Exit → Act → World → Prop} {a0 : Act} {w : World} {l : List Oper} (V : Nat → Value → World → Prop) (hVm : ∀ j u W W', Below W.heap.size W W' → V j u W → V j u W') (iV iS kV kp T n p : Nat)
    (hVs : ∀ j u W o x, V j u W → V j u (W.setCell ⟨p, o, none⟩ x)) (hm : P.follows .mixedOrders = true)
    (hasc : asc .any l.toArray = true) (hap : apartB l = true) (hpl : plainB l a0.tmps.size = true)
    (oV oS : Oper) (hV' : l[iV]? = some oV) (hS : l[iS]? = some oS) (hVd : oV.dst = some kV) (hSd : oS.dst = none) (hSo : oS.op = .store T (.tmp kp) (.tmp kV)) (hVS : iV ≠ iS)
    (hkp : noDst l kp = true) (hp : a0.eval (.tmp kp) = .pointer (some ⟨p, 0, none⟩)) (w2 : waits l iS iV = true) (hO : OwnBlk w p T n)
    (hinfo : (P.info? T).map (·.size) = some n) (hVv : ∀ u W, V iV u W → ∃ cs : List Value, u = .agg cs.toArray ∧ cs.length = n ∧ ∀ x ∈ cs, x.oneCell' = true)
    (hop : ∀ (i : Nat) (o : Oper), l[i]? = some o → i ≠ iS → ∀ (a : Act) (W : World), BelX p w W → (∀ k, noDst l k = true → a.eval (.tmp k) = a0.eval (.tmp k)) →
      (∀ (j : Nat) (o' : Oper) (k : Nat), l[j]? = some o' → o'.dst = some k → (∃ e ∈ o.after, e.on = j ∧ Region.binds .any e = true) → V j (a.eval (.tmp k)) W) → OpR P V i o a W)
    (hend : ∀ (W : World) (vs : Nat → Value), BelX p w W → (∀ (i : Nat) (o : Oper) (k : Nat), l[i]? = some o → o.dst = some k → V i (vs k) W) → OwnBlk W p T n → (∀ cs : List Value, vs kV = .agg cs.toArray → W.rangeAt p 0 cs) → Q .normal (putAll l a0 vs) W) :
    (Code.region id l.toArray true).wp P Q a0 w := by
  have hSg := (plain_spec hpl hS).1
  refine wp_region_any hm ?_
  refine wpAny_inv (fun L a W => RInv l a0 (fun _ W => BelX p w W) V L a W ∧ OwnBlk W p T n ∧ (L.getD iS false = true → ∀ cs : List Value, a.eval (.tmp kV) = .agg cs.toArray → W.rangeAt p 0 cs)) ?_ ?_ _ _ _ _ ?_ (Closed.none _ (rep_none _)) ?_
  · rintro L a W i ⟨h, hpo, hr⟩ hc hi
    obtain ⟨hi1, o, ho0, hall⟩ := mem_ready.1 hi
    have ho : l[i]? = some o := by simpa using ho0
    by_cases eS : i = iS
    · subst eS
      rw [hS] at ho; injection ho with ho; subst ho
      obtain ⟨e2, he2, hq2, hb2⟩ := waits_spec w2 hS
      have l2 : L.getD iV false = true := by rw [← hq2]; exact hall e2 he2 hb2
      obtain ⟨cs, hv2, hcn, hone⟩ := hVv _ _ (h.new iV oV kV hV' hVd l2)
      have hpe : a.eval (.tmp kp) = .pointer (some ⟨p, 0, none⟩) := (h.keep hkp).trans hp
      have hth : W.there p 0 cs.toArray.size := by rw [show cs.toArray.size = n by simpa using hcn]; exact own_there hpo
      have hrun : (execOp a.eval oS).run P W = .ok .skip (W.setCells p 0 cs) := by
        unfold execOp
        simp only [hSo, hpe, hv2, Instr.storeAt, Instr.sureAddr, Sem.run_bind, Sem.run_pure, Result.andThen_ok, run_storeVar_mid W p 0 T cs.toArray hth (by rw [hinfo]; simp [hcn]) (all_oneCell_toArray hone)]
      refine wpOp_skip ho0 hSg hrun ?_
      rw [hSd, put_none]
      refine ⟨?_, own_setCells cs 0 W hpo, fun _ cs' hcs' => ?_⟩
      · have := h.step hap hpl hS hi1 (u := undef) (W' := W.setCells p 0 cs) (BelX.scs cs 0 W h.cw) (fun j x hx => keeps_scs (A := fun W => V j x W) (fun W o y hy => hVs j x W o y hy) cs 0 W hx) (fun hd => by rw [hSd] at hd; cases hd)
        rw [hSd, put_none] at this
        exact this
      · rw [hv2] at hcs'
        have e : cs = cs' := by injection hcs' with e; simpa using e
        rw [← e]
        exact World.rangeAt_setCells_same W p 0 cs (by simpa using hth)
    · have hg := (plain_spec hpl ho).1
      have nxt : ∀ u W', Below W.heap.size W W' → V i u W' → (RInv l a0 (fun _ W => BelX p w W) V (L.setIfInBounds i true) (a.put o.dst u) W' ∧ OwnBlk W' p T n ∧ ((L.setIfInBounds i true).getD iS false = true → ∀ cs : List Value, (a.put o.dst u).eval (.tmp kV) = .agg cs.toArray → W'.rangeAt p 0 cs)) := by
        intro u W' hb hV
        refine ⟨h.step hap hpl ho hi1 (h.cw.on hb) (fun j x hx => hVm j x W W' hb hx) (fun _ => hV), hpo.later hb, fun x cs hcs => ?_⟩
        have lS : L.getD iS false = true := (set_get x).resolve_left (fun e => eS e.symm)
        obtain ⟨e2, he2, hq2, hb2⟩ := waits_spec w2 hS
        have lV : L.getD iV false = true := by rw [← hq2]; exact hc iS oS e2 (by simpa using hS) he2 hb2 lS
        have hne : i ≠ iV := fun e => by subst e; rw [getD_flip hi1] at lV; cases lV
        have hput : (a.put o.dst u).eval (.tmp kV) = a.eval (.tmp kV) := by
          cases hd : o.dst with
          | none => rfl
          | some q => exact put_else _ _ _ _ (fun e => hne (apart_spec hap ho hV' (by rw [hd, e]) hVd))
        rw [hput] at hcs
        exact range_later (hr lS cs hcs) hpo.lt hb
      rcases hop i o ho eS a W h.cw (fun k hk => h.keep hk) (fun j o' k hj hk ⟨e, he, hej, hb⟩ => h.new j o' k hj hk (by rw [← hej]; exact hall e he hb)) with ⟨u, W', hr', hb, hV⟩ | ⟨f, args, hr', hk⟩
      · exact wpOp_value ho0 hg hr' (nxt u W' hb hV)
      · refine wpOp_enter ho0 hg hr' (hk.mono ?_)
        rintro e W' ⟨u, rfl, hb, hV⟩
        exact ⟨u, rfl, nxt u W' hb hV⟩
  · rintro L a W ⟨h, hpo, hr⟩ hrd
    have hall : ∀ i, i < l.length → L.getD i false = true := fun i hi => all_up hrd hasc (by simpa using h.len) i (by simpa using hi)
    have lt : ∀ {i : Nat} {o : Oper}, l[i]? = some o → i < l.length := fun hi => (List.getElem?_eq_some_iff.1 hi).1
    have e : a = putAll l a0 (fun k => a.eval (.tmp k)) := by
      have hs : ∀ o ∈ l, ∀ q, o.dst = some q → q < a0.tmps.size := fun o ho q hq => by
        obtain ⟨i, hi⟩ := List.getElem?_of_mem ho
        exact (plain_spec hpl hi).2 q hq
      refine act_ext (by rw [putAll_defers]; exact h.df) (by rw [putAll_size]; exact h.sz) fun k => ?_
      rw [putAll_eval l a0 _ k hs]
      by_cases hk : ∃ o ∈ l, o.dst = some k
      · rw [if_pos hk]
      · rw [if_neg hk]
        refine h.old k fun i o hi hd => absurd ⟨o, List.mem_of_getElem? hi, hd⟩ hk
    have := hend W (fun k => a.eval (.tmp k)) h.cw (fun i o k hi hd => h.new i o k hi hd (hall i (lt hi))) hpo (hr (hall iS (lt hS)))
    rw [← e] at this
    exact this
  · refine ⟨⟨by simp, ?_, rfl, rfl, fun _ _ => rfl, fun i o k hi _ hl => ?_⟩, ?_, fun hl => ?_⟩
    · exact (BelX.refl p w).drew
    · rw [rep_none] at hl; cases hl
    · exact hO.later (Below.drew (Below.refl _ _))
    · rw [rep_none] at hl; cases hl
  · unfold left
    exact Nat.le_trans List.countP_le_length (by simp)
end RY

end Go.Proofs.Ytejhknclhdbgfaa
