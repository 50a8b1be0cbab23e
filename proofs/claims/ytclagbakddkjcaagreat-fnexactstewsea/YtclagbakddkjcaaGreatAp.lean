/-
  An append onto an empty row; the cells of a list.
-/
import Derived.Deep.MidRow
import Derived.Deep.AppendSrc
import Derived.Laws.AppendOwn
import Derived.Test.YtclagbakddkjcaaGreatRel
import Derived.Test.YtclagbakddkjcaaGreatMemBt
namespace Go.Proofs.YtclagbakddkjcaaGreat
open Go.RowKit Go.Deep

theorem exec_load_mid {P : Program} {op : Oper} {a : Act} {W : World} (ty : TypeId) (x : Operand) (ho : op.op = .load ty x) (b o : Nat) (hx : a.eval x = .pointer (some ⟨b, o, none⟩)) (cs : List Value) (d : TypeDesc) (hc : World.rangeAt W b o cs)
    (hu : P.underlying ty = some d) (hd : d.isRow = true) (hi : (P.info? ty).map (·.size) = some cs.length) : (execOp a.eval op).run P W = .ok (.value (.agg cs.toArray)) W := by
  unfold execOp
  simp only [ho, hx, Instr.loadAt, Instr.sureAddr, Sem.run_bind, Sem.run_pure, Result.andThen_ok, run_loadVar_mid W b o ty cs d hc hu hd hi]
theorem rangeAt_later {W W' : World} {b o : Nat} {cs : List Value} (h : W.rangeAt b o cs) (hb : b < W.heap.size) (hB : Below W.heap.size W W') : W'.rangeAt b o cs := fun j v hv => (hB.cell (p := ⟨b, o + j, none⟩) hb).trans (h j v hv)

namespace RY
/-- The operation i waits for j. -/
def waits (l : List Oper) (i j : Nat) : Bool := match l[i]? with
  | some o => o.after.any fun e => e.on == j && Region.binds .any e
  | none => false
theorem waits_spec {l : List Oper} {i j : Nat} {o : Oper} (h : waits l i j = true) (ho : l[i]? = some o) : ∃ e ∈ o.after, e.on = j ∧ Region.binds .any e = true := by
  unfold waits at h
  rw [ho] at h
  obtain ⟨m, hm, hq⟩ := Array.any_eq_true.1 h
  simp only [Bool.and_eq_true, beq_iff_eq] at hq
  exact ⟨_, Array.getElem_mem hm, hq.1, hq.2⟩

theorem range_later {W W' : World} {p : Nat} {cs : List Value} (h : W.rangeAt p 0 cs) (hp : p < W.heap.size) (hb : Below W.heap.size W W') : W'.rangeAt p 0 cs := fun j v hv =>
  (hb.cell (p := ⟨p, 0 + j, none⟩) hp).trans (h j v hv)

theorem own_setCells {p : Nat} {t : TypeId} {n : Nat} : ∀ (cs : List Value) (o : Nat) (W : World), OwnBlk W p t n → OwnBlk (W.setCells p o cs) p t n
  | [], _, _, h => h
  | v :: vs, o, W, h => by rw [World.setCells]; exact own_setCells vs (o + 1) _ (h.setCell o v)
theorem below_setCells {v : World} {p : Nat} (hp : v.heap.size ≤ p) : ∀ (cs : List Value) (o : Nat) (W : World), Below v.heap.size v W → Below v.heap.size v (W.setCells p o cs)
  | [], _, _, h => h
  | x :: vs, o, W, h => by rw [World.setCells]; exact below_setCells hp vs (o + 1) _ (h.setCell (p := ⟨p, o, none⟩) hp x)
theorem own_there {W : World} {p : Nat} {t : TypeId} {n : Nat} (h : OwnBlk W p t n) : W.there p 0 n := fun j hj => by
  obtain ⟨u, hu⟩ := h.cell (0 + j) (by omega)
  exact ⟨by rw [hu]; rfl, h.frozen _⟩

/-- A region that draws its order, unguarded, each slot written once; it makes a variable (iA) and stores what iV yields into it (iS). -/
theorem region_let {P : Program} {id : Nat} {Q : Exit → Act → World → Prop} {a0 : Act} {w : World} {l : List Oper} (v : World) (hv : Below v.heap.size v w) (V : Nat → Value → Prop) (iA iV iS kA kV T n : Nat) (cs zs : List Value) (hm : P.follows .mixedOrders = true)
    (hasc : asc .any l.toArray = true) (hap : apartB l = true) (hpl : plainB l a0.tmps.size = true)
    (oA oV oS : Oper) (hA : l[iA]? = some oA) (hV' : l[iV]? = some oV) (hS : l[iS]? = some oS) (hAd : oA.dst = some kA) (hVd : oV.dst = some kV) (hSd : oS.dst = none) (hSo : oS.op = .store T (.tmp kA) (.tmp kV)) (hAS : iA ≠ iS) (hAV : iA ≠ iV) (hVS : iV ≠ iS)
    (w1 : waits l iS iA = true) (w2 : waits l iS iV = true)
    (hzs : zs.length = n) (hAr : ∀ (a : Act) (W : World), (execOp a.eval oA).run P W = .ok (.value (.pointer (some ⟨W.heap.size, 0, none⟩))) (W.alloc (.cells zs.toArray T)))
    (hcn : cs.length = n) (hone : ∀ x ∈ cs, x.oneCell' = true) (hinfo : (P.info? T).map (·.size) = some n) (hVv : ∀ u, V iV u → u = .agg cs.toArray)
    (hop : ∀ (i : Nat) (o : Oper), l[i]? = some o → i ≠ iA → i ≠ iS → ∀ (a : Act) (W : World), Below v.heap.size v W → (∀ k, noDst l k = true → a.eval (.tmp k) = a0.eval (.tmp k)) →
      (∀ (j : Nat) (o' : Oper) (k : Nat), l[j]? = some o' → o'.dst = some k → j ≠ iA → (∃ e ∈ o.after, e.on = j ∧ Region.binds .any e = true) → V j (a.eval (.tmp k))) → OpR P (fun i u _ => V i u) i o a W)
    (hend : ∀ (W : World) (vs : Nat → Value) (p : Nat), Below v.heap.size v W → (∀ (i : Nat) (o : Oper) (k : Nat), l[i]? = some o → o.dst = some k → i ≠ iA → V i (vs k)) → vs kA = .pointer (some ⟨p, 0, none⟩) → v.heap.size ≤ p → OwnBlk W p T n → W.rangeAt p 0 cs → Q .normal (putAll l a0 vs) W) :
    (Code.region id l.toArray true).wp P Q a0 w := by
  have hSg := (plain_spec hpl hS).1
  have hAg := (plain_spec hpl hA).1
  refine wp_region_any hm ?_
  refine wpAny_inv (fun L a W => RInv l a0 (fun _ W => Below v.heap.size v W) (fun j u _ => j ≠ iA → V j u) L a W ∧ (L.getD iA false = true → ∃ p, a.eval (.tmp kA) = .pointer (some ⟨p, 0, none⟩) ∧ v.heap.size ≤ p ∧ OwnBlk W p T n ∧ (L.getD iS false = true → W.rangeAt p 0 cs))) ?_ ?_ _ _ _ _ ?_ (Closed.none _ (rep_none _)) ?_
  · rintro L a W i ⟨h, hp⟩ hc hi
    obtain ⟨hi1, o, ho0, hall⟩ := mem_ready.1 hi
    have ho : l[i]? = some o := by simpa using ho0
    by_cases eA : i = iA
    · subst eA
      rw [hA] at ho; injection ho with ho; subst ho
      have hb : Below W.heap.size W (W.alloc (.cells zs.toArray T)) := blw_alloc (Below.refl _ _) _
      have hlt : kA < a.tmps.size := by rw [h.sz]; exact (plain_spec hpl hA).2 kA hAd
      refine wpOp_value ho0 hAg (hAr a W) ⟨h.step hap hpl hA hi1 (blw_trans h.cw hb) (fun _ _ hx => hx) (fun _ hne => absurd rfl hne), fun _ => ⟨W.heap.size, ?_, h.cw.size, OwnBlk.alloc W _ T n (by simpa using hzs), fun hs => ?_⟩⟩
      · rw [hAd, put_same _ _ _ hlt]
      · rcases set_get hs with e | e
        · exact absurd e.symm hAS
        · obtain ⟨ed, hed, heo, heb⟩ := waits_spec w1 hS
          have := hc iS oS ed (by simpa using hS) hed heb e
          rw [heo, getD_flip hi1] at this; cases this
    · by_cases eS : i = iS
      · subst eS
        rw [hS] at ho; injection ho with ho; subst ho
        obtain ⟨e1, he1, hq1, hb1⟩ := waits_spec w1 hS
        obtain ⟨e2, he2, hq2, hb2⟩ := waits_spec w2 hS
        have l1 : L.getD iA false = true := by rw [← hq1]; exact hall e1 he1 hb1
        have l2 : L.getD iV false = true := by rw [← hq2]; exact hall e2 he2 hb2
        obtain ⟨p, hpe, hpv, hpo, _⟩ := hp l1
        have hv2 := hVv _ (h.new iV oV kV hV' hVd l2 (Ne.symm hAV))
        have hth : W.there p 0 cs.toArray.size := by rw [show cs.toArray.size = n by simpa using hcn]; exact own_there hpo
        have hrun : (execOp a.eval oS).run P W = .ok .skip (W.setCells p 0 cs) := by
          unfold execOp
          simp only [hSo, hpe, hv2, Instr.storeAt, Instr.sureAddr, Sem.run_bind, Sem.run_pure, Result.andThen_ok, run_storeVar_mid W p 0 T cs.toArray hth (by rw [hinfo]; simp [hcn]) (all_oneCell_toArray hone)]
        refine wpOp_skip ho0 hSg hrun ?_
        rw [hSd, put_none]
        have hB := below_setCells hpv cs 0 W h.cw
        refine ⟨?_, fun _ => ⟨p, hpe, hpv, own_setCells cs 0 W hpo, fun _ => World.rangeAt_setCells_same W p 0 cs (by simpa using hth)⟩⟩
        have := h.step hap hpl hS hi1 (u := undef) (W' := W.setCells p 0 cs) hB (fun _ _ hx => hx) (fun hd => by rw [hSd] at hd; cases hd)
        rw [hSd, put_none] at this
        exact this
      · have hg := (plain_spec hpl ho).1
        have hne : o.dst ≠ some kA := fun hd => eA (apart_spec hap ho hA hd hAd)
        have hput : ∀ u, (a.put o.dst u).eval (.tmp kA) = a.eval (.tmp kA) := fun u => by
          cases hd : o.dst with
          | none => rfl
          | some q => exact put_else _ _ _ _ (fun e => hne (by rw [hd, e]))
        have e1 : (L.setIfInBounds i true).getD iA false = true → L.getD iA false = true := fun x => (set_get x).resolve_left (fun e => eA e.symm)
        have e2 : (L.setIfInBounds i true).getD iS false = true → L.getD iS false = true := fun x => (set_get x).resolve_left (fun e => eS e.symm)
        have nxt : ∀ u W', Below W.heap.size W W' → V i u → (RInv l a0 (fun _ W => Below v.heap.size v W) (fun j u _ => j ≠ iA → V j u) (L.setIfInBounds i true) (a.put o.dst u) W' ∧ ((L.setIfInBounds i true).getD iA false = true → ∃ p, (a.put o.dst u).eval (.tmp kA) = .pointer (some ⟨p, 0, none⟩) ∧ v.heap.size ≤ p ∧ OwnBlk W' p T n ∧ ((L.setIfInBounds i true).getD iS false = true → W'.rangeAt p 0 cs))) := by
          intro u W' hb hV
          refine ⟨h.step hap hpl ho hi1 (blw_trans h.cw hb) (fun _ _ hx => hx) (fun _ _ => hV), fun x => ?_⟩
          obtain ⟨p, q1, q2, q3, q4⟩ := hp (e1 x)
          exact ⟨p, by rw [hput]; exact q1, q2, q3.later hb, fun y => range_later (q4 (e2 y)) q3.lt hb⟩
        rcases hop i o ho eA eS a W h.cw (fun k hk => h.keep hk) (fun j o' k hj hk hjA ⟨e, he, hej, hb⟩ => h.new j o' k hj hk (by rw [← hej]; exact hall e he hb) hjA) with ⟨u, W', hr, hb, hV⟩ | ⟨f, args, hr, hk⟩
        · exact wpOp_value ho0 hg hr (nxt u W' hb hV)
        · refine wpOp_enter ho0 hg hr (hk.mono ?_)
          rintro e W' ⟨u, rfl, hb, hV⟩
          exact ⟨u, rfl, nxt u W' hb hV⟩
  · rintro L a W ⟨h, hp⟩ hr
    have hall : ∀ i, i < l.length → L.getD i false = true := fun i hi => all_up hr hasc (by simpa using h.len) i (by simpa using hi)
    have lt : ∀ {i : Nat} {o : Oper}, l[i]? = some o → i < l.length := fun hi => (List.getElem?_eq_some_iff.1 hi).1
    have e : a = putAll l a0 (fun k => a.eval (.tmp k)) := by
      have hs : ∀ o ∈ l, ∀ q, o.dst = some q → q < a0.tmps.size := fun o ho q hq => by
        obtain ⟨i, hi⟩ := List.getElem?_of_mem ho
        exact (plain_spec hpl hi).2 q hq
      refine act_ext (by rw [putAll_defers]; exact h.df) (by rw [putAll_size]; exact h.sz) fun k => ?_
      rw [putAll_eval l a0 _ k hs]
      by_cases hk : ∃ o ∈ l, o.dst = some k
      · rw [if_pos hk]
      · rw [if_neg hk]
        refine h.old k fun i o hi hd => absurd ⟨o, List.mem_of_getElem? hi, hd⟩ hk
    obtain ⟨p, q1, q2, q3, q4⟩ := hp (hall iA (lt hA))
    have := hend W (fun k => a.eval (.tmp k)) p h.cw (fun i o k hi hd hne => h.new i o k hi hd (hall i (lt hi)) hne) q1 q2 q3 (q4 (hall iS (lt hS)))
    rw [← e] at this
    exact this
  · refine ⟨⟨by simp, ?_, rfl, rfl, fun _ _ => rfl, fun i o k hi _ hl => ?_⟩, fun hl => ?_⟩
    · exact Below.drew hv
    · rw [rep_none] at hl; cases hl
    · rw [rep_none] at hl; cases hl
  · unfold left
    exact Nat.le_trans List.countP_le_length (by simp)
end RY

end Go.Proofs.YtclagbakddkjcaaGreat

namespace Go.Proofs.YtclagbakddkjcaaGreat
open Go.RowKit Go.Deep

/-- W is v but for the block p, and more. -/
structure BelX (p : Nat) (v W : World) : Prop where
  os : W.os = v.os
  tape : W.tape = v.tape
  output : W.output = v.output
  size : v.heap.size ≤ W.heap.size
  block : ∀ q, q < v.heap.size → q ≠ p → W.heap[q]? = v.heap[q]?
theorem BelX.refl (p : Nat) (v : World) : BelX p v v := ⟨rfl, rfl, rfl, Nat.le_refl _, fun _ _ _ => rfl⟩
theorem BelX.drew {p : Nat} {v W : World} (h : BelX p v W) : BelX p v W.drew := ⟨h.os, h.tape, h.output, h.size, h.block⟩
theorem BelX.on {p : Nat} {v W W' : World} (h : BelX p v W) (hb : Below W.heap.size W W') : BelX p v W' :=
  ⟨hb.os.trans h.os, hb.tape.trans h.tape, hb.output.trans h.output, Nat.le_trans h.size hb.size, fun q hq hn => (hb.block q (Nat.lt_of_lt_of_le hq h.size)).trans (h.block q hq hn)⟩
theorem BelX.cell {p : Nat} {v W : World} (h : BelX p v W) {b : Nat} (hb : b < v.heap.size) (hn : b ≠ p) (o : Nat) : W.cell? ⟨b, o, none⟩ = v.cell? ⟨b, o, none⟩ :=
  World.cell?_of_block (w := v) (h.block b hb hn)
theorem BelX.below {p : Nat} {u v W : World} (h : BelX p v W) (hu : Below u.heap.size u v) (hp : u.heap.size ≤ p) : Below u.heap.size u W :=
  ⟨h.os.trans hu.os, h.tape.trans hu.tape, h.output.trans hu.output, Nat.le_trans hu.size h.size, fun q hq => (h.block q (Nat.lt_of_lt_of_le hq hu.size) (by omega)).trans (hu.block q hq)⟩
theorem BelX.sc {p : Nat} {v W : World} (h : BelX p v W) (o : Nat) (x : Value) : BelX p v (W.setCell ⟨p, o, none⟩ x) :=
  ⟨h.os, h.tape, h.output, by rw [sc_size]; exact h.size, fun q hq hn => (Below.heap_setCell W ⟨p, o, none⟩ x q hn).trans (h.block q hq hn)⟩
theorem BelX.scs {p : Nat} {v : World} : ∀ (cs : List Value) (o : Nat) (W : World), BelX p v W → BelX p v (W.setCells p o cs)
  | [], _, _, h => h
  | x :: vs, o, W, h => by rw [World.setCells]; exact BelX.scs vs (o + 1) _ (h.sc o x)

namespace RY
theorem keeps_scs {p : Nat} {A : World → Prop} (hA : ∀ W o x, A W → A (W.setCell ⟨p, o, none⟩ x)) : ∀ (cs : List Value) (o : Nat) (W : World), A W → A (W.setCells p o cs)
  | [], _, _, h => h
  | x :: vs, o, W, h => by rw [World.setCells]; exact keeps_scs hA vs (o + 1) _ (hA W o x h)

/-- A region that draws its order, unguarded, each slot written once; it stores what iV yields into the variable p of the call's own (iS). -/
theorem region_put {P : Program} {id : Nat} {Q : Exit → Act → World → Prop} {a0 : Act} {w : World} {l : List Oper} (V : Nat → Value → World → Prop) (hVm : ∀ j u W W', Below W.heap.size W W' → V j u W → V j u W') (iV iS kV kp T n p : Nat)
    (hVs : ∀ j u W o x, V j u W → V j u (W.setCell ⟨p, o, none⟩ x)) (hm : P.follows .mixedOrders = true)
    (hasc : asc .any l.toArray = true) (hap : apartB l = true) (hpl : plainB l a0.tmps.size = true)
    (oV oS : Oper) (hV' : l[iV]? = some oV) (hS : l[iS]? = some oS) (hVd : oV.dst = some kV) (hSd : oS.dst = none) (hSo : oS.op = .store T (.tmp kp) (.tmp kV)) (hVS : iV ≠ iS)
    (hkp : noDst l kp = true) (hp : a0.eval (.tmp kp) = .pointer (some ⟨p, 0, none⟩)) (w2 : waits l iS iV = true) (hO : OwnBlk w p T n)
    (hinfo : (P.info? T).map (·.size) = some n) (hVv : ∀ u W, V iV u W → ∃ cs : List Value, u = .agg cs.toArray ∧ cs.length = n ∧ ∀ x ∈ cs, x.oneCell' = true)
    (hop : ∀ (i : Nat) (o : Oper), l[i]? = some o → i ≠ iS → ∀ (a : Act) (W : World), BelX p w W → (∀ k, noDst l k = true → a.eval (.tmp k) = a0.eval (.tmp k)) →
      (∀ (j : Nat) (o' : Oper) (k : Nat), l[j]? = some o' → o'.dst = some k → (∃ e ∈ o.after, e.on = j ∧ Region.binds .any e = true) → V j (a.eval (.tmp k)) W) → OpR P V i o a W)
    (hend : ∀ (W : World) (vs : Nat → Value), BelX p w W → (∀ (i : Nat) (o : Oper) (k : Nat), l[i]? = some o → o.dst = some k → V i (vs k) W) → OwnBlk W p T n → (∀ cs : List Value, vs kV = .agg cs.toArray → W.rangeAt p 0 cs) → Q .normal (putAll l a0 vs) W) :
    (Code.region id l.toArray true).wp P Q a0 w := by
  have hSg := (plain_spec hpl hS).1
  refine wp_region_any hm ?_
  refine wpAny_inv (fun L a W => RInv l a0 (fun _ W => BelX p w W) V L a W ∧ OwnBlk W p T n ∧ (L.getD iS false = true → ∀ cs : List Value, a.eval (.tmp kV) = .agg cs.toArray → W.rangeAt p 0 cs)) ?_ ?_ _ _ _ _ ?_ (Closed.none _ (rep_none _)) ?_
  · rintro L a W i ⟨h, hpo, hr⟩ hc hi
    obtain ⟨hi1, o, ho0, hall⟩ := mem_ready.1 hi
    have ho : l[i]? = some o := by simpa using ho0
    by_cases eS : i = iS
    · subst eS
      rw [hS] at ho; injection ho with ho; subst ho
      obtain ⟨e2, he2, hq2, hb2⟩ := waits_spec w2 hS
      have l2 : L.getD iV false = true := by rw [← hq2]; exact hall e2 he2 hb2
      obtain ⟨cs, hv2, hcn, hone⟩ := hVv _ _ (h.new iV oV kV hV' hVd l2)
      have hpe : a.eval (.tmp kp) = .pointer (some ⟨p, 0, none⟩) := (h.keep hkp).trans hp
      have hth : W.there p 0 cs.toArray.size := by rw [show cs.toArray.size = n by simpa using hcn]; exact own_there hpo
      have hrun : (execOp a.eval oS).run P W = .ok .skip (W.setCells p 0 cs) := by
        unfold execOp
        simp only [hSo, hpe, hv2, Instr.storeAt, Instr.sureAddr, Sem.run_bind, Sem.run_pure, Result.andThen_ok, run_storeVar_mid W p 0 T cs.toArray hth (by rw [hinfo]; simp [hcn]) (all_oneCell_toArray hone)]
      refine wpOp_skip ho0 hSg hrun ?_
      rw [hSd, put_none]
      refine ⟨?_, own_setCells cs 0 W hpo, fun _ cs' hcs' => ?_⟩
      · have := h.step hap hpl hS hi1 (u := undef) (W' := W.setCells p 0 cs) (BelX.scs cs 0 W h.cw) (fun j x hx => keeps_scs (A := fun W => V j x W) (fun W o y hy => hVs j x W o y hy) cs 0 W hx) (fun hd => by rw [hSd] at hd; cases hd)
        rw [hSd, put_none] at this
        exact this
      · rw [hv2] at hcs'
        have e : cs = cs' := by injection hcs' with e; simpa using e
        rw [← e]
        exact World.rangeAt_setCells_same W p 0 cs (by simpa using hth)
    · have hg := (plain_spec hpl ho).1
      have nxt : ∀ u W', Below W.heap.size W W' → V i u W' → (RInv l a0 (fun _ W => BelX p w W) V (L.setIfInBounds i true) (a.put o.dst u) W' ∧ OwnBlk W' p T n ∧ ((L.setIfInBounds i true).getD iS false = true → ∀ cs : List Value, (a.put o.dst u).eval (.tmp kV) = .agg cs.toArray → W'.rangeAt p 0 cs)) := by
        intro u W' hb hV
        refine ⟨h.step hap hpl ho hi1 (h.cw.on hb) (fun j x hx => hVm j x W W' hb hx) (fun _ => hV), hpo.later hb, fun x cs hcs => ?_⟩
        have lS : L.getD iS false = true := (set_get x).resolve_left (fun e => eS e.symm)
        obtain ⟨e2, he2, hq2, hb2⟩ := waits_spec w2 hS
        have lV : L.getD iV false = true := by rw [← hq2]; exact hc iS oS e2 (by simpa using hS) he2 hb2 lS
        have hne : i ≠ iV := fun e => by subst e; rw [getD_flip hi1] at lV; cases lV
        have hput : (a.put o.dst u).eval (.tmp kV) = a.eval (.tmp kV) := by
          cases hd : o.dst with
          | none => rfl
          | some q => exact put_else _ _ _ _ (fun e => hne (apart_spec hap ho hV' (by rw [hd, e]) hVd))
        rw [hput] at hcs
        exact range_later (hr lS cs hcs) hpo.lt hb
      rcases hop i o ho eS a W h.cw (fun k hk => h.keep hk) (fun j o' k hj hk ⟨e, he, hej, hb⟩ => h.new j o' k hj hk (by rw [← hej]; exact hall e he hb)) with ⟨u, W', hr', hb, hV⟩ | ⟨f, args, hr', hk⟩
      · exact wpOp_value ho0 hg hr' (nxt u W' hb hV)
      · refine wpOp_enter ho0 hg hr' (hk.mono ?_)
        rintro e W' ⟨u, rfl, hb, hV⟩
        exact ⟨u, rfl, nxt u W' hb hV⟩
  · rintro L a W ⟨h, hpo, hr⟩ hrd
    have hall : ∀ i, i < l.length → L.getD i false = true := fun i hi => all_up hrd hasc (by simpa using h.len) i (by simpa using hi)
    have lt : ∀ {i : Nat} {o : Oper}, l[i]? = some o → i < l.length := fun hi => (List.getElem?_eq_some_iff.1 hi).1
    have e : a = putAll l a0 (fun k => a.eval (.tmp k)) := by
      have hs : ∀ o ∈ l, ∀ q, o.dst = some q → q < a0.tmps.size := fun o ho q hq => by
        obtain ⟨i, hi⟩ := List.getElem?_of_mem ho
        exact (plain_spec hpl hi).2 q hq
      refine act_ext (by rw [putAll_defers]; exact h.df) (by rw [putAll_size]; exact h.sz) fun k => ?_
      rw [putAll_eval l a0 _ k hs]
      by_cases hk : ∃ o ∈ l, o.dst = some k
      · rw [if_pos hk]
      · rw [if_neg hk]
        refine h.old k fun i o hi hd => absurd ⟨o, List.mem_of_getElem? hi, hd⟩ hk
    have := hend W (fun k => a.eval (.tmp k)) h.cw (fun i o k hi hd => h.new i o k hi hd (hall i (lt hi))) hpo (hr (hall iS (lt hS)))
    rw [← e] at this
    exact this
  · refine ⟨⟨by simp, ?_, rfl, rfl, fun _ _ => rfl, fun i o k hi _ hl => ?_⟩, ?_, fun hl => ?_⟩
    · exact (BelX.refl p w).drew
    · rw [rep_none] at hl; cases hl
    · exact hO.later (Below.drew (Below.refl _ _))
    · rw [rep_none] at hl; cases hl
  · unfold left
    exact Nat.le_trans List.countP_le_length (by simp)
end RY

end Go.Proofs.YtclagbakddkjcaaGreat

namespace Go.Proofs.YtclagbakddkjcaaGreat
open Go.RowKit Go.Deep

theorem app_new {P : Program} (base : Nat) (t ty e : TypeId) (size bytes : Nat) (z : Value) (ht : P.underlying t = some (.slice e)) (hinf : (P.info? e).map (fun i => (i.zero, i.size, i.bytes)) = some (some z, size, bytes)) (hzs : z.cells.size = size)
    (W : World) (g : Nat) (hg : W.heap[g]? = some (.cells #[] e (0, 0))) (hgb : base ≤ g) (a : Option Addr) (m c : Nat) (news : List Value) (hl : news.length = m * size)
    (hnews : ∀ ad, a = some ad → ∀ j u, news[j]? = some u → W.cell? (ad.add j) = some u) (hnone : a = none → m = 0) (h1 : ∀ u ∈ news, u.oneCell' = true) (hm : m ≤ 1048576) (hb : bytes ≤ 1000) (hbase : base ≤ W.heap.size) :
    ∃ v' W', (Builtin.append_ #[t, t] ty #[.slice (some ⟨g, 0, none⟩) 0 0, .slice a m c]).run P W = .ok v' W' ∧ W'.ownsRow base e size v' m news ∧ Below W.heap.size W W' := by
  obtain ⟨i, hi, ei⟩ := Option.map_eq_some_iff.1 hinf
  simp only [Prod.mk.injEq] at ei
  obtain ⟨hz, hs, hby⟩ := ei
  subst hs hby
  by_cases h0 : m = 0
  · subst h0
    obtain rfl : news = [] := List.eq_nil_of_length_eq_zero (by simpa using hl)
    have hsrc : Src P i.size t (.slice a 0 c) 0 [] W := by
      cases a with
      | none => exact Src.ofNil W ht c
      | some ad => exact Src.ofSlice W ht ad 0 c [] (by simp) (fun j u h => by simp at h) (fun u h => by cases h)
    have hr := run_append_room_src (P := P) W t t ty e i ht hi g 0 0 0 (.slice a 0 c) 0 [] hsrc (by omega) (fun j h => by simp at h) (fun j h => by simp at h)
    exact ⟨_, _, hr, ⟨by simp, .inr ⟨g, 0, #[], by simp, hgb, hg, by omega, by decide, by simp, by simp⟩⟩, Below.refl _ _⟩
  · obtain ⟨ad, rfl⟩ : ∃ ad, a = some ad := by
      cases a with
      | none => exact absurd (hnone rfl) h0
      | some ad => exact ⟨ad, rfl⟩
    have hmb : m * i.bytes ≤ 1048576 * 1000 := Nat.mul_le_mul hm hb
    have hr := run_append_grow (P := P) W t ty e i z ht hi hz ⟨g, 0, none⟩ 0 0 [] (by simp) (fun j v h => by simp at h) ad m c news hl (hnews ad rfl) (by omega) (by omega) (growslice_fits (by omega) (by rw [Nat.zero_add]; omega))
    rw [Nat.zero_add] at hr
    have hge := grownCap_ge W m 0 e
    refine ⟨_, _, hr, ⟨hl, .inr ⟨W.heap.size, _, _, rfl, hbase, heap_alloc_new W.drew _, hge, grownCap_le_maxLen W m 0 e (by unfold maxLen; omega), ?_, ?_⟩⟩, blw_alloc (Below.drew (Below.refl _ _)) _⟩
    · rw [Array.size_append, Array.size_append, size_zeroCells, hzs]
      simp only [List.size_toArray, List.length_nil, Nat.zero_add, hl]
      rw [← Nat.add_mul]
      congr 1
      omega
    · rw [← hl]
      simp

theorem flat_get {α : Type} (d : α) (f : α → List Value) (n : Nat) (hf : ∀ x, (f x).length = n) (Q : Nat → Value → Prop) : ∀ (l : List α) (o : Nat), (∀ i, i < l.length → ∀ k v, (f (l.getD i d))[k]? = some v → Q (o + i * n + k) v) → ∀ j u, (l.flatMap f)[j]? = some u → Q (o + j) u
  | [], _, _, j, u, hu => by simp at hu
  | x :: xs, o, h, j, u, hu => by
    rw [List.flatMap_cons] at hu
    by_cases hj : j < n
    · rw [List.getElem?_append_left (by rw [hf]; exact hj)] at hu
      have := h 0 (by simp) j u (by simpa using hu)
      simpa using this
    · rw [List.getElem?_append_right (by rw [hf]; omega), hf] at hu
      have := flat_get d f n hf Q xs (o + n) (fun i hi k v hv => by
        have := h (i + 1) (by simpa using hi) k v (by simpa using hv)
        rw [Nat.add_mul] at this
        have e : o + n + i * n + k = o + (i * n + 1 * n) + k := by omega
        rw [e]; exact this) (j - n) u hu
      have e : o + n + (j - n) = o + j := by omega
      rw [e] at this
      exact this
theorem flat_len {α : Type} (f : α → List Value) (n : Nat) (hf : ∀ x, (f x).length = n) : ∀ l : List α, (l.flatMap f).length = l.length * n
  | [] => by simp
  | x :: xs => by rw [List.flatMap_cons, List.length_append, hf, flat_len f n hf xs, List.length_cons, Nat.add_mul]; omega
theorem owns_on {w w' : World} {lo : Nat} {e : TypeId} {size : Nat} {v : Value} {n : Nat} {xs : List Value} (h : w.ownsRow lo e size v n xs) (hb : Below w.heap.size w w') : w'.ownsRow lo e size v n xs := by
  refine ⟨h.1, h.2.imp id ?_⟩
  rintro ⟨g, cap, cur, h1, h2, h3, h4⟩
  have hlt : g < w.heap.size := by
    rcases Nat.lt_or_ge g w.heap.size with q | q
    · exact q
    · rw [Array.getElem?_eq_none q] at h3; cases h3
  exact ⟨g, cap, cur, h1, h2, (hb.block g hlt).trans h3, h4⟩
theorem owns_sc {w : World} {lo p : Nat} {e : TypeId} {size : Nat} {v : Value} {n : Nat} {xs : List Value} (h : w.ownsRow lo e size v n xs) (hp : p < lo) (o : Nat) (x : Value) : (w.setCell ⟨p, o, none⟩ x).ownsRow lo e size v n xs := by
  refine ⟨h.1, h.2.imp id ?_⟩
  rintro ⟨g, cap, cur, h1, h2, h3, h4⟩
  exact ⟨g, cap, cur, h1, h2, (Below.heap_setCell w ⟨p, o, none⟩ x g (by show g ≠ p; omega)).trans h3, h4⟩

/-- An empty row of the region's own. -/
def Emp (w : World) (lo : Nat) (e : TypeId) (u : Value) : Prop := ∃ g, u = .slice (some ⟨g, 0, none⟩) 0 0 ∧ lo ≤ g ∧ w.heap[g]? = some (.cells #[] e (0, 0))
theorem Emp.on {w w' : World} {lo : Nat} {e : TypeId} {u : Value} (h : Emp w lo e u) (hb : Below w.heap.size w w') : Emp w' lo e u := by
  obtain ⟨g, h1, h2, h3⟩ := h
  have hlt : g < w.heap.size := by
    rcases Nat.lt_or_ge g w.heap.size with q | q
    · exact q
    · rw [Array.getElem?_eq_none q] at h3; cases h3
  exact ⟨g, h1, h2, (hb.block g hlt).trans h3⟩
theorem Emp.sc {w : World} {lo p : Nat} {e : TypeId} {u : Value} (h : Emp w lo e u) (hp : p < lo) (o : Nat) (x : Value) : Emp (w.setCell ⟨p, o, none⟩ x) lo e u := by
  obtain ⟨g, h1, h2, h3⟩ := h
  exact ⟨g, h1, h2, (Below.heap_setCell w ⟨p, o, none⟩ x g (by show g ≠ p; omega)).trans h3⟩

theorem exec_append {P : Program} {o : Oper} {a : Act} {W W' : World} {v x v' : Value} (s y : Operand) (t : TypeId) (hop : o.op = Op.call { callee := Callee.builtin Builtin.append, args := #[s, y], argTypes := #[t, t] }) (hs : a.eval s = v) (hx : a.eval y = x)
    (hrun : (Builtin.append_ #[t, t] o.type #[v, x]).run P W = .ok v' W') : (execOp a.eval o).run P W = .ok (.value v') W' := by
  simp [execOp, hop, resolve, invoke, builtin, hs, hx, hrun, Result.andThen]

end Go.Proofs.YtclagbakddkjcaaGreat
