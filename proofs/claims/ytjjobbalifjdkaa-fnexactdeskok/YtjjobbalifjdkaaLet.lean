/-
  A region that draws its order and ends by storing a value into a variable that it makes.
-/
import Derived.Deep.MidRow
import Derived.Test.YtjjobbalifjdkaaRel
namespace Go.Proofs.Ytjjobbalifjdkaa
open Go.RowKit Go.Deep

theorem exec_load_mid {P : Program} {op : Oper} {a : Act} {W : World} (ty : TypeId) (x : Operand) (ho : op.op = .load ty x) (b o : Nat) (hx : a.eval x = .pointer (some ⟨b, o, none⟩)) (cs : List Value) (d : TypeDesc) (hc : World.rangeAt W b o cs)
    (hu : P.underlying ty = some d) (hd : d.isRow = true) (hi : (P.info? ty).map (·.size) = some cs.length) : (execOp a.eval op).run P W = .ok (.value (.agg cs.toArray)) W := by
  unfold execOp
  simp only [ho, hx, Instr.loadAt, Instr.sureAddr, Sem.run_bind, Sem.run_pure, Result.andThen_ok, run_loadVar_mid W b o ty cs d hc hu hd hi]
theorem rangeAt_later {W W' : World} {b o : Nat} {cs : List Value} (h : W.rangeAt b o cs) (hb : b < W.heap.size) (hB : Below W.heap.size W W') : W'.rangeAt b o cs := fun j v hv => (hB.cell (p := ⟨b, o + j, none⟩) hb).trans (h j v hv)

namespace RY
/-- The operation i waits for j. -/
def waits (l : List Oper) (i j : Nat) : Bool := match l[i]? with
  | some o => o.after.any fun e => e.on == j && Region.binds .any e
  | none => false
theorem waits_spec {l : List Oper} {i j : Nat} {o : Oper} (h : waits l i j = true) (ho : l[i]? = some o) : ∃ e ∈ o.after, e.on = j ∧ Region.binds .any e = true := by
  unfold waits at h
  rw [ho] at h
  obtain ⟨m, hm, hq⟩ := Array.any_eq_true.1 h
  simp only [Bool.and_eq_true, beq_iff_eq] at hq
  exact ⟨_, Array.getElem_mem hm, hq.1, hq.2⟩

theorem range_later {W W' : World} {p : Nat} {cs : List Value} (h : W.rangeAt p 0 cs) (hp : p < W.heap.size) (hb : Below W.heap.size W W') : W'.rangeAt p 0 cs := fun j v hv =>
  (hb.cell (p := ⟨p, 0 + j, none⟩) hp).trans (h j v hv)

theorem own_setCells {p : Nat} {t : TypeId} {n : Nat} : ∀ (cs : List Value) (o : Nat) (W : World), OwnBlk W p t n → OwnBlk (W.setCells p o cs) p t n
  | [], _, _, h => h
  | v :: vs, o, W, h => by rw [World.setCells]; exact own_setCells vs (o + 1) _ (h.setCell o v)
theorem below_setCells {v : World} {p : Nat} (hp : v.heap.size ≤ p) : ∀ (cs : List Value) (o : Nat) (W : World), Below v.heap.size v W → Below v.heap.size v (W.setCells p o cs)
  | [], _, _, h => h
  | x :: vs, o, W, h => by rw [World.setCells]; exact below_setCells hp vs (o + 1) _ (h.setCell (p := ⟨p, o, none⟩) hp x)
theorem own_there {W : World} {p : Nat} {t : TypeId} {n : Nat} (h : OwnBlk W p t n) : W.there p 0 n := fun j hj => by
  obtain ⟨u, hu⟩ := h.cell (0 + j) (by omega)
  exact ⟨by rw [hu]; rfl, h.frozen _⟩

/-- A region that draws its order, unguarded, each slot written once; it makes a variable (iA) and stores what iV yields into it (iS). -/
theorem region_let {P : Program} {id : Nat} {Q : Exit → Act → World → Prop} {a0 : Act} {w : World} {l : List Oper} (v : World) (hv : Below v.heap.size v w) (V : Nat → Value → Prop) (iA iV iS kA kV T n : Nat) (cs zs : List Value) (hm : P.follows .mixedOrders = true)
    (hasc : asc .any l.toArray = true) (hap : apartB l = true) (hpl : plainB l a0.tmps.size = true)
    (oA oV oS : Oper) (hA : l[iA]? = some oA) (hV' : l[iV]? = some oV) (hS : l[iS]? = some oS) (hAd : oA.dst = some kA) (hVd : oV.dst = some kV) (hSd : oS.dst = none) (hSo : oS.op = .store T (.tmp kA) (.tmp kV)) (hAS : iA ≠ iS) (hAV : iA ≠ iV) (hVS : iV ≠ iS)
    (w1 : waits l iS iA = true) (w2 : waits l iS iV = true)
    (hzs : zs.length = n) (hAr : ∀ (a : Act) (W : World), (execOp a.eval oA).run P W = .ok (.value (.pointer (some ⟨W.heap.size, 0, none⟩))) (W.alloc (.cells zs.toArray T)))
    (hcn : cs.length = n) (hone : ∀ x ∈ cs, x.oneCell' = true) (hinfo : (P.info? T).map (·.size) = some n) (hVv : ∀ u, V iV u → u = .agg cs.toArray)
    (hop : ∀ (i : Nat) (o : Oper), l[i]? = some o → i ≠ iA → i ≠ iS → ∀ (a : Act) (W : World), Below v.heap.size v W → (∀ k, noDst l k = true → a.eval (.tmp k) = a0.eval (.tmp k)) →
      (∀ (j : Nat) (o' : Oper) (k : Nat), l[j]? = some o' → o'.dst = some k → j ≠ iA → (∃ e ∈ o.after, e.on = j ∧ Region.binds .any e = true) → V j (a.eval (.tmp k))) → OpR P (fun i u _ => V i u) i o a W)
    (hend : ∀ (W : World) (vs : Nat → Value) (p : Nat), Below v.heap.size v W → (∀ (i : Nat) (o : Oper) (k : Nat), l[i]? = some o → o.dst = some k → i ≠ iA → V i (vs k)) → vs kA = .pointer (some ⟨p, 0, none⟩) → v.heap.size ≤ p → OwnBlk W p T n → W.rangeAt p 0 cs → Q .normal (putAll l a0 vs) W) :
    (Code.region id l.toArray true).wp P Q a0 w := by
  have hSg := (plain_spec hpl hS).1
  have hAg := (plain_spec hpl hA).1
  refine wp_region_any hm ?_
  refine wpAny_inv (fun L a W => RInv l a0 (fun _ W => Below v.heap.size v W) (fun j u _ => j ≠ iA → V j u) L a W ∧ (L.getD iA false = true → ∃ p, a.eval (.tmp kA) = .pointer (some ⟨p, 0, none⟩) ∧ v.heap.size ≤ p ∧ OwnBlk W p T n ∧ (L.getD iS false = true → W.rangeAt p 0 cs))) ?_ ?_ _ _ _ _ ?_ (Closed.none _ (rep_none _)) ?_
  · rintro L a W i ⟨h, hp⟩ hc hi
    obtain ⟨hi1, o, ho0, hall⟩ := mem_ready.1 hi
    have ho : l[i]? = some o := by simpa using ho0
    by_cases eA : i = iA
    · subst eA
      rw [hA] at ho; injection ho with ho; subst ho
      have hb : Below W.heap.size W (W.alloc (.cells zs.toArray T)) := blw_alloc (Below.refl _ _) _
      have hlt : kA < a.tmps.size := by rw [h.sz]; exact (plain_spec hpl hA).2 kA hAd
      refine wpOp_value ho0 hAg (hAr a W) ⟨h.step hap hpl hA hi1 (blw_trans h.cw hb) (fun _ _ hx => hx) (fun _ hne => absurd rfl hne), fun _ => ⟨W.heap.size, ?_, h.cw.size, OwnBlk.alloc W _ T n (by simpa using hzs), fun hs => ?_⟩⟩
      · rw [hAd, put_same _ _ _ hlt]
      · rcases set_get hs with e | e
        · exact absurd e.symm hAS
        · obtain ⟨ed, hed, heo, heb⟩ := waits_spec w1 hS
          have := hc iS oS ed (by simpa using hS) hed heb e
          rw [heo, getD_flip hi1] at this; cases this
    · by_cases eS : i = iS
      · subst eS
        rw [hS] at ho; injection ho with ho; subst ho
        obtain ⟨e1, he1, hq1, hb1⟩ := waits_spec w1 hS
        obtain ⟨e2, he2, hq2, hb2⟩ := waits_spec w2 hS
        have l1 : L.getD iA false = true := by rw [← hq1]; exact hall e1 he1 hb1
        have l2 : L.getD iV false = true := by rw [← hq2]; exact hall e2 he2 hb2
        obtain ⟨p, hpe, hpv, hpo, _⟩ := hp l1
        have hv2 := hVv _ (h.new iV oV kV hV' hVd l2 (Ne.symm hAV))
        have hth : W.there p 0 cs.toArray.size := by rw [show cs.toArray.size = n by simpa using hcn]; exact own_there hpo
        have hrun : (execOp a.eval oS).run P W = .ok .skip (W.setCells p 0 cs) := by
          unfold execOp
          simp only [hSo, hpe, hv2, Instr.storeAt, Instr.sureAddr, Sem.run_bind, Sem.run_pure, Result.andThen_ok, run_storeVar_mid W p 0 T cs.toArray hth (by rw [hinfo]; simp [hcn]) (all_oneCell_toArray hone)]
        refine wpOp_skip ho0 hSg hrun ?_
        rw [hSd, put_none]
        have hB := below_setCells hpv cs 0 W h.cw
        refine ⟨?_, fun _ => ⟨p, hpe, hpv, own_setCells cs 0 W hpo, fun _ => World.rangeAt_setCells_same W p 0 cs (by simpa using hth)⟩⟩
        have := h.step hap hpl hS hi1 (u := undef) (W' := W.setCells p 0 cs) hB (fun _ _ hx => hx) (fun hd => by rw [hSd] at hd; cases hd)
        rw [hSd, put_none] at this
        exact this
      · have hg := (plain_spec hpl ho).1
        have hne : o.dst ≠ some kA := fun hd => eA (apart_spec hap ho hA hd hAd)
        have hput : ∀ u, (a.put o.dst u).eval (.tmp kA) = a.eval (.tmp kA) := fun u => by
          cases hd : o.dst with
          | none => rfl
          | some q => exact put_else _ _ _ _ (fun e => hne (by rw [hd, e]))
        have e1 : (L.setIfInBounds i true).getD iA false = true → L.getD iA false = true := fun x => (set_get x).resolve_left (fun e => eA e.symm)
        have e2 : (L.setIfInBounds i true).getD iS false = true → L.getD iS false = true := fun x => (set_get x).resolve_left (fun e => eS e.symm)
        have nxt : ∀ u W', Below W.heap.size W W' → V i u → (RInv l a0 (fun _ W => Below v.heap.size v W) (fun j u _ => j ≠ iA → V j u) (L.setIfInBounds i true) (a.put o.dst u) W' ∧ ((L.setIfInBounds i true).getD iA false = true → ∃ p, (a.put o.dst u).eval (.tmp kA) = .pointer (some ⟨p, 0, none⟩) ∧ v.heap.size ≤ p ∧ OwnBlk W' p T n ∧ ((L.setIfInBounds i true).getD iS false = true → W'.rangeAt p 0 cs))) := by
          intro u W' hb hV
          refine ⟨h.step hap hpl ho hi1 (blw_trans h.cw hb) (fun _ _ hx => hx) (fun _ _ => hV), fun x => ?_⟩
          obtain ⟨p, q1, q2, q3, q4⟩ := hp (e1 x)
          exact ⟨p, by rw [hput]; exact q1, q2, q3.later hb, fun y => range_later (q4 (e2 y)) q3.lt hb⟩
        rcases hop i o ho eA eS a W h.cw (fun k hk => h.keep hk) (fun j o' k hj hk hjA ⟨e, he, hej, hb⟩ => h.new j o' k hj hk (by rw [← hej]; exact hall e he hb) hjA) with ⟨u, W', hr, hb, hV⟩ | ⟨f, args, hr, hk⟩
        · exact wpOp_value ho0 hg hr (nxt u W' hb hV)
        · refine wpOp_enter ho0 hg hr (hk.mono ?_)
          rintro e W' ⟨u, rfl, hb, hV⟩
          exact ⟨u, rfl, nxt u W' hb hV⟩
  · rintro L a W ⟨h, hp⟩ hr
    have hall : ∀ i, i < l.length → L.getD i false = true := fun i hi => all_up hr hasc (by simpa using h.len) i (by simpa using hi)
    have lt : ∀ {i : Nat} {o : Oper}, l[i]? = some o → i < l.length := fun hi => (List.getElem?_eq_some_iff.1 hi).1
    have e : a = putAll l a0 (fun k => a.eval (.tmp k)) := by
      have hs : ∀ o ∈ l, ∀ q, o.dst = some q → q < a0.tmps.size := fun o ho q hq => by
        obtain ⟨i, hi⟩ := List.getElem?_of_mem ho
        exact (plain_spec hpl hi).2 q hq
      refine act_ext (by rw [putAll_defers]; exact h.df) (by rw [putAll_size]; exact h.sz) fun k => ?_
      rw [putAll_eval l a0 _ k hs]
      by_cases hk : ∃ o ∈ l, o.dst = some k
      · rw [if_pos hk]
      · rw [if_neg hk]
        refine h.old k fun i o hi hd => absurd ⟨o, List.mem_of_getElem? hi, hd⟩ hk
    obtain ⟨p, q1, q2, q3, q4⟩ := hp (hall iA (lt hA))
    have := hend W (fun k => a.eval (.tmp k)) p h.cw (fun i o k hi hd hne => h.new i o k hi hd (hall i (lt hi)) hne) q1 q2 q3 (q4 (hall iS (lt hS)))
    rw [← e] at this
    exact this
  · refine ⟨⟨by simp, ?_, rfl, rfl, fun _ _ => rfl, fun i o k hi _ hl => ?_⟩, fun hl => ?_⟩
    · exact Below.drew hv
    · rw [rep_none] at hl; cases hl
    · rw [rep_none] at hl; cases hl
  · unfold left
    exact Nat.le_trans List.countP_le_length (by simp)
end RY

end Go.Proofs.Ytjjobbalifjdkaa
