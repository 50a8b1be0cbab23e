/-
  A region that draws its order: 'x := f(..)' over whatever arguments; what comes back from f lies in memory of its own.
-/
import Derived.Test.YtiiahpegdpbkgaaRgTw
namespace Go.Proofs.Ytiiahpegdpbkgaa
open Go.RowKit Go.Deep
namespace RY

structure Fx (v : World) (V : Nat → Value → World → Prop) (sh : List Sh) (A : List Dt) (T : TypeId) (n iV iA iS : Nat) (up : Nat → Bool) (vals : Nat → Value) (W : World) : Prop where
  bel : Below v.heap.size v W
  oth : ∀ j, j ≠ iV → j ≠ iA → up j = true → up iS = false → V j (vals j) W
  ptr : up iA = true → ∃ p, vals iA = .pointer (some ⟨p, 0, none⟩) ∧ v.heap.size ≤ p ∧ OwnBlk W p T n
  ans : up iV = true → ∃ c F, vals iV = .agg c.toArray ∧ Rep W false sh F A c ∧ F.Nodup ∧ (∀ b ∈ F, v.heap.size ≤ b) ∧ (∀ p, up iA = true → vals iA = .pointer (some ⟨p, 0, none⟩) → p ∉ F)
  sto : up iS = true → ∀ (p : Nat) (c : List Value), vals iA = .pointer (some ⟨p, 0, none⟩) → vals iV = .agg c.toArray → W.rangeAt p 0 c

theorem Fx.put {v : World} {V : Nat → Value → World → Prop} {sh : List Sh} {A : List Dt} {T : TypeId} {n iV iA iS : Nat} {up : Nat → Bool} {vals : Nat → Value} {W W' : World} (h : Fx v V sh A T n iV iA iS up vals W) (hs : up iS = false) (hVA : iV ≠ iA)
    (hVm : ∀ j u W W', Below W.heap.size W W' → V j u W → V j u W') (i : Nat) (u : Value) (hb : Below W.heap.size W W') (hiS : i ≠ iS)
    (eo : i ≠ iV → i ≠ iA → V i u W') (ep : i = iA → u = .pointer (some ⟨W.heap.size, 0, none⟩) ∧ OwnBlk W' W.heap.size T n)
    (ea : i = iV → ∃ c F, u = .agg c.toArray ∧ Rep W' false sh F A c ∧ F.Nodup ∧ ∀ b ∈ F, W.heap.size ≤ b) :
    Fx v V sh A T n iV iA iS (fun j => (j == i) || up j) (fun j => if j = i then u else vals j) W' := by
  have nu : ∀ {j : Nat}, ¬ j = i → ((j == i) || up j) = true → up j = true := fun e hu => by
    rw [show (_ == i) = false by simpa using e, Bool.false_or] at hu; exact hu
  refine ⟨blw_trans h.bel hb, fun j n1 n2 hu _ => ?_, fun hu => ?_, fun hu => ?_, fun hu => ?_⟩
  · show V j (if j = i then u else vals j) W'
    by_cases e : j = i
    · subst e; rw [if_pos rfl]; exact eo n1 n2
    · rw [if_neg e]; exact hVm _ _ _ _ hb (h.oth j n1 n2 (nu e hu) hs)
  · show ∃ p, (if iA = i then u else vals iA) = _ ∧ _
    by_cases e : iA = i
    · rw [if_pos e]; exact ⟨_, (ep e.symm).1, h.bel.size, (ep e.symm).2⟩
    · rw [if_neg e]
      obtain ⟨p, h1, h2, h3⟩ := h.ptr (nu e hu)
      exact ⟨p, h1, h2, h3.later hb⟩
  · show ∃ c F, (if iV = i then u else vals iV) = _ ∧ _
    by_cases e : iV = i
    · rw [if_pos e]
      obtain ⟨c, F, q, rep, nd, lo⟩ := ea e.symm
      refine ⟨c, F, q, rep, nd, fun b hb' => Nat.le_trans h.bel.size (lo b hb'), fun p h5 hp hF => ?_⟩
      have n5 : ¬ iA = i := fun e2 => hVA (e.trans e2.symm)
      have hp' : vals iA = .pointer (some ⟨p, 0, none⟩) := by
        have : (if iA = i then u else vals iA) = .pointer (some ⟨p, 0, none⟩) := hp
        rw [if_neg n5] at this; exact this
      obtain ⟨p', k1, _, k3⟩ := h.ptr (nu n5 h5)
      have := ptr_inj (hp'.symm.trans k1)
      have := k3.lt
      have := lo p hF
      omega
    · rw [if_neg e]
      obtain ⟨c, F, q, rep, nd, lo, dj⟩ := h.ans (nu e hu)
      refine ⟨c, F, q, rep.later hb, nd, lo, fun p h5 hp hF => ?_⟩
      by_cases n5 : iA = i
      · have hp' : u = .pointer (some ⟨p, 0, none⟩) := by
          have : (if iA = i then u else vals iA) = .pointer (some ⟨p, 0, none⟩) := hp
          rw [if_pos n5] at this; exact this
        have := ptr_inj (hp'.symm.trans (ep n5.symm).1)
        have := rep.lt p hF
        omega
      · have hp' : vals iA = .pointer (some ⟨p, 0, none⟩) := by
          have : (if iA = i then u else vals iA) = .pointer (some ⟨p, 0, none⟩) := hp
          rw [if_neg n5] at this; exact this
        exact dj p (nu n5 h5) hp' hF
  · have := nu (fun e => hiS e.symm) hu
    rw [hs] at this; cases this

theorem Fx.store {v : World} {V : Nat → Value → World → Prop} {sh : List Sh} {A : List Dt} {T : TypeId} {n iV iA iS : Nat} {up : Nat → Bool} {vals : Nat → Value} {W : World} (h : Fx v V sh A T n iV iA iS up vals W) (h5 : up iA = true) (h4 : up iV = true) {p : Nat} {c : List Value}
    (hp : vals iA = .pointer (some ⟨p, 0, none⟩)) (hc : vals iV = .agg c.toArray) (hl : c.length = n) : Fx v V sh A T n iV iA iS (fun j => (j == iS) || up j) vals (W.setCells p 0 c) := by
  obtain ⟨p', k1, k2, k3⟩ := h.ptr h5
  obtain rfl := ptr_inj (hp.symm.trans k1)
  obtain ⟨c', F, q, rep, nd, lo, dj⟩ := h.ans h4
  have hcc : c = c' := by
    have := hc.symm.trans q
    injection this with this; simpa using this
  subst hcc
  have hpF := dj p h5 hp
  refine ⟨blw_scs k2 _ _ _ h.bel, fun _ _ _ _ q6 => ?_, fun _ => ⟨p, hp, k2, own_scs c 0 _ k3⟩, fun _ => ⟨c, F, hc, ?_, nd, lo, fun p2 _ hp2 => by rw [← ptr_inj (hp.symm.trans hp2)]; exact hpF⟩, fun _ p2 c2 hp2 hc2 => ?_⟩
  · simp at q6
  · exact rep.keep (S := fun b => b = p) (mks_scs (S := fun b => b = p) rfl _ _ _) (fun b hb e => hpF (by rw [← e]; exact hb))
  · rw [← ptr_inj (hp.symm.trans hp2)]
    have : c2 = c := by
      have := hc2.symm.trans hc
      injection this with this; simpa using this
    rw [this]
    exact World.rangeAt_setCells_same _ _ _ _ (by rw [hl]; exact own_there k3)

theorem region_fx {P : Program} {id : Nat} {Q : Exit → Act → World → Prop} {a0 : Act} {w : World} {l : List Oper} (v : World) (hv : Below v.heap.size v w) (V : Nat → Value → World → Prop) (hVm : ∀ j u W W', Below W.heap.size W W' → V j u W → V j u W') (sh : List Sh) (A : List Dt) (T : TypeId) (n : Nat) (zs : List Value) (iV iA iS kV kA : Nat)
    (hm : P.follows .mixedOrders = true) (hasc : asc .any l.toArray = true) (hap : apartB l = true) (hpl : plainB l a0.tmps.size = true)
    (hclo : ((List.range l.length).all fun i => i == iS || (clo l 6 [iS]).contains i) = true) (hVA : iV ≠ iA)
    (oV oA oS : Oper) (qV : l[iV]? = some oV) (qA : l[iA]? = some oA) (qS : l[iS]? = some oS) (dV : oV.dst = some kV) (dA : oA.dst = some kA) (dS : oS.dst = none)
    (wV : waits l iS iV = true) (wA : waits l iS iA = true) (hno : ((List.range l.length).all fun i => i == iS || match l[i]? with
      | some o => o.dst.isSome
      | none => true) = true)
    (hzs : zs.length = n) (hsl : sh.length = n) (hinfo : (P.info? T).map (·.size) = some n)
    (hop : ∀ (i : Nat) (o : Oper), l[i]? = some o → i ≠ iV → i ≠ iA → i ≠ iS → ∀ (a : Act) (W : World), Below v.heap.size v W → (∀ k, noDst l k = true → a.eval (.tmp k) = a0.eval (.tmp k)) →
      (∀ (j : Nat) (o' : Oper) (k : Nat), l[j]? = some o' → o'.dst = some k → j ≠ iV → j ≠ iA → (∃ e ∈ o.after, e.on = j ∧ Region.binds .any e = true) → V j (a.eval (.tmp k)) W) → OpR P V i o a W)
    (hf : ∀ (a : Act) (W : World), Below v.heap.size v W → (∀ k, noDst l k = true → a.eval (.tmp k) = a0.eval (.tmp k)) →
      (∀ (j : Nat) (o' : Oper) (k : Nat), l[j]? = some o' → o'.dst = some k → j ≠ iV → j ≠ iA → (∃ e ∈ oV.after, e.on = j ∧ Region.binds .any e = true) → V j (a.eval (.tmp k)) W) → ∃ f args, (execOp a.eval oV).run P W = .ok (.enter f args) W ∧ Calls P f args W (Ans sh A W))
    (r5 : ∀ (a : Act) (W : World), (execOp a.eval oA).run P W = .ok (.value (.pointer (some ⟨W.heap.size, 0, none⟩))) (W.alloc (.cells zs.toArray T)))
    (hSo : oS.op = .store T (.tmp kA) (.tmp kV))
    (hend : ∀ (W : World) (vs : Nat → Value) (p : Nat) (c : List Value) (F : List Nat), Below v.heap.size v W → vs kA = .pointer (some ⟨p, 0, none⟩) → vs kV = .agg c.toArray → v.heap.size ≤ p → OwnBlk W p T n → W.rangeAt p 0 c → Rep W false sh F A c → F.Nodup → (∀ b ∈ F, v.heap.size ≤ b) → Q .normal (putAll l a0 vs) W) :
    (Code.region id l.toArray true).wp P Q a0 w := by
  refine region_TC (fun _ _ => True) (Fx v V sh A T n iV iA iS) hm hasc hap hpl ?_ ?_ ?_
  · intro vals
    exact ⟨Below.drew hv, fun _ _ _ h => absurd h (by decide), fun h => absurd h (by decide), fun h => absurd h (by decide), fun h => absurd h (by decide)⟩
  · intro up vals i o ho hu hcl a W hk hd hT
    have hlt : i < l.length := (List.getElem?_eq_some_iff.1 ho).1
    have hS0 : i ≠ iS → up iS = false := fun hn => by
      cases h : up iS
      · rfl
      · rw [List.all_eq_true] at hclo
        have h2 := hclo i (List.mem_range.2 hlt)
        rw [show (i == iS) = false by simpa using hn, Bool.false_or] at h2
        have := clo_up hcl 6 [iS] (fun j hj => by rw [List.mem_singleton.1 hj]; exact h) i (by simpa using h2)
        rw [hu] at this; cases this
    have hds : i ≠ iS → o.dst.isSome = true := fun hn => by
      rw [List.all_eq_true] at hno
      have h2 := hno i (List.mem_range.2 hlt)
      rw [show (i == iS) = false by simpa using hn, Bool.false_or, ho] at h2
      exact h2
    have dep : i ≠ iS → ∀ (j : Nat) (o' : Oper) (k : Nat), l[j]? = some o' → o'.dst = some k → j ≠ iV → j ≠ iA → (∃ e ∈ o.after, e.on = j ∧ Region.binds .any e = true) → V j (a.eval (.tmp k)) W := fun hn j o' k hj hk' n1 n2 hw => by
      obtain ⟨u1, e1, _⟩ := hd j o' k hj hk' hw
      rw [e1]; exact hT.oth j n1 n2 u1 (hS0 hn)
    by_cases eS : i = iS
    · subst eS
      rw [qS] at ho; injection ho with ho; subst ho
      obtain ⟨ed, he1, he2, he3⟩ := waits_spec wA qS
      obtain ⟨u5, e5, _⟩ := hd iA oA kA qA dA ⟨ed, he1, he2, he3⟩
      obtain ⟨ed, he1, he2, he3⟩ := waits_spec wV qS
      obtain ⟨u4, e4, _⟩ := hd iV oV kV qV dV ⟨ed, he1, he2, he3⟩
      obtain ⟨p, hp, hpv, hpo⟩ := hT.ptr u5
      obtain ⟨c, F, hc, rep, _⟩ := hT.ans u4
      have hcn : c.length = n := rep.len.trans hsl
      have hth : W.there p 0 c.toArray.size := by rw [show c.toArray.size = n by simpa using hcn]; exact own_there hpo
      have hrun : (execOp a.eval oS).run P W = .ok .skip (W.setCells p 0 c) := by
        unfold execOp
        simp only [hSo, e5, e4, hp, hc, Instr.storeAt, Instr.sureAddr, Sem.run_bind, Sem.run_pure, Result.andThen_ok, run_storeVar_mid W p 0 T c.toArray hth (by rw [hinfo]; simp [hcn]) (all_oneCell_toArray rep.raw.one)]
      exact Or.inr (Or.inl ⟨_, hrun, dS, hT.store u5 u4 hp hc hcn⟩)
    · by_cases eA : i = iA
      · subst eA
        rw [qA] at ho; injection ho with ho; subst ho
        exact Or.inl ⟨_, _, r5 a W, by rw [dA]; rfl, trivial, hT.put (hS0 eS) hVA hVm i _ (blw_alloc (Below.refl _ _) _) eS (fun _ h => absurd rfl h) (fun _ => ⟨rfl, OwnBlk.alloc W _ T n (by simpa using hzs)⟩) (fun e => absurd e.symm hVA)⟩
      · by_cases eV : i = iV
        · subst eV
          rw [qV] at ho; injection ho with ho; subst ho
          obtain ⟨f, args, hr, hc⟩ := hf a W hT.bel hk (dep eS)
          refine Or.inr (Or.inr ⟨f, args, hr, by rw [dV]; rfl, hc.mono ?_⟩)
          rintro e W' ⟨c, F, rfl, rep, nd, lo, hb⟩
          exact ⟨_, rfl, trivial, hT.put (hS0 eS) hVA hVm i _ hb eS (fun h => absurd rfl h) (fun e => absurd e eA) (fun _ => ⟨c, F, rfl, rep, nd, lo⟩)⟩
        · rcases hop i o ho eV eA eS a W hT.bel hk (dep eS) with ⟨u, W', hr, hb, hV⟩ | ⟨f, args, hr, hc⟩
          · exact Or.inl ⟨u, W', hr, hds eS, trivial, hT.put (hS0 eS) hVA hVm i u hb eS (fun _ _ => hV) (fun e => absurd e eA) (fun e => absurd e eV)⟩
          · refine Or.inr (Or.inr ⟨f, args, hr, hds eS, hc.mono ?_⟩)
            rintro e W' ⟨u, rfl, hb, hV⟩
            exact ⟨u, rfl, trivial, hT.put (hS0 eS) hVA hVm i u hb eS (fun _ _ => hV) (fun e => absurd e eA) (fun e => absurd e eV)⟩
  · intro up vals vs W hup hvs hT
    obtain ⟨p, hp, hpv, hpo⟩ := hT.ptr (hup iA (List.getElem?_eq_some_iff.1 qA).1)
    obtain ⟨c, F, hc, rep, nd, lo, _⟩ := hT.ans (hup iV (List.getElem?_eq_some_iff.1 qV).1)
    exact hend W vs p c F hT.bel ((hvs iA oA kA qA dA).1.trans hp) ((hvs iV oV kV qV dV).1.trans hc) hpv hpo (hT.sto (hup iS (List.getElem?_eq_some_iff.1 qS).1) p c hp hc) rep nd lo
end RY
end Go.Proofs.Ytiiahpegdpbkgaa
