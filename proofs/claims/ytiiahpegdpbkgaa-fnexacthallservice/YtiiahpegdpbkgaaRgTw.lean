/-
  A region that draws its order: 'x := f(g(a), h(b))'; what comes back from f lies in memory of its own.
-/
import Derived.Test.YtiiahpegdpbkgaaRgF
import Derived.Test.YtiiahpegdpbkgaaRegC
import Derived.Test.YtiiahpegdpbkgaaUL
namespace Go.Proofs.Ytiiahpegdpbkgaa
open Go.RowKit Go.Deep
namespace RY

structure Tw (v : World) (g1 g3 : Value → World → Prop) (sh : List Sh) (A : List Dt) (T : TypeId) (n : Nat) (up : Nat → Bool) (vals : Nat → Value) (W : World) : Prop where
  bel : Below v.heap.size v W
  one : up 1 = true → up 6 = false → g1 (vals 1) W
  thr : up 3 = true → up 6 = false → g3 (vals 3) W
  fiv : up 5 = true → ∃ p, vals 5 = .pointer (some ⟨p, 0, none⟩) ∧ v.heap.size ≤ p ∧ OwnBlk W p T n
  fou : up 4 = true → ∃ c F, vals 4 = .agg c.toArray ∧ Rep W false sh F A c ∧ F.Nodup ∧ (∀ b ∈ F, v.heap.size ≤ b) ∧ (∀ p, up 5 = true → vals 5 = .pointer (some ⟨p, 0, none⟩) → p ∉ F)
  six : up 6 = true → ∀ (p : Nat) (c : List Value), vals 5 = .pointer (some ⟨p, 0, none⟩) → vals 4 = .agg c.toArray → W.rangeAt p 0 c

theorem ptr_inj {p q : Nat} (h : Value.pointer (some ⟨p, 0, none⟩) = .pointer (some ⟨q, 0, none⟩)) : p = q := by
  injection h with h; injection h with h; injection h

theorem Tw.put {v : World} {g1 g3 : Value → World → Prop} {sh : List Sh} {A : List Dt} {T : TypeId} {n : Nat} {up : Nat → Bool} {vals : Nat → Value} {W W' : World} (h : Tw v g1 g3 sh A T n up vals W) (h6 : up 6 = false)
    (m1 : ∀ u W W', Below W.heap.size W W' → g1 u W → g1 u W') (m3 : ∀ u W W', Below W.heap.size W W' → g3 u W → g3 u W') (i : Nat) (u : Value) (hb : Below W.heap.size W W') (hi6 : i ≠ 6)
    (e1 : i = 1 → g1 u W') (e3 : i = 3 → g3 u W') (e5 : i = 5 → u = .pointer (some ⟨W.heap.size, 0, none⟩) ∧ OwnBlk W' W.heap.size T n)
    (e4 : i = 4 → ∃ c F, u = .agg c.toArray ∧ Rep W' false sh F A c ∧ F.Nodup ∧ ∀ b ∈ F, W.heap.size ≤ b) :
    Tw v g1 g3 sh A T n (fun j => (j == i) || up j) (fun j => if j = i then u else vals j) W' := by
  have nu : ∀ {j : Nat}, ¬ j = i → ((j == i) || up j) = true → up j = true := fun e hu => by
    rw [show (_ == i) = false by simpa using e, Bool.false_or] at hu; exact hu
  refine ⟨blw_trans h.bel hb, fun hu _ => ?_, fun hu _ => ?_, fun hu => ?_, fun hu => ?_, fun hu => ?_⟩
  · by_cases e : 1 = i
    · show g1 (if 1 = i then u else vals 1) W'
      rw [if_pos e]; exact e1 e.symm
    · show g1 (if 1 = i then u else vals 1) W'
      rw [if_neg e]; exact m1 _ _ _ hb (h.one (nu e hu) h6)
  · by_cases e : 3 = i
    · show g3 (if 3 = i then u else vals 3) W'
      rw [if_pos e]; exact e3 e.symm
    · show g3 (if 3 = i then u else vals 3) W'
      rw [if_neg e]; exact m3 _ _ _ hb (h.thr (nu e hu) h6)
  · show ∃ p, (if 5 = i then u else vals 5) = _ ∧ _
    by_cases e : 5 = i
    · rw [if_pos e]; exact ⟨_, (e5 e.symm).1, h.bel.size, (e5 e.symm).2⟩
    · rw [if_neg e]
      obtain ⟨p, h1, h2, h3⟩ := h.fiv (nu e hu)
      exact ⟨p, h1, h2, h3.later hb⟩
  · show ∃ c F, (if 4 = i then u else vals 4) = _ ∧ _
    by_cases e : 4 = i
    · rw [if_pos e]
      obtain ⟨c, F, q, rep, nd, lo⟩ := e4 e.symm
      refine ⟨c, F, q, rep, nd, fun b hb' => Nat.le_trans h.bel.size (lo b hb'), fun p h5 hp hF => ?_⟩
      have n5 : ¬ 5 = i := by omega
      have hp' : vals 5 = .pointer (some ⟨p, 0, none⟩) := by
        have : (if 5 = i then u else vals 5) = .pointer (some ⟨p, 0, none⟩) := hp
        rw [if_neg n5] at this; exact this
      obtain ⟨p', k1, _, k3⟩ := h.fiv (nu n5 h5)
      have := ptr_inj (hp'.symm.trans k1)
      have := k3.lt
      have := lo p hF
      omega
    · rw [if_neg e]
      obtain ⟨c, F, q, rep, nd, lo, dj⟩ := h.fou (nu e hu)
      refine ⟨c, F, q, rep.later hb, nd, lo, fun p h5 hp hF => ?_⟩
      by_cases n5 : 5 = i
      · have hp' : u = .pointer (some ⟨p, 0, none⟩) := by
          have : (if 5 = i then u else vals 5) = .pointer (some ⟨p, 0, none⟩) := hp
          rw [if_pos n5] at this; exact this
        have := ptr_inj (hp'.symm.trans (e5 n5.symm).1)
        have := rep.lt p hF
        omega
      · have hp' : vals 5 = .pointer (some ⟨p, 0, none⟩) := by
          have : (if 5 = i then u else vals 5) = .pointer (some ⟨p, 0, none⟩) := hp
          rw [if_neg n5] at this; exact this
        exact dj p (nu n5 h5) hp' hF
  · have := nu (fun e => hi6 e.symm) hu
    rw [h6] at this; cases this

theorem Tw.store {v : World} {g1 g3 : Value → World → Prop} {sh : List Sh} {A : List Dt} {T : TypeId} {n : Nat} {up : Nat → Bool} {vals : Nat → Value} {W : World} (h : Tw v g1 g3 sh A T n up vals W) (h5 : up 5 = true) (h4 : up 4 = true) {p : Nat} {c : List Value}
    (hp : vals 5 = .pointer (some ⟨p, 0, none⟩)) (hc : vals 4 = .agg c.toArray) (hl : c.length = n) : Tw v g1 g3 sh A T n (fun j => (j == 6) || up j) vals (W.setCells p 0 c) := by
  obtain ⟨p', k1, k2, k3⟩ := h.fiv h5
  obtain rfl := ptr_inj (hp.symm.trans k1)
  obtain ⟨c', F, q, rep, nd, lo, dj⟩ := h.fou h4
  have hcc : c = c' := by
    have := hc.symm.trans q
    injection this with this; simpa using this
  subst hcc
  have hpF := dj p h5 hp
  refine ⟨blw_scs k2 _ _ _ h.bel, fun _ q6 => ?_, fun _ q6 => ?_, fun _ => ⟨p, hp, k2, own_scs c 0 _ k3⟩, fun _ => ⟨c, F, hc, ?_, nd, lo, fun p2 _ hp2 => by rw [← ptr_inj (hp.symm.trans hp2)]; exact hpF⟩, fun _ p2 c2 hp2 hc2 => ?_⟩
  · simp at q6
  · simp at q6
  · exact rep.keep (S := fun b => b = p) (mks_scs (S := fun b => b = p) rfl _ _ _) (fun b hb e => hpF (by rw [← e]; exact hb))
  · rw [← ptr_inj (hp.symm.trans hp2)]
    have : c2 = c := by
      have := hc2.symm.trans hc
      injection this with this; simpa using this
    rw [this]
    exact World.rangeAt_setCells_same _ _ _ _ (by rw [hl]; exact own_there k3)
theorem region_two {P : Program} {id : Nat} {Q : Exit → Act → World → Prop} {a0 : Act} {w : World} {l : List Oper} (v : World) (hv : Below v.heap.size v w) (g1 g3 : Value → World → Prop) (sh : List Sh) (A : List Dt) (T : TypeId) (n : Nat) (zs : List Value) (v0 v2 : Value)
    (m1 : ∀ u W W', Below W.heap.size W W' → g1 u W → g1 u W') (m3 : ∀ u W W', Below W.heap.size W W' → g3 u W → g3 u W')
    (hm : P.follows .mixedOrders = true) (hasc : asc .any l.toArray = true) (hap : apartB l = true) (hpl : plainB l a0.tmps.size = true)
    (hclo : ((List.range 6).all fun i => (clo l 4 [6]).contains i) = true)
    (o0 o1 o2 o3 o4 o5 o6 : Oper) (hl : l = [o0, o1, o2, o3, o4, o5, o6]) (k0 k1 k2 k3 k4 k5 : Nat) (d0 : o0.dst = some k0) (d1 : o1.dst = some k1) (d2 : o2.dst = some k2) (d3 : o3.dst = some k3) (d4 : o4.dst = some k4) (d5 : o5.dst = some k5) (d6 : o6.dst = none)
    (w10 : waits l 1 0 = true) (w32 : waits l 3 2 = true) (w41 : waits l 4 1 = true) (w43 : waits l 4 3 = true) (w64 : waits l 6 4 = true) (w65 : waits l 6 5 = true)
    (hzs : zs.length = n) (hsl : sh.length = n) (hinfo : (P.info? T).map (·.size) = some n)
    (r0 : ∀ (a : Act) (W : World), Below v.heap.size v W → (∀ k, noDst l k = true → a.eval (.tmp k) = a0.eval (.tmp k)) → (execOp a.eval o0).run P W = .ok (.value v0) W)
    (r2 : ∀ (a : Act) (W : World), Below v.heap.size v W → (∀ k, noDst l k = true → a.eval (.tmp k) = a0.eval (.tmp k)) → (execOp a.eval o2).run P W = .ok (.value v2) W)
    (r1 : ∀ (a : Act) (W : World), Below v.heap.size v W → a.eval (.tmp k0) = v0 → ∃ f args, (execOp a.eval o1).run P W = .ok (.enter f args) W ∧ Calls P f args W fun e W' => ∃ u, e = .returned u ∧ g1 u W' ∧ Below W.heap.size W W')
    (r3 : ∀ (a : Act) (W : World), Below v.heap.size v W → a.eval (.tmp k2) = v2 → ∃ f args, (execOp a.eval o3).run P W = .ok (.enter f args) W ∧ Calls P f args W fun e W' => ∃ u, e = .returned u ∧ g3 u W' ∧ Below W.heap.size W W')
    (r4 : ∀ (a : Act) (W : World), Below v.heap.size v W → g1 (a.eval (.tmp k1)) W → g3 (a.eval (.tmp k3)) W → ∃ f args, (execOp a.eval o4).run P W = .ok (.enter f args) W ∧ Calls P f args W (Ans sh A W))
    (r5 : ∀ (a : Act) (W : World), (execOp a.eval o5).run P W = .ok (.value (.pointer (some ⟨W.heap.size, 0, none⟩))) (W.alloc (.cells zs.toArray T)))
    (hSo : o6.op = .store T (.tmp k5) (.tmp k4))
    (hend : ∀ (W : World) (vs : Nat → Value) (p : Nat) (c : List Value) (F : List Nat), Below v.heap.size v W → vs k5 = .pointer (some ⟨p, 0, none⟩) → vs k4 = .agg c.toArray → v.heap.size ≤ p → OwnBlk W p T n → W.rangeAt p 0 c → Rep W false sh F A c → F.Nodup → (∀ b ∈ F, v.heap.size ≤ b) → Q .normal (putAll l a0 vs) W) :
    (Code.region id l.toArray true).wp P Q a0 w := by
  have g : ∀ {i j : Nat} {o : Oper}, waits l i j = true → l[i]? = some o → ∃ e ∈ o.after, e.on = j ∧ Region.binds .any e = true := fun hw ho => by
    obtain ⟨e, h1, h2, h3⟩ := waits_spec hw ho; exact ⟨e, h1, h2, h3⟩
  have q0 : l[0]? = some o0 := by rw [hl]; rfl
  have q1 : l[1]? = some o1 := by rw [hl]; rfl
  have q2 : l[2]? = some o2 := by rw [hl]; rfl
  have q3 : l[3]? = some o3 := by rw [hl]; rfl
  have q4 : l[4]? = some o4 := by rw [hl]; rfl
  have q5 : l[5]? = some o5 := by rw [hl]; rfl
  have q6 : l[6]? = some o6 := by rw [hl]; rfl
  refine region_TC (fun j u => (j = 0 → u = v0) ∧ (j = 2 → u = v2)) (Tw v g1 g3 sh A T n) hm hasc hap hpl ?_ ?_ ?_
  · intro vals
    exact ⟨Below.drew hv, fun h => absurd h (by decide), fun h => absurd h (by decide), fun h => absurd h (by decide), fun h => absurd h (by decide), fun h => absurd h (by decide)⟩
  · intro up vals i o ho hu hcl a W hk hd hT
    have h6 : i ≠ 6 → up 6 = false := fun hn => by
      cases h : up 6
      · rfl
      · have hlt : i < 7 := by
          have := (List.getElem?_eq_some_iff.1 ho).1
          rw [hl] at this; simpa using this
        rw [List.all_eq_true] at hclo
        have := clo_up hcl 4 [6] (fun j hj => by rw [List.mem_singleton.1 hj]; exact h) i (by simpa using hclo i (List.mem_range.2 (by omega)))
        rw [hu] at this; cases this
    have no : ∀ {k : Nat}, ¬ k = i → i = k → False := fun h e => h e.symm
    have big : i = 0 ∨ i = 1 ∨ i = 2 ∨ i = 3 ∨ i = 4 ∨ i = 5 ∨ i = 6 := by
      have := (List.getElem?_eq_some_iff.1 ho).1
      rw [hl] at this
      have : i < 7 := by simpa using this
      omega
    rcases big with e | e | e | e | e | e | e <;> subst e
    · rw [q0] at ho; injection ho with ho; subst ho
      exact Or.inl ⟨v0, W, r0 a W hT.bel hk, by rw [d0]; rfl, ⟨fun _ => rfl, fun e => absurd e (by decide)⟩, hT.put (h6 (by omega)) m1 m3 0 v0 (Below.refl _ _) (by omega) (fun e => absurd e (by decide)) (fun e => absurd e (by decide)) (fun e => absurd e (by decide)) (fun e => absurd e (by decide))⟩
    · rw [q1] at ho; injection ho with ho; subst ho
      obtain ⟨_, e0, hV0, _⟩ := hd 0 o0 k0 q0 d0 (g w10 q1)
      obtain ⟨f, args, hr, hc⟩ := r1 a W hT.bel (e0.trans (hV0 rfl))
      refine Or.inr (Or.inr ⟨f, args, hr, by rw [d1]; rfl, hc.mono ?_⟩)
      rintro e W' ⟨u, rfl, hg, hb⟩
      exact ⟨u, rfl, ⟨fun e => absurd e (by decide), fun e => absurd e (by decide)⟩, hT.put (h6 (by omega)) m1 m3 1 u hb (by omega) (fun _ => hg) (fun e => absurd e (by decide)) (fun e => absurd e (by decide)) (fun e => absurd e (by decide))⟩
    · rw [q2] at ho; injection ho with ho; subst ho
      exact Or.inl ⟨v2, W, r2 a W hT.bel hk, by rw [d2]; rfl, ⟨fun e => absurd e (by decide), fun _ => rfl⟩, hT.put (h6 (by omega)) m1 m3 2 v2 (Below.refl _ _) (by omega) (fun e => absurd e (by decide)) (fun e => absurd e (by decide)) (fun e => absurd e (by decide)) (fun e => absurd e (by decide))⟩
    · rw [q3] at ho; injection ho with ho; subst ho
      obtain ⟨_, e0, _, hV0⟩ := hd 2 o2 k2 q2 d2 (g w32 q3)
      obtain ⟨f, args, hr, hc⟩ := r3 a W hT.bel (e0.trans (hV0 rfl))
      refine Or.inr (Or.inr ⟨f, args, hr, by rw [d3]; rfl, hc.mono ?_⟩)
      rintro e W' ⟨u, rfl, hg, hb⟩
      exact ⟨u, rfl, ⟨fun e => absurd e (by decide), fun e => absurd e (by decide)⟩, hT.put (h6 (by omega)) m1 m3 3 u hb (by omega) (fun e => absurd e (by decide)) (fun _ => hg) (fun e => absurd e (by decide)) (fun e => absurd e (by decide))⟩
    · rw [q4] at ho; injection ho with ho; subst ho
      obtain ⟨u1, e1, _⟩ := hd 1 o1 k1 q1 d1 (g w41 q4)
      obtain ⟨u3, e3, _⟩ := hd 3 o3 k3 q3 d3 (g w43 q4)
      obtain ⟨f, args, hr, hc⟩ := r4 a W hT.bel (by rw [e1]; exact hT.one u1 (h6 (by omega))) (by rw [e3]; exact hT.thr u3 (h6 (by omega)))
      refine Or.inr (Or.inr ⟨f, args, hr, by rw [d4]; rfl, hc.mono ?_⟩)
      rintro e W' ⟨c, F, rfl, rep, nd, lo, hb⟩
      exact ⟨_, rfl, ⟨fun e => absurd e (by decide), fun e => absurd e (by decide)⟩, hT.put (h6 (by omega)) m1 m3 4 _ hb (by omega) (fun e => absurd e (by decide)) (fun e => absurd e (by decide)) (fun e => absurd e (by decide)) (fun _ => ⟨c, F, rfl, rep, nd, lo⟩)⟩
    · rw [q5] at ho; injection ho with ho; subst ho
      exact Or.inl ⟨_, _, r5 a W, by rw [d5]; rfl, ⟨fun e => absurd e (by decide), fun e => absurd e (by decide)⟩, hT.put (h6 (by omega)) m1 m3 5 _ (blw_alloc (Below.refl _ _) _) (by omega) (fun e => absurd e (by decide)) (fun e => absurd e (by decide)) (fun _ => ⟨rfl, OwnBlk.alloc W _ T n (by simpa using hzs)⟩) (fun e => absurd e (by decide))⟩
    · rw [q6] at ho; injection ho with ho; subst ho
      obtain ⟨u5, e5, _⟩ := hd 5 o5 k5 q5 d5 (g w65 q6)
      obtain ⟨u4, e4, _⟩ := hd 4 o4 k4 q4 d4 (g w64 q6)
      obtain ⟨p, hp, hpv, hpo⟩ := hT.fiv u5
      obtain ⟨c, F, hc, rep, _⟩ := hT.fou u4
      have hcn : c.length = n := rep.len.trans hsl
      have hth : W.there p 0 c.toArray.size := by rw [show c.toArray.size = n by simpa using hcn]; exact own_there hpo
      have hrun : (execOp a.eval o6).run P W = .ok .skip (W.setCells p 0 c) := by
        unfold execOp
        simp only [hSo, e5, e4, hp, hc, Instr.storeAt, Instr.sureAddr, Sem.run_bind, Sem.run_pure, Result.andThen_ok, run_storeVar_mid W p 0 T c.toArray hth (by rw [hinfo]; simp [hcn]) (all_oneCell_toArray rep.raw.one)]
      exact Or.inr (Or.inl ⟨_, hrun, d6, hT.store u5 u4 hp hc hcn⟩)
  · intro up vals vs W hup hvs hT
    have hln : l.length = 7 := by rw [hl]; rfl
    obtain ⟨p, hp, hpv, hpo⟩ := hT.fiv (hup 5 (by omega))
    obtain ⟨c, F, hc, rep, nd, lo, _⟩ := hT.fou (hup 4 (by omega))
    exact hend W vs p c F hT.bel ((hvs 5 o5 k5 q5 d5).1.trans hp) ((hvs 4 o4 k4 q4 d4).1.trans hc) hpv hpo (hT.six (hup 6 (by omega)) p c hp hc) rep nd lo
end RY
end Go.Proofs.Ytiiahpegdpbkgaa
