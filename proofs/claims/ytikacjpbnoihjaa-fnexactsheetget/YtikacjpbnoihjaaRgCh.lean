/-
  A region that draws its order in which a chain of operations changes the world, each waiting for the one ahead of it ('x.f = append(x.f, T{..})'); all others only read. The worlds are known: Ws j is the one behind j of them.
-/
import Derived.Test.YtikacjpbnoihjaaRgF
namespace Go.Proofs.Ytikacjpbnoihjaa
open Go.RowKit Go.Deep
namespace RY

/-- Each operation of the chain waits for the one ahead of it, which yields something. -/
def chB (l : List Oper) : List Nat → Bool
  | [] => true
  | [_] => true
  | x :: y :: r => waits l y x && (match l[x]? with
    | some o => o.dst.isSome
    | none => false) && !(y :: r).contains x && chB l (y :: r)
theorem chB_at {l : List Oper} : ∀ {ch : List Nat}, chB l ch = true → ∀ k x y, ch[k]? = some x → ch[k + 1]? = some y → waits l y x = true ∧ ∃ o d, l[x]? = some o ∧ o.dst = some d
  | [], _, k, x, y, h, _ => by simp at h
  | [a], _, k, x, y, _, h => by simp at h
  | a :: b :: r, hc, k, x, y, h1, h2 => by
    rw [chB, Bool.and_eq_true, Bool.and_eq_true, Bool.and_eq_true] at hc
    obtain ⟨⟨⟨hw, hd⟩, _⟩, hr⟩ := hc
    cases k with
    | zero =>
      simp at h1 h2
      subst h1; subst h2
      refine ⟨hw, ?_⟩
      cases ho : l[a]? with
      | none => rw [ho] at hd; cases hd
      | some o =>
        rw [ho] at hd
        obtain ⟨d, hdd⟩ := Option.isSome_iff_exists.1 hd
        exact ⟨o, d, rfl, hdd⟩
    | succ k => exact chB_at hr k x y (by simpa using h1) (by simpa using h2)
theorem chB_nd {l : List Oper} : ∀ {ch : List Nat}, chB l ch = true → ch.Nodup
  | [], _ => List.nodup_nil
  | [a], _ => by simp
  | a :: b :: r, hc => by
    rw [chB, Bool.and_eq_true, Bool.and_eq_true, Bool.and_eq_true] at hc
    rw [List.nodup_cons]
    refine ⟨fun e => ?_, chB_nd hc.2⟩
    have := hc.1.2
    simp only [Bool.not_eq_true', List.contains_eq_mem, decide_eq_false_iff_not] at this
    exact this e
structure TCh (ch : List Nat) (Ws : Nat → World) (up : Nat → Bool) (j : Nat) (X : World) : Prop where
  le : j ≤ ch.length
  yes : ∀ k x, ch[k]? = some x → k < j → up x = true
  no : ∀ k x, ch[k]? = some x → j ≤ k → up x = false
  eq : X = Ws j

/-- c waits for i, on and on. -/
def cloB (l : List Oper) (c i : Nat) : Bool := (clo l 8 [c]).contains i
theorem cloF_up {l : List Oper} {up : Nat → Bool} (hcl : ∀ (j : Nat) (o' : Oper) (e : _), l[j]? = some o' → e ∈ o'.after → Region.binds .any e = true → up j = true → up e.on = true) (f : Nat) {S : List Nat} (hS : ∀ x ∈ S, up x = true) {i : Nat} (h : (clo l f S).contains i = true) : up i = true :=
  clo_up hcl f S hS i (List.contains_iff_mem.1 h)
theorem cloB_up {l : List Oper} {up : Nat → Bool} (hcl : ∀ (j : Nat) (o' : Oper) (e : _), l[j]? = some o' → e ∈ o'.after → Region.binds .any e = true → up j = true → up e.on = true) {c i : Nat} (h : cloB l c i = true) (hu : up c = true) : up i = true := by
  unfold cloB at h
  generalize 8 = f at h
  exact cloF_up hcl f (fun x hx => by rw [List.mem_singleton] at hx; rw [hx]; exact hu) h
/-- The worlds of a chain of two, of three. -/
def ws3 (a b c : World) : Nat → World
  | 0 => a
  | 1 => b
  | _ => c
def ws4 (a b c d : World) : Nat → World
  | 0 => a
  | 1 => b
  | 2 => c
  | _ => d

theorem region_ch {P : Program} {id : Nat} {Q : Exit → Act → World → Prop} {a0 : Act} {w : World} {l : List Oper} (V : Nat → Value → Prop) (ch : List Nat) (Ws : Nat → World) (mx : List Nat) (hm : P.follows .mixedOrders = true)
    (hasc : asc .any l.toArray = true) (hap : apartB l = true) (hpl : plainB l a0.tmps.size = true) (hch : chB l ch = true) (hmx : ((List.range l.length).all fun i => decide (ch.findIdx (fun c => cloB l c i) ≤ mx.getD i 0)) = true) (h0 : Ws 0 = w.drew)
    (hop : ∀ (i : Nat) (o : Oper), l[i]? = some o → ∀ (a : Act), (∀ k, noDst l k = true → a.eval (.tmp k) = a0.eval (.tmp k)) →
      (∀ (j : Nat) (o' : Oper) (k : Nat), l[j]? = some o' → o'.dst = some k → (∃ e ∈ o.after, e.on = j ∧ Region.binds .any e = true) → V j (a.eval (.tmp k))) →
      (∀ j, ch[j]? = some i → (∃ u, (execOp a.eval o).run P (Ws j) = .ok (.value u) (Ws (j + 1)) ∧ o.dst.isSome = true ∧ V i u) ∨ ((execOp a.eval o).run P (Ws j) = .ok .skip (Ws (j + 1)) ∧ o.dst = none)) ∧
      (ch.contains i = false → ∀ j, j ≤ mx.getD i 0 → ∃ u, (execOp a.eval o).run P (Ws j) = .ok (.value u) (Ws j) ∧ o.dst.isSome = true ∧ V i u))
    (hend : ∀ (vs : Nat → Value), (∀ (i : Nat) (o : Oper) (k : Nat), l[i]? = some o → o.dst = some k → V i (vs k)) → Q .normal (putAll l a0 vs) (Ws ch.length)) (hcl : ∀ x ∈ ch, x < l.length) :
    (Code.region id l.toArray true).wp P Q a0 w := by
  have hnd := chB_nd hch
  have inj : ∀ {k k' x : Nat}, ch[k]? = some x → ch[k']? = some x → k = k' := fun {k k' x} h1 h2 => by
    exact (List.getElem?_inj (List.getElem?_eq_some_iff.1 h1).1 hnd).1 (h1.trans h2.symm)
  refine region_T V (fun up _ X => ∃ j, TCh ch Ws up j X) hm hasc hap hpl (fun _ => ⟨0, Nat.zero_le _, fun _ _ _ h => absurd h (Nat.not_lt_zero _), fun _ _ _ _ => rfl, h0.symm⟩) ?_ ?_
  · rintro up vals i o ho hi hcls a X hk hd ⟨j, hT⟩
    obtain ⟨h1, h2⟩ := hop i o ho a hk (fun j o' k hj hk e => by obtain ⟨_, q2, q3⟩ := hd j o' k hj hk e; rw [q2]; exact q3)
    have hX := hT.eq
    subst hX
    cases hc : ch.contains i
    · have hne : ∀ k x, ch[k]? = some x → x ≠ i := fun k x hx e => by
        subst e
        have := List.mem_of_getElem? hx
        rw [List.contains_eq_mem, decide_eq_false_iff_not] at hc
        exact hc this
      have hj : j ≤ ch.findIdx (fun c => cloB l c i) := by
        rcases Nat.lt_or_ge (ch.findIdx (fun c => cloB l c i)) j with q | q
        · exfalso
          have hlt : ch.findIdx (fun c => cloB l c i) < ch.length := Nat.lt_of_lt_of_le q hT.le
          have hw : cloB l (ch[ch.findIdx (fun c => cloB l c i)]) i = true := List.findIdx_getElem (w := hlt) (p := fun c => cloB l c i)
          have hu := hT.yes _ _ (List.getElem?_eq_getElem hlt) q
          have := cloB_up hcls hw hu
          rw [hi] at this
          cases this
        · exact q
      have hil : i < l.length := (List.getElem?_eq_some_iff.1 ho).1
      have hmi := (List.all_eq_true.1 hmx) i (List.mem_range.2 hil)
      rw [decide_eq_true_eq] at hmi
      obtain ⟨u, hr, hds, hV⟩ := h2 hc j (Nat.le_trans hj hmi)
      refine Or.inl ⟨u, _, hr, hds, hV, j, hT.le, fun k x hx hkj => ?_, fun k x hx hkj => ?_, rfl⟩
      · show ((x == i) || up x) = true; rw [hT.yes k x hx hkj]; simp
      · show ((x == i) || up x) = false; rw [hT.no k x hx hkj, show (x == i) = false from by simpa using hne k x hx]; rfl
    · obtain ⟨k, hk⟩ : ∃ k, ch[k]? = some i := by
        rw [List.contains_eq_mem, decide_eq_true_eq] at hc
        exact List.getElem?_of_mem hc
      have hjk : j ≤ k := by
        rcases Nat.lt_or_ge k j with q | q
        · have := hT.yes k i hk q; rw [hi] at this; cases this
        · exact q
      have hkj : k ≤ j := by
        cases k with
        | zero => exact Nat.zero_le _
        | succ k =>
          have hkl : k + 1 < ch.length := (List.getElem?_eq_some_iff.1 hk).1
          have hx : ch[k]? = some ch[k] := List.getElem?_eq_getElem (by omega)
          obtain ⟨hw, ox, d, hox, hdx⟩ := chB_at hch k _ _ hx hk
          have hu := (hd _ _ _ hox hdx (waits_spec hw ho)).1
          rcases Nat.lt_or_ge k j with q | q
          · exact q
          · have := hT.no k _ hx q; rw [hu] at this; cases this
      have e : k = j := by omega
      subst e
      have st : TCh ch Ws (fun x => (x == i) || up x) (k + 1) (Ws (k + 1)) := by
        have hkl : k < ch.length := (List.getElem?_eq_some_iff.1 hk).1
        refine ⟨hkl, fun q x hx hq => ?_, fun q x hx hq => ?_, rfl⟩
        · by_cases e : q = k
          · subst e; rw [hk] at hx; injection hx with hx; subst hx; simp
          · show ((x == i) || up x) = true; rw [hT.yes q x hx (by omega)]; simp
        · have hne : x ≠ i := fun e => by subst e; have := inj hx hk; omega
          show ((x == i) || up x) = false; rw [hT.no q x hx (by omega), show (x == i) = false from by simpa using hne]; rfl
      rcases h1 k hk with ⟨u, hr, hds, hV⟩ | ⟨hr, hds⟩
      · exact Or.inl ⟨u, _, hr, hds, hV, k + 1, st⟩
      · exact Or.inr ⟨_, hr, hds, k + 1, st⟩
  · rintro up vals vs X hall hvs ⟨j, hT⟩
    have hj : j = ch.length := by
      rcases Nat.lt_or_ge j ch.length with q | q
      · exfalso
        have hx : ch[j]? = some ch[j] := List.getElem?_eq_getElem q
        have := hT.no j _ hx (Nat.le_refl _)
        rw [hall _ (hcl _ (List.getElem_mem q))] at this
        cases this
      · exact Nat.le_antisymm hT.le q
    have hX := hT.eq
    subst hX
    rw [hj]
    exact hend vs (fun i o k hi hk => by obtain ⟨q1, q2⟩ := hvs i o k hi hk; rw [q1]; exact q2)
end RY
end Go.Proofs.Ytikacjpbnoihjaa
