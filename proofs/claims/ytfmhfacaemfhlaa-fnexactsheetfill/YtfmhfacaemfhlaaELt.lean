/-
  Sheets: a line in its place: the specification.
-/
import Derived.Maps.AppendAt
import Derived.Laws.OwnMore
import Derived.Test.YtfmhfacaemfhlaaUC
import Derived.Test.YtfmhfacaemfhlaaEPt
import Derived.Test.YtfmhfacaemfhlaaECl
import Derived.Test.YtfmhfacaemfhlaaELa
import Derived.Test.YtfmhfacaemfhlaaRgG
import Derived.Test.YtfmhfacaemfhlaaECy
import Derived.Test.YtfmhfacaemfhlaaETx
namespace Go.Proofs.Ytfmhfacaemfhlaa
open Go.RowKit Go.Deep
namespace RY

/-- What an append of one's own row comes to. -/
def AppR (v : World) (t : TypeId) (size : Nat) (W : World) (r u : Value) (n : Nat) (xs : List Value) (W' : World) : Prop := W'.ownsRow v.heap.size t size u n xs ∧ W.grownBy W' r.ownBlock ∧ (u.ownBlock = r.ownBlock ∨ u.ownBlock = some W.heap.size)
structure TI (v : World) (t : TypeId) (size n5 n8 n13 : Nat) (x5 x8 x13 : List Value) (nw : Array Value) (K : Value → World → Prop) (u0 u5 u7 u8 u13 u15 : Bool) (v0 v5 v7 v8 v13 : Value) (W : World) : Prop where
  bel : u15 = false → Below v.heap.size v W
  c0 : u0 = true → u5 = false → W.ownsRow v.heap.size t size v0 0 []
  c5 : u5 = true → u8 = false → W.ownsRow v.heap.size t size v5 n5 x5
  c8 : u8 = true → u13 = false → W.ownsRow v.heap.size t size v8 n8 x8
  c13 : u13 = true → u15 = false → W.ownsRow v.heap.size t size v13 n13 x13
  c7 : u7 = true → u8 = false → ∃ q, v7 = .slice (some ⟨q, 0, none⟩) 1 1 ∧ W.heap[q]? = some (.cells nw t (0, 0)) ∧ (u0 = true → u5 = false → v0.ownBlock ≠ some q) ∧ (u5 = true → v5.ownBlock ≠ some q)
  c15 : u15 = true → K v13 W
theorem blw_app {v W W' : World} {t : TypeId} {size n m : Nat} {r u : Value} {xs ys : List Value} (h : Below v.heap.size v W) (ho : W.ownsRow v.heap.size t size r m ys) (ha : AppR v t size W r u n xs W') : Below v.heap.size v W' :=
  blw_grown h ha.2.1 fun _ hb => (owns_blk_lt ho hb).1
theorem grown_at {W W' : World} {row : Option Nat} {q : Nat} {o : Obj} (hg : W.grownBy W' row) (hq : W.heap[q]? = some o) (hn : row ≠ some q) : W'.heap[q]? = some o :=
  (hg.block q (Array.getElem?_eq_some_iff.1 hq).1 fun e => hn e.symm).trans hq

theorem region_ins {P : Program} {id : Nat} {Q : Exit → Act → World → Prop} {a0 : Act} {w : World} {l : List Oper} (v : World) (hv : Below v.heap.size v w) (t : TypeId) (size n5 n8 n13 : Nat) (x5 x8 x13 : List Value) (nw : Array Value) (V : Nat → Value → Prop) (K : Value → World → Prop) (fuel k0 k5 k7 k8 k13 k14 : Nat)
    (hm : P.follows .mixedOrders = true) (hasc : asc .any l.toArray = true) (hap : apartB l = true) (hpl : plainB l a0.tmps.size = true)
    (hclo : ((List.range 15).all fun i => (clo l fuel [15]).contains i) = true) (hlen : l.length = 16) (hds : ((l.take 15).all fun o => o.dst.isSome) = true)
    (o0 o5 o7 o8 o13 o14 o15 : Oper) (q0 : l[0]? = some o0) (q5 : l[5]? = some o5) (q7 : l[7]? = some o7) (q8 : l[8]? = some o8) (q13 : l[13]? = some o13) (q14 : l[14]? = some o14) (q15 : l[15]? = some o15)
    (d0 : o0.dst = some k0) (d5 : o5.dst = some k5) (d7 : o7.dst = some k7) (d8 : o8.dst = some k8) (d13 : o13.dst = some k13) (d14 : o14.dst = some k14) (d15 : o15.dst = none)
    (w5 : waits l 5 0 = true) (w8 : waits l 8 5 = true) (w87 : waits l 8 7 = true) (w13 : waits l 13 8 = true) (w15 : waits l 15 13 = true) (w14 : waits l 15 14 = true)
    (hVT : ∀ i u, i = 0 ∨ i = 5 ∨ i = 7 ∨ i = 8 ∨ i = 13 → V i u)
    (hop : ∀ (i : Nat) (o : Oper), l[i]? = some o → i ≠ 0 → i ≠ 5 → i ≠ 7 → i ≠ 8 → i ≠ 13 → i ≠ 15 → ∀ (a : Act) (W : World), Below v.heap.size v W → (∀ k, noDst l k = true → a.eval (.tmp k) = a0.eval (.tmp k)) →
      (∀ (j : Nat) (o' : Oper) (k : Nat), l[j]? = some o' → o'.dst = some k → (∃ e ∈ o.after, e.on = j ∧ Region.binds .any e = true) → V j (a.eval (.tmp k))) → ∃ u, (execOp a.eval o).run P W = .ok (.value u) W ∧ V i u)
    (h0 : ∀ (a : Act) (W : World), (execOp a.eval o0).run P W = .ok (.value (.slice (some ⟨W.heap.size, 0, none⟩) 0 0)) (W.alloc (.cells #[] t)))
    (h7 : ∀ (a : Act) (W : World), (∀ (j : Nat) (o' : Oper) (k : Nat), l[j]? = some o' → o'.dst = some k → (∃ e ∈ o7.after, e.on = j ∧ Region.binds .any e = true) → V j (a.eval (.tmp k))) → (execOp a.eval o7).run P W = .ok (.value (.slice (some ⟨W.heap.size, 0, none⟩) 1 1)) (W.alloc (.cells nw t)))
    (h5 : ∀ (a : Act) (W : World), Below v.heap.size v W → (∀ (j : Nat) (o' : Oper) (k : Nat), l[j]? = some o' → o'.dst = some k → (∃ e ∈ o5.after, e.on = j ∧ Region.binds .any e = true) → V j (a.eval (.tmp k))) → W.ownsRow v.heap.size t size (a.eval (.tmp k0)) 0 [] → ∃ u W', (execOp a.eval o5).run P W = .ok (.value u) W' ∧ AppR v t size W (a.eval (.tmp k0)) u n5 x5 W')
    (h8 : ∀ (a : Act) (W : World), Below v.heap.size v W → W.ownsRow v.heap.size t size (a.eval (.tmp k5)) n5 x5 → ∀ q, a.eval (.tmp k7) = .slice (some ⟨q, 0, none⟩) 1 1 → W.heap[q]? = some (.cells nw t (0, 0)) → ∃ u W', (execOp a.eval o8).run P W = .ok (.value u) W' ∧ AppR v t size W (a.eval (.tmp k5)) u n8 x8 W')
    (h13 : ∀ (a : Act) (W : World), Below v.heap.size v W → (∀ (j : Nat) (o' : Oper) (k : Nat), l[j]? = some o' → o'.dst = some k → (∃ e ∈ o13.after, e.on = j ∧ Region.binds .any e = true) → V j (a.eval (.tmp k))) → W.ownsRow v.heap.size t size (a.eval (.tmp k8)) n8 x8 → ∃ u W', (execOp a.eval o13).run P W = .ok (.value u) W' ∧ AppR v t size W (a.eval (.tmp k8)) u n13 x13 W')
    (h15 : ∀ (a : Act) (W : World), Below v.heap.size v W → V 14 (a.eval (.tmp k14)) → W.ownsRow v.heap.size t size (a.eval (.tmp k13)) n13 x13 → ∃ W', (execOp a.eval o15).run P W = .ok .skip W' ∧ K (a.eval (.tmp k13)) W')
    (hend : ∀ (vs : Nat → Value) (W : World), K (vs k13) W → Q .normal (putAll l a0 vs) W) :
    (Code.region id l.toArray true).wp P Q a0 w := by
  have hdst : ∀ {i : Nat} {o : Oper}, l[i]? = some o → i < 15 → o.dst.isSome = true := fun h hi => by
    rw [List.all_eq_true] at hds
    exact hds _ (List.mem_of_getElem? ((List.getElem?_take_of_lt hi).trans h))
  refine region_TO V (fun up vals W => TI v t size n5 n8 n13 x5 x8 x13 nw K (up 0) (up 5) (up 7) (up 8) (up 13) (up 15) (vals 0) (vals 5) (vals 7) (vals 8) (vals 13) W) hm hasc hap hpl ?_ ?_ ?_
  · intro vals
    exact ⟨fun _ => Below.drew hv, fun h => (by cases h), fun h => (by cases h), fun h => (by cases h), fun h => (by cases h), fun h => (by cases h), fun h => (by cases h)⟩
  · intro up vals i o ho hi hcl a W hk hd hT
    have hkk : ∀ k, noDst l k = true → a.eval (.tmp k) = a0.eval (.tmp k) := fun k h => hk k fun j o' hj hj' => absurd hj' (noDst_spec h hj)
    have hdd : ∀ (j : Nat) (o' : Oper) (k : Nat), l[j]? = some o' → o'.dst = some k → (∃ e ∈ o.after, e.on = j ∧ Region.binds .any e = true) → V j (a.eval (.tmp k)) := fun j o' k hj hk' hw => by
      obtain ⟨_, q2, q3⟩ := hd j o' k hj hk' hw
      rw [q2]; exact q3
    have dn : ∀ {x y : Nat} {ox : Oper}, l[x]? = some ox → waits l x y = true → up x = true → up y = true := fun hx hw hu => by
      obtain ⟨e, he, h4, h5⟩ := waits_spec hw hx
      have := hcl _ _ e hx he h5 hu
      rwa [h4] at this
    have s50 := dn q5 w5
    have s85 := dn q8 w8
    have s87 := dn q8 w87
    have s138 := dn q13 w13
    have s1513 := dn q15 w15
    have hil : i < 16 := by rw [← hlen]; exact (List.getElem?_eq_some_iff.1 ho).1
    have h15f : i ≠ 15 → up 15 = false := fun hn => by
      cases e : up 15
      · rfl
      · rw [List.all_eq_true] at hclo
        have := hclo i (List.mem_range.2 (by omega))
        rw [List.contains_iff_mem] at this
        rw [clo_up hcl fuel [15] (by simpa using e) i this] at hi; cases hi
    by_cases i15 : i = 15
    · subst i15
      obtain rfl : o = o15 := Option.some.inj (ho.symm.trans q15)
      obtain ⟨u13, e13, _⟩ := hd 13 o13 k13 q13 d13 (by obtain ⟨e, he, h4, h5⟩ := waits_spec w15 q15; exact ⟨e, he, h4, h5⟩)
      obtain ⟨u14, e14, g14⟩ := hd 14 o14 k14 q14 d14 (by obtain ⟨e, he, h4, h5⟩ := waits_spec w14 q15; exact ⟨e, he, h4, h5⟩)
      obtain ⟨W', hr, hK⟩ := h15 a W (hT.bel hi) (by rw [e14]; exact g14) (by rw [e13]; exact hT.c13 u13 hi)
      have u8 := s138 u13
      have u5 := s85 u8
      refine Or.inr (Or.inl ⟨W', hr, d15, ?_⟩)
      show TI v t size n5 n8 n13 x5 x8 x13 nw K (up 0) (up 5) (up 7) (up 8) (up 13) true (vals 0) (vals 5) (vals 7) (vals 8) (vals 13) W'
      rw [e13] at hK
      exact ⟨fun h => (by cases h), fun _ h => (by rw [u5] at h; cases h), fun _ h => (by rw [u8] at h; cases h), fun _ h => (by rw [u13] at h; cases h), fun _ h => (by cases h), fun _ h => (by rw [u8] at h; cases h), fun _ => hK⟩
    have f15 := h15f i15
    have hB := hT.bel f15
    have hso := hdst ho (by omega)
    by_cases i0 : i = 0
    · subst i0
      obtain rfl : o = o0 := Option.some.inj (ho.symm.trans q0)
      have f5 : up 5 = false := by cases e : up 5; rfl; rw [s50 e] at hi; cases hi
      have f8 : up 8 = false := by cases e : up 8; rfl; rw [s85 e] at f5; cases f5
      have f13 : up 13 = false := by cases e : up 13; rfl; rw [s138 e] at f8; cases f8
      refine Or.inl ⟨_, _, h0 a W, hso, hVT 0 _ (Or.inl rfl), ?_⟩
      show TI v t size n5 n8 n13 x5 x8 x13 nw K true (up 5) (up 7) (up 8) (up 13) (up 15) (.slice (some ⟨W.heap.size, 0, none⟩) 0 0) (vals 5) (vals 7) (vals 8) (vals 13) (W.alloc (.cells #[] t))
      refine ⟨fun _ => blw_alloc hB _, fun _ _ => World.ownsRow_made W #[] 0 hB.size (by decide) (by simp), fun h => ?_, fun h => ?_, fun h => ?_, fun h h' => ?_, fun h => ?_⟩
      · rw [f5] at h; cases h
      · rw [f8] at h; cases h
      · rw [f13] at h; cases h
      · obtain ⟨q, e1, e2, _, _⟩ := hT.c7 h h'
        have hq := (Array.getElem?_eq_some_iff.1 e2).1
        refine ⟨q, e1, ((blw_alloc (Below.refl W.heap.size W) _ : Below W.heap.size W (W.alloc (.cells #[] t))).block q hq).trans e2, fun _ _ e => ?_, fun h => ?_⟩
        · have : W.heap.size = q := by injection e
          omega
        · rw [f5] at h; cases h
      · rw [f15] at h; cases h
    by_cases i7 : i = 7
    · subst i7
      obtain rfl : o = o7 := Option.some.inj (ho.symm.trans q7)
      have f8 : up 8 = false := by cases e : up 8; rfl; rw [s87 e] at hi; cases hi
      have f13 : up 13 = false := by cases e : up 13; rfl; rw [s138 e] at f8; cases f8
      have hb7 : Below W.heap.size W (W.alloc (.cells nw t)) := blw_alloc (Below.refl _ _) _
      refine Or.inl ⟨_, _, h7 a W hdd, hso, hVT 7 _ (by omega), ?_⟩
      show TI v t size n5 n8 n13 x5 x8 x13 nw K (up 0) (up 5) true (up 8) (up 13) (up 15) (vals 0) (vals 5) (.slice (some ⟨W.heap.size, 0, none⟩) 1 1) (vals 8) (vals 13) (W.alloc (.cells nw t))
      refine ⟨fun _ => blw_trans hB hb7, fun h h' => owns_lt_later (hT.c0 h h') hb7, fun h h' => owns_lt_later (hT.c5 h h') hb7, fun h => ?_, fun h => ?_, fun _ _ => ⟨W.heap.size, rfl, heap_alloc_new W _, fun h h' e => ?_, fun h e => ?_⟩, fun h => ?_⟩
      · rw [f8] at h; cases h
      · rw [f13] at h; cases h
      · have := (owns_blk_lt (hT.c0 h h') e).2; omega
      · have := (owns_blk_lt (hT.c5 h f8) e).2; omega
      · rw [f15] at h; cases h
    by_cases i5 : i = 5
    · subst i5
      obtain rfl : o = o5 := Option.some.inj (ho.symm.trans q5)
      obtain ⟨u0, e0, _⟩ := hd 0 o0 k0 q0 d0 (by obtain ⟨e, he, h4, h5⟩ := waits_spec w5 q5; exact ⟨e, he, h4, h5⟩)
      have f8 : up 8 = false := by cases e : up 8; rfl; rw [s85 e] at hi; cases hi
      have f13 : up 13 = false := by cases e : up 13; rfl; rw [s138 e] at f8; cases f8
      have c0 := hT.c0 u0 hi
      obtain ⟨u, W', hr, hA⟩ := h5 a W hB hdd (by rw [e0]; exact c0)
      rw [e0] at hA
      refine Or.inl ⟨u, W', hr, hso, hVT 5 _ (by omega), ?_⟩
      show TI v t size n5 n8 n13 x5 x8 x13 nw K (up 0) true (up 7) (up 8) (up 13) (up 15) (vals 0) u (vals 7) (vals 8) (vals 13) W'
      refine ⟨fun _ => blw_app hB c0 hA, fun _ h => (by cases h), fun _ _ => hA.1, fun h => ?_, fun h => ?_, fun h h' => ?_, fun h => ?_⟩
      · rw [f8] at h; cases h
      · rw [f13] at h; cases h
      · obtain ⟨q, e1, e2, e3, _⟩ := hT.c7 h h'
        have n0 := e3 u0 hi
        refine ⟨q, e1, grown_at hA.2.1 e2 n0, fun _ h => (by cases h), fun _ e => ?_⟩
        rcases hA.2.2 with g | g
        · exact n0 (g ▸ e)
        · rw [g] at e; have := (Array.getElem?_eq_some_iff.1 e2).1; injection e with e; omega
      · rw [f15] at h; cases h
    by_cases i8 : i = 8
    · subst i8
      obtain rfl : o = o8 := Option.some.inj (ho.symm.trans q8)
      obtain ⟨u5, e5, _⟩ := hd 5 o5 k5 q5 d5 (by obtain ⟨e, he, h4, h5⟩ := waits_spec w8 q8; exact ⟨e, he, h4, h5⟩)
      obtain ⟨u7, e7, _⟩ := hd 7 o7 k7 q7 d7 (by obtain ⟨e, he, h4, h5⟩ := waits_spec w87 q8; exact ⟨e, he, h4, h5⟩)
      have f13 : up 13 = false := by cases e : up 13; rfl; rw [s138 e] at hi; cases hi
      have c5 := hT.c5 u5 hi
      obtain ⟨q, e1, e2, _, _⟩ := hT.c7 u7 hi
      obtain ⟨u, W', hr, hA⟩ := h8 a W hB (by rw [e5]; exact c5) q (by rw [e7]; exact e1) e2
      rw [e5] at hA
      refine Or.inl ⟨u, W', hr, hso, hVT 8 _ (by omega), ?_⟩
      show TI v t size n5 n8 n13 x5 x8 x13 nw K (up 0) (up 5) (up 7) true (up 13) (up 15) (vals 0) (vals 5) (vals 7) u (vals 13) W'
      refine ⟨fun _ => blw_app hB c5 hA, fun _ h => (by rw [u5] at h; cases h), fun _ h => (by cases h), fun _ _ => hA.1, fun h => ?_, fun _ h => (by cases h), fun h => ?_⟩
      · rw [f13] at h; cases h
      · rw [f15] at h; cases h
    by_cases i13 : i = 13
    · subst i13
      obtain rfl : o = o13 := Option.some.inj (ho.symm.trans q13)
      obtain ⟨u8, e8, _⟩ := hd 8 o8 k8 q8 d8 (by obtain ⟨e, he, h4, h5⟩ := waits_spec w13 q13; exact ⟨e, he, h4, h5⟩)
      have u5 := s85 u8
      have c8 := hT.c8 u8 hi
      obtain ⟨u, W', hr, hA⟩ := h13 a W hB hdd (by rw [e8]; exact c8)
      rw [e8] at hA
      refine Or.inl ⟨u, W', hr, hso, hVT 13 _ (by omega), ?_⟩
      show TI v t size n5 n8 n13 x5 x8 x13 nw K (up 0) (up 5) (up 7) (up 8) true (up 15) (vals 0) (vals 5) (vals 7) (vals 8) u W'
      refine ⟨fun _ => blw_app hB c8 hA, fun _ h => (by rw [u5] at h; cases h), fun _ h => (by rw [u8] at h; cases h), fun _ h => (by cases h), fun _ _ => hA.1, fun _ h => (by rw [u8] at h; cases h), fun h => ?_⟩
      rw [f15] at h; cases h
    obtain ⟨u, hr, hu⟩ := hop i o ho i0 i5 i7 i8 i13 i15 a W hB hkk hdd
    refine Or.inl ⟨u, W, hr, hso, hu, ?_⟩
    have e : ∀ c, c ≠ i → ((c == i) || up c) = up c := fun c hc => by simp [hc]
    have e' : ∀ c, c ≠ i → (if c = i then u else vals c) = vals c := fun c hc => if_neg hc
    show TI v t size n5 n8 n13 x5 x8 x13 nw K ((0 == i) || up 0) ((5 == i) || up 5) ((7 == i) || up 7) ((8 == i) || up 8) ((13 == i) || up 13) ((15 == i) || up 15) (if 0 = i then u else vals 0) (if 5 = i then u else vals 5) (if 7 = i then u else vals 7) (if 8 = i then u else vals 8) (if 13 = i then u else vals 13) W
    rw [e 0 (Ne.symm i0), e 5 (Ne.symm i5), e 7 (Ne.symm i7), e 8 (Ne.symm i8), e 13 (Ne.symm i13), e 15 (Ne.symm i15), e' 0 (Ne.symm i0), e' 5 (Ne.symm i5), e' 7 (Ne.symm i7), e' 8 (Ne.symm i8), e' 13 (Ne.symm i13)]
    exact hT
  · intro up vals vs W hup hvs hT
    refine hend vs W ?_
    rw [(hvs 13 o13 k13 q13 d13).1]
    exact hT.c15 (hup 15 (by omega))
end RY
end Go.Proofs.Ytfmhfacaemfhlaa

namespace Go.Proofs.Ytfmhfacaemfhlaa
open Go.RowKit Go.Deep

/-- A list that is read: its cells are news. -/
def Lst (v : World) (size : Nat) (s : Value) (m : Nat) (news : List Value) : Prop :=
  (s = .slice none 0 0 ∧ m = 0 ∧ news = []) ∨ (∃ ad c, s = .slice (some ad) 0 c ∧ m = 0 ∧ news = []) ∨ ∃ p o c, s = .slice (some ⟨p, o, none⟩) m c ∧ p < v.heap.size ∧ v.rangeAt p o news ∧ news.length = m * size ∧ ∀ u ∈ news, u.oneCell' = true
theorem app_lst {P : Program} {v W : World} (t ty e : TypeId) (i : TypeInfo) (z : Value) (size bytes : Nat) (ht : P.underlying t = some (.slice e)) (hi : P.info? e = some i) (hz : i.zero = some z) (hs : i.size = size) (hby : i.bytes = bytes) (hzs : z.cells.size = size) (hs0 : 0 < size)
    {s : Value} {m : Nat} {news : List Value} (h : Lst v size s m news) (hB : Below v.heap.size v W) {r : Value} {n : Nat} {xs : List Value} (ho : W.ownsRow v.heap.size e size r n xs) (h63 : n + m ≤ maxLen) (hb : (n + m) * bytes ≤ 140737488355328) :
    ∃ u W', (Builtin.append_ #[t, t] ty #[r, s]).run P W = .ok u W' ∧ RY.AppR v e size W r u (n + m) (xs ++ news) W' := by
  rcases h with ⟨rfl, rfl, rfl⟩ | ⟨ad, c, rfl, rfl, rfl⟩ | ⟨p, o, c, rfl, hp, hr, hl, h1⟩
  · refine ⟨r, W, run_append_owned_none (P := P) (w := W) v.heap.size t ty e i size ht hi r n xs ho, ?_, ⟨rfl, rfl, rfl, Nat.le_refl _, fun _ _ _ => rfl⟩, Or.inl rfl⟩
    rw [List.append_nil]; exact ho
  · obtain ⟨u, W', hr, h2, h3, _, h5⟩ := run_append_own_at (P := P) W v.heap.size t ty e i z size bytes ht hi hz hs hby hzs hs0 r n xs ho ad 0 c [] (by simp) (fun j u h => by simp at h) (fun u h => by cases h) h63 hb hB.size
    exact ⟨u, W', hr, h2, h3, h5⟩
  · obtain ⟨u, W', hr, h2, h3, _, h5⟩ := run_append_own_at (P := P) W v.heap.size t ty e i z size bytes ht hi hz hs hby hzs hs0 r n xs ho ⟨p, o, none⟩ m c news hl (fun j u h => by rw [Addr.add_mid]; exact rA_later hr hp hB j u h) h1 h63 hb hB.size
    exact ⟨u, W', hr, h2, h3, h5⟩
/-- The two parts of a list that is cut at k. -/
theorem lst_cut {P : Program} {v : World} {t e : TypeId} {i : TypeInfo} {sh : List Sh} {F : List Nat} {n : Nat} {es : List Dt} {lv : Value} (ht : P.underlying t = some (.slice (P.elem t))) (hi : P.info? (P.elem t) = some i) (hs : i.size = sh.length) (h : Rep v false [.row e sh] F [.row n es] [lv]) (k : Nat) (hk : k ≤ n) :
    ∃ s1 s2 vs G, Rep v false (reps n sh) G es vs ∧ (∀ b ∈ G, b ∈ F) ∧ Lst v sh.length s1 k (vs.take (k * sh.length)) ∧ Lst v sh.length s2 (n - k) (vs.drop (k * sh.length)) ∧
      (∀ W, (Instr.slice t lv none (some (.int .i64 (k : Int))) none).run P W = .ok s1 W) ∧ (∀ W, (Instr.slice t lv (some (.int .i64 (k : Int))) none none).run P W = .ok s2 W) := by
  rcases h.slice with ⟨_, rfl, rfl, rfl, a, rfl⟩ | ⟨p, o, c, u, m, G, rfl, rfl, hn, ho, _, _, vs, hr, hR⟩
  · obtain rfl : k = 0 := by omega
    refine ⟨.slice a 0 0, .slice a 0 0, [], [], by rw [reps_zero]; exact .nil, by simp, ?_, ?_, fun W => ?_, fun W => ?_⟩
    · cases a with
      | none => exact Or.inl ⟨rfl, rfl, by simp⟩
      | some ad => exact Or.inr (Or.inl ⟨ad, 0, rfl, rfl, by simp⟩)
    · cases a with
      | none => exact Or.inl ⟨rfl, rfl, by simp⟩
      | some ad => exact Or.inr (Or.inl ⟨ad, 0, rfl, rfl, by simp⟩)
    · rw [run_slice_h (P := P) (w := W) (t := t) (a := a) (len := 0) (cap := 0) ht .i64 ((0 : Nat) : Int) (by omega) (by omega)]
      simp [sizeOf, typeInfo, hi, sliced]
    · rw [run_slice_l (P := P) (w := W) (t := t) (a := a) (len := 0) (cap := 0) ht .i64 ((0 : Nat) : Int) (by omega) (by omega)]
      simp [sizeOf, typeInfo, hi, sliced]
  · have hl : vs.length = n * sh.length := by rw [hR.len, reps_len]
    have hkl : k * sh.length ≤ n * sh.length := Nat.mul_le_mul_right _ hk
    have e1 : vs = vs.take (k * sh.length) ++ vs.drop (k * sh.length) := (List.take_append_drop _ _).symm
    have hr1 : v.rangeAt p o (vs.take (k * sh.length)) := by rw [e1] at hr; exact (rA_cut hr).1
    have hr2 : v.rangeAt p (o + k * sh.length) (vs.drop (k * sh.length)) := by
      have h2 : v.rangeAt p o (vs.take (k * sh.length) ++ vs.drop (k * sh.length)) := by rw [← e1]; exact hr
      have := (rA_cut h2).2
      rwa [List.length_take, Nat.min_eq_left (by omega)] at this
    refine ⟨.slice (some ⟨p, o, none⟩) k c, .slice (some (if c = k then ⟨p, o, none⟩ else ⟨p, o + k * sh.length, none⟩)) (n - k) (c - k), vs, G, hR, fun b hb => by simp [hb], Or.inr (Or.inr ⟨p, o, c, rfl, ho.lt, hr1, by rw [List.length_take]; omega, fun u hu => hR.raw.one u (List.mem_of_mem_take hu)⟩), ?_, fun W => ?_, fun W => ?_⟩
    · by_cases hck : c = k
      · have hnk : n = k := by omega
        refine Or.inr (Or.inl ⟨⟨p, o, none⟩, c - k, by rw [if_pos hck]; simp [hnk], by omega, ?_⟩)
        rw [List.drop_of_length_le (by rw [hl, hnk]; exact Nat.le_refl _)]
      · exact Or.inr (Or.inr ⟨p, o + k * sh.length, c - k, by rw [if_neg hck], ho.lt, hr2, by rw [List.length_drop, hl, Nat.sub_mul], fun u hu => hR.raw.one u (List.mem_of_mem_drop hu)⟩)
    · rw [run_slice_h (P := P) (w := W) (t := t) (a := some ⟨p, o, none⟩) (len := n) (cap := c) ht .i64 (k : Int) (by omega) (by omega)]
      simp [sizeOf, typeInfo, hi, sliced, Addr.add_mid]
    · rw [run_slice_l (P := P) (w := W) (t := t) (a := some ⟨p, o, none⟩) (len := n) (cap := c) ht .i64 (k : Int) (by omega) (by omega)]
      by_cases hck : c = k <;> simp [sizeOf, typeInfo, hi, sliced, hs, hck, Addr.add_mid]

/-- An element put into a list. -/
theorem ins_rep {α : Type} {v : World} {sh : List Sh} (f : α → List Dt) (hf : ∀ x, (f x).length = sh.length) {l : List α} {k : Nat} (hk : k ≤ l.length) {G Fx : List Nat} {vs cx : List Value} {x : α} (h : Rep v false (reps l.length sh) G (l.flatMap f) vs) (hx : Rep v false sh Fx (f x) cx) :
    ∃ G', Rep v false (reps (l.length + 1) sh) G' ((l.take k ++ x :: l.drop k).flatMap f) (vs.take (k * sh.length) ++ cx ++ vs.drop (k * sh.length)) ∧ ∀ b ∈ G', b ∈ G ∨ b ∈ Fx := by
  have e1 : reps l.length sh = reps k sh ++ reps (l.length - k) sh := by rw [← reps_add]; congr 1; omega
  rw [e1] at h
  obtain ⟨F1, F2, d1, d2, c1, c2, rfl, hd, rfl, h1, h2⟩ := Rep.cut _ h
  have hl1 : d1.length = k * sh.length := by rw [h1.raw.typ.len, reps_len]
  have hc1 : c1.length = k * sh.length := by rw [h1.len, reps_len]
  have ht : ((l.take k).flatMap f).length = k * sh.length := by rw [flat_len2 f _ hf, List.length_take, Nat.min_eq_left hk]
  have hs : l.flatMap f = (l.take k).flatMap f ++ (l.drop k).flatMap f := by rw [← List.flatMap_append, List.take_append_drop]
  obtain ⟨g1, g2⟩ := List.append_inj (hd.symm.trans hs) (by rw [hl1, ht])
  subst g1; subst g2
  refine ⟨F1 ++ (Fx ++ F2), ?_, fun b hb => ?_⟩
  · have e2 : reps (l.length + 1) sh = reps k sh ++ (sh ++ reps (l.length - k) sh) := by rw [← reps_succ, ← reps_add]; congr 1; omega
    have e3 : (c1 ++ c2).take (k * sh.length) = c1 := by rw [← hc1]; simp
    have e4 : (c1 ++ c2).drop (k * sh.length) = c2 := by rw [← hc1]; simp
    rw [e2, e3, e4, List.flatMap_append, List.flatMap_cons, List.append_assoc]
    exact h1.app (hx.app h2)
  · simp only [List.mem_append] at hb ⊢
    rcases hb with hb | hb | hb
    · exact Or.inl (Or.inl hb)
    · exact Or.inr hb
    · exact Or.inl (Or.inr hb)
/-- A row of one's own whose elements may lie in memory that others read, too. -/
theorem owns_rep {W : World} {lo : Nat} {t : TypeId} {sh : List Sh} {v : Value} {n : Nat} {G : List Nat} {es : List Dt} {xs : List Value} (h : W.ownsRow lo t sh.length v n xs) (hr : Rep W false (reps n sh) G es xs) : ∃ F, Rep W false [.row t sh] F [.row n es] [v] ∧ ∀ b ∈ F, lo ≤ b ∨ b ∈ G := by
  rcases h.2 with ⟨rfl, rfl⟩ | ⟨g, cap, cur, rfl, q2, q3, q4, q5, q6, q7⟩
  · rw [reps_zero] at hr
    cases hr
    exact ⟨[], .emp _ _ none rfl .nil, by simp⟩
  · refine ⟨g :: (G ++ []), .row t sh g 0 n cap t (cap * sh.length) xs es G ⟨cur, q3, q6⟩ (by omega) (by simp) ⟨Nat.le_trans q4 q5, q4⟩ ?_ hr .nil, ?_⟩
    · intro j x hx
      rw [← q7] at hx
      have hl : j < n * sh.length := by have := (List.getElem?_eq_some_iff.1 hx).1; rw [List.length_take] at this; omega
      rw [List.getElem?_take_of_lt hl] at hx
      rw [Nat.zero_add]
      simp only [World.cell?, q3]
      simpa using hx
    · intro b hb
      rw [List.append_nil] at hb
      rcases List.mem_cons.1 hb with rfl | hb
      · exact Or.inl q2
      · exact Or.inr hb

end Go.Proofs.Ytfmhfacaemfhlaa

namespace Go.Proofs.Ytfmhfacaemfhlaa
open Go.RowKit Go.Deep

theorem Try.elem_lines : Try.prog.elem 38 = 48 := by kernel_rfl
theorem Try.under_linesE : Try.prog.underlying 38 = some (.slice (Try.prog.elem 38)) := by rw [Try.elem_lines]; exact Try.under_lines
/-- While a line's place is sought. -/
structure Pt (w : World) (b0 : Nat) (kd nm : ByteArray) (lv : Value) (xs : List Value) (W : World) : Prop where
  bel : Below w.heap.size w W
  box : WBox W b0 40 [.string kd, .string nm, lv]
  arg : LBox W (b0 + 1) xs
  res : WBox W (b0 + 2) 40 [.string { data := #[] }, .string { data := #[] }, .slice none 0 0]
theorem Pt.later {w W W' : World} {b0 : Nat} {kd nm : ByteArray} {lv : Value} {xs : List Value} (h : Pt w b0 kd nm lv xs W) (hb : Below W.heap.size W W') : Pt w b0 kd nm lv xs W' := ⟨blw_trans h.bel hb, h.box.later hb, h.arg.later hb, h.res.later hb⟩
/-- Behind it. -/
structure PtK (w : World) (b0 : Nat) (kd nm : ByteArray) (n : Nat) (u : Value) (G : List Nat) (es : List Dt) (xs : List Value) (W : World) : Prop where
  form : ∃ g cap, u = .slice (some ⟨g, 0, none⟩) (n + 1) cap
  bel : Below w.heap.size w W
  box : WBox W b0 40 [.string kd, .string nm, u]
  res : WBox W (b0 + 2) 40 [.string { data := #[] }, .string { data := #[] }, .slice none 0 0]
  row : W.ownsRow (b0 + 3) 48 2 u (n + 1) xs
  rep : Rep W false (reps (n + 1) shSheetLine) G es xs
theorem ownsRow_lo {W : World} {lo lo' e size n : Nat} {v : Value} {xs : List Value} (h : W.ownsRow lo e size v n xs) (hl : lo' ≤ lo) : W.ownsRow lo' e size v n xs := by
  refine ⟨h.1, h.2.imp id ?_⟩
  rintro ⟨g, cap, cur, h1, h2, h3⟩
  exact ⟨g, cap, cur, h1, Nat.le_trans hl h2, h3⟩
theorem PtK.mk' {w Y : World} {b0 lo n g cap : Nat} {kd nm : ByteArray} {lv : Value} {G : List Nat} {es : List Dt} {xs ys : List Value} (hb : b0 = w.heap.size) (h : Pt w b0 kd nm lv ys Y) (hlo : b0 + 3 ≤ lo) (ho : Y.ownsRow lo 48 2 (.slice (some ⟨g, 0, none⟩) (n + 1) cap) (n + 1) xs) (hr : Rep Y false (reps (n + 1) shSheetLine) G es xs) (hG : ∀ b ∈ G, b < b0) :
    PtK w b0 kd nm n (.slice (some ⟨g, 0, none⟩) (n + 1) cap) G es xs (Y.setCell ⟨b0, 2, none⟩ (.slice (some ⟨g, 0, none⟩) (n + 1) cap)) := by
  have hm : Marks (fun b => b = b0) Y (Y.setCell ⟨b0, 2, none⟩ (.slice (some ⟨g, 0, none⟩) (n + 1) cap)) := Marks.sc (S := fun b => b = b0) Y rfl 2 _
  exact ⟨⟨g, cap, rfl⟩, hm.below (fun b e => by omega) h.bel, h.box.set 2 _ (by simp), h.res.other (by omega) _ _, owns_mks (ownsRow_lo ho hlo) hm fun b hb e => by omega, hr.keep hm fun b hb e => by have := hG b hb; omega⟩
/-- A function's answer: a struct whose lists lie in memory of its own, or in what was given. -/
def AnsS (sh : List Sh) (A : List Dt) (F : Nat → Prop) (W : World) (e : Ending) (w' : World) : Prop := ∃ c F', e = .returned (.agg c.toArray) ∧ Rep w' false sh F' A c ∧ (∀ b ∈ F', F b ∨ W.heap.size ≤ b) ∧ Below W.heap.size W w'
theorem PtK.ans {w W we : World} {b0 n g cap : Nat} {kd nm : ByteArray} {G : List Nat} {l : List Pl.Ln} {xs : List Value} {S : Nat → Prop} (h : PtK w b0 kd nm n (.slice (some ⟨g, 0, none⟩) (n + 1) cap) G (l.flatMap lnD) xs W) (hb : b0 = w.heap.size) (hm : Marks (fun b => b = b0 + 2) W we) (hG : ∀ b ∈ G, b < b0) (hl : l.length = n + 1) (hS : ∀ b ∈ G, S b) :
    AnsS shSheetBlock (blD ⟨kd, nm, l⟩) S w (.returned (.agg #[.string kd, .string nm, .slice (some ⟨g, 0, none⟩) (n + 1) cap])) we := by
  obtain ⟨F, r, hF⟩ := owns_rep (sh := shSheetLine) (owns_mks h.row hm fun b hb e => by omega) (h.rep.keep hm fun b hb e => by have := hG b hb; omega)
  refine ⟨[.string kd, .string nm, .slice (some ⟨g, 0, none⟩) (n + 1) cap], F ++ [], rfl, ?_, fun b hb => ?_, hm.below (fun b e => by omega) h.bel⟩
  · unfold blD lnsD
    rw [hl]
    exact repSheetBlock_mk kd nm r
  · rw [List.append_nil] at hb
    rcases hF b hb with q | q
    · exact Or.inr (by omega)
    · exact Or.inl (hS b q)
def VIn (lv s1 s2 : Value) (k b0 : Nat) (X : Array Value) : Nat → Value → Prop
  | 1, u => u = .pointer (some ⟨b0, 2, none⟩)
  | 2, u => u = lv
  | 3, u => u = .int .i64 (k : Int)
  | 4, u => u = s1
  | 6, u => u = .agg X
  | 9, u => u = .pointer (some ⟨b0, 2, none⟩)
  | 10, u => u = lv
  | 11, u => u = .int .i64 (k : Int)
  | 12, u => u = s2
  | 14, u => u = .pointer (some ⟨b0, 2, none⟩)
  | _, _ => True
def VPa (va : Option Addr) (vc : Nat) (n : Nat) (k : Nat) (b0 : Nat) : Nat → Value → World → Prop
  | 0, u, _ => u = .int .i64 (k : Int)
  | 1, u, _ => u = .pointer (some ⟨b0, 2, none⟩)
  | 2, u, _ => u = .slice va n vc
  | 3, u, _ => u = .int .i64 (n : Int)
  | 4, u, _ => u = .bool false
  | 5, u, _ => u = .bool false
  | 6, u, _ => u = undef
  | 7, u, _ => u = undef
  | 8, u, _ => u = undef
  | 9, u, _ => u = undef
  | 10, u, _ => u = undef
  | 11, u, _ => u = undef
  | 12, u, _ => u = undef
  | 13, u, _ => u = undef
  | 14, u, _ => u = undef
  | 15, u, _ => u = .bool false
  | _, _, _ => True
theorem VPa_mono (va : Option Addr) (vc : Nat) (n : Nat) (k : Nat) (b0 : Nat) : ∀ jj u W W', Below W.heap.size W W' → VPa va vc n k b0 jj u W → VPa va vc n k b0 jj u W' := by
  intro jj u W W' hb h
  match jj with
  | 0 => exact h
  | 1 => exact h
  | 2 => exact h
  | 3 => exact h
  | 4 => exact h
  | 5 => exact h
  | 6 => exact h
  | 7 => exact h
  | 8 => exact h
  | 9 => exact h
  | 10 => exact h
  | 11 => exact h
  | 12 => exact h
  | 13 => exact h
  | 14 => exact h
  | 15 => exact h
  | n + 16 => exact trivial
def VPb (b : Pl.Bl) (x : Pl.Ln) (y : Pl.Ln) (va : Option Addr) (xa : Option Addr) (ya : Option Addr) (vc : Nat) (xc : Nat) (yc : Nat) (p : Nat) (o : Nat) (n : Nat) (k : Nat) (b0 : Nat) : Nat → Value → World → Prop
  | 0, u, _ => u = .int .i64 (k : Int)
  | 1, u, _ => u = .pointer (some ⟨b0, 2, none⟩)
  | 2, u, _ => u = .slice va n vc
  | 3, u, _ => u = .int .i64 (n : Int)
  | 4, u, _ => u = .bool true
  | 5, u, _ => u = .bool true
  | 6, u, _ => u = .pointer (some ⟨b0, 0, none⟩)
  | 7, u, _ => u = .string b.kind
  | 8, u, _ => u = .pointer (some ⟨b0, 2, none⟩)
  | 9, u, _ => u = .slice va n vc
  | 10, u, _ => u = .int .i64 (k : Int)
  | 11, u, _ => u = .pointer (some ⟨p, o + k * 2, none⟩)
  | 12, u, _ => u = .agg #[.string y.key, .slice ya y.ws.length yc]
  | 13, u, _ => u = .agg #[.string x.key, .slice xa x.ws.length xc]
  | 14, u, _ => u = .bool true
  | 15, u, _ => u = .bool true
  | _, _, _ => True
theorem VPb_mono (b : Pl.Bl) (x : Pl.Ln) (y : Pl.Ln) (va : Option Addr) (xa : Option Addr) (ya : Option Addr) (vc : Nat) (xc : Nat) (yc : Nat) (p : Nat) (o : Nat) (n : Nat) (k : Nat) (b0 : Nat) : ∀ jj u W W', Below W.heap.size W W' → VPb b x y va xa ya vc xc yc p o n k b0 jj u W → VPb b x y va xa ya vc xc yc p o n k b0 jj u W' := by
  intro jj u W W' hb h
  match jj with
  | 0 => exact h
  | 1 => exact h
  | 2 => exact h
  | 3 => exact h
  | 4 => exact h
  | 5 => exact h
  | 6 => exact h
  | 7 => exact h
  | 8 => exact h
  | 9 => exact h
  | 10 => exact h
  | 11 => exact h
  | 12 => exact h
  | 13 => exact h
  | 14 => exact h
  | 15 => exact h
  | n + 16 => exact trivial
def VPc (b : Pl.Bl) (x : Pl.Ln) (y : Pl.Ln) (va : Option Addr) (xa : Option Addr) (ya : Option Addr) (vc : Nat) (xc : Nat) (yc : Nat) (p : Nat) (o : Nat) (n : Nat) (k : Nat) (b0 : Nat) : Nat → Value → World → Prop
  | 0, u, _ => u = .int .i64 (k : Int)
  | 1, u, _ => u = .pointer (some ⟨b0, 2, none⟩)
  | 2, u, _ => u = .slice va n vc
  | 3, u, _ => u = .int .i64 (n : Int)
  | 4, u, _ => u = .bool true
  | 5, u, _ => u = .bool true
  | 6, u, _ => u = .pointer (some ⟨b0, 0, none⟩)
  | 7, u, _ => u = .string b.kind
  | 8, u, _ => u = .pointer (some ⟨b0, 2, none⟩)
  | 9, u, _ => u = .slice va n vc
  | 10, u, _ => u = .int .i64 (k : Int)
  | 11, u, _ => u = .pointer (some ⟨p, o + k * 2, none⟩)
  | 12, u, _ => u = .agg #[.string y.key, .slice ya y.ws.length yc]
  | 13, u, _ => u = .agg #[.string x.key, .slice xa x.ws.length xc]
  | 14, u, _ => u = .bool false
  | 15, u, _ => u = .bool false
  | _, _, _ => True
theorem VPc_mono (b : Pl.Bl) (x : Pl.Ln) (y : Pl.Ln) (va : Option Addr) (xa : Option Addr) (ya : Option Addr) (vc : Nat) (xc : Nat) (yc : Nat) (p : Nat) (o : Nat) (n : Nat) (k : Nat) (b0 : Nat) : ∀ jj u W W', Below W.heap.size W W' → VPc b x y va xa ya vc xc yc p o n k b0 jj u W → VPc b x y va xa ya vc xc yc p o n k b0 jj u W' := by
  intro jj u W W' hb h
  match jj with
  | 0 => exact h
  | 1 => exact h
  | 2 => exact h
  | 3 => exact h
  | 4 => exact h
  | 5 => exact h
  | 6 => exact h
  | 7 => exact h
  | 8 => exact h
  | 9 => exact h
  | 10 => exact h
  | 11 => exact h
  | 12 => exact h
  | 13 => exact h
  | 14 => exact h
  | 15 => exact h
  | n + 16 => exact trivial

set_option maxRecDepth 8000 in
set_option maxHeartbeats 8000000 in
theorem l39PutLineS (b : Pl.Bl) (x : Pl.Ln) (lv wv : Value) (F Fx : List Nat) (w : World) (h : Rep w false shLns F [lnsD b.lines] [lv]) (hx : Rep w false shTxs Fx [.row x.ws.length (txD x.ws)] [wv]) (hl : b.lines.length ≤ 4194304) :
    Calls Try.prog 19 #[.agg #[.string b.kind, .string b.name, lv], .agg #[.string x.key, wv]] w (AnsS shSheetBlock (blD ⟨b.kind, b.name, Pl.putLn b.kind b.lines x⟩) (fun q => q ∈ F ∨ q ∈ Fx) w) := by
  obtain ⟨i0, hi0, hz0, hz1, hz2⟩ := uinfo Try.info_line
  obtain ⟨va, vc, ev⟩ := h.raw.len0
  obtain ⟨xa, xc, ex⟩ := hx.raw.len0
  subst ev; subst ex
  obtain ⟨n, hn⟩ : ∃ n, n = b.lines.length := ⟨_, rfl⟩
  have HN := uh hn
  have hnz : n ≤ 4194304 := by omega
  obtain ⟨b0, hb0⟩ : ∃ b0, b0 = w.heap.size := ⟨_, rfl⟩
  have HBZ := uh hb0
  have HFB : Hid (∀ q ∈ F, q < b0) := fun q hq => by rw [hb0]; exact h.lt q hq
  have HFX : Hid (∀ q ∈ Fx ++ [], q < b0) := fun q hq => by rw [hb0]; rw [List.append_nil] at hq; exact hx.lt q hq
  have HXT := uh hx
  have HXR : Hid (Rep w false shSheetLine (Fx ++ []) (lnD x) [.string x.key, .slice xa x.ws.length xc]) := repSheetLine_mk x.key hx
  have HL := uh h
  rw [← hn]
  rw [← hn] at HL
  clear h hx hl hn
  obtain ⟨wa, hwa⟩ : ∃ wa, wa = ((w.alloc (.cells #[.string b.kind, .string b.name, .slice va n vc] 40)).alloc (.cells #[.string x.key, .slice xa x.ws.length xc] 48)).alloc (.cells #[.string { data := #[] }, .string { data := #[] }, .slice none 0 0] 40) := ⟨_, rfl⟩
  have H0 : Hid (Pt w b0 b.kind b.name (.slice va n vc) [.string x.key, .slice xa x.ws.length xc] wa) := by
    show Pt _ _ _ _ _ _ _
    refine ⟨?_, ?_, ?_, ?_⟩
    · rw [hwa]; exact blw_alloc (blw_alloc (blw_alloc (Below.refl _ _) _) _) _
    · rw [hwa, hb0]; exact (WBox.new w [.string b.kind, .string b.name, .slice va n vc] 40 _ rfl).later (blw_alloc (blw_alloc (Below.refl _ _) _) _)
    · rw [hwa, hb0]; exact (LBox.new (w.alloc (.cells #[.string b.kind, .string b.name, .slice va n vc] 40)) #[.string x.key, .slice xa x.ws.length xc] 48 _ (by simp)).past _
    · rw [hwa, hb0]; exact WBox.new ((w.alloc (.cells #[.string b.kind, .string b.name, .slice va n vc] 40)).alloc (.cells #[.string x.key, .slice xa x.ws.length xc] 48)) [.string { data := #[] }, .string { data := #[] }, .slice none 0 0] 40 _ (by simp)
  go_enter Try.func19, Try.ntmps19
  go_upto_region 1 with fail
  rw [← hwa, ← hb0]
  clear hwa hb0
  go_wp2
  go_loopw [5] (fun vi wr => ∃ k : Nat, k ≤ n ∧ vi = .int .i64 k ∧ Pt w b0 b.kind b.name (.slice va n vc) [.string x.key, .slice xa x.ws.length xc] wr ∧ ∀ j, j < k → Pl.lineLess b.kind (b.lines.getD j Pl.lnNo) x = true) (fun vi _ => n - (intOf vi).toNat)
  case atStart => exact ⟨0, Nat.zero_le _, rfl, H0.out, fun j hj => absurd hj (by omega)⟩
  case round =>
    obtain ⟨k, hk, rfl, hO, hI⟩ := hrel
    have HO := uh hO
    have HI := uh hI
    have HP0 := uh (fun hh => Pl.putAt_at Pl.lnNo (fun y => Pl.lineLess b.kind y x) b.lines x k (by have := HN.out; omega) hI hh)
    clear hO hI H0
    by_cases hlt : k < n
    rotate_left
    · have hgo : ¬ ((k : Int) < (n : Int)) := by omega
      have HPUT : Hid (Pl.putLn b.kind b.lines x = b.lines.take k ++ x :: b.lines.drop k) := HP0.out (Or.inl (by have := HN.out; omega))
      have HLN : Hid ((Pl.putLn b.kind b.lines x).length = n + 1) := by show _ = _; rw [HPUT.out, List.length_append, List.length_cons, List.length_take, List.length_drop]; have := HN.out; omega
      go_upto_region 2 with fail
      refine RY.region_pastG wr (Below.refl _ _) (VPa va vc n k b0) (VPa_mono _ _ _ _ _) (by kernel_rfl) (by kernel_rfl) (by kernel_rfl) (by kernel_rfl) ?_ ?_
      · intro i o' ho a X hX hk hd
        have z0 := (HO.out.box.later hX).get 0 _ rfl
        have z2 := (HO.out.box.later hX).get 2 _ rfl
        have rx := (HO.out.arg.later hX).at_
        match i, ho with
        | 0, ho =>
          injection ho with ho; subst ho
          have e5 : a.tmps[5]?.getD undef = .int .i64 (k : Int) := (RY.ev_tmp a 5).trans ((hk 5 (by kernel_rfl)).trans rfl)
          exact Or.inl ⟨RY.wanted_no rfl, Or.inl ⟨.int .i64 (k : Int), X, by simp [execOp, go_sem, e5], Below.refl _ _, rfl⟩⟩
        | 1, ho =>
          injection ho with ho; subst ho
          have e2 : a.tmps[2]?.getD undef = .pointer (some ⟨b0, 0, none⟩) := (RY.ev_tmp a 2).trans ((hk 2 (by kernel_rfl)).trans rfl)
          exact Or.inl ⟨RY.wanted_no rfl, Or.inl ⟨.pointer (some ⟨b0, 2, none⟩), X, by simp [execOp, go_sem, e2], Below.refl _ _, rfl⟩⟩
        | 2, ho =>
          injection ho with ho; subst ho
          have e7 : a.tmps[7]?.getD undef = _ := (RY.ev_tmp a 7).trans (hd 1 _ 7 rfl rfl ⟨⟨1, .data⟩, by simp, rfl, rfl⟩)
          exact Or.inl ⟨RY.wanted_no rfl, Or.inl ⟨.slice va n vc, X, by simp [execOp, go_sem, e7, z2], Below.refl _ _, rfl⟩⟩
        | 3, ho =>
          injection ho with ho; subst ho
          have e8 : a.tmps[8]?.getD undef = _ := (RY.ev_tmp a 8).trans (hd 2 _ 8 rfl rfl ⟨⟨2, .data⟩, by simp, rfl, rfl⟩)
          exact Or.inl ⟨RY.wanted_no rfl, Or.inl ⟨.int .i64 (n : Int), X, by simp [go_sem, e8], Below.refl _ _, rfl⟩⟩
        | 4, ho =>
          injection ho with ho; subst ho
          have e6 : a.tmps[6]?.getD undef = _ := (RY.ev_tmp a 6).trans (hd 0 _ 6 rfl rfl ⟨⟨0, .data⟩, by simp, rfl, rfl⟩)
          have e9 : a.tmps[9]?.getD undef = _ := (RY.ev_tmp a 9).trans (hd 3 _ 9 rfl rfl ⟨⟨3, .data⟩, by simp, rfl, rfl⟩)
          exact Or.inl ⟨RY.wanted_no rfl, Or.inl ⟨.bool false, X, by simp [execOp, go_sem, e6, e9, hgo], Below.refl _ _, rfl⟩⟩
        | 5, ho =>
          injection ho with ho; subst ho
          have e10 : a.tmps[10]?.getD undef = _ := (RY.ev_tmp a 10).trans (hd 4 _ 10 rfl rfl ⟨⟨4, .data⟩, by simp, rfl, rfl⟩)
          exact Or.inl ⟨RY.wanted_no rfl, Or.inl ⟨.bool false, X, by simp [execOp, go_sem, e10], Below.refl _ _, rfl⟩⟩
        | 6, ho =>
          injection ho with ho; subst ho
          have gd := hd 5 _ 11 rfl rfl ⟨⟨5, .guard⟩, by simp, rfl, rfl⟩
          exact Or.inr ⟨(RY.wanted_at rfl rfl rfl gd).trans rfl, rfl⟩
        | 7, ho =>
          injection ho with ho; subst ho
          have gd := hd 5 _ 11 rfl rfl ⟨⟨5, .guard⟩, by simp, rfl, rfl⟩
          exact Or.inr ⟨(RY.wanted_at rfl rfl rfl gd).trans rfl, rfl⟩
        | 8, ho =>
          injection ho with ho; subst ho
          have gd := hd 5 _ 11 rfl rfl ⟨⟨5, .guard⟩, by simp, rfl, rfl⟩
          exact Or.inr ⟨(RY.wanted_at rfl rfl rfl gd).trans rfl, rfl⟩
        | 9, ho =>
          injection ho with ho; subst ho
          have gd := hd 5 _ 11 rfl rfl ⟨⟨5, .guard⟩, by simp, rfl, rfl⟩
          exact Or.inr ⟨(RY.wanted_at rfl rfl rfl gd).trans rfl, rfl⟩
        | 10, ho =>
          injection ho with ho; subst ho
          have gd := hd 5 _ 11 rfl rfl ⟨⟨5, .guard⟩, by simp, rfl, rfl⟩
          exact Or.inr ⟨(RY.wanted_at rfl rfl rfl gd).trans rfl, rfl⟩
        | 11, ho =>
          injection ho with ho; subst ho
          have gd := hd 5 _ 11 rfl rfl ⟨⟨5, .guard⟩, by simp, rfl, rfl⟩
          exact Or.inr ⟨(RY.wanted_at rfl rfl rfl gd).trans rfl, rfl⟩
        | 12, ho =>
          injection ho with ho; subst ho
          have gd := hd 5 _ 11 rfl rfl ⟨⟨5, .guard⟩, by simp, rfl, rfl⟩
          exact Or.inr ⟨(RY.wanted_at rfl rfl rfl gd).trans rfl, rfl⟩
        | 13, ho =>
          injection ho with ho; subst ho
          have gd := hd 5 _ 11 rfl rfl ⟨⟨5, .guard⟩, by simp, rfl, rfl⟩
          exact Or.inr ⟨(RY.wanted_at rfl rfl rfl gd).trans rfl, rfl⟩
        | 14, ho =>
          injection ho with ho; subst ho
          have gd := hd 5 _ 11 rfl rfl ⟨⟨5, .guard⟩, by simp, rfl, rfl⟩
          exact Or.inr ⟨(RY.wanted_at rfl rfl rfl gd).trans rfl, rfl⟩
        | 15, ho =>
          injection ho with ho; subst ho
          have e11 : a.tmps[11]?.getD undef = _ := (RY.ev_tmp a 11).trans (hd 5 _ 11 rfl rfl ⟨⟨5, .data⟩, by simp, rfl, rfl⟩)
          have e20 : a.tmps[20]?.getD undef = _ := (RY.ev_tmp a 20).trans (hd 14 _ 20 rfl rfl ⟨⟨14, .data⟩, by simp, rfl, rfl⟩)
          exact Or.inl ⟨RY.wanted_no rfl, Or.inl ⟨.bool false, X, by simp [execOp, go_sem, e11, e20], Below.refl _ _, rfl⟩⟩
        | n + 16, ho => simp at ho
      intro X vs hX hvs
      have q21 : vs 21 = _ := hvs 15 _ 21 rfl rfl
      simp only [RY.putAll, Act.put, List.setIfInBounds_toArray, List.set_cons_zero, List.set_cons_succ]
      rw [q21]
      generalize vs 6 = s6
      generalize vs 7 = s7
      generalize vs 8 = s8
      generalize vs 9 = s9
      generalize vs 10 = s10
      generalize vs 11 = s11
      generalize vs 12 = s12
      generalize vs 13 = s13
      generalize vs 14 = s14
      generalize vs 15 = s15
      generalize vs 16 = s16
      generalize vs 17 = s17
      generalize vs 18 = s18
      generalize vs 19 = s19
      generalize vs 20 = s20
      clear hvs q21
      have HO2 := uh (HO.out.later hX)
      clear hX HO
      obtain ⟨lv, hlv⟩ : ∃ z, z = Value.slice va n vc := ⟨_, rfl⟩
      have HRL : Hid (Rep X false shLns F [lnsD b.lines] [lv]) := by show Rep _ _ _ _ _ _; rw [hlv]; exact HL.out.later HO2.out.bel
      rw [← hlv] at HO2
      clear hlv
      obtain ⟨s1, s2, vs, G, hR, hGF, hl1, hl2, hs1, hs2⟩ := lst_cut (P := Try.prog) (t := 38) Try.under_linesE (Try.elem_lines ▸ hi0) hz1 HRL.out k (by have := HN.out; omega)
      obtain ⟨G2, hR2, hG2⟩ := ins_rep (sh := shSheetLine) lnD lnD_len (k := k) (x := x) (by have := HN.out; omega) hR (HXR.out.later HO2.out.bel)
      have hvl : vs.length = n * 2 := by rw [hR.len, reps_len, ← HN.out]; rfl
      have hkn2 : k * 2 ≤ n * 2 := by omega
      rw [← HPUT.out] at hR2
      rw [← HN.out] at hR2 hl2
      have HS1 := uh hs1
      have HS2 := uh hs2
      have HL1 := uh hl1
      have HL2 := uh hl2
      have HG2 : Hid (∀ b ∈ G2, b < b0) := fun b hb => by rcases hG2 b hb with h | h; exact HFB.out b (hGF b h); exact HFX.out b h
      have HIN := uh hG2
      have HGF := uh hGF
      have HR2 := uh hR2
      clear hs1 hs2 hl1 hl2 hR hGF hR2 hG2 HRL
      go_upto_region 4 with fail
      refine RY.region_ins X (Below.refl _ _) 48 2 k (k + 1) (n + 1) (vs.take (k * 2)) (vs.take (k * 2) ++ [.string x.key, .slice xa x.ws.length xc]) (vs.take (k * 2) ++ [.string x.key, .slice xa x.ws.length xc] ++ vs.drop (k * 2)) #[.string x.key, .slice xa x.ws.length xc] (VIn lv s1 s2 k b0 #[.string x.key, .slice xa x.ws.length xc]) (fun u W' => PtK w b0 b.kind b.name n u G2 ((Pl.putLn b.kind b.lines x).flatMap lnD) (vs.take (k * 2) ++ [.string x.key, .slice xa x.ws.length xc] ++ vs.drop (k * 2)) W') 12 24 29 31 32 37 38 (by kernel_rfl) (by kernel_rfl) (by kernel_rfl) (by kernel_rfl) (by kernel_rfl) rfl (by kernel_rfl) _ _ _ _ _ _ _ rfl rfl rfl rfl rfl rfl rfl rfl rfl rfl rfl rfl rfl rfl (by kernel_rfl) (by kernel_rfl) (by kernel_rfl) (by kernel_rfl) (by kernel_rfl) (by kernel_rfl) ?_ ?_ ?_ ?_ ?_ ?_ ?_ ?_ ?_
      · intro i u h
        rcases h with rfl | rfl | rfl | rfl | rfl <;> exact trivial
      · intro i o' ho n0 n5 n7 n8 n13 n15 a Y hY hk hd
        have z2 := (HO2.out.box.later hY).get 2 _ rfl
        have rx := (HO2.out.arg.later hY).at_
        match i, ho with
        | 0, ho => exact absurd rfl n0
        | 1, ho =>
          injection ho with ho; subst ho
          have e2 : a.tmps[2]?.getD undef = .pointer (some ⟨b0, 0, none⟩) := (RY.ev_tmp a 2).trans ((hk 2 (by kernel_rfl)).trans rfl)
          exact ⟨.pointer (some ⟨b0, 2, none⟩), by simp [execOp, go_sem, e2], rfl⟩
        | 2, ho =>
          injection ho with ho; subst ho
          have e25 : a.tmps[25]?.getD undef = _ := (RY.ev_tmp a 25).trans (hd 1 _ 25 rfl rfl ⟨⟨1, .data⟩, by simp, rfl, rfl⟩)
          exact ⟨lv, by simp [execOp, go_sem, e25, z2], rfl⟩
        | 3, ho =>
          injection ho with ho; subst ho
          have e5 : a.tmps[5]?.getD undef = .int .i64 (k : Int) := (RY.ev_tmp a 5).trans ((hk 5 (by kernel_rfl)).trans rfl)
          exact ⟨.int .i64 (k : Int), by simp [execOp, go_sem, e5], rfl⟩
        | 4, ho =>
          injection ho with ho; subst ho
          have f26 : a.eval (.tmp 26) = lv := hd 2 _ 26 rfl rfl ⟨⟨2, .data⟩, by simp, rfl, rfl⟩
          have f27 : a.eval (.tmp 27) = .int .i64 (k : Int) := hd 3 _ 27 rfl rfl ⟨⟨3, .data⟩, by simp, rfl, rfl⟩
          exact ⟨s1, by simp [execOp, f26, f27, run_sliceAt_slice (P := Try.prog) (w := Y) 38 lv none (some (.int .i64 (k : Int))) none Try.under_linesE, HS1.out], rfl⟩
        | 5, ho => exact absurd rfl n5
        | 6, ho =>
          injection ho with ho; subst ho
          have e3 : a.tmps[3]?.getD undef = .pointer (some ⟨b0 + 1, 0, none⟩) := (RY.ev_tmp a 3).trans ((hk 3 (by kernel_rfl)).trans rfl)
          exact ⟨.agg #[.string x.key, .slice xa x.ws.length xc], exec_load_mid 48 _ rfl (b0 + 1) 0 ((RY.ev_tmp a 3).symm.trans e3) [.string x.key, .slice xa x.ws.length xc] _ rx Try.underlying48 rfl (by kernel_rfl), rfl⟩
        | 7, ho => exact absurd rfl n7
        | 8, ho => exact absurd rfl n8
        | 9, ho =>
          injection ho with ho; subst ho
          have e2 : a.tmps[2]?.getD undef = .pointer (some ⟨b0, 0, none⟩) := (RY.ev_tmp a 2).trans ((hk 2 (by kernel_rfl)).trans rfl)
          exact ⟨.pointer (some ⟨b0, 2, none⟩), by simp [execOp, go_sem, e2], rfl⟩
        | 10, ho =>
          injection ho with ho; subst ho
          have e33 : a.tmps[33]?.getD undef = _ := (RY.ev_tmp a 33).trans (hd 9 _ 33 rfl rfl ⟨⟨9, .data⟩, by simp, rfl, rfl⟩)
          exact ⟨lv, by simp [execOp, go_sem, e33, z2], rfl⟩
        | 11, ho =>
          injection ho with ho; subst ho
          have e5 : a.tmps[5]?.getD undef = .int .i64 (k : Int) := (RY.ev_tmp a 5).trans ((hk 5 (by kernel_rfl)).trans rfl)
          exact ⟨.int .i64 (k : Int), by simp [execOp, go_sem, e5], rfl⟩
        | 12, ho =>
          injection ho with ho; subst ho
          have f34 : a.eval (.tmp 34) = lv := hd 10 _ 34 rfl rfl ⟨⟨10, .data⟩, by simp, rfl, rfl⟩
          have f35 : a.eval (.tmp 35) = .int .i64 (k : Int) := hd 11 _ 35 rfl rfl ⟨⟨11, .data⟩, by simp, rfl, rfl⟩
          exact ⟨s2, by simp [execOp, f34, f35, run_sliceAt_slice (P := Try.prog) (w := Y) 38 lv (some (.int .i64 (k : Int))) none none Try.under_linesE, HS2.out], rfl⟩
        | 13, ho => exact absurd rfl n13
        | 14, ho =>
          injection ho with ho; subst ho
          have e2 : a.tmps[2]?.getD undef = .pointer (some ⟨b0, 0, none⟩) := (RY.ev_tmp a 2).trans ((hk 2 (by kernel_rfl)).trans rfl)
          exact ⟨.pointer (some ⟨b0, 2, none⟩), by simp [execOp, go_sem, e2], rfl⟩
        | 15, ho => exact absurd rfl n15
        | n + 16, ho => simp at ho
      · intro a Y
        simp [execOp, go_sem]
      · intro a Y hd
        have e30 : a.tmps[30]?.getD undef = _ := (RY.ev_tmp a 30).trans (hd 6 _ 30 rfl rfl ⟨⟨6, .data⟩, by simp, rfl, rfl⟩)
        simp [execOp, go_sem, e30]
      · intro a Y hY hd ho
        have e28 := hd 4 _ 28 rfl rfl ⟨⟨4, .data⟩, by simp, rfl, rfl⟩
        obtain ⟨u, W', hr, hA⟩ := app_lst 38 38 48 i0 _ 2 40 Try.under_lines hi0 hz0 hz1 hz2 rfl (by decide) HL1.out hY ho (by unfold maxLen; omega) (by omega)
        rw [Nat.zero_add, List.nil_append] at hA
        exact ⟨u, W', uexec_append (.tmp 24) (.tmp 28) 38 rfl rfl e28 hr, hA⟩
      · intro a Y hY ho q eq hq
        obtain ⟨u, W', hr, h2, h3, _, h5⟩ := run_append_own_at (P := Try.prog) Y X.heap.size 38 38 48 i0 _ 2 40 Try.under_lines hi0 hz0 hz1 hz2 rfl (by decide) _ k _ ho ⟨q, 0, none⟩ 1 1 [.string x.key, .slice xa x.ws.length xc] rfl (fun j y hy => by rw [Addr.add_mid, Nat.zero_add]; simp only [World.cell?, hq]; simpa using hy) (by simp [Value.oneCell']) (by unfold maxLen; omega) (by omega) hY.size
        exact ⟨u, W', uexec_append (.tmp 29) (.tmp 31) 38 rfl rfl eq hr, h2, h3, h5⟩
      · intro a Y hY hd ho
        have e36 := hd 12 _ 36 rfl rfl ⟨⟨12, .data⟩, by simp, rfl, rfl⟩
        obtain ⟨u, W', hr, hA⟩ := app_lst 38 38 48 i0 _ 2 40 Try.under_lines hi0 hz0 hz1 hz2 rfl (by decide) HL2.out hY ho (by unfold maxLen; omega) (by omega)
        have en : k + 1 + (n - k) = n + 1 := by omega
        rw [en] at hA
        exact ⟨u, W', uexec_append (.tmp 32) (.tmp 36) 38 rfl rfl e36 hr, hA⟩
      · intro a Y hY h14 ho
        obtain ⟨g, cap, eu, _, _⟩ := ho.form (by omega)
        have t37 := (RY.ev_tmp a 37).trans eu
        have t38 : a.tmps[38]?.getD undef = _ := (RY.ev_tmp a 38).trans h14
        have B1 := HO2.out.box.later hY
        have z2 := B1.get 2 _ rfl
        have zf := B1.own.frozen 2
        refine ⟨Y.setCell ⟨b0, 2, none⟩ (.slice (some ⟨g, 0, none⟩) (n + 1) cap), by simp [execOp, go_sem, t37, t38, z2, zf], ?_⟩
        rw [eu] at ho ⊢
        exact PtK.mk' HBZ.out (HO2.out.later hY) (by have := HO2.out.res.own.lt; omega) ho (HR2.out.later hY) HG2.out
      · rintro vals W hK
        simp only [RY.putAll, Act.put, List.setIfInBounds_toArray, List.set_cons_zero, List.set_cons_succ]
        generalize vals 24 = s24
        generalize vals 25 = s25
        generalize vals 26 = s26
        generalize vals 27 = s27
        generalize vals 28 = s28
        generalize vals 29 = s29
        generalize vals 30 = s30
        generalize vals 31 = s31
        generalize vals 32 = s32
        generalize vals 33 = s33
        generalize vals 34 = s34
        generalize vals 35 = s35
        generalize vals 36 = s36
        generalize vals 37 = s37 at hK ⊢
        generalize vals 38 = s38
        obtain ⟨g, cap, eu⟩ := hK.form
        subst eu
        have HK := uh hK
        clear hK HO2 HS1 HS2 HL1 HL2 HR2
        go_upto_region 5 with fail
        have hxa := HK.out.box.at_
        have hxl := HK.out.box.own.lt
        have hol := HK.out.res.own.lt
        have hth : W.there (b0 + 2) 0 (#[.string b.kind, .string b.name, .slice (some ⟨g, 0, none⟩) (n + 1) cap] : Array Value).size := uthere HK.out.res.own _ _ (by simp)
        obtain ⟨we, hwe⟩ : ∃ we, we = W.setCells (b0 + 2) 0 [.string b.kind, .string b.name, .slice (some ⟨g, 0, none⟩) (n + 1) cap] := ⟨_, rfl⟩
        have hrt : we.rangeAt (b0 + 2) 0 [.string b.kind, .string b.name, .slice (some ⟨g, 0, none⟩) (n + 1) cap] := by rw [hwe]; exact World.rangeAt_setCells_same _ _ _ _ hth
        have HM2 : Hid (Marks (fun b => b = b0 + 2) W we) := by show Marks _ _ _; rw [hwe]; exact mks_scs (S := fun b => b = b0 + 2) rfl _ _ _
        go_wp2_with (first | (refine wpList_load_mid rfl 40 _ rfl b0 0 rfl [.string b.kind, .string b.name, .slice (some ⟨g, 0, none⟩) (n + 1) cap] _ hxa Try.underlying40 rfl (by kernel_rfl) ?_) | (refine wpList_store_mid rfl 40 _ _ rfl (b0 + 2) 0 #[.string b.kind, .string b.name, .slice (some ⟨g, 0, none⟩) (n + 1) cap] rfl rfl hth (by kernel_rfl) (by simp [Value.oneCell']) ?_))
        first | rw [← hwe] | (simp only [List.toList_toArray]; rw [← hwe])
        try simp only [Act.put]
        refine bodyPost_ret (v := .agg #[.string b.kind, .string b.name, .slice (some ⟨g, 0, none⟩) (n + 1) cap]) (by simp [results, Try.results19, asAddr, run_loadVar_mid (P := Try.prog) _ _ _ 40 [.string b.kind, .string b.name, .slice (some ⟨g, 0, none⟩) (n + 1) cap] _ hrt Try.underlying40 rfl (by kernel_rfl)]) rfl ?_
        exact HK.out.ans HBZ.out HM2.out HG2.out HLN.out (fun b hb => by rcases HIN.out b hb with h | h; exact Or.inl (HGF.out b h); exact Or.inr (by simpa using h))
    have hkL : k < b.lines.length := by have := HN.out; omega
    rcases lns_open (HL.out.later HO.out.bel).raw with ⟨e0, _⟩ | ⟨p, o, c, hv, hp, hml, hopen⟩
    · omega
    rw [← HN.out] at hv
    injection hv with g1 _ g3
    subst g1; subst g3
    obtain ⟨ya, yc, hgy, hry⟩ := hopen k hkL
    obtain ⟨y, hy⟩ : ∃ y, y = b.lines.getD k Pl.lnNo := ⟨_, rfl⟩
    rw [← hy] at hgy hry
    have HY := uh hy
    have HGY := uh hgy
    have HPZ := uh hp
    have HXW := uh (HXT.out.later HO.out.bel)
    have HRY := uh hry
    have hgo : (k : Int) < (n : Int) := by omega
    have hk0 : (0 : Int) ≤ (k : Int) := by omega
    have hkn : (k : Int) < (n : Int) := by omega
    clear hy hgy hry hp hopen hml
    cases hls : Pl.lineLess b.kind y x
    · have HCL : Hid (∀ X, Below wr.heap.size wr X → Calls Try.prog 37 #[.string b.kind, .agg #[.string y.key, .slice ya y.ws.length yc], .agg #[.string x.key, .slice xa x.ws.length xc]] X fun e w' => e = .returned (.bool false) ∧ Below X.heap.size X w') := fun X hX => by
        have := l39LineLessS b.kind y x ya xa yc xc X (HRY.out.later hX) (HXW.out.later hX).raw
        rwa [hls] at this
      have HPUT : Hid (Pl.putLn b.kind b.lines x = b.lines.take k ++ x :: b.lines.drop k) := HP0.out (Or.inr (by rw [← HY.out]; exact hls))
      have HLN : Hid ((Pl.putLn b.kind b.lines x).length = n + 1) := by show _ = _; rw [HPUT.out, List.length_append, List.length_cons, List.length_take, List.length_drop]; have := HN.out; omega
      go_upto_region 2 with fail
      refine RY.region_pastG wr (Below.refl _ _) (VPc b x y (some ⟨p, o, none⟩) xa ya vc xc yc p o n k b0) (VPc_mono _ _ _ _ _ _ _ _ _ _ _ _ _ _) (by kernel_rfl) (by kernel_rfl) (by kernel_rfl) (by kernel_rfl) ?_ ?_
      · intro i o' ho a X hX hk hd
        have z0 := (HO.out.box.later hX).get 0 _ rfl
        have z2 := (HO.out.box.later hX).get 2 _ rfl
        have rx := (HO.out.arg.later hX).at_
        have ry := rA_later HGY.out HPZ.out hX
        match i, ho with
        | 0, ho =>
          injection ho with ho; subst ho
          have e5 : a.tmps[5]?.getD undef = .int .i64 (k : Int) := (RY.ev_tmp a 5).trans ((hk 5 (by kernel_rfl)).trans rfl)
          exact Or.inl ⟨RY.wanted_no rfl, Or.inl ⟨.int .i64 (k : Int), X, by simp [execOp, go_sem, e5], Below.refl _ _, rfl⟩⟩
        | 1, ho =>
          injection ho with ho; subst ho
          have e2 : a.tmps[2]?.getD undef = .pointer (some ⟨b0, 0, none⟩) := (RY.ev_tmp a 2).trans ((hk 2 (by kernel_rfl)).trans rfl)
          exact Or.inl ⟨RY.wanted_no rfl, Or.inl ⟨.pointer (some ⟨b0, 2, none⟩), X, by simp [execOp, go_sem, e2], Below.refl _ _, rfl⟩⟩
        | 2, ho =>
          injection ho with ho; subst ho
          have e7 : a.tmps[7]?.getD undef = _ := (RY.ev_tmp a 7).trans (hd 1 _ 7 rfl rfl ⟨⟨1, .data⟩, by simp, rfl, rfl⟩)
          exact Or.inl ⟨RY.wanted_no rfl, Or.inl ⟨.slice (some ⟨p, o, none⟩) n vc, X, by simp [execOp, go_sem, e7, z2], Below.refl _ _, rfl⟩⟩
        | 3, ho =>
          injection ho with ho; subst ho
          have e8 : a.tmps[8]?.getD undef = _ := (RY.ev_tmp a 8).trans (hd 2 _ 8 rfl rfl ⟨⟨2, .data⟩, by simp, rfl, rfl⟩)
          exact Or.inl ⟨RY.wanted_no rfl, Or.inl ⟨.int .i64 (n : Int), X, by simp [go_sem, e8], Below.refl _ _, rfl⟩⟩
        | 4, ho =>
          injection ho with ho; subst ho
          have e6 : a.tmps[6]?.getD undef = _ := (RY.ev_tmp a 6).trans (hd 0 _ 6 rfl rfl ⟨⟨0, .data⟩, by simp, rfl, rfl⟩)
          have e9 : a.tmps[9]?.getD undef = _ := (RY.ev_tmp a 9).trans (hd 3 _ 9 rfl rfl ⟨⟨3, .data⟩, by simp, rfl, rfl⟩)
          exact Or.inl ⟨RY.wanted_no rfl, Or.inl ⟨.bool true, X, by simp [execOp, go_sem, e6, e9, hgo], Below.refl _ _, rfl⟩⟩
        | 5, ho =>
          injection ho with ho; subst ho
          have e10 : a.tmps[10]?.getD undef = _ := (RY.ev_tmp a 10).trans (hd 4 _ 10 rfl rfl ⟨⟨4, .data⟩, by simp, rfl, rfl⟩)
          exact Or.inl ⟨RY.wanted_no rfl, Or.inl ⟨.bool true, X, by simp [execOp, go_sem, e10], Below.refl _ _, rfl⟩⟩
        | 6, ho =>
          injection ho with ho; subst ho
          have gd := hd 5 _ 11 rfl rfl ⟨⟨5, .guard⟩, by simp, rfl, rfl⟩
          have e2 : a.tmps[2]?.getD undef = .pointer (some ⟨b0, 0, none⟩) := (RY.ev_tmp a 2).trans ((hk 2 (by kernel_rfl)).trans rfl)
          exact Or.inl ⟨(RY.wanted_at rfl rfl rfl gd).trans rfl, Or.inl ⟨.pointer (some ⟨b0, 0, none⟩), X, by simp [execOp, go_sem, e2], Below.refl _ _, rfl⟩⟩
        | 7, ho =>
          injection ho with ho; subst ho
          have gd := hd 5 _ 11 rfl rfl ⟨⟨5, .guard⟩, by simp, rfl, rfl⟩
          have e12 : a.tmps[12]?.getD undef = _ := (RY.ev_tmp a 12).trans (hd 6 _ 12 rfl rfl ⟨⟨6, .data⟩, by simp, rfl, rfl⟩)
          exact Or.inl ⟨(RY.wanted_at rfl rfl rfl gd).trans rfl, Or.inl ⟨.string b.kind, X, by simp [execOp, go_sem, e12, z0], Below.refl _ _, rfl⟩⟩
        | 8, ho =>
          injection ho with ho; subst ho
          have gd := hd 5 _ 11 rfl rfl ⟨⟨5, .guard⟩, by simp, rfl, rfl⟩
          have e2 : a.tmps[2]?.getD undef = .pointer (some ⟨b0, 0, none⟩) := (RY.ev_tmp a 2).trans ((hk 2 (by kernel_rfl)).trans rfl)
          exact Or.inl ⟨(RY.wanted_at rfl rfl rfl gd).trans rfl, Or.inl ⟨.pointer (some ⟨b0, 2, none⟩), X, by simp [execOp, go_sem, e2], Below.refl _ _, rfl⟩⟩
        | 9, ho =>
          injection ho with ho; subst ho
          have gd := hd 5 _ 11 rfl rfl ⟨⟨5, .guard⟩, by simp, rfl, rfl⟩
          have e14 : a.tmps[14]?.getD undef = _ := (RY.ev_tmp a 14).trans (hd 8 _ 14 rfl rfl ⟨⟨8, .data⟩, by simp, rfl, rfl⟩)
          exact Or.inl ⟨(RY.wanted_at rfl rfl rfl gd).trans rfl, Or.inl ⟨.slice (some ⟨p, o, none⟩) n vc, X, by simp [execOp, go_sem, e14, z2], Below.refl _ _, rfl⟩⟩
        | 10, ho =>
          injection ho with ho; subst ho
          have gd := hd 5 _ 11 rfl rfl ⟨⟨5, .guard⟩, by simp, rfl, rfl⟩
          have e5 : a.tmps[5]?.getD undef = .int .i64 (k : Int) := (RY.ev_tmp a 5).trans ((hk 5 (by kernel_rfl)).trans rfl)
          exact Or.inl ⟨(RY.wanted_at rfl rfl rfl gd).trans rfl, Or.inl ⟨.int .i64 (k : Int), X, by simp [execOp, go_sem, e5], Below.refl _ _, rfl⟩⟩
        | 11, ho =>
          injection ho with ho; subst ho
          have gd := hd 5 _ 11 rfl rfl ⟨⟨5, .guard⟩, by simp, rfl, rfl⟩
          have e15 : a.tmps[15]?.getD undef = _ := (RY.ev_tmp a 15).trans (hd 9 _ 15 rfl rfl ⟨⟨9, .data⟩, by simp, rfl, rfl⟩)
          have e16 : a.tmps[16]?.getD undef = _ := (RY.ev_tmp a 16).trans (hd 10 _ 16 rfl rfl ⟨⟨10, .data⟩, by simp, rfl, rfl⟩)
          exact Or.inl ⟨(RY.wanted_at rfl rfl rfl gd).trans rfl, Or.inl ⟨.pointer (some ⟨p, o + k * 2, none⟩), X, by simp [execOp, go_sem, e15, e16, hk0, hkn], Below.refl _ _, rfl⟩⟩
        | 12, ho =>
          injection ho with ho; subst ho
          have gd := hd 5 _ 11 rfl rfl ⟨⟨5, .guard⟩, by simp, rfl, rfl⟩
          have e17 : a.tmps[17]?.getD undef = _ := (RY.ev_tmp a 17).trans (hd 11 _ 17 rfl rfl ⟨⟨11, .data⟩, by simp, rfl, rfl⟩)
          exact Or.inl ⟨(RY.wanted_at rfl rfl rfl gd).trans rfl, Or.inl ⟨.agg #[.string y.key, .slice ya y.ws.length yc], X, exec_load_mid 48 _ rfl p (o + k * 2) ((RY.ev_tmp a 17).symm.trans e17) [.string y.key, .slice ya y.ws.length yc] _ ry Try.underlying48 rfl (by kernel_rfl), Below.refl _ _, rfl⟩⟩
        | 13, ho =>
          injection ho with ho; subst ho
          have gd := hd 5 _ 11 rfl rfl ⟨⟨5, .guard⟩, by simp, rfl, rfl⟩
          have e3 : a.tmps[3]?.getD undef = .pointer (some ⟨b0 + 1, 0, none⟩) := (RY.ev_tmp a 3).trans ((hk 3 (by kernel_rfl)).trans rfl)
          exact Or.inl ⟨(RY.wanted_at rfl rfl rfl gd).trans rfl, Or.inl ⟨.agg #[.string x.key, .slice xa x.ws.length xc], X, exec_load_mid 48 _ rfl (b0 + 1) 0 ((RY.ev_tmp a 3).symm.trans e3) [.string x.key, .slice xa x.ws.length xc] _ rx Try.underlying48 rfl (by kernel_rfl), Below.refl _ _, rfl⟩⟩
        | 14, ho =>
          injection ho with ho; subst ho
          have gd := hd 5 _ 11 rfl rfl ⟨⟨5, .guard⟩, by simp, rfl, rfl⟩
          have e13 : a.tmps[13]?.getD undef = _ := (RY.ev_tmp a 13).trans (hd 7 _ 13 rfl rfl ⟨⟨7, .data⟩, by simp, rfl, rfl⟩)
          have e18 : a.tmps[18]?.getD undef = _ := (RY.ev_tmp a 18).trans (hd 12 _ 18 rfl rfl ⟨⟨12, .data⟩, by simp, rfl, rfl⟩)
          have e19 : a.tmps[19]?.getD undef = _ := (RY.ev_tmp a 19).trans (hd 13 _ 19 rfl rfl ⟨⟨13, .data⟩, by simp, rfl, rfl⟩)
          refine Or.inl ⟨(RY.wanted_at rfl rfl rfl gd).trans rfl, Or.inr ⟨37, #[.string b.kind, .agg #[.string y.key, .slice ya y.ws.length yc], .agg #[.string x.key, .slice xa x.ws.length xc]], by simp [go_sem, e13, e18, e19], (HCL.out X hX).mono ?_⟩⟩
          rintro e W' ⟨rfl, hb⟩
          exact ⟨_, rfl, hb, rfl⟩
        | 15, ho =>
          injection ho with ho; subst ho
          have e11 : a.tmps[11]?.getD undef = _ := (RY.ev_tmp a 11).trans (hd 5 _ 11 rfl rfl ⟨⟨5, .data⟩, by simp, rfl, rfl⟩)
          have e20 : a.tmps[20]?.getD undef = _ := (RY.ev_tmp a 20).trans (hd 14 _ 20 rfl rfl ⟨⟨14, .data⟩, by simp, rfl, rfl⟩)
          exact Or.inl ⟨RY.wanted_no rfl, Or.inl ⟨.bool false, X, by simp [execOp, go_sem, e11, e20], Below.refl _ _, rfl⟩⟩
        | n + 16, ho => simp at ho
      intro X vs hX hvs
      have q21 : vs 21 = _ := hvs 15 _ 21 rfl rfl
      simp only [RY.putAll, Act.put, List.setIfInBounds_toArray, List.set_cons_zero, List.set_cons_succ]
      rw [q21]
      generalize vs 6 = s6
      generalize vs 7 = s7
      generalize vs 8 = s8
      generalize vs 9 = s9
      generalize vs 10 = s10
      generalize vs 11 = s11
      generalize vs 12 = s12
      generalize vs 13 = s13
      generalize vs 14 = s14
      generalize vs 15 = s15
      generalize vs 16 = s16
      generalize vs 17 = s17
      generalize vs 18 = s18
      generalize vs 19 = s19
      generalize vs 20 = s20
      clear hvs q21
      have HO2 := uh (HO.out.later hX)
      clear hX HO
      obtain ⟨lv, hlv⟩ : ∃ z, z = Value.slice (some ⟨p, o, none⟩) n vc := ⟨_, rfl⟩
      have HRL : Hid (Rep X false shLns F [lnsD b.lines] [lv]) := by show Rep _ _ _ _ _ _; rw [hlv]; exact HL.out.later HO2.out.bel
      rw [← hlv] at HO2
      clear hlv
      obtain ⟨s1, s2, vs, G, hR, hGF, hl1, hl2, hs1, hs2⟩ := lst_cut (P := Try.prog) (t := 38) Try.under_linesE (Try.elem_lines ▸ hi0) hz1 HRL.out k (by have := HN.out; omega)
      obtain ⟨G2, hR2, hG2⟩ := ins_rep (sh := shSheetLine) lnD lnD_len (k := k) (x := x) (by have := HN.out; omega) hR (HXR.out.later HO2.out.bel)
      have hvl : vs.length = n * 2 := by rw [hR.len, reps_len, ← HN.out]; rfl
      have hkn2 : k * 2 ≤ n * 2 := by omega
      rw [← HPUT.out] at hR2
      rw [← HN.out] at hR2 hl2
      have HS1 := uh hs1
      have HS2 := uh hs2
      have HL1 := uh hl1
      have HL2 := uh hl2
      have HG2 : Hid (∀ b ∈ G2, b < b0) := fun b hb => by rcases hG2 b hb with h | h; exact HFB.out b (hGF b h); exact HFX.out b h
      have HIN := uh hG2
      have HGF := uh hGF
      have HR2 := uh hR2
      clear hs1 hs2 hl1 hl2 hR hGF hR2 hG2 HRL
      go_upto_region 4 with fail
      refine RY.region_ins X (Below.refl _ _) 48 2 k (k + 1) (n + 1) (vs.take (k * 2)) (vs.take (k * 2) ++ [.string x.key, .slice xa x.ws.length xc]) (vs.take (k * 2) ++ [.string x.key, .slice xa x.ws.length xc] ++ vs.drop (k * 2)) #[.string x.key, .slice xa x.ws.length xc] (VIn lv s1 s2 k b0 #[.string x.key, .slice xa x.ws.length xc]) (fun u W' => PtK w b0 b.kind b.name n u G2 ((Pl.putLn b.kind b.lines x).flatMap lnD) (vs.take (k * 2) ++ [.string x.key, .slice xa x.ws.length xc] ++ vs.drop (k * 2)) W') 12 24 29 31 32 37 38 (by kernel_rfl) (by kernel_rfl) (by kernel_rfl) (by kernel_rfl) (by kernel_rfl) rfl (by kernel_rfl) _ _ _ _ _ _ _ rfl rfl rfl rfl rfl rfl rfl rfl rfl rfl rfl rfl rfl rfl (by kernel_rfl) (by kernel_rfl) (by kernel_rfl) (by kernel_rfl) (by kernel_rfl) (by kernel_rfl) ?_ ?_ ?_ ?_ ?_ ?_ ?_ ?_ ?_
      · intro i u h
        rcases h with rfl | rfl | rfl | rfl | rfl <;> exact trivial
      · intro i o' ho n0 n5 n7 n8 n13 n15 a Y hY hk hd
        have z2 := (HO2.out.box.later hY).get 2 _ rfl
        have rx := (HO2.out.arg.later hY).at_
        match i, ho with
        | 0, ho => exact absurd rfl n0
        | 1, ho =>
          injection ho with ho; subst ho
          have e2 : a.tmps[2]?.getD undef = .pointer (some ⟨b0, 0, none⟩) := (RY.ev_tmp a 2).trans ((hk 2 (by kernel_rfl)).trans rfl)
          exact ⟨.pointer (some ⟨b0, 2, none⟩), by simp [execOp, go_sem, e2], rfl⟩
        | 2, ho =>
          injection ho with ho; subst ho
          have e25 : a.tmps[25]?.getD undef = _ := (RY.ev_tmp a 25).trans (hd 1 _ 25 rfl rfl ⟨⟨1, .data⟩, by simp, rfl, rfl⟩)
          exact ⟨lv, by simp [execOp, go_sem, e25, z2], rfl⟩
        | 3, ho =>
          injection ho with ho; subst ho
          have e5 : a.tmps[5]?.getD undef = .int .i64 (k : Int) := (RY.ev_tmp a 5).trans ((hk 5 (by kernel_rfl)).trans rfl)
          exact ⟨.int .i64 (k : Int), by simp [execOp, go_sem, e5], rfl⟩
        | 4, ho =>
          injection ho with ho; subst ho
          have f26 : a.eval (.tmp 26) = lv := hd 2 _ 26 rfl rfl ⟨⟨2, .data⟩, by simp, rfl, rfl⟩
          have f27 : a.eval (.tmp 27) = .int .i64 (k : Int) := hd 3 _ 27 rfl rfl ⟨⟨3, .data⟩, by simp, rfl, rfl⟩
          exact ⟨s1, by simp [execOp, f26, f27, run_sliceAt_slice (P := Try.prog) (w := Y) 38 lv none (some (.int .i64 (k : Int))) none Try.under_linesE, HS1.out], rfl⟩
        | 5, ho => exact absurd rfl n5
        | 6, ho =>
          injection ho with ho; subst ho
          have e3 : a.tmps[3]?.getD undef = .pointer (some ⟨b0 + 1, 0, none⟩) := (RY.ev_tmp a 3).trans ((hk 3 (by kernel_rfl)).trans rfl)
          exact ⟨.agg #[.string x.key, .slice xa x.ws.length xc], exec_load_mid 48 _ rfl (b0 + 1) 0 ((RY.ev_tmp a 3).symm.trans e3) [.string x.key, .slice xa x.ws.length xc] _ rx Try.underlying48 rfl (by kernel_rfl), rfl⟩
        | 7, ho => exact absurd rfl n7
        | 8, ho => exact absurd rfl n8
        | 9, ho =>
          injection ho with ho; subst ho
          have e2 : a.tmps[2]?.getD undef = .pointer (some ⟨b0, 0, none⟩) := (RY.ev_tmp a 2).trans ((hk 2 (by kernel_rfl)).trans rfl)
          exact ⟨.pointer (some ⟨b0, 2, none⟩), by simp [execOp, go_sem, e2], rfl⟩
        | 10, ho =>
          injection ho with ho; subst ho
          have e33 : a.tmps[33]?.getD undef = _ := (RY.ev_tmp a 33).trans (hd 9 _ 33 rfl rfl ⟨⟨9, .data⟩, by simp, rfl, rfl⟩)
          exact ⟨lv, by simp [execOp, go_sem, e33, z2], rfl⟩
        | 11, ho =>
          injection ho with ho; subst ho
          have e5 : a.tmps[5]?.getD undef = .int .i64 (k : Int) := (RY.ev_tmp a 5).trans ((hk 5 (by kernel_rfl)).trans rfl)
          exact ⟨.int .i64 (k : Int), by simp [execOp, go_sem, e5], rfl⟩
        | 12, ho =>
          injection ho with ho; subst ho
          have f34 : a.eval (.tmp 34) = lv := hd 10 _ 34 rfl rfl ⟨⟨10, .data⟩, by simp, rfl, rfl⟩
          have f35 : a.eval (.tmp 35) = .int .i64 (k : Int) := hd 11 _ 35 rfl rfl ⟨⟨11, .data⟩, by simp, rfl, rfl⟩
          exact ⟨s2, by simp [execOp, f34, f35, run_sliceAt_slice (P := Try.prog) (w := Y) 38 lv (some (.int .i64 (k : Int))) none none Try.under_linesE, HS2.out], rfl⟩
        | 13, ho => exact absurd rfl n13
        | 14, ho =>
          injection ho with ho; subst ho
          have e2 : a.tmps[2]?.getD undef = .pointer (some ⟨b0, 0, none⟩) := (RY.ev_tmp a 2).trans ((hk 2 (by kernel_rfl)).trans rfl)
          exact ⟨.pointer (some ⟨b0, 2, none⟩), by simp [execOp, go_sem, e2], rfl⟩
        | 15, ho => exact absurd rfl n15
        | n + 16, ho => simp at ho
      · intro a Y
        simp [execOp, go_sem]
      · intro a Y hd
        have e30 : a.tmps[30]?.getD undef = _ := (RY.ev_tmp a 30).trans (hd 6 _ 30 rfl rfl ⟨⟨6, .data⟩, by simp, rfl, rfl⟩)
        simp [execOp, go_sem, e30]
      · intro a Y hY hd ho
        have e28 := hd 4 _ 28 rfl rfl ⟨⟨4, .data⟩, by simp, rfl, rfl⟩
        obtain ⟨u, W', hr, hA⟩ := app_lst 38 38 48 i0 _ 2 40 Try.under_lines hi0 hz0 hz1 hz2 rfl (by decide) HL1.out hY ho (by unfold maxLen; omega) (by omega)
        rw [Nat.zero_add, List.nil_append] at hA
        exact ⟨u, W', uexec_append (.tmp 24) (.tmp 28) 38 rfl rfl e28 hr, hA⟩
      · intro a Y hY ho q eq hq
        obtain ⟨u, W', hr, h2, h3, _, h5⟩ := run_append_own_at (P := Try.prog) Y X.heap.size 38 38 48 i0 _ 2 40 Try.under_lines hi0 hz0 hz1 hz2 rfl (by decide) _ k _ ho ⟨q, 0, none⟩ 1 1 [.string x.key, .slice xa x.ws.length xc] rfl (fun j y hy => by rw [Addr.add_mid, Nat.zero_add]; simp only [World.cell?, hq]; simpa using hy) (by simp [Value.oneCell']) (by unfold maxLen; omega) (by omega) hY.size
        exact ⟨u, W', uexec_append (.tmp 29) (.tmp 31) 38 rfl rfl eq hr, h2, h3, h5⟩
      · intro a Y hY hd ho
        have e36 := hd 12 _ 36 rfl rfl ⟨⟨12, .data⟩, by simp, rfl, rfl⟩
        obtain ⟨u, W', hr, hA⟩ := app_lst 38 38 48 i0 _ 2 40 Try.under_lines hi0 hz0 hz1 hz2 rfl (by decide) HL2.out hY ho (by unfold maxLen; omega) (by omega)
        have en : k + 1 + (n - k) = n + 1 := by omega
        rw [en] at hA
        exact ⟨u, W', uexec_append (.tmp 32) (.tmp 36) 38 rfl rfl e36 hr, hA⟩
      · intro a Y hY h14 ho
        obtain ⟨g, cap, eu, _, _⟩ := ho.form (by omega)
        have t37 := (RY.ev_tmp a 37).trans eu
        have t38 : a.tmps[38]?.getD undef = _ := (RY.ev_tmp a 38).trans h14
        have B1 := HO2.out.box.later hY
        have z2 := B1.get 2 _ rfl
        have zf := B1.own.frozen 2
        refine ⟨Y.setCell ⟨b0, 2, none⟩ (.slice (some ⟨g, 0, none⟩) (n + 1) cap), by simp [execOp, go_sem, t37, t38, z2, zf], ?_⟩
        rw [eu] at ho ⊢
        exact PtK.mk' HBZ.out (HO2.out.later hY) (by have := HO2.out.res.own.lt; omega) ho (HR2.out.later hY) HG2.out
      · rintro vals W hK
        simp only [RY.putAll, Act.put, List.setIfInBounds_toArray, List.set_cons_zero, List.set_cons_succ]
        generalize vals 24 = s24
        generalize vals 25 = s25
        generalize vals 26 = s26
        generalize vals 27 = s27
        generalize vals 28 = s28
        generalize vals 29 = s29
        generalize vals 30 = s30
        generalize vals 31 = s31
        generalize vals 32 = s32
        generalize vals 33 = s33
        generalize vals 34 = s34
        generalize vals 35 = s35
        generalize vals 36 = s36
        generalize vals 37 = s37 at hK ⊢
        generalize vals 38 = s38
        obtain ⟨g, cap, eu⟩ := hK.form
        subst eu
        have HK := uh hK
        clear hK HO2 HS1 HS2 HL1 HL2 HR2
        go_upto_region 5 with fail
        have hxa := HK.out.box.at_
        have hxl := HK.out.box.own.lt
        have hol := HK.out.res.own.lt
        have hth : W.there (b0 + 2) 0 (#[.string b.kind, .string b.name, .slice (some ⟨g, 0, none⟩) (n + 1) cap] : Array Value).size := uthere HK.out.res.own _ _ (by simp)
        obtain ⟨we, hwe⟩ : ∃ we, we = W.setCells (b0 + 2) 0 [.string b.kind, .string b.name, .slice (some ⟨g, 0, none⟩) (n + 1) cap] := ⟨_, rfl⟩
        have hrt : we.rangeAt (b0 + 2) 0 [.string b.kind, .string b.name, .slice (some ⟨g, 0, none⟩) (n + 1) cap] := by rw [hwe]; exact World.rangeAt_setCells_same _ _ _ _ hth
        have HM2 : Hid (Marks (fun b => b = b0 + 2) W we) := by show Marks _ _ _; rw [hwe]; exact mks_scs (S := fun b => b = b0 + 2) rfl _ _ _
        go_wp2_with (first | (refine wpList_load_mid rfl 40 _ rfl b0 0 rfl [.string b.kind, .string b.name, .slice (some ⟨g, 0, none⟩) (n + 1) cap] _ hxa Try.underlying40 rfl (by kernel_rfl) ?_) | (refine wpList_store_mid rfl 40 _ _ rfl (b0 + 2) 0 #[.string b.kind, .string b.name, .slice (some ⟨g, 0, none⟩) (n + 1) cap] rfl rfl hth (by kernel_rfl) (by simp [Value.oneCell']) ?_))
        first | rw [← hwe] | (simp only [List.toList_toArray]; rw [← hwe])
        try simp only [Act.put]
        refine bodyPost_ret (v := .agg #[.string b.kind, .string b.name, .slice (some ⟨g, 0, none⟩) (n + 1) cap]) (by simp [results, Try.results19, asAddr, run_loadVar_mid (P := Try.prog) _ _ _ 40 [.string b.kind, .string b.name, .slice (some ⟨g, 0, none⟩) (n + 1) cap] _ hrt Try.underlying40 rfl (by kernel_rfl)]) rfl ?_
        exact HK.out.ans HBZ.out HM2.out HG2.out HLN.out (fun b hb => by rcases HIN.out b hb with h | h; exact Or.inl (HGF.out b h); exact Or.inr (by simpa using h))
    · have HCL : Hid (∀ X, Below wr.heap.size wr X → Calls Try.prog 37 #[.string b.kind, .agg #[.string y.key, .slice ya y.ws.length yc], .agg #[.string x.key, .slice xa x.ws.length xc]] X fun e w' => e = .returned (.bool true) ∧ Below X.heap.size X w') := fun X hX => by
        have := l39LineLessS b.kind y x ya xa yc xc X (HRY.out.later hX) (HXW.out.later hX).raw
        rwa [hls] at this
      have HIN : Hid (∀ j, j < k + 1 → Pl.lineLess b.kind (b.lines.getD j Pl.lnNo) x = true) := fun j hj => by
        by_cases e : j = k
        · rw [e, ← HY.out]; exact hls
        · exact HI.out j (by omega)
      go_upto_region 2 with fail
      refine RY.region_pastG wr (Below.refl _ _) (VPb b x y (some ⟨p, o, none⟩) xa ya vc xc yc p o n k b0) (VPb_mono _ _ _ _ _ _ _ _ _ _ _ _ _ _) (by kernel_rfl) (by kernel_rfl) (by kernel_rfl) (by kernel_rfl) ?_ ?_
      · intro i o' ho a X hX hk hd
        have z0 := (HO.out.box.later hX).get 0 _ rfl
        have z2 := (HO.out.box.later hX).get 2 _ rfl
        have rx := (HO.out.arg.later hX).at_
        have ry := rA_later HGY.out HPZ.out hX
        match i, ho with
        | 0, ho =>
          injection ho with ho; subst ho
          have e5 : a.tmps[5]?.getD undef = .int .i64 (k : Int) := (RY.ev_tmp a 5).trans ((hk 5 (by kernel_rfl)).trans rfl)
          exact Or.inl ⟨RY.wanted_no rfl, Or.inl ⟨.int .i64 (k : Int), X, by simp [execOp, go_sem, e5], Below.refl _ _, rfl⟩⟩
        | 1, ho =>
          injection ho with ho; subst ho
          have e2 : a.tmps[2]?.getD undef = .pointer (some ⟨b0, 0, none⟩) := (RY.ev_tmp a 2).trans ((hk 2 (by kernel_rfl)).trans rfl)
          exact Or.inl ⟨RY.wanted_no rfl, Or.inl ⟨.pointer (some ⟨b0, 2, none⟩), X, by simp [execOp, go_sem, e2], Below.refl _ _, rfl⟩⟩
        | 2, ho =>
          injection ho with ho; subst ho
          have e7 : a.tmps[7]?.getD undef = _ := (RY.ev_tmp a 7).trans (hd 1 _ 7 rfl rfl ⟨⟨1, .data⟩, by simp, rfl, rfl⟩)
          exact Or.inl ⟨RY.wanted_no rfl, Or.inl ⟨.slice (some ⟨p, o, none⟩) n vc, X, by simp [execOp, go_sem, e7, z2], Below.refl _ _, rfl⟩⟩
        | 3, ho =>
          injection ho with ho; subst ho
          have e8 : a.tmps[8]?.getD undef = _ := (RY.ev_tmp a 8).trans (hd 2 _ 8 rfl rfl ⟨⟨2, .data⟩, by simp, rfl, rfl⟩)
          exact Or.inl ⟨RY.wanted_no rfl, Or.inl ⟨.int .i64 (n : Int), X, by simp [go_sem, e8], Below.refl _ _, rfl⟩⟩
        | 4, ho =>
          injection ho with ho; subst ho
          have e6 : a.tmps[6]?.getD undef = _ := (RY.ev_tmp a 6).trans (hd 0 _ 6 rfl rfl ⟨⟨0, .data⟩, by simp, rfl, rfl⟩)
          have e9 : a.tmps[9]?.getD undef = _ := (RY.ev_tmp a 9).trans (hd 3 _ 9 rfl rfl ⟨⟨3, .data⟩, by simp, rfl, rfl⟩)
          exact Or.inl ⟨RY.wanted_no rfl, Or.inl ⟨.bool true, X, by simp [execOp, go_sem, e6, e9, hgo], Below.refl _ _, rfl⟩⟩
        | 5, ho =>
          injection ho with ho; subst ho
          have e10 : a.tmps[10]?.getD undef = _ := (RY.ev_tmp a 10).trans (hd 4 _ 10 rfl rfl ⟨⟨4, .data⟩, by simp, rfl, rfl⟩)
          exact Or.inl ⟨RY.wanted_no rfl, Or.inl ⟨.bool true, X, by simp [execOp, go_sem, e10], Below.refl _ _, rfl⟩⟩
        | 6, ho =>
          injection ho with ho; subst ho
          have gd := hd 5 _ 11 rfl rfl ⟨⟨5, .guard⟩, by simp, rfl, rfl⟩
          have e2 : a.tmps[2]?.getD undef = .pointer (some ⟨b0, 0, none⟩) := (RY.ev_tmp a 2).trans ((hk 2 (by kernel_rfl)).trans rfl)
          exact Or.inl ⟨(RY.wanted_at rfl rfl rfl gd).trans rfl, Or.inl ⟨.pointer (some ⟨b0, 0, none⟩), X, by simp [execOp, go_sem, e2], Below.refl _ _, rfl⟩⟩
        | 7, ho =>
          injection ho with ho; subst ho
          have gd := hd 5 _ 11 rfl rfl ⟨⟨5, .guard⟩, by simp, rfl, rfl⟩
          have e12 : a.tmps[12]?.getD undef = _ := (RY.ev_tmp a 12).trans (hd 6 _ 12 rfl rfl ⟨⟨6, .data⟩, by simp, rfl, rfl⟩)
          exact Or.inl ⟨(RY.wanted_at rfl rfl rfl gd).trans rfl, Or.inl ⟨.string b.kind, X, by simp [execOp, go_sem, e12, z0], Below.refl _ _, rfl⟩⟩
        | 8, ho =>
          injection ho with ho; subst ho
          have gd := hd 5 _ 11 rfl rfl ⟨⟨5, .guard⟩, by simp, rfl, rfl⟩
          have e2 : a.tmps[2]?.getD undef = .pointer (some ⟨b0, 0, none⟩) := (RY.ev_tmp a 2).trans ((hk 2 (by kernel_rfl)).trans rfl)
          exact Or.inl ⟨(RY.wanted_at rfl rfl rfl gd).trans rfl, Or.inl ⟨.pointer (some ⟨b0, 2, none⟩), X, by simp [execOp, go_sem, e2], Below.refl _ _, rfl⟩⟩
        | 9, ho =>
          injection ho with ho; subst ho
          have gd := hd 5 _ 11 rfl rfl ⟨⟨5, .guard⟩, by simp, rfl, rfl⟩
          have e14 : a.tmps[14]?.getD undef = _ := (RY.ev_tmp a 14).trans (hd 8 _ 14 rfl rfl ⟨⟨8, .data⟩, by simp, rfl, rfl⟩)
          exact Or.inl ⟨(RY.wanted_at rfl rfl rfl gd).trans rfl, Or.inl ⟨.slice (some ⟨p, o, none⟩) n vc, X, by simp [execOp, go_sem, e14, z2], Below.refl _ _, rfl⟩⟩
        | 10, ho =>
          injection ho with ho; subst ho
          have gd := hd 5 _ 11 rfl rfl ⟨⟨5, .guard⟩, by simp, rfl, rfl⟩
          have e5 : a.tmps[5]?.getD undef = .int .i64 (k : Int) := (RY.ev_tmp a 5).trans ((hk 5 (by kernel_rfl)).trans rfl)
          exact Or.inl ⟨(RY.wanted_at rfl rfl rfl gd).trans rfl, Or.inl ⟨.int .i64 (k : Int), X, by simp [execOp, go_sem, e5], Below.refl _ _, rfl⟩⟩
        | 11, ho =>
          injection ho with ho; subst ho
          have gd := hd 5 _ 11 rfl rfl ⟨⟨5, .guard⟩, by simp, rfl, rfl⟩
          have e15 : a.tmps[15]?.getD undef = _ := (RY.ev_tmp a 15).trans (hd 9 _ 15 rfl rfl ⟨⟨9, .data⟩, by simp, rfl, rfl⟩)
          have e16 : a.tmps[16]?.getD undef = _ := (RY.ev_tmp a 16).trans (hd 10 _ 16 rfl rfl ⟨⟨10, .data⟩, by simp, rfl, rfl⟩)
          exact Or.inl ⟨(RY.wanted_at rfl rfl rfl gd).trans rfl, Or.inl ⟨.pointer (some ⟨p, o + k * 2, none⟩), X, by simp [execOp, go_sem, e15, e16, hk0, hkn], Below.refl _ _, rfl⟩⟩
        | 12, ho =>
          injection ho with ho; subst ho
          have gd := hd 5 _ 11 rfl rfl ⟨⟨5, .guard⟩, by simp, rfl, rfl⟩
          have e17 : a.tmps[17]?.getD undef = _ := (RY.ev_tmp a 17).trans (hd 11 _ 17 rfl rfl ⟨⟨11, .data⟩, by simp, rfl, rfl⟩)
          exact Or.inl ⟨(RY.wanted_at rfl rfl rfl gd).trans rfl, Or.inl ⟨.agg #[.string y.key, .slice ya y.ws.length yc], X, exec_load_mid 48 _ rfl p (o + k * 2) ((RY.ev_tmp a 17).symm.trans e17) [.string y.key, .slice ya y.ws.length yc] _ ry Try.underlying48 rfl (by kernel_rfl), Below.refl _ _, rfl⟩⟩
        | 13, ho =>
          injection ho with ho; subst ho
          have gd := hd 5 _ 11 rfl rfl ⟨⟨5, .guard⟩, by simp, rfl, rfl⟩
          have e3 : a.tmps[3]?.getD undef = .pointer (some ⟨b0 + 1, 0, none⟩) := (RY.ev_tmp a 3).trans ((hk 3 (by kernel_rfl)).trans rfl)
          exact Or.inl ⟨(RY.wanted_at rfl rfl rfl gd).trans rfl, Or.inl ⟨.agg #[.string x.key, .slice xa x.ws.length xc], X, exec_load_mid 48 _ rfl (b0 + 1) 0 ((RY.ev_tmp a 3).symm.trans e3) [.string x.key, .slice xa x.ws.length xc] _ rx Try.underlying48 rfl (by kernel_rfl), Below.refl _ _, rfl⟩⟩
        | 14, ho =>
          injection ho with ho; subst ho
          have gd := hd 5 _ 11 rfl rfl ⟨⟨5, .guard⟩, by simp, rfl, rfl⟩
          have e13 : a.tmps[13]?.getD undef = _ := (RY.ev_tmp a 13).trans (hd 7 _ 13 rfl rfl ⟨⟨7, .data⟩, by simp, rfl, rfl⟩)
          have e18 : a.tmps[18]?.getD undef = _ := (RY.ev_tmp a 18).trans (hd 12 _ 18 rfl rfl ⟨⟨12, .data⟩, by simp, rfl, rfl⟩)
          have e19 : a.tmps[19]?.getD undef = _ := (RY.ev_tmp a 19).trans (hd 13 _ 19 rfl rfl ⟨⟨13, .data⟩, by simp, rfl, rfl⟩)
          refine Or.inl ⟨(RY.wanted_at rfl rfl rfl gd).trans rfl, Or.inr ⟨37, #[.string b.kind, .agg #[.string y.key, .slice ya y.ws.length yc], .agg #[.string x.key, .slice xa x.ws.length xc]], by simp [go_sem, e13, e18, e19], (HCL.out X hX).mono ?_⟩⟩
          rintro e W' ⟨rfl, hb⟩
          exact ⟨_, rfl, hb, rfl⟩
        | 15, ho =>
          injection ho with ho; subst ho
          have e11 : a.tmps[11]?.getD undef = _ := (RY.ev_tmp a 11).trans (hd 5 _ 11 rfl rfl ⟨⟨5, .data⟩, by simp, rfl, rfl⟩)
          have e20 : a.tmps[20]?.getD undef = _ := (RY.ev_tmp a 20).trans (hd 14 _ 20 rfl rfl ⟨⟨14, .data⟩, by simp, rfl, rfl⟩)
          exact Or.inl ⟨RY.wanted_no rfl, Or.inl ⟨.bool true, X, by simp [execOp, go_sem, e11, e20], Below.refl _ _, rfl⟩⟩
        | n + 16, ho => simp at ho
      intro X vs hX hvs
      have q21 : vs 21 = _ := hvs 15 _ 21 rfl rfl
      simp only [RY.putAll, Act.put, List.setIfInBounds_toArray, List.set_cons_zero, List.set_cons_succ]
      rw [q21]
      generalize vs 6 = s6
      generalize vs 7 = s7
      generalize vs 8 = s8
      generalize vs 9 = s9
      generalize vs 10 = s10
      generalize vs 11 = s11
      generalize vs 12 = s12
      generalize vs 13 = s13
      generalize vs 14 = s14
      generalize vs 15 = s15
      generalize vs 16 = s16
      generalize vs 17 = s17
      generalize vs 18 = s18
      generalize vs 19 = s19
      generalize vs 20 = s20
      clear hvs q21
      have HO2 := uh (HO.out.later hX)
      clear hX HO
      go_wp2
      go_roundw
      case rel => exact ⟨k + 1, by omega, by go_num, HO2.out, HIN.out⟩
      case measure => simp [intOf]; omega

end Go.Proofs.Ytfmhfacaemfhlaa
