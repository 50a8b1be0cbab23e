/-
  Sheets: a block in its place: the specification.
-/
import Derived.Maps.AppendAt
import Derived.Laws.OwnMore
import Derived.Test.YtojcopamegmeeaaUC
import Derived.Test.YtojcopamegmeeaaECl
import Derived.Test.YtojcopamegmeeaaELa
import Derived.Test.YtojcopamegmeeaaEPt
import Derived.Test.YtojcopamegmeeaaELc
import Derived.Test.YtojcopamegmeeaaRgG
import Derived.Test.YtojcopamegmeeaaECy
import Derived.Test.YtojcopamegmeeaaETx
namespace Go.Proofs.Ytojcopamegmeeaa
open Go.RowKit Go.Deep
namespace RY

/-- What an append of one's own row comes to. -/
def AppR (v : World) (t : TypeId) (size : Nat) (W : World) (r u : Value) (n : Nat) (xs : List Value) (W' : World) : Prop := W'.ownsRow v.heap.size t size u n xs ∧ W.grownBy W' r.ownBlock ∧ (u.ownBlock = r.ownBlock ∨ u.ownBlock = some W.heap.size)
structure TI (v : World) (t : TypeId) (size n5 n8 n13 : Nat) (x5 x8 x13 : List Value) (nw : Array Value) (K : Value → World → Prop) (u0 u5 u7 u8 u13 u15 : Bool) (v0 v5 v7 v8 v13 : Value) (W : World) : Prop where
  bel : u15 = false → Below v.heap.size v W
  c0 : u0 = true → u5 = false → W.ownsRow v.heap.size t size v0 0 []
  c5 : u5 = true → u8 = false → W.ownsRow v.heap.size t size v5 n5 x5
  c8 : u8 = true → u13 = false → W.ownsRow v.heap.size t size v8 n8 x8
  c13 : u13 = true → u15 = false → W.ownsRow v.heap.size t size v13 n13 x13
  c7 : u7 = true → u8 = false → ∃ q, v7 = .slice (some ⟨q, 0, none⟩) 1 1 ∧ W.heap[q]? = some (.cells nw t (0, 0)) ∧ (u0 = true → u5 = false → v0.ownBlock ≠ some q) ∧ (u5 = true → v5.ownBlock ≠ some q)
  c15 : u15 = true → K v13 W
theorem blw_app {v W W' : World} {t : TypeId} {size n m : Nat} {r u : Value} {xs ys : List Value} (h : Below v.heap.size v W) (ho : W.ownsRow v.heap.size t size r m ys) (ha : AppR v t size W r u n xs W') : Below v.heap.size v W' :=
  blw_grown h ha.2.1 fun _ hb => (owns_blk_lt ho hb).1
theorem grown_at {W W' : World} {row : Option Nat} {q : Nat} {o : Obj} (hg : W.grownBy W' row) (hq : W.heap[q]? = some o) (hn : row ≠ some q) : W'.heap[q]? = some o :=
  (hg.block q (Array.getElem?_eq_some_iff.1 hq).1 fun e => hn e.symm).trans hq

theorem region_ins {P : Program} {id : Nat} {Q : Exit → Act → World → Prop} {a0 : Act} {w : World} {l : List Oper} (v : World) (hv : Below v.heap.size v w) (t : TypeId) (size n5 n8 n13 : Nat) (x5 x8 x13 : List Value) (nw : Array Value) (V : Nat → Value → Prop) (K : Value → World → Prop) (fuel k0 k5 k7 k8 k13 k14 : Nat)
    (hm : P.follows .mixedOrders = true) (hasc : asc .any l.toArray = true) (hap : apartB l = true) (hpl : plainB l a0.tmps.size = true)
    (hclo : ((List.range 15).all fun i => (clo l fuel [15]).contains i) = true) (hlen : l.length = 16) (hds : ((l.take 15).all fun o => o.dst.isSome) = true)
    (o0 o5 o7 o8 o13 o14 o15 : Oper) (q0 : l[0]? = some o0) (q5 : l[5]? = some o5) (q7 : l[7]? = some o7) (q8 : l[8]? = some o8) (q13 : l[13]? = some o13) (q14 : l[14]? = some o14) (q15 : l[15]? = some o15)
    (d0 : o0.dst = some k0) (d5 : o5.dst = some k5) (d7 : o7.dst = some k7) (d8 : o8.dst = some k8) (d13 : o13.dst = some k13) (d14 : o14.dst = some k14) (d15 : o15.dst = none)
    (w5 : waits l 5 0 = true) (w8 : waits l 8 5 = true) (w87 : waits l 8 7 = true) (w13 : waits l 13 8 = true) (w15 : waits l 15 13 = true) (w14 : waits l 15 14 = true)
    (hVT : ∀ i u, i = 0 ∨ i = 5 ∨ i = 7 ∨ i = 8 ∨ i = 13 → V i u)
    (hop : ∀ (i : Nat) (o : Oper), l[i]? = some o → i ≠ 0 → i ≠ 5 → i ≠ 7 → i ≠ 8 → i ≠ 13 → i ≠ 15 → ∀ (a : Act) (W : World), Below v.heap.size v W → (∀ k, noDst l k = true → a.eval (.tmp k) = a0.eval (.tmp k)) →
      (∀ (j : Nat) (o' : Oper) (k : Nat), l[j]? = some o' → o'.dst = some k → (∃ e ∈ o.after, e.on = j ∧ Region.binds .any e = true) → V j (a.eval (.tmp k))) → ∃ u, (execOp a.eval o).run P W = .ok (.value u) W ∧ V i u)
    (h0 : ∀ (a : Act) (W : World), (execOp a.eval o0).run P W = .ok (.value (.slice (some ⟨W.heap.size, 0, none⟩) 0 0)) (W.alloc (.cells #[] t)))
    (h7 : ∀ (a : Act) (W : World), (∀ (j : Nat) (o' : Oper) (k : Nat), l[j]? = some o' → o'.dst = some k → (∃ e ∈ o7.after, e.on = j ∧ Region.binds .any e = true) → V j (a.eval (.tmp k))) → (execOp a.eval o7).run P W = .ok (.value (.slice (some ⟨W.heap.size, 0, none⟩) 1 1)) (W.alloc (.cells nw t)))
    (h5 : ∀ (a : Act) (W : World), Below v.heap.size v W → (∀ (j : Nat) (o' : Oper) (k : Nat), l[j]? = some o' → o'.dst = some k → (∃ e ∈ o5.after, e.on = j ∧ Region.binds .any e = true) → V j (a.eval (.tmp k))) → W.ownsRow v.heap.size t size (a.eval (.tmp k0)) 0 [] → ∃ u W', (execOp a.eval o5).run P W = .ok (.value u) W' ∧ AppR v t size W (a.eval (.tmp k0)) u n5 x5 W')
    (h8 : ∀ (a : Act) (W : World), Below v.heap.size v W → W.ownsRow v.heap.size t size (a.eval (.tmp k5)) n5 x5 → ∀ q, a.eval (.tmp k7) = .slice (some ⟨q, 0, none⟩) 1 1 → W.heap[q]? = some (.cells nw t (0, 0)) → ∃ u W', (execOp a.eval o8).run P W = .ok (.value u) W' ∧ AppR v t size W (a.eval (.tmp k5)) u n8 x8 W')
    (h13 : ∀ (a : Act) (W : World), Below v.heap.size v W → (∀ (j : Nat) (o' : Oper) (k : Nat), l[j]? = some o' → o'.dst = some k → (∃ e ∈ o13.after, e.on = j ∧ Region.binds .any e = true) → V j (a.eval (.tmp k))) → W.ownsRow v.heap.size t size (a.eval (.tmp k8)) n8 x8 → ∃ u W', (execOp a.eval o13).run P W = .ok (.value u) W' ∧ AppR v t size W (a.eval (.tmp k8)) u n13 x13 W')
    (h15 : ∀ (a : Act) (W : World), Below v.heap.size v W → V 14 (a.eval (.tmp k14)) → W.ownsRow v.heap.size t size (a.eval (.tmp k13)) n13 x13 → ∃ W', (execOp a.eval o15).run P W = .ok .skip W' ∧ K (a.eval (.tmp k13)) W')
    (hend : ∀ (vs : Nat → Value) (W : World), K (vs k13) W → Q .normal (putAll l a0 vs) W) :
    (Code.region id l.toArray true).wp P Q a0 w := by
  have hdst : ∀ {i : Nat} {o : Oper}, l[i]? = some o → i < 15 → o.dst.isSome = true := fun h hi => by
    rw [List.all_eq_true] at hds
    exact hds _ (List.mem_of_getElem? ((List.getElem?_take_of_lt hi).trans h))
  refine region_TO V (fun up vals W => TI v t size n5 n8 n13 x5 x8 x13 nw K (up 0) (up 5) (up 7) (up 8) (up 13) (up 15) (vals 0) (vals 5) (vals 7) (vals 8) (vals 13) W) hm hasc hap hpl ?_ ?_ ?_
  · intro vals
    exact ⟨fun _ => Below.drew hv, fun h => (by cases h), fun h => (by cases h), fun h => (by cases h), fun h => (by cases h), fun h => (by cases h), fun h => (by cases h)⟩
  · intro up vals i o ho hi hcl a W hk hd hT
    have hkk : ∀ k, noDst l k = true → a.eval (.tmp k) = a0.eval (.tmp k) := fun k h => hk k fun j o' hj hj' => absurd hj' (noDst_spec h hj)
    have hdd : ∀ (j : Nat) (o' : Oper) (k : Nat), l[j]? = some o' → o'.dst = some k → (∃ e ∈ o.after, e.on = j ∧ Region.binds .any e = true) → V j (a.eval (.tmp k)) := fun j o' k hj hk' hw => by
      obtain ⟨_, q2, q3⟩ := hd j o' k hj hk' hw
      rw [q2]; exact q3
    have dn : ∀ {x y : Nat} {ox : Oper}, l[x]? = some ox → waits l x y = true → up x = true → up y = true := fun hx hw hu => by
      obtain ⟨e, he, h4, h5⟩ := waits_spec hw hx
      have := hcl _ _ e hx he h5 hu
      rwa [h4] at this
    have s50 := dn q5 w5
    have s85 := dn q8 w8
    have s87 := dn q8 w87
    have s138 := dn q13 w13
    have s1513 := dn q15 w15
    have hil : i < 16 := by rw [← hlen]; exact (List.getElem?_eq_some_iff.1 ho).1
    have h15f : i ≠ 15 → up 15 = false := fun hn => by
      cases e : up 15
      · rfl
      · rw [List.all_eq_true] at hclo
        have := hclo i (List.mem_range.2 (by omega))
        rw [List.contains_iff_mem] at this
        rw [clo_up hcl fuel [15] (by simpa using e) i this] at hi; cases hi
    by_cases i15 : i = 15
    · subst i15
      obtain rfl : o = o15 := Option.some.inj (ho.symm.trans q15)
      obtain ⟨u13, e13, _⟩ := hd 13 o13 k13 q13 d13 (by obtain ⟨e, he, h4, h5⟩ := waits_spec w15 q15; exact ⟨e, he, h4, h5⟩)
      obtain ⟨u14, e14, g14⟩ := hd 14 o14 k14 q14 d14 (by obtain ⟨e, he, h4, h5⟩ := waits_spec w14 q15; exact ⟨e, he, h4, h5⟩)
      obtain ⟨W', hr, hK⟩ := h15 a W (hT.bel hi) (by rw [e14]; exact g14) (by rw [e13]; exact hT.c13 u13 hi)
      have u8 := s138 u13
      have u5 := s85 u8
      refine Or.inr (Or.inl ⟨W', hr, d15, ?_⟩)
      show TI v t size n5 n8 n13 x5 x8 x13 nw K (up 0) (up 5) (up 7) (up 8) (up 13) true (vals 0) (vals 5) (vals 7) (vals 8) (vals 13) W'
      rw [e13] at hK
      exact ⟨fun h => (by cases h), fun _ h => (by rw [u5] at h; cases h), fun _ h => (by rw [u8] at h; cases h), fun _ h => (by rw [u13] at h; cases h), fun _ h => (by cases h), fun _ h => (by rw [u8] at h; cases h), fun _ => hK⟩
    have f15 := h15f i15
    have hB := hT.bel f15
    have hso := hdst ho (by omega)
    by_cases i0 : i = 0
    · subst i0
      obtain rfl : o = o0 := Option.some.inj (ho.symm.trans q0)
      have f5 : up 5 = false := by cases e : up 5; rfl; rw [s50 e] at hi; cases hi
      have f8 : up 8 = false := by cases e : up 8; rfl; rw [s85 e] at f5; cases f5
      have f13 : up 13 = false := by cases e : up 13; rfl; rw [s138 e] at f8; cases f8
      refine Or.inl ⟨_, _, h0 a W, hso, hVT 0 _ (Or.inl rfl), ?_⟩
      show TI v t size n5 n8 n13 x5 x8 x13 nw K true (up 5) (up 7) (up 8) (up 13) (up 15) (.slice (some ⟨W.heap.size, 0, none⟩) 0 0) (vals 5) (vals 7) (vals 8) (vals 13) (W.alloc (.cells #[] t))
      refine ⟨fun _ => blw_alloc hB _, fun _ _ => World.ownsRow_made W #[] 0 hB.size (by decide) (by simp), fun h => ?_, fun h => ?_, fun h => ?_, fun h h' => ?_, fun h => ?_⟩
      · rw [f5] at h; cases h
      · rw [f8] at h; cases h
      · rw [f13] at h; cases h
      · obtain ⟨q, e1, e2, _, _⟩ := hT.c7 h h'
        have hq := (Array.getElem?_eq_some_iff.1 e2).1
        refine ⟨q, e1, ((blw_alloc (Below.refl W.heap.size W) _ : Below W.heap.size W (W.alloc (.cells #[] t))).block q hq).trans e2, fun _ _ e => ?_, fun h => ?_⟩
        · have : W.heap.size = q := by injection e
          omega
        · rw [f5] at h; cases h
      · rw [f15] at h; cases h
    by_cases i7 : i = 7
    · subst i7
      obtain rfl : o = o7 := Option.some.inj (ho.symm.trans q7)
      have f8 : up 8 = false := by cases e : up 8; rfl; rw [s87 e] at hi; cases hi
      have f13 : up 13 = false := by cases e : up 13; rfl; rw [s138 e] at f8; cases f8
      have hb7 : Below W.heap.size W (W.alloc (.cells nw t)) := blw_alloc (Below.refl _ _) _
      refine Or.inl ⟨_, _, h7 a W hdd, hso, hVT 7 _ (by omega), ?_⟩
      show TI v t size n5 n8 n13 x5 x8 x13 nw K (up 0) (up 5) true (up 8) (up 13) (up 15) (vals 0) (vals 5) (.slice (some ⟨W.heap.size, 0, none⟩) 1 1) (vals 8) (vals 13) (W.alloc (.cells nw t))
      refine ⟨fun _ => blw_trans hB hb7, fun h h' => owns_lt_later (hT.c0 h h') hb7, fun h h' => owns_lt_later (hT.c5 h h') hb7, fun h => ?_, fun h => ?_, fun _ _ => ⟨W.heap.size, rfl, heap_alloc_new W _, fun h h' e => ?_, fun h e => ?_⟩, fun h => ?_⟩
      · rw [f8] at h; cases h
      · rw [f13] at h; cases h
      · have := (owns_blk_lt (hT.c0 h h') e).2; omega
      · have := (owns_blk_lt (hT.c5 h f8) e).2; omega
      · rw [f15] at h; cases h
    by_cases i5 : i = 5
    · subst i5
      obtain rfl : o = o5 := Option.some.inj (ho.symm.trans q5)
      obtain ⟨u0, e0, _⟩ := hd 0 o0 k0 q0 d0 (by obtain ⟨e, he, h4, h5⟩ := waits_spec w5 q5; exact ⟨e, he, h4, h5⟩)
      have f8 : up 8 = false := by cases e : up 8; rfl; rw [s85 e] at hi; cases hi
      have f13 : up 13 = false := by cases e : up 13; rfl; rw [s138 e] at f8; cases f8
      have c0 := hT.c0 u0 hi
      obtain ⟨u, W', hr, hA⟩ := h5 a W hB hdd (by rw [e0]; exact c0)
      rw [e0] at hA
      refine Or.inl ⟨u, W', hr, hso, hVT 5 _ (by omega), ?_⟩
      show TI v t size n5 n8 n13 x5 x8 x13 nw K (up 0) true (up 7) (up 8) (up 13) (up 15) (vals 0) u (vals 7) (vals 8) (vals 13) W'
      refine ⟨fun _ => blw_app hB c0 hA, fun _ h => (by cases h), fun _ _ => hA.1, fun h => ?_, fun h => ?_, fun h h' => ?_, fun h => ?_⟩
      · rw [f8] at h; cases h
      · rw [f13] at h; cases h
      · obtain ⟨q, e1, e2, e3, _⟩ := hT.c7 h h'
        have n0 := e3 u0 hi
        refine ⟨q, e1, grown_at hA.2.1 e2 n0, fun _ h => (by cases h), fun _ e => ?_⟩
        rcases hA.2.2 with g | g
        · exact n0 (g ▸ e)
        · rw [g] at e; have := (Array.getElem?_eq_some_iff.1 e2).1; injection e with e; omega
      · rw [f15] at h; cases h
    by_cases i8 : i = 8
    · subst i8
      obtain rfl : o = o8 := Option.some.inj (ho.symm.trans q8)
      obtain ⟨u5, e5, _⟩ := hd 5 o5 k5 q5 d5 (by obtain ⟨e, he, h4, h5⟩ := waits_spec w8 q8; exact ⟨e, he, h4, h5⟩)
      obtain ⟨u7, e7, _⟩ := hd 7 o7 k7 q7 d7 (by obtain ⟨e, he, h4, h5⟩ := waits_spec w87 q8; exact ⟨e, he, h4, h5⟩)
      have f13 : up 13 = false := by cases e : up 13; rfl; rw [s138 e] at hi; cases hi
      have c5 := hT.c5 u5 hi
      obtain ⟨q, e1, e2, _, _⟩ := hT.c7 u7 hi
      obtain ⟨u, W', hr, hA⟩ := h8 a W hB (by rw [e5]; exact c5) q (by rw [e7]; exact e1) e2
      rw [e5] at hA
      refine Or.inl ⟨u, W', hr, hso, hVT 8 _ (by omega), ?_⟩
      show TI v t size n5 n8 n13 x5 x8 x13 nw K (up 0) (up 5) (up 7) true (up 13) (up 15) (vals 0) (vals 5) (vals 7) u (vals 13) W'
      refine ⟨fun _ => blw_app hB c5 hA, fun _ h => (by rw [u5] at h; cases h), fun _ h => (by cases h), fun _ _ => hA.1, fun h => ?_, fun _ h => (by cases h), fun h => ?_⟩
      · rw [f13] at h; cases h
      · rw [f15] at h; cases h
    by_cases i13 : i = 13
    · subst i13
      obtain rfl : o = o13 := Option.some.inj (ho.symm.trans q13)
      obtain ⟨u8, e8, _⟩ := hd 8 o8 k8 q8 d8 (by obtain ⟨e, he, h4, h5⟩ := waits_spec w13 q13; exact ⟨e, he, h4, h5⟩)
      have u5 := s85 u8
      have c8 := hT.c8 u8 hi
      obtain ⟨u, W', hr, hA⟩ := h13 a W hB hdd (by rw [e8]; exact c8)
      rw [e8] at hA
      refine Or.inl ⟨u, W', hr, hso, hVT 13 _ (by omega), ?_⟩
      show TI v t size n5 n8 n13 x5 x8 x13 nw K (up 0) (up 5) (up 7) (up 8) true (up 15) (vals 0) (vals 5) (vals 7) (vals 8) u W'
      refine ⟨fun _ => blw_app hB c8 hA, fun _ h => (by rw [u5] at h; cases h), fun _ h => (by rw [u8] at h; cases h), fun _ h => (by cases h), fun _ _ => hA.1, fun _ h => (by rw [u8] at h; cases h), fun h => ?_⟩
      rw [f15] at h; cases h
    obtain ⟨u, hr, hu⟩ := hop i o ho i0 i5 i7 i8 i13 i15 a W hB hkk hdd
    refine Or.inl ⟨u, W, hr, hso, hu, ?_⟩
    have e : ∀ c, c ≠ i → ((c == i) || up c) = up c := fun c hc => by simp [hc]
    have e' : ∀ c, c ≠ i → (if c = i then u else vals c) = vals c := fun c hc => if_neg hc
    show TI v t size n5 n8 n13 x5 x8 x13 nw K ((0 == i) || up 0) ((5 == i) || up 5) ((7 == i) || up 7) ((8 == i) || up 8) ((13 == i) || up 13) ((15 == i) || up 15) (if 0 = i then u else vals 0) (if 5 = i then u else vals 5) (if 7 = i then u else vals 7) (if 8 = i then u else vals 8) (if 13 = i then u else vals 13) W
    rw [e 0 (Ne.symm i0), e 5 (Ne.symm i5), e 7 (Ne.symm i7), e 8 (Ne.symm i8), e 13 (Ne.symm i13), e 15 (Ne.symm i15), e' 0 (Ne.symm i0), e' 5 (Ne.symm i5), e' 7 (Ne.symm i7), e' 8 (Ne.symm i8), e' 13 (Ne.symm i13)]
    exact hT
  · intro up vals vs W hup hvs hT
    refine hend vs W ?_
    rw [(hvs 13 o13 k13 q13 d13).1]
    exact hT.c15 (hup 15 (by omega))
end RY
end Go.Proofs.Ytojcopamegmeeaa

namespace Go.Proofs.Ytojcopamegmeeaa
open Go.RowKit Go.Deep

/-- A list that is read: its cells are news. -/
def Lst (v : World) (size : Nat) (s : Value) (m : Nat) (news : List Value) : Prop :=
  (s = .slice none 0 0 ∧ m = 0 ∧ news = []) ∨ (∃ ad c, s = .slice (some ad) 0 c ∧ m = 0 ∧ news = []) ∨ ∃ p o c, s = .slice (some ⟨p, o, none⟩) m c ∧ p < v.heap.size ∧ v.rangeAt p o news ∧ news.length = m * size ∧ ∀ u ∈ news, u.oneCell' = true
theorem app_lst {P : Program} {v W : World} (t ty e : TypeId) (i : TypeInfo) (z : Value) (size bytes : Nat) (ht : P.underlying t = some (.slice e)) (hi : P.info? e = some i) (hz : i.zero = some z) (hs : i.size = size) (hby : i.bytes = bytes) (hzs : z.cells.size = size) (hs0 : 0 < size)
    {s : Value} {m : Nat} {news : List Value} (h : Lst v size s m news) (hB : Below v.heap.size v W) {r : Value} {n : Nat} {xs : List Value} (ho : W.ownsRow v.heap.size e size r n xs) (h63 : n + m ≤ maxLen) (hb : (n + m) * bytes ≤ 140737488355328) :
    ∃ u W', (Builtin.append_ #[t, t] ty #[r, s]).run P W = .ok u W' ∧ RY.AppR v e size W r u (n + m) (xs ++ news) W' := by
  rcases h with ⟨rfl, rfl, rfl⟩ | ⟨ad, c, rfl, rfl, rfl⟩ | ⟨p, o, c, rfl, hp, hr, hl, h1⟩
  · refine ⟨r, W, run_append_owned_none (P := P) (w := W) v.heap.size t ty e i size ht hi r n xs ho, ?_, ⟨rfl, rfl, rfl, Nat.le_refl _, fun _ _ _ => rfl⟩, Or.inl rfl⟩
    rw [List.append_nil]; exact ho
  · obtain ⟨u, W', hr, h2, h3, _, h5⟩ := run_append_own_at (P := P) W v.heap.size t ty e i z size bytes ht hi hz hs hby hzs hs0 r n xs ho ad 0 c [] (by simp) (fun j u h => by simp at h) (fun u h => by cases h) h63 hb hB.size
    exact ⟨u, W', hr, h2, h3, h5⟩
  · obtain ⟨u, W', hr, h2, h3, _, h5⟩ := run_append_own_at (P := P) W v.heap.size t ty e i z size bytes ht hi hz hs hby hzs hs0 r n xs ho ⟨p, o, none⟩ m c news hl (fun j u h => by rw [Addr.add_mid]; exact rA_later hr hp hB j u h) h1 h63 hb hB.size
    exact ⟨u, W', hr, h2, h3, h5⟩
/-- The two parts of a list that is cut at k. -/
theorem lst_cut {P : Program} {v : World} {t e : TypeId} {i : TypeInfo} {sh : List Sh} {F : List Nat} {n : Nat} {es : List Dt} {lv : Value} (ht : P.underlying t = some (.slice (P.elem t))) (hi : P.info? (P.elem t) = some i) (hs : i.size = sh.length) (h : Rep v false [.row e sh] F [.row n es] [lv]) (k : Nat) (hk : k ≤ n) :
    ∃ s1 s2 vs G, Rep v false (reps n sh) G es vs ∧ (∀ b ∈ G, b ∈ F) ∧ Lst v sh.length s1 k (vs.take (k * sh.length)) ∧ Lst v sh.length s2 (n - k) (vs.drop (k * sh.length)) ∧
      (∀ W, (Instr.slice t lv none (some (.int .i64 (k : Int))) none).run P W = .ok s1 W) ∧ (∀ W, (Instr.slice t lv (some (.int .i64 (k : Int))) none none).run P W = .ok s2 W) := by
  rcases h.slice with ⟨_, rfl, rfl, rfl, a, rfl⟩ | ⟨p, o, c, u, m, G, rfl, rfl, hn, ho, _, _, vs, hr, hR⟩
  · obtain rfl : k = 0 := by omega
    refine ⟨.slice a 0 0, .slice a 0 0, [], [], by rw [reps_zero]; exact .nil, by simp, ?_, ?_, fun W => ?_, fun W => ?_⟩
    · cases a with
      | none => exact Or.inl ⟨rfl, rfl, by simp⟩
      | some ad => exact Or.inr (Or.inl ⟨ad, 0, rfl, rfl, by simp⟩)
    · cases a with
      | none => exact Or.inl ⟨rfl, rfl, by simp⟩
      | some ad => exact Or.inr (Or.inl ⟨ad, 0, rfl, rfl, by simp⟩)
    · rw [run_slice_h (P := P) (w := W) (t := t) (a := a) (len := 0) (cap := 0) ht .i64 ((0 : Nat) : Int) (by omega) (by omega)]
      simp [sizeOf, typeInfo, hi, sliced]
    · rw [run_slice_l (P := P) (w := W) (t := t) (a := a) (len := 0) (cap := 0) ht .i64 ((0 : Nat) : Int) (by omega) (by omega)]
      simp [sizeOf, typeInfo, hi, sliced]
  · have hl : vs.length = n * sh.length := by rw [hR.len, reps_len]
    have hkl : k * sh.length ≤ n * sh.length := Nat.mul_le_mul_right _ hk
    have e1 : vs = vs.take (k * sh.length) ++ vs.drop (k * sh.length) := (List.take_append_drop _ _).symm
    have hr1 : v.rangeAt p o (vs.take (k * sh.length)) := by rw [e1] at hr; exact (rA_cut hr).1
    have hr2 : v.rangeAt p (o + k * sh.length) (vs.drop (k * sh.length)) := by
      have h2 : v.rangeAt p o (vs.take (k * sh.length) ++ vs.drop (k * sh.length)) := by rw [← e1]; exact hr
      have := (rA_cut h2).2
      rwa [List.length_take, Nat.min_eq_left (by omega)] at this
    refine ⟨.slice (some ⟨p, o, none⟩) k c, .slice (some (if c = k then ⟨p, o, none⟩ else ⟨p, o + k * sh.length, none⟩)) (n - k) (c - k), vs, G, hR, fun b hb => by simp [hb], Or.inr (Or.inr ⟨p, o, c, rfl, ho.lt, hr1, by rw [List.length_take]; omega, fun u hu => hR.raw.one u (List.mem_of_mem_take hu)⟩), ?_, fun W => ?_, fun W => ?_⟩
    · by_cases hck : c = k
      · have hnk : n = k := by omega
        refine Or.inr (Or.inl ⟨⟨p, o, none⟩, c - k, by rw [if_pos hck]; simp [hnk], by omega, ?_⟩)
        rw [List.drop_of_length_le (by rw [hl, hnk]; exact Nat.le_refl _)]
      · exact Or.inr (Or.inr ⟨p, o + k * sh.length, c - k, by rw [if_neg hck], ho.lt, hr2, by rw [List.length_drop, hl, Nat.sub_mul], fun u hu => hR.raw.one u (List.mem_of_mem_drop hu)⟩)
    · rw [run_slice_h (P := P) (w := W) (t := t) (a := some ⟨p, o, none⟩) (len := n) (cap := c) ht .i64 (k : Int) (by omega) (by omega)]
      simp [sizeOf, typeInfo, hi, sliced, Addr.add_mid]
    · rw [run_slice_l (P := P) (w := W) (t := t) (a := some ⟨p, o, none⟩) (len := n) (cap := c) ht .i64 (k : Int) (by omega) (by omega)]
      by_cases hck : c = k <;> simp [sizeOf, typeInfo, hi, sliced, hs, hck, Addr.add_mid]

/-- An element put into a list. -/
theorem ins_rep {α : Type} {v : World} {sh : List Sh} (f : α → List Dt) (hf : ∀ x, (f x).length = sh.length) {l : List α} {k : Nat} (hk : k ≤ l.length) {G Fx : List Nat} {vs cx : List Value} {x : α} (h : Rep v false (reps l.length sh) G (l.flatMap f) vs) (hx : Rep v false sh Fx (f x) cx) :
    ∃ G', Rep v false (reps (l.length + 1) sh) G' ((l.take k ++ x :: l.drop k).flatMap f) (vs.take (k * sh.length) ++ cx ++ vs.drop (k * sh.length)) ∧ ∀ b ∈ G', b ∈ G ∨ b ∈ Fx := by
  have e1 : reps l.length sh = reps k sh ++ reps (l.length - k) sh := by rw [← reps_add]; congr 1; omega
  rw [e1] at h
  obtain ⟨F1, F2, d1, d2, c1, c2, rfl, hd, rfl, h1, h2⟩ := Rep.cut _ h
  have hl1 : d1.length = k * sh.length := by rw [h1.raw.typ.len, reps_len]
  have hc1 : c1.length = k * sh.length := by rw [h1.len, reps_len]
  have ht : ((l.take k).flatMap f).length = k * sh.length := by rw [flat_len2 f _ hf, List.length_take, Nat.min_eq_left hk]
  have hs : l.flatMap f = (l.take k).flatMap f ++ (l.drop k).flatMap f := by rw [← List.flatMap_append, List.take_append_drop]
  obtain ⟨g1, g2⟩ := List.append_inj (hd.symm.trans hs) (by rw [hl1, ht])
  subst g1; subst g2
  refine ⟨F1 ++ (Fx ++ F2), ?_, fun b hb => ?_⟩
  · have e2 : reps (l.length + 1) sh = reps k sh ++ (sh ++ reps (l.length - k) sh) := by rw [← reps_succ, ← reps_add]; congr 1; omega
    have e3 : (c1 ++ c2).take (k * sh.length) = c1 := by rw [← hc1]; simp
    have e4 : (c1 ++ c2).drop (k * sh.length) = c2 := by rw [← hc1]; simp
    rw [e2, e3, e4, List.flatMap_append, List.flatMap_cons, List.append_assoc]
    exact h1.app (hx.app h2)
  · simp only [List.mem_append] at hb ⊢
    rcases hb with hb | hb | hb
    · exact Or.inl (Or.inl hb)
    · exact Or.inr hb
    · exact Or.inl (Or.inr hb)
/-- A row of one's own whose elements may lie in memory that others read, too. -/
theorem owns_rep {W : World} {lo : Nat} {t : TypeId} {sh : List Sh} {v : Value} {n : Nat} {G : List Nat} {es : List Dt} {xs : List Value} (h : W.ownsRow lo t sh.length v n xs) (hr : Rep W false (reps n sh) G es xs) : ∃ F, Rep W false [.row t sh] F [.row n es] [v] ∧ ∀ b ∈ F, lo ≤ b ∨ b ∈ G := by
  rcases h.2 with ⟨rfl, rfl⟩ | ⟨g, cap, cur, rfl, q2, q3, q4, q5, q6, q7⟩
  · rw [reps_zero] at hr
    cases hr
    exact ⟨[], .emp _ _ none rfl .nil, by simp⟩
  · refine ⟨g :: (G ++ []), .row t sh g 0 n cap t (cap * sh.length) xs es G ⟨cur, q3, q6⟩ (by omega) (by simp) ⟨Nat.le_trans q4 q5, q4⟩ ?_ hr .nil, ?_⟩
    · intro j x hx
      rw [← q7] at hx
      have hl : j < n * sh.length := by have := (List.getElem?_eq_some_iff.1 hx).1; rw [List.length_take] at this; omega
      rw [List.getElem?_take_of_lt hl] at hx
      rw [Nat.zero_add]
      simp only [World.cell?, q3]
      simpa using hx
    · intro b hb
      rw [List.append_nil] at hb
      rcases List.mem_cons.1 hb with rfl | hb
      · exact Or.inl q2
      · exact Or.inr hb

end Go.Proofs.Ytojcopamegmeeaa

namespace Go.Proofs.Ytojcopamegmeeaa
open Go.RowKit Go.Deep

theorem Try.elem_lines : Try.prog.elem 40 = 69 := by kernel_rfl
theorem Try.under_linesE : Try.prog.underlying 40 = some (.slice (Try.prog.elem 40)) := by rw [Try.elem_lines]; exact Try.under_lines
/-- While a line's place is sought. -/
structure Pt (w : World) (b0 : Nat) (kd nm : ByteArray) (lv : Value) (xs : List Value) (W : World) : Prop where
  bel : Below w.heap.size w W
  box : WBox W b0 42 [.string kd, .string nm, lv]
  arg : LBox W (b0 + 1) xs
  res : WBox W (b0 + 2) 42 [.string { data := #[] }, .string { data := #[] }, .slice none 0 0]
theorem Pt.later {w W W' : World} {b0 : Nat} {kd nm : ByteArray} {lv : Value} {xs : List Value} (h : Pt w b0 kd nm lv xs W) (hb : Below W.heap.size W W') : Pt w b0 kd nm lv xs W' := ⟨blw_trans h.bel hb, h.box.later hb, h.arg.later hb, h.res.later hb⟩
/-- Behind it. -/
structure PtK (w : World) (b0 : Nat) (kd nm : ByteArray) (n : Nat) (u : Value) (G : List Nat) (es : List Dt) (xs : List Value) (W : World) : Prop where
  form : ∃ g cap, u = .slice (some ⟨g, 0, none⟩) (n + 1) cap
  bel : Below w.heap.size w W
  box : WBox W b0 42 [.string kd, .string nm, u]
  res : WBox W (b0 + 2) 42 [.string { data := #[] }, .string { data := #[] }, .slice none 0 0]
  row : W.ownsRow (b0 + 3) 69 2 u (n + 1) xs
  rep : Rep W false (reps (n + 1) shSheetLine) G es xs
theorem ownsRow_lo {W : World} {lo lo' e size n : Nat} {v : Value} {xs : List Value} (h : W.ownsRow lo e size v n xs) (hl : lo' ≤ lo) : W.ownsRow lo' e size v n xs := by
  refine ⟨h.1, h.2.imp id ?_⟩
  rintro ⟨g, cap, cur, h1, h2, h3⟩
  exact ⟨g, cap, cur, h1, Nat.le_trans hl h2, h3⟩
theorem PtK.mk' {w Y : World} {b0 lo n g cap : Nat} {kd nm : ByteArray} {lv : Value} {G : List Nat} {es : List Dt} {xs ys : List Value} (hb : b0 = w.heap.size) (h : Pt w b0 kd nm lv ys Y) (hlo : b0 + 3 ≤ lo) (ho : Y.ownsRow lo 69 2 (.slice (some ⟨g, 0, none⟩) (n + 1) cap) (n + 1) xs) (hr : Rep Y false (reps (n + 1) shSheetLine) G es xs) (hG : ∀ b ∈ G, b < b0) :
    PtK w b0 kd nm n (.slice (some ⟨g, 0, none⟩) (n + 1) cap) G es xs (Y.setCell ⟨b0, 2, none⟩ (.slice (some ⟨g, 0, none⟩) (n + 1) cap)) := by
  have hm : Marks (fun b => b = b0) Y (Y.setCell ⟨b0, 2, none⟩ (.slice (some ⟨g, 0, none⟩) (n + 1) cap)) := Marks.sc (S := fun b => b = b0) Y rfl 2 _
  exact ⟨⟨g, cap, rfl⟩, hm.below (fun b e => by omega) h.bel, h.box.set 2 _ (by simp), h.res.other (by omega) _ _, owns_mks (ownsRow_lo ho hlo) hm fun b hb e => by omega, hr.keep hm fun b hb e => by have := hG b hb; omega⟩
/-- A function's answer: a struct whose lists lie in memory of its own, or in what was given. -/
def AnsS (sh : List Sh) (A : List Dt) (F : Nat → Prop) (W : World) (e : Ending) (w' : World) : Prop := ∃ c F', e = .returned (.agg c.toArray) ∧ Rep w' false sh F' A c ∧ (∀ b ∈ F', F b ∨ W.heap.size ≤ b) ∧ Below W.heap.size W w'
theorem PtK.ans {w W we : World} {b0 n g cap : Nat} {kd nm : ByteArray} {G : List Nat} {l : List Pl.Ln} {xs : List Value} {S : Nat → Prop} (h : PtK w b0 kd nm n (.slice (some ⟨g, 0, none⟩) (n + 1) cap) G (l.flatMap lnD) xs W) (hb : b0 = w.heap.size) (hm : Marks (fun b => b = b0 + 2) W we) (hG : ∀ b ∈ G, b < b0) (hl : l.length = n + 1) (hS : ∀ b ∈ G, S b) :
    AnsS shSheetBlock (blD ⟨kd, nm, l⟩) S w (.returned (.agg #[.string kd, .string nm, .slice (some ⟨g, 0, none⟩) (n + 1) cap])) we := by
  obtain ⟨F, r, hF⟩ := owns_rep (sh := shSheetLine) (owns_mks h.row hm fun b hb e => by omega) (h.rep.keep hm fun b hb e => by have := hG b hb; omega)
  refine ⟨[.string kd, .string nm, .slice (some ⟨g, 0, none⟩) (n + 1) cap], F ++ [], rfl, ?_, fun b hb => ?_, hm.below (fun b e => by omega) h.bel⟩
  · unfold blD lnsD
    rw [hl]
    exact repSheetBlock_mk kd nm r
  · rw [List.append_nil] at hb
    rcases hF b hb with q | q
    · exact Or.inr (by omega)
    · exact Or.inl (hS b q)
def VIn (lv s1 s2 : Value) (k b0 : Nat) (X : Array Value) : Nat → Value → Prop
  | 1, u => u = .pointer (some ⟨b0, 2, none⟩)
  | 2, u => u = lv
  | 3, u => u = .int .i64 (k : Int)
  | 4, u => u = s1
  | 6, u => u = .agg X
  | 9, u => u = .pointer (some ⟨b0, 2, none⟩)
  | 10, u => u = lv
  | 11, u => u = .int .i64 (k : Int)
  | 12, u => u = s2
  | 14, u => u = .pointer (some ⟨b0, 2, none⟩)
  | _, _ => True
def VPa (va : Option Addr) (vc : Nat) (n : Nat) (k : Nat) (b0 : Nat) : Nat → Value → World → Prop
  | 0, u, _ => u = .int .i64 (k : Int)
  | 1, u, _ => u = .pointer (some ⟨b0, 2, none⟩)
  | 2, u, _ => u = .slice va n vc
  | 3, u, _ => u = .int .i64 (n : Int)
  | 4, u, _ => u = .bool false
  | 5, u, _ => u = .bool false
  | 6, u, _ => u = undef
  | 7, u, _ => u = undef
  | 8, u, _ => u = undef
  | 9, u, _ => u = undef
  | 10, u, _ => u = undef
  | 11, u, _ => u = undef
  | 12, u, _ => u = undef
  | 13, u, _ => u = undef
  | 14, u, _ => u = undef
  | 15, u, _ => u = .bool false
  | _, _, _ => True
theorem VPa_mono (va : Option Addr) (vc : Nat) (n : Nat) (k : Nat) (b0 : Nat) : ∀ jj u W W', Below W.heap.size W W' → VPa va vc n k b0 jj u W → VPa va vc n k b0 jj u W' := by
  intro jj u W W' hb h
  match jj with
  | 0 => exact h
  | 1 => exact h
  | 2 => exact h
  | 3 => exact h
  | 4 => exact h
  | 5 => exact h
  | 6 => exact h
  | 7 => exact h
  | 8 => exact h
  | 9 => exact h
  | 10 => exact h
  | 11 => exact h
  | 12 => exact h
  | 13 => exact h
  | 14 => exact h
  | 15 => exact h
  | n + 16 => exact trivial
def VPb (b : Pl.Bl) (x : Pl.Ln) (y : Pl.Ln) (va : Option Addr) (xa : Option Addr) (ya : Option Addr) (vc : Nat) (xc : Nat) (yc : Nat) (p : Nat) (o : Nat) (n : Nat) (k : Nat) (b0 : Nat) : Nat → Value → World → Prop
  | 0, u, _ => u = .int .i64 (k : Int)
  | 1, u, _ => u = .pointer (some ⟨b0, 2, none⟩)
  | 2, u, _ => u = .slice va n vc
  | 3, u, _ => u = .int .i64 (n : Int)
  | 4, u, _ => u = .bool true
  | 5, u, _ => u = .bool true
  | 6, u, _ => u = .pointer (some ⟨b0, 0, none⟩)
  | 7, u, _ => u = .string b.kind
  | 8, u, _ => u = .pointer (some ⟨b0, 2, none⟩)
  | 9, u, _ => u = .slice va n vc
  | 10, u, _ => u = .int .i64 (k : Int)
  | 11, u, _ => u = .pointer (some ⟨p, o + k * 2, none⟩)
  | 12, u, _ => u = .agg #[.string y.key, .slice ya y.ws.length yc]
  | 13, u, _ => u = .agg #[.string x.key, .slice xa x.ws.length xc]
  | 14, u, _ => u = .bool true
  | 15, u, _ => u = .bool true
  | _, _, _ => True
theorem VPb_mono (b : Pl.Bl) (x : Pl.Ln) (y : Pl.Ln) (va : Option Addr) (xa : Option Addr) (ya : Option Addr) (vc : Nat) (xc : Nat) (yc : Nat) (p : Nat) (o : Nat) (n : Nat) (k : Nat) (b0 : Nat) : ∀ jj u W W', Below W.heap.size W W' → VPb b x y va xa ya vc xc yc p o n k b0 jj u W → VPb b x y va xa ya vc xc yc p o n k b0 jj u W' := by
  intro jj u W W' hb h
  match jj with
  | 0 => exact h
  | 1 => exact h
  | 2 => exact h
  | 3 => exact h
  | 4 => exact h
  | 5 => exact h
  | 6 => exact h
  | 7 => exact h
  | 8 => exact h
  | 9 => exact h
  | 10 => exact h
  | 11 => exact h
  | 12 => exact h
  | 13 => exact h
  | 14 => exact h
  | 15 => exact h
  | n + 16 => exact trivial
def VPc (b : Pl.Bl) (x : Pl.Ln) (y : Pl.Ln) (va : Option Addr) (xa : Option Addr) (ya : Option Addr) (vc : Nat) (xc : Nat) (yc : Nat) (p : Nat) (o : Nat) (n : Nat) (k : Nat) (b0 : Nat) : Nat → Value → World → Prop
  | 0, u, _ => u = .int .i64 (k : Int)
  | 1, u, _ => u = .pointer (some ⟨b0, 2, none⟩)
  | 2, u, _ => u = .slice va n vc
  | 3, u, _ => u = .int .i64 (n : Int)
  | 4, u, _ => u = .bool true
  | 5, u, _ => u = .bool true
  | 6, u, _ => u = .pointer (some ⟨b0, 0, none⟩)
  | 7, u, _ => u = .string b.kind
  | 8, u, _ => u = .pointer (some ⟨b0, 2, none⟩)
  | 9, u, _ => u = .slice va n vc
  | 10, u, _ => u = .int .i64 (k : Int)
  | 11, u, _ => u = .pointer (some ⟨p, o + k * 2, none⟩)
  | 12, u, _ => u = .agg #[.string y.key, .slice ya y.ws.length yc]
  | 13, u, _ => u = .agg #[.string x.key, .slice xa x.ws.length xc]
  | 14, u, _ => u = .bool false
  | 15, u, _ => u = .bool false
  | _, _, _ => True
theorem VPc_mono (b : Pl.Bl) (x : Pl.Ln) (y : Pl.Ln) (va : Option Addr) (xa : Option Addr) (ya : Option Addr) (vc : Nat) (xc : Nat) (yc : Nat) (p : Nat) (o : Nat) (n : Nat) (k : Nat) (b0 : Nat) : ∀ jj u W W', Below W.heap.size W W' → VPc b x y va xa ya vc xc yc p o n k b0 jj u W → VPc b x y va xa ya vc xc yc p o n k b0 jj u W' := by
  intro jj u W W' hb h
  match jj with
  | 0 => exact h
  | 1 => exact h
  | 2 => exact h
  | 3 => exact h
  | 4 => exact h
  | 5 => exact h
  | 6 => exact h
  | 7 => exact h
  | 8 => exact h
  | 9 => exact h
  | 10 => exact h
  | 11 => exact h
  | 12 => exact h
  | 13 => exact h
  | 14 => exact h
  | 15 => exact h
  | n + 16 => exact trivial

end Go.Proofs.Ytojcopamegmeeaa

namespace Go.Proofs.Ytojcopamegmeeaa
open Go.RowKit Go.Deep

theorem Try.elem_blocks : Try.prog.elem 28 = 42 := by kernel_rfl
theorem Try.under_blocksE : Try.prog.underlying 28 = some (.slice (Try.prog.elem 28)) := by rw [Try.elem_blocks]; exact Try.under_blocks
/-- While a line's place is sought. -/
structure Qt (w : World) (b0 : Nat) (lv : Value) (xs : List Value) (W : World) : Prop where
  bel : Below w.heap.size w W
  box : WBox W b0 30 [lv]
  arg : LBox W (b0 + 1) xs
  res : WBox W (b0 + 2) 30 [.slice none 0 0]
theorem Qt.later {w W W' : World} {b0 : Nat} {lv : Value} {xs : List Value} (h : Qt w b0 lv xs W) (hb : Below W.heap.size W W') : Qt w b0 lv xs W' := ⟨blw_trans h.bel hb, h.box.later hb, h.arg.later hb, h.res.later hb⟩
/-- Behind it. -/
structure QtK (w : World) (b0 : Nat) (n : Nat) (u : Value) (G : List Nat) (es : List Dt) (xs : List Value) (W : World) : Prop where
  form : ∃ g cap, u = .slice (some ⟨g, 0, none⟩) (n + 1) cap
  bel : Below w.heap.size w W
  box : WBox W b0 30 [u]
  res : WBox W (b0 + 2) 30 [.slice none 0 0]
  row : W.ownsRow (b0 + 3) 42 3 u (n + 1) xs
  rep : Rep W false (reps (n + 1) shSheetBlock) G es xs
theorem QtK.mk' {w Y : World} {b0 lo n g cap : Nat} {lv : Value} {G : List Nat} {es : List Dt} {xs ys : List Value} (hb : b0 = w.heap.size) (h : Qt w b0 lv ys Y) (hlo : b0 + 3 ≤ lo) (ho : Y.ownsRow lo 42 3 (.slice (some ⟨g, 0, none⟩) (n + 1) cap) (n + 1) xs) (hr : Rep Y false (reps (n + 1) shSheetBlock) G es xs) (hG : ∀ b ∈ G, b < b0) :
    QtK w b0 n (.slice (some ⟨g, 0, none⟩) (n + 1) cap) G es xs (Y.setCell ⟨b0, 0, none⟩ (.slice (some ⟨g, 0, none⟩) (n + 1) cap)) := by
  have hm : Marks (fun b => b = b0) Y (Y.setCell ⟨b0, 0, none⟩ (.slice (some ⟨g, 0, none⟩) (n + 1) cap)) := Marks.sc (S := fun b => b = b0) Y rfl 0 _
  exact ⟨⟨g, cap, rfl⟩, hm.below (fun b e => by omega) h.bel, h.box.set 0 _ (by simp), h.res.other (by omega) _ _, owns_mks (ownsRow_lo ho hlo) hm fun b hb e => by omega, hr.keep hm fun b hb e => by have := hG b hb; omega⟩
theorem QtK.ans {w W we : World} {b0 n g cap : Nat} {G : List Nat} {l : List Pl.Bl} {xs : List Value} {S : Nat → Prop} (h : QtK w b0 n (.slice (some ⟨g, 0, none⟩) (n + 1) cap) G (l.flatMap blD) xs W) (hb : b0 = w.heap.size) (hm : Marks (fun b => b = b0 + 2) W we) (hG : ∀ b ∈ G, b < b0) (hl : l.length = n + 1) (hS : ∀ b ∈ G, S b) :
    AnsS shSheet [blsD l] S w (.returned (.agg #[.slice (some ⟨g, 0, none⟩) (n + 1) cap])) we := by
  obtain ⟨F, r, hF⟩ := owns_rep (sh := shSheetBlock) (owns_mks h.row hm fun b hb e => by omega) (h.rep.keep hm fun b hb e => by have := hG b hb; omega)
  refine ⟨[.slice (some ⟨g, 0, none⟩) (n + 1) cap], F ++ [], rfl, ?_, fun b hb => ?_, hm.below (fun b e => by omega) h.bel⟩
  · unfold blsD
    rw [hl]
    exact repSheet_mk r
  · rw [List.append_nil] at hb
    rcases hF b hb with q | q
    · exact Or.inr (by omega)
    · exact Or.inl (hS b q)
def VIb (lv s1 s2 : Value) (k b0 : Nat) (X : Array Value) : Nat → Value → Prop
  | 1, u => u = .pointer (some ⟨b0, 0, none⟩)
  | 2, u => u = lv
  | 3, u => u = .int .i64 (k : Int)
  | 4, u => u = s1
  | 6, u => u = .agg X
  | 9, u => u = .pointer (some ⟨b0, 0, none⟩)
  | 10, u => u = lv
  | 11, u => u = .int .i64 (k : Int)
  | 12, u => u = s2
  | 14, u => u = .pointer (some ⟨b0, 0, none⟩)
  | _, _ => True
def VQa (va : Option Addr) (vc : Nat) (n : Nat) (k : Nat) (b0 : Nat) : Nat → Value → World → Prop
  | 0, u, _ => u = .int .i64 (k : Int)
  | 1, u, _ => u = .pointer (some ⟨b0, 0, none⟩)
  | 2, u, _ => u = .slice va n vc
  | 3, u, _ => u = .int .i64 (n : Int)
  | 4, u, _ => u = .bool false
  | 5, u, _ => u = .bool false
  | 6, u, _ => u = undef
  | 7, u, _ => u = undef
  | 8, u, _ => u = undef
  | 9, u, _ => u = undef
  | 10, u, _ => u = undef
  | 11, u, _ => u = undef
  | 12, u, _ => u = undef
  | 13, u, _ => u = .bool false
  | _, _, _ => True
theorem VQa_mono (va : Option Addr) (vc : Nat) (n : Nat) (k : Nat) (b0 : Nat) : ∀ jj u W W', Below W.heap.size W W' → VQa va vc n k b0 jj u W → VQa va vc n k b0 jj u W' := by
  intro jj u W W' hb h
  match jj with
  | 0 => exact h
  | 1 => exact h
  | 2 => exact h
  | 3 => exact h
  | 4 => exact h
  | 5 => exact h
  | 6 => exact h
  | 7 => exact h
  | 8 => exact h
  | 9 => exact h
  | 10 => exact h
  | 11 => exact h
  | 12 => exact h
  | 13 => exact h
  | n + 14 => exact trivial
def VQb (x : Pl.Bl) (y : Pl.Bl) (va : Option Addr) (xa : Option Addr) (ya : Option Addr) (vc : Nat) (xc : Nat) (yc : Nat) (p : Nat) (o : Nat) (n : Nat) (k : Nat) (b0 : Nat) : Nat → Value → World → Prop
  | 0, u, _ => u = .int .i64 (k : Int)
  | 1, u, _ => u = .pointer (some ⟨b0, 0, none⟩)
  | 2, u, _ => u = .slice va n vc
  | 3, u, _ => u = .int .i64 (n : Int)
  | 4, u, _ => u = .bool true
  | 5, u, _ => u = .bool true
  | 6, u, _ => u = .pointer (some ⟨b0, 0, none⟩)
  | 7, u, _ => u = .slice va n vc
  | 8, u, _ => u = .int .i64 (k : Int)
  | 9, u, _ => u = .pointer (some ⟨p, o + k * 3, none⟩)
  | 10, u, _ => u = .agg #[.string y.kind, .string y.name, .slice ya y.lines.length yc]
  | 11, u, _ => u = .agg #[.string x.kind, .string x.name, .slice xa x.lines.length xc]
  | 12, u, _ => u = .bool true
  | 13, u, _ => u = .bool true
  | _, _, _ => True
theorem VQb_mono (x : Pl.Bl) (y : Pl.Bl) (va : Option Addr) (xa : Option Addr) (ya : Option Addr) (vc : Nat) (xc : Nat) (yc : Nat) (p : Nat) (o : Nat) (n : Nat) (k : Nat) (b0 : Nat) : ∀ jj u W W', Below W.heap.size W W' → VQb x y va xa ya vc xc yc p o n k b0 jj u W → VQb x y va xa ya vc xc yc p o n k b0 jj u W' := by
  intro jj u W W' hb h
  match jj with
  | 0 => exact h
  | 1 => exact h
  | 2 => exact h
  | 3 => exact h
  | 4 => exact h
  | 5 => exact h
  | 6 => exact h
  | 7 => exact h
  | 8 => exact h
  | 9 => exact h
  | 10 => exact h
  | 11 => exact h
  | 12 => exact h
  | 13 => exact h
  | n + 14 => exact trivial
def VQc (x : Pl.Bl) (y : Pl.Bl) (va : Option Addr) (xa : Option Addr) (ya : Option Addr) (vc : Nat) (xc : Nat) (yc : Nat) (p : Nat) (o : Nat) (n : Nat) (k : Nat) (b0 : Nat) : Nat → Value → World → Prop
  | 0, u, _ => u = .int .i64 (k : Int)
  | 1, u, _ => u = .pointer (some ⟨b0, 0, none⟩)
  | 2, u, _ => u = .slice va n vc
  | 3, u, _ => u = .int .i64 (n : Int)
  | 4, u, _ => u = .bool true
  | 5, u, _ => u = .bool true
  | 6, u, _ => u = .pointer (some ⟨b0, 0, none⟩)
  | 7, u, _ => u = .slice va n vc
  | 8, u, _ => u = .int .i64 (k : Int)
  | 9, u, _ => u = .pointer (some ⟨p, o + k * 3, none⟩)
  | 10, u, _ => u = .agg #[.string y.kind, .string y.name, .slice ya y.lines.length yc]
  | 11, u, _ => u = .agg #[.string x.kind, .string x.name, .slice xa x.lines.length xc]
  | 12, u, _ => u = .bool false
  | 13, u, _ => u = .bool false
  | _, _, _ => True
theorem VQc_mono (x : Pl.Bl) (y : Pl.Bl) (va : Option Addr) (xa : Option Addr) (ya : Option Addr) (vc : Nat) (xc : Nat) (yc : Nat) (p : Nat) (o : Nat) (n : Nat) (k : Nat) (b0 : Nat) : ∀ jj u W W', Below W.heap.size W W' → VQc x y va xa ya vc xc yc p o n k b0 jj u W → VQc x y va xa ya vc xc yc p o n k b0 jj u W' := by
  intro jj u W W' hb h
  match jj with
  | 0 => exact h
  | 1 => exact h
  | 2 => exact h
  | 3 => exact h
  | 4 => exact h
  | 5 => exact h
  | 6 => exact h
  | 7 => exact h
  | 8 => exact h
  | 9 => exact h
  | 10 => exact h
  | 11 => exact h
  | 12 => exact h
  | 13 => exact h
  | n + 14 => exact trivial

end Go.Proofs.Ytojcopamegmeeaa
