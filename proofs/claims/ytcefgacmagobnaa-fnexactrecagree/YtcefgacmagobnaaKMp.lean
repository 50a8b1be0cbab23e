/-
  A map of counts by slots.
-/
import Derived.DeepKeys4
import Derived.WideKeyEntry
import Derived.Test.YtcefgacmagobnaaKMj
import Derived.Test.YtcefgacmagobnaaLet
namespace Go.Proofs.Ytcefgacmagobnaa
open Go.RowKit Go.Deep
namespace RY

/-- What the operation j has yielded. -/
def valOf (l : List Oper) (a : Act) (j : Nat) : Value := match l[j]? with
  | some o => (match o.dst with
    | some k => a.eval (.tmp k)
    | none => undef)
  | none => undef
theorem valOf_at {l : List Oper} {a : Act} {j k : Nat} {o : Oper} (hj : l[j]? = some o) (hd : o.dst = some k) : valOf l a j = a.eval (.tmp k) := by
  unfold valOf; rw [hj]; simp only [hd]
theorem valOf_put {l : List Oper} {a : Act} {i q : Nat} {o : Oper} (hap : apartB l = true) (ho : l[i]? = some o) (hd : o.dst = some q) (hq : q < a.tmps.size) (u : Value) : valOf l (a.put (some q) u) = fun j => if j = i then u else valOf l a j := by
  funext j
  by_cases e : j = i
  · subst e
    rw [if_pos rfl, valOf_at ho hd, put_same _ _ _ hq]
  · rw [if_neg e]
    cases h : l[j]? with
    | none => unfold valOf; rw [h]
    | some o' =>
      cases h' : o'.dst with
      | none => unfold valOf; rw [h]; simp only [h']
      | some k =>
        rw [valOf_at h h', valOf_at h h', put_else _ _ _ _ (fun e2 => e (apart_spec hap h ho (by rw [h', ← e2]) hd))]
theorem up_set {L : Array Bool} {i : Nat} (h : L.getD i true = false) : (fun j => (L.setIfInBounds i true).getD j false) = fun j => (j == i) || L.getD j false := by
  funext j
  by_cases e : j = i
  · subst e; rw [set_here h]; simp
  · have : (L.setIfInBounds i true).getD j false = L.getD j false := by
      simp only [Array.getD_eq_getD_getElem?]
      rw [Array.getElem?_setIfInBounds_ne (fun e2 => e e2.symm)]
    rw [this]; simp [e]

theorem region_T {P : Program} {id : Nat} {Q : Exit → Act → World → Prop} {a0 : Act} {w : World} {l : List Oper} (V : Nat → Value → Prop) (T : (Nat → Bool) → (Nat → Value) → World → Prop) (hm : P.follows .mixedOrders = true)
    (hasc : asc .any l.toArray = true) (hap : apartB l = true) (hpl : plainB l a0.tmps.size = true) (h0 : ∀ vals, T (fun _ => false) vals w.drew)
    (hop : ∀ (up : Nat → Bool) (vals : Nat → Value) (i : Nat) (o : Oper), l[i]? = some o → up i = false → (∀ (j : Nat) (o' : Oper) (e : _), l[j]? = some o' → e ∈ o'.after → Region.binds .any e = true → up j = true → up e.on = true) →
      ∀ (a : Act) (W : World), (∀ k, noDst l k = true → a.eval (.tmp k) = a0.eval (.tmp k)) →
      (∀ (j : Nat) (o' : Oper) (k : Nat), l[j]? = some o' → o'.dst = some k → (∃ e ∈ o.after, e.on = j ∧ Region.binds .any e = true) → up j = true ∧ a.eval (.tmp k) = vals j ∧ V j (vals j)) → T up vals W →
      (∃ u W', (execOp a.eval o).run P W = .ok (.value u) W' ∧ o.dst.isSome = true ∧ V i u ∧ T (fun j => (j == i) || up j) (fun j => if j = i then u else vals j) W') ∨
      (∃ W', (execOp a.eval o).run P W = .ok .skip W' ∧ o.dst = none ∧ T (fun j => (j == i) || up j) vals W'))
    (hend : ∀ (up : Nat → Bool) (vals vs : Nat → Value) (W : World), (∀ i, i < l.length → up i = true) → (∀ (i : Nat) (o : Oper) (k : Nat), l[i]? = some o → o.dst = some k → vs k = vals i ∧ V i (vals i)) → T up vals W → Q .normal (putAll l a0 vs) W) :
    (Code.region id l.toArray true).wp P Q a0 w := by
  refine wp_region_any hm ?_
  refine wpAny_inv (fun L a W => RInv l a0 (fun _ _ => True) (fun j u _ => V j u) L a W ∧ T (fun j => L.getD j false) (valOf l a) W) ?_ ?_ _ _ _ _ ?_ (Closed.none _ (rep_none _)) ?_
  · rintro L a W i ⟨h, hT⟩ hc hi
    obtain ⟨hi1, o, ho0, hall⟩ := mem_ready.1 hi
    have ho : l[i]? = some o := by simpa using ho0
    have hg := (plain_spec hpl ho).1
    rcases hop (fun j => L.getD j false) (valOf l a) i o ho (getD_flip hi1) (fun j o' e hj he hb hu => hc j o' e (by simpa using hj) he hb hu) a W (fun k hk => h.keep hk)
      (fun j o' k hj hk ⟨e, he, hej, hb⟩ => by
        have hu : L.getD j false = true := by rw [← hej]; exact hall e he hb
        exact ⟨hu, (valOf_at hj hk).symm, by rw [valOf_at hj hk]; exact h.new j o' k hj hk hu⟩) hT with ⟨u, W', hr, hd, hV, hT'⟩ | ⟨W', hr, hd, hT'⟩
    · refine wpOp_value ho0 hg hr ⟨h.step hap hpl ho hi1 trivial (fun _ _ x => x) (fun _ => hV), ?_⟩
      obtain ⟨q, hq⟩ := Option.isSome_iff_exists.1 hd
      rw [up_set hi1, hq, valOf_put hap ho hq (by rw [h.sz]; exact (plain_spec hpl ho).2 q hq)]
      exact hT'
    · refine wpOp_skip ho0 hg hr ⟨h.step hap hpl ho hi1 trivial (fun _ _ x => x) (fun hs => by rw [hd] at hs; cases hs), ?_⟩
      rw [up_set hi1, hd, put_none]
      exact hT'
  · rintro L a W ⟨h, hT⟩ hr
    have hall : ∀ i, i < l.length → L.getD i false = true := fun i hi => all_up hr hasc (by simpa using h.len) i (by simpa using hi)
    have lt : ∀ {i : Nat} {o : Oper}, l[i]? = some o → i < l.length := fun hi => (List.getElem?_eq_some_iff.1 hi).1
    have e : a = putAll l a0 (fun k => a.eval (.tmp k)) := by
      have hs : ∀ o ∈ l, ∀ q, o.dst = some q → q < a0.tmps.size := fun o ho q hq => by
        obtain ⟨i, hi⟩ := List.getElem?_of_mem ho
        exact (plain_spec hpl hi).2 q hq
      refine act_ext (by rw [putAll_defers]; exact h.df) (by rw [putAll_size]; exact h.sz) fun k => ?_
      rw [putAll_eval l a0 _ k hs]
      by_cases hk : ∃ o ∈ l, o.dst = some k
      · rw [if_pos hk]
      · rw [if_neg hk]
        refine h.old k fun i o hi hd => absurd ⟨o, List.mem_of_getElem? hi, hd⟩ hk
    have := hend (fun j => L.getD j false) (valOf l a) (fun k => a.eval (.tmp k)) W hall (fun i o k hi hd => ⟨(valOf_at hi hd).symm, by rw [valOf_at hi hd]; exact h.new i o k hi hd (hall i (lt hi))⟩) hT
    rw [← e] at this
    exact this
  · refine ⟨⟨by simp, trivial, rfl, rfl, fun _ _ => rfl, fun i o k hi _ hl => ?_⟩, ?_⟩
    · rw [rep_none] at hl; cases hl
    · have : (fun j => (Array.replicate l.toArray.size false).getD j false) = fun _ => false := by funext j; exact rep_none _ _
      rw [this]
      exact h0 _
  · unfold left
    exact Nat.le_trans List.countP_le_length (by simp)
end RY

end Go.Proofs.Ytcefgacmagobnaa

namespace Go.Proofs.Ytcefgacmagobnaa
open Go.RowKit Go.Deep


theorem sk_law : WideMaps.KeyLaw Try.prog 110 := deep_law_laid (m := 3) (by kernel_rfl) (by decide) (by decide +kernel) (by kernel_rfl) (by kernel_rfl)
theorem sk_type : Try.prog.keyType 110 = true := by kernel_rfl
theorem sk_c9 : Try.prog.cellsOf 9 = 1 := by kernel_rfl
theorem sk_c3 : Try.prog.cellsOf 3 = 1 := by kernel_rfl
theorem sk_cS : Try.prog.cellsOf 110 = 2 := by kernel_rfl
theorem sk_sz : decide (0 < Try.prog.types.size) = true := by kernel_rfl
theorem undMp : Try.prog.underlying 111 = some (.map 110 3) := by kernel_rfl
/-- A slot as a key. -/
def sk (s : Rs) : Value := .agg #[.int .i64 s.bal, .string s.txt]
theorem sk_inj {s t : Rs} (h : sk s = sk t) : s = t := by
  unfold sk at h
  injection h with h
  have h0 := congrArg (fun a : Array Value => a[0]?) h
  have h1 := congrArg (fun a : Array Value => a[1]?) h
  simp at h0 h1
  cases s; cases t; simp_all
def fitS (s : Rs) : Prop := 0 ≤ s.bal ∧ s.bal ≤ 1000000 ∧ s.txt.size ≤ maxLen
theorem formed_sk (s : Rs) : Value.formed Try.prog 110 (sk s) = true := by kernel_rfl
theorem lits_sk (d : Nat) (s : Rs) (hb : fitS s) : ∃ l, Try.prog.keyLits (d + 1 + 1) 110 [.int .i64 s.bal, .string s.txt] = some l := by
  obtain ⟨h0, h1, h2⟩ := hb
  have m0 : IntKind.i64.min ≤ s.bal := by have : IntKind.i64.min = -9223372036854775808 := by decide
                                          omega
  have m1 : s.bal ≤ 9223372036854775807 := by omega
  simp [Program.keyLits, Try.underlying110, sk_cS, sk_c9, sk_c3, h2, Lit.wf, m0, m1]
theorem sk_key (s : Rs) (hb : fitS s) : ∃ l, keyOf Try.prog 110 (sk s) = some l := by
  unfold keyOf
  rw [Try.underlying110]
  obtain ⟨d, e⟩ : ∃ d, Try.prog.types.size = d + 1 := ⟨Try.prog.types.size - 1, by have := of_decide_eq_true sk_sz; omega⟩
  simp only [sk_type, formed_sk, Bool.and_true, if_true, e]
  obtain ⟨l, hl⟩ := lits_sk d s hb
  rw [show (sk s).cells.toList = [.int .i64 s.bal, .string s.txt] from rfl, hl]
  exact ⟨_, rfl⟩
def updC (f : Rs → Int) (k : Rs) (v : Int) : Rs → Int := fun x => if sameS x k then v else f x
theorem updC_self (f : Rs → Int) (k : Rs) (v : Int) : updC f k v k = v := by unfold updC; rw [(sameS_iff k k).2 rfl, if_pos rfl]
theorem updC_else (f : Rs → Int) (k : Rs) (v : Int) (x : Rs) (h : x ≠ k) : updC f k v x = f x := by
  unfold updC
  rw [if_neg]
  intro q
  exact h ((sameS_iff x k).1 q)
/-- What the entries say. -/
structure GoodC (es : Array MapEntry) (c : Nat) (f : Rs → Int) : Prop where
  ent : ∀ (i : Nat) (e : MapEntry), es[i]? = some e → ∃ k : Rs, e.key = sk k ∧ fitS k ∧ e.val = .int .i64 (f k)
  off : ∀ k : Rs, (∀ (i : Nat) (e : MapEntry), es[i]? = some e → e.key ≠ sk k) → f k = 0
  one : ∀ (i j : Nat) (e e' : MapEntry), es[i]? = some e → es[j]? = some e' → e.key = e'.key → i = j
  born : (es.toList.map (·.born)).Nodup
  clock : ∀ e ∈ es.toList, e.born < c
theorem goodC_none : GoodC #[] 0 (fun _ => 0) := ⟨fun i e h => by simp at h, fun _ _ => rfl, fun i j e e' h => by simp at h, by simp, by simp⟩
def putM (W : World) (mb : Nat) (o : Obj) : World := { W with heap := W.heap.setIfInBounds mb o }
theorem putM_size (W : World) (mb : Nat) (o : Obj) : (putM W mb o).heap.size = W.heap.size := by simp [putM]
theorem putM_at {W : World} {mb : Nat} (o : Obj) (h : mb < W.heap.size) : (putM W mb o).heap[mb]? = some o := by simp [putM, h]
theorem putM_other {W : World} {mb b : Nat} (o : Obj) (h : b ≠ mb) : (putM W mb o).heap[b]? = W.heap[b]? := by
  simp only [putM]
  rw [Array.getElem?_setIfInBounds_ne (fun e => h e.symm)]
theorem goodC_find {es : Array MapEntry} {c : Nat} {f : Rs → Int} (G : GoodC es c f) (W : World) (k : Rs) (hk : fitS k) :
    ((Instr.findKey 110 (sk k) es.toList).run Try.prog W = .ok none W ∧ ∀ (i : Nat) (e : MapEntry), es[i]? = some e → e.key ≠ sk k) ∨ ∃ (j : Nat) (e : MapEntry), (Instr.findKey 110 (sk k) es.toList).run Try.prog W = .ok (some (j, .int .i64 (f k))) W ∧ es[j]? = some e ∧ e.key = sk k ∧ e.val = .int .i64 (f k) := by
  obtain ⟨l, hl⟩ := sk_key k hk
  have hes : ∀ e ∈ es.toList, ∃ l, keyOf Try.prog 110 e.key = some l := by
    intro e he
    obtain ⟨i, hi, ei⟩ := List.getElem_of_mem he
    obtain ⟨k', h1, h2, _⟩ := G.ent i e (by rw [Array.getElem?_eq_some_iff]; exact ⟨by simpa using hi, by simpa using ei⟩)
    rw [h1]; exact sk_key k' h2
  rcases sk_law.find W hl _ hes with ⟨h1, h2⟩ | ⟨j, e, h1, h2, h3⟩
  · exact Or.inl ⟨h1, fun i e he => h2 e (List.mem_of_getElem? (i := i) (by simpa using he))⟩
  · have he : es[j]? = some e := by simpa using h2
    obtain ⟨k', e1, _, e3⟩ := G.ent j e he
    have e4 := sk_inj (e1.symm.trans h3)
    subst e4
    rw [e3] at h1
    exact Or.inr ⟨j, e, h1, he, h3, e3⟩
theorem look_goodC {es : Array MapEntry} {c : Nat} {f : Rs → Int} (G : GoodC es c f) {W : World} {mb : Nat} (hb : W.heap[mb]? = some (.map es c)) (k : Rs) (hk : fitS k) : (Instr.lookup 111 (.map (some mb)) (sk k) false).run Try.prog W = .ok (.int .i64 (f k)) W := by
  obtain ⟨l, hl⟩ := sk_key k hk
  have hc := sk_law.check W es.isEmpty hl
  have hz : (zeroValue 3).run Try.prog W = .ok (.int .i64 0) W := by kernel_rfl
  rcases goodC_find G W k hk with ⟨h1, h2⟩ | ⟨j, e, h1, h2, h3, _⟩
  · rw [G.off k h2]
    simp [Instr.lookup, run_underlying undMp, MapKept.run_getObj_map hb, hc, h1, hz, Result.andThen]
  · simp [Instr.lookup, run_underlying undMp, MapKept.run_getObj_map hb, hc, h1, Result.andThen]
/-- An entry is made or found, then stored into. -/
theorem entry_goodC {es : Array MapEntry} {c : Nat} {f : Rs → Int} (G : GoodC es c f) (mb : Nat) (k : Rs) (hk : fitS k) : ∃ (v0 : Value) (st : Nat) (es1 : Array MapEntry) (c1 : Nat),
    (∀ W : World, W.heap[mb]? = some (.map es c) → (Instr.mapEntry 111 (.map (some mb)) (sk k)).run Try.prog W = .ok (.tuple #[v0, .int .i64 (st : Nat)]) (putM W mb (.map es1 c1))) ∧ GoodC es1 c1 f ∧
    ∀ v : Int, ∃ es2 c2, GoodC es2 c2 (updC f k v) ∧ ∀ W : World, W.heap[mb]? = some (.map es1 c1) → (Instr.entryStore 111 (.map (some mb)) (.int .i64 (st : Nat)) (.int .i64 v)).run Try.prog W = .ok () (putM W mb (.map es2 c2)) := by
  obtain ⟨l, hl⟩ := sk_key k hk
  -- how an entry that is there is stored into
  have store : ∀ {es1 : Array MapEntry} {c1 : Nat}, GoodC es1 c1 f → ∀ (j : Nat) (e : MapEntry), es1[j]? = some e → e.key = sk k → ∀ v : Int, ∃ es2 c2, GoodC es2 c2 (updC f k v) ∧ ∀ W : World, W.heap[mb]? = some (.map es1 c1) → (Instr.entryStore 111 (.map (some mb)) (.int .i64 (e.born : Nat)) (.int .i64 v)).run Try.prog W = .ok () (putM W mb (.map es2 c2)) := by
    intro es1 c1 G1 j e hj hk1 v
    have hidx : es1.findIdx? (fun x => ((x.born : Nat) : Int) == ((e.born : Nat) : Int)) = some j := by
      rw [WideElems.findIdx_arr]
      exact WideElems.findIdx_born G1.born (by simpa using hj)
    have key : ∀ (i : Nat) (e' : MapEntry), (es1.modify j fun e => { e with val := .int .i64 v })[i]? = some e' → ∃ e0, es1[i]? = some e0 ∧ e'.key = e0.key ∧ e'.born = e0.born ∧ (i = j ∧ e'.val = .int .i64 v ∨ i ≠ j ∧ e'.val = e0.val) := by
      intro i e' he'
      rw [Array.getElem?_modify] at he'
      by_cases hij : j = i
      · subst hij
        rw [if_pos rfl, hj] at he'
        simp only [Option.map_some, Option.some.injEq] at he'
        subst he'
        exact ⟨e, hj, rfl, rfl, Or.inl ⟨rfl, rfl⟩⟩
      · rw [if_neg hij] at he'
        exact ⟨e', he', rfl, rfl, Or.inr ⟨fun q => hij q.symm, rfl⟩⟩
    have hborn : ((es1.modify j fun e => { e with val := .int .i64 v }).toList.map (·.born)) = es1.toList.map (·.born) := by
      rw [Array.toList_modify]
      apply List.ext_getElem?
      intro i
      simp only [List.getElem?_map, List.getElem?_modify]
      cases es1.toList[i]? with
      | none => rfl
      | some x => simp; split <;> rfl
    refine ⟨es1.modify j fun e => { e with val := .int .i64 v }, c1, ⟨fun i e' he' => ?_, fun x hx => ?_, fun i i' e1' e2' he he' hee => ?_, ?_, ?_⟩, fun W hb => ?_⟩
    · obtain ⟨e0, q1, q2, _, q3⟩ := key i e' he'
      obtain ⟨k0, r1, r2, r3⟩ := G1.ent i e0 q1
      rcases q3 with ⟨rfl, hv⟩ | ⟨hn, hv⟩
      · have q4 : e0 = e := Option.some.inj (q1.symm.trans hj)
        have : k0 = k := sk_inj (r1.symm.trans ((congrArg MapEntry.key q4).trans hk1))
        subst this
        exact ⟨k0, q2.trans r1, r2, by rw [hv, updC_self]⟩
      · have hk0 : k0 ≠ k := fun q => hn (G1.one i j e0 e q1 hj (r1.trans ((congrArg sk q).trans hk1.symm)))
        exact ⟨k0, q2.trans r1, r2, by rw [hv, r3, updC_else _ _ _ _ hk0]⟩
    · have hxk : x ≠ k := fun q => by
        have := hx j { e with val := .int .i64 v } (by rw [Array.getElem?_modify, if_pos rfl, hj]; rfl)
        exact this (hk1.trans (congrArg sk q.symm))
      rw [updC_else _ _ _ _ hxk]
      refine G1.off x (fun i e0 he0 hk0 => ?_)
      by_cases hij : j = i
      · subst hij
        rw [hj] at he0; cases he0
        exact hxk (sk_inj (hk0.symm.trans hk1))
      · exact hx i e0 (by rw [Array.getElem?_modify, if_neg hij]; exact he0) hk0
    · obtain ⟨a1, b1, c1', _⟩ := key i e1' he
      obtain ⟨a2, b2, c2', _⟩ := key i' e2' he'
      exact G1.one i i' a1 a2 b1 b2 (by rw [← c1', ← c2']; exact hee)
    · rw [hborn]; exact G1.born
    · intro x hx
      have : x.born ∈ es1.toList.map (·.born) := by rw [← hborn]; exact List.mem_map.2 ⟨x, hx, rfl⟩
      obtain ⟨y, hy, e1⟩ := List.mem_map.1 this
      rw [← e1]; exact G1.clock y hy
    · simp [Instr.entryStore, MapKept.run_getObj_map hb, asInt, asIntOf, hidx, MapKept.run_setObj_map _ hb, Result.andThen, putM]
  have hz : ∀ W : World, (zeroValue 3).run Try.prog W = .ok (.int .i64 0) W := fun W => by kernel_rfl
  have hc : ∀ W : World, (Instr.checkKey false 10000 110 (sk k)).run Try.prog W = .ok () W := fun W => sk_law.check W false hl
  have hst : ∀ W : World, (Instr.keyThatStays (sk k) (sk k)).run Try.prog W = .ok (sk k) W := fun W => sk_law.stays W hl
  by_cases hin : ∃ (j : Nat) (e : MapEntry), es[j]? = some e ∧ e.key = sk k
  · obtain ⟨j, e, hj, hk1⟩ := hin
    have hsame : (es.modify j fun e => { e with key := sk k }) = es := by
      apply Array.ext_getElem?
      intro i
      rw [Array.getElem?_modify]
      split
      · rename_i q; subst q; rw [hj]; simp only [Option.map_some]; rw [← hk1]
      · rfl
    obtain ⟨k', q1, _, q3⟩ := G.ent j e hj
    refine ⟨e.val, e.born, es, c, fun W hb => ?_, G, store G j e hj hk1⟩
    rcases goodC_find G W k hk with ⟨_, h2⟩ | ⟨j', e', h1, h2, h3, h4⟩
    · exact absurd hk1 (h2 j e hj)
    · have e5 := G.one j' j e' e h2 hj (h3.trans hk1.symm)
      subst e5
      have e6 : e' = e := Option.some.inj (h2.symm.trans hj)
      subst e6
      simp [Instr.mapEntry, run_underlying undMp, MapKept.run_getObj_map hb, hc W, h1, h2, h3, h4, hst W, hsame, MapKept.run_setObj_map _ hb, Result.andThen, putM, goInt]
  · have hno : ∀ (i : Nat) (e : MapEntry), es[i]? = some e → e.key ≠ sk k := fun i e he hq => hin ⟨i, e, he, hq⟩
    have G1 : GoodC (es.push ⟨sk k, .int .i64 0, c⟩) (c + 1) f := by
      refine ⟨fun i e he => ?_, fun x hx => ?_, fun i i' e e' he he' hee => ?_, ?_, ?_⟩
      · rw [Array.getElem?_push] at he
        split at he
        · cases he; exact ⟨k, rfl, hk, by rw [G.off k hno]⟩
        · exact G.ent i e he
      · refine G.off x (fun i e he => hx i e ?_)
        rw [Array.getElem?_push, if_neg (fun q => by rw [q, Array.getElem?_eq_none (Nat.le_refl _)] at he; cases he)]
        exact he
      · rw [Array.getElem?_push] at he he'
        split at he <;> split at he'
        · omega
        · cases he; exact absurd hee.symm (hno i' e' he')
        · cases he'; exact absurd hee (hno i e he)
        · exact G.one i i' e e' he he' hee
      · simp only [Array.toList_push, List.map_append, List.map_cons, List.map_nil]
        refine List.nodup_append.2 ⟨G.born, by simp, fun a ha b hb e1 => ?_⟩
        simp only [List.mem_singleton] at hb
        obtain ⟨x, hx, rfl⟩ := List.mem_map.1 ha
        have := G.clock x hx
        omega
      · intro e he
        simp only [Array.toList_push, List.mem_append, List.mem_singleton] at he
        rcases he with he | rfl
        · have := G.clock e he; omega
        · exact Nat.lt_succ_self _
    refine ⟨.int .i64 0, c, es.push ⟨sk k, .int .i64 0, c⟩, c + 1, fun W hb => ?_, G1, store G1 es.size ⟨sk k, .int .i64 0, c⟩ (by rw [Array.getElem?_push, if_pos rfl]) rfl⟩
    rcases goodC_find G W k hk with ⟨h1, _⟩ | ⟨j', e', _, h2, h3, _⟩
    · simp [Instr.mapEntry, run_underlying undMp, MapKept.run_getObj_map hb, hc W, h1, hz W, MapKept.run_setObj_map _ hb, Result.andThen, putM, goInt]
    · exact absurd h3 (hno j' e' h2)

/-- A map of counts at mb. -/
def CtAt (W : World) (mb : Nat) (f : Rs → Int) : Prop := ∃ es c, W.heap[mb]? = some (.map es c) ∧ GoodC es c f
theorem CtAt.lt {W : World} {mb : Nat} {f : Rs → Int} (h : CtAt W mb f) : mb < W.heap.size := by
  obtain ⟨es, c, e, _⟩ := h
  by_cases q : mb < W.heap.size
  · exact q
  · rw [Array.getElem?_eq_none (by omega)] at e; cases e
theorem CtAt.later {W W' : World} {mb : Nat} {f : Rs → Int} (h : CtAt W mb f) (hb : Below W.heap.size W W') : CtAt W' mb f := by
  have hl := h.lt
  obtain ⟨es, c, e, g⟩ := h
  exact ⟨es, c, (hb.block mb hl).trans e, g⟩
theorem CtAt.ext {W : World} {mb : Nat} {f g : Rs → Int} (h : CtAt W mb f) (e : ∀ k, f k = g k) : CtAt W mb g := by rw [show g = f from funext fun k => (e k).symm]; exact h
theorem CtAt.look {W : World} {mb : Nat} {f : Rs → Int} (h : CtAt W mb f) (k : Rs) (hk : fitS k) : (Instr.lookup 111 (.map (some mb)) (.agg #[.int .i64 k.bal, .string k.txt]) false).run Try.prog W = .ok (.int .i64 (f k)) W := by
  obtain ⟨es, c, e, g⟩ := h
  exact look_goodC g e k hk
/-- A world behind v, but for the block mb. -/
structure MW (v : World) (mb : Nat) (W : World) : Prop where
  os : W.os = v.os
  tape : W.tape = v.tape
  output : W.output = v.output
  size : v.heap.size ≤ W.heap.size
  lt : mb < v.heap.size
  block : ∀ b, b < v.heap.size → b ≠ mb → W.heap[b]? = v.heap[b]?
theorem MW.cell {v W : World} {mb b j : Nat} (h : MW v mb W) (hb : b < v.heap.size) (hne : b ≠ mb) : W.cell? ⟨b, j, none⟩ = v.cell? ⟨b, j, none⟩ := by
  unfold World.cell?
  rw [h.block b hb hne]
theorem MW.lbox {v W : World} {mb p : Nat} {cs : List Value} (h : MW v mb W) (hx : LBox v p cs) (hne : p ≠ mb) : LBox W p cs :=
  ⟨Nat.lt_of_lt_of_le hx.lt h.size, fun j u hu => (h.cell hx.lt hne).trans (hx.at_ j u hu)⟩
theorem MW.put {v W : World} {mb : Nat} (h : MW v mb W) (o : Obj) : MW v mb (putM W mb o) :=
  ⟨h.os, h.tape, h.output, by rw [putM_size]; exact h.size, h.lt, fun b hb hne => (putM_other o hne).trans (h.block b hb hne)⟩
theorem MW.self {v : World} {mb : Nat} (h : mb < v.heap.size) : MW v mb v := ⟨rfl, rfl, rfl, Nat.le_refl _, h, fun _ _ _ => rfl⟩
theorem MW.below {v W w : World} {mb : Nat} (h : MW v mb W) (hv : Below w.heap.size w v) (hm : w.heap.size ≤ mb) : Below w.heap.size w W :=
  ⟨h.os.trans hv.os, h.tape.trans hv.tape, h.output.trans hv.output, Nat.le_trans hv.size h.size, fun k hk => (h.block k (Nat.lt_of_lt_of_le hk hv.size) (by omega)).trans (hv.block k hk)⟩
end Go.Proofs.Ytcefgacmagobnaa
