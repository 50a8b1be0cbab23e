/-
  Sheets: what is written goes through a builder within a struct: the program.
-/
import Derived.Lib.Builder
import Derived.Lib.UnsafeStr
import Derived.Laws.Externs
import Derived.StillTailTactics
import Derived.Shelf.RegionOpenPlain
import Derived.Test.YteemfpocmmainaaDoorRgF
import Derived.Test.YteemfpocmmainaaDoorELp
namespace Go.Proofs.YteemfpocmmainaaDoor
open Go.RowKit Go.Deep

namespace RY
theorem region_TC {P : Program} {id : Nat} {Q : Exit → Act → World → Prop} {a0 : Act} {w : World} {l : List Oper} (V : Nat → Value → Prop) (T : (Nat → Bool) → (Nat → Value) → World → Prop) (hm : P.follows .mixedOrders = true)
    (hasc : asc .any l.toArray = true) (hap : apartB l = true) (hpl : plainB l a0.tmps.size = true) (h0 : ∀ vals, T (fun _ => false) vals w.drew)
    (hop : ∀ (up : Nat → Bool) (vals : Nat → Value) (i : Nat) (o : Oper), l[i]? = some o → up i = false → (∀ (j : Nat) (o' : Oper) (e : _), l[j]? = some o' → e ∈ o'.after → Region.binds .any e = true → up j = true → up e.on = true) →
      ∀ (a : Act) (W : World), (∀ k, noDst l k = true → a.eval (.tmp k) = a0.eval (.tmp k)) →
      (∀ (j : Nat) (o' : Oper) (k : Nat), l[j]? = some o' → o'.dst = some k → (∃ e ∈ o.after, e.on = j ∧ Region.binds .any e = true) → up j = true ∧ a.eval (.tmp k) = vals j ∧ V j (vals j)) → T up vals W →
      (∃ u W', (execOp a.eval o).run P W = .ok (.value u) W' ∧ o.dst.isSome = true ∧ V i u ∧ T (fun j => (j == i) || up j) (fun j => if j = i then u else vals j) W') ∨
      (∃ W', (execOp a.eval o).run P W = .ok .skip W' ∧ o.dst = none ∧ T (fun j => (j == i) || up j) vals W') ∨
      (∃ f args, (execOp a.eval o).run P W = .ok (.enter f args) W ∧ o.dst.isSome = true ∧ Calls P f args W fun e W' => ∃ u, e = .returned u ∧ V i u ∧ T (fun j => (j == i) || up j) (fun j => if j = i then u else vals j) W'))
    (hend : ∀ (up : Nat → Bool) (vals vs : Nat → Value) (W : World), (∀ i, i < l.length → up i = true) → (∀ (i : Nat) (o : Oper) (k : Nat), l[i]? = some o → o.dst = some k → vs k = vals i ∧ V i (vals i)) → T up vals W → Q .normal (putAll l a0 vs) W) :
    (Code.region id l.toArray true).wp P Q a0 w := by
  refine wp_region_any hm ?_
  refine wpAny_inv (fun L a W => RInv l a0 (fun _ _ => True) (fun j u _ => V j u) L a W ∧ T (fun j => L.getD j false) (valOf l a) W) ?_ ?_ _ _ _ _ ?_ (Closed.none _ (rep_none _)) ?_
  · rintro L a W i ⟨h, hT⟩ hc hi
    obtain ⟨hi1, o, ho0, hall⟩ := mem_ready.1 hi
    have ho : l[i]? = some o := by simpa using ho0
    have hg := (plain_spec hpl ho).1
    rcases hop (fun j => L.getD j false) (valOf l a) i o ho (getD_flip hi1) (fun j o' e hj he hb hu => hc j o' e (by simpa using hj) he hb hu) a W (fun k hk => h.keep hk)
      (fun j o' k hj hk ⟨e, he, hej, hb⟩ => by
        have hu : L.getD j false = true := by rw [← hej]; exact hall e he hb
        exact ⟨hu, (valOf_at hj hk).symm, by rw [valOf_at hj hk]; exact h.new j o' k hj hk hu⟩) hT with ⟨u, W', hr, hd, hV, hT'⟩ | ⟨W', hr, hd, hT'⟩ | ⟨f, args, hr, hd, hcl⟩
    · refine wpOp_value ho0 hg hr ⟨h.step hap hpl ho hi1 trivial (fun _ _ x => x) (fun _ => hV), ?_⟩
      obtain ⟨q, hq⟩ := Option.isSome_iff_exists.1 hd
      rw [up_set hi1, hq, valOf_put hap ho hq (by rw [h.sz]; exact (plain_spec hpl ho).2 q hq)]
      exact hT'
    · refine wpOp_skip ho0 hg hr ⟨h.step hap hpl ho hi1 trivial (fun _ _ x => x) (fun hs => by rw [hd] at hs; cases hs), ?_⟩
      rw [up_set hi1, hd, put_none]
      exact hT'
    · refine wpOp_enter ho0 hg hr (hcl.mono ?_)
      rintro e W' ⟨u, rfl, hV, hT'⟩
      refine ⟨u, rfl, h.step hap hpl ho hi1 trivial (fun _ _ x => x) (fun _ => hV), ?_⟩
      obtain ⟨q, hq⟩ := Option.isSome_iff_exists.1 hd
      rw [up_set hi1, hq, valOf_put hap ho hq (by rw [h.sz]; exact (plain_spec hpl ho).2 q hq)]
      exact hT'
  · rintro L a W ⟨h, hT⟩ hr
    have hall : ∀ i, i < l.length → L.getD i false = true := fun i hi => all_up hr hasc (by simpa using h.len) i (by simpa using hi)
    have lt : ∀ {i : Nat} {o : Oper}, l[i]? = some o → i < l.length := fun hi => (List.getElem?_eq_some_iff.1 hi).1
    have e : a = putAll l a0 (fun k => a.eval (.tmp k)) := by
      have hs : ∀ o ∈ l, ∀ q, o.dst = some q → q < a0.tmps.size := fun o ho q hq => by
        obtain ⟨i, hi⟩ := List.getElem?_of_mem ho
        exact (plain_spec hpl hi).2 q hq
      refine act_ext (by rw [putAll_defers]; exact h.df) (by rw [putAll_size]; exact h.sz) fun k => ?_
      rw [putAll_eval l a0 _ k hs]
      by_cases hk : ∃ o ∈ l, o.dst = some k
      · rw [if_pos hk]
      · rw [if_neg hk]
        refine h.old k fun i o hi hd => absurd ⟨o, List.mem_of_getElem? hi, hd⟩ hk
    have := hend (fun j => L.getD j false) (valOf l a) (fun k => a.eval (.tmp k)) W hall (fun i o k hi hd => ⟨(valOf_at hi hd).symm, by rw [valOf_at hi hd]; exact h.new i o k hi hd (hall i (lt hi))⟩) hT
    rw [← e] at this
    exact this
  · refine ⟨⟨by simp, trivial, rfl, rfl, fun _ _ => rfl, fun i o k hi _ hl => ?_⟩, ?_⟩
    · rw [rep_none] at hl; cases hl
    · have : (fun j => (Array.replicate l.toArray.size false).getD j false) = fun _ => false := by funext j; exact rep_none _ _
      rw [this]
      exact h0 _
  · unfold left
    exact Nat.le_trans List.countP_le_length (by simp)
end RY

end Go.Proofs.YteemfpocmmainaaDoor

namespace Go.Proofs.YteemfpocmmainaaDoor
open Go.RowKit Go.Deep

namespace RY
theorem region_lc {P : Program} {id : Nat} {Q : Exit → Act → World → Prop} {a0 : Act} {w : World} {l : List Oper} (v : World) (hv : Below v.heap.size v w)
    (V : Nat → Value → World → Prop) (hVm : ∀ j u W W', Below W.heap.size W W' → V j u W → V j u W')
    (K : World → Prop) (n fuel : Nat)
    (hm : P.follows .mixedOrders = true) (hasc : asc .any l.toArray = true) (hap : apartB l = true) (hpl : plainB l a0.tmps.size = true)
    (hlen : l.length = n + 1) (D : List Nat) (hD : (D.all fun d => decide (d < n) && waits l n d) = true)
    (hclo : ((List.range n).all fun i => (clo l fuel D).contains i) = true)
    (oS : Oper) (hS : l[n]? = some oS) (hSd : oS.dst.isSome = true)
    (hds : ((l.take n).all fun o => o.dst.isSome) = true)
    (hop : ∀ (i : Nat) (o : Oper), l[i]? = some o → i < n → ∀ (a : Act) (W : World), Below v.heap.size v W → (∀ k, noDst l k = true → a.eval (.tmp k) = a0.eval (.tmp k)) →
      (∀ (j : Nat) (o' : Oper) (k : Nat), l[j]? = some o' → o'.dst = some k → (∃ e ∈ o.after, e.on = j ∧ Region.binds .any e = true) → j < n → V j (a.eval (.tmp k)) W) →
      (∃ u W', (execOp a.eval o).run P W = .ok (.value u) W' ∧ Below W.heap.size W W' ∧ V i u W') ∨
      (∃ f args, (execOp a.eval o).run P W = .ok (.enter f args) W ∧ Calls P f args W fun e W' => ∃ u, e = .returned u ∧ Below W.heap.size W W' ∧ V i u W'))
    (hfin : ∀ (a : Act) (W : World), Below v.heap.size v W → (∀ k, noDst l k = true → a.eval (.tmp k) = a0.eval (.tmp k)) →
      (∀ (j : Nat) (o' : Oper) (k : Nat), l[j]? = some o' → o'.dst = some k → (∃ e ∈ oS.after, e.on = j ∧ Region.binds .any e = true) → j < n → V j (a.eval (.tmp k)) W) →
      ∃ f args, (execOp a.eval oS).run P W = .ok (.enter f args) W ∧ Calls P f args W fun e W' => ∃ u, e = .returned u ∧ K W')
    (hend : ∀ (vs : Nat → Value) (W : World), K W → Q .normal (putAll l a0 vs) W) :
    (Code.region id l.toArray true).wp P Q a0 w := by
  rw [List.all_eq_true] at hD
  refine region_TC (fun _ _ => True) (fun up vals W => (up n = false → Below v.heap.size v W ∧ ∀ j, j < n → up j = true → V j (vals j) W) ∧ (up n = true → K W)) hm hasc hap hpl ?_ ?_ ?_
  · intro vals
    exact ⟨fun _ => ⟨Below.drew hv, fun j _ h => by simp at h⟩, fun h => by simp at h⟩
  · intro up vals i o ho hi hcl a W hk hdep hT
    have hil : i < n + 1 := by rw [← hlen]; exact (List.getElem?_eq_some_iff.1 ho).1
    have hcl2 : (∀ d ∈ D, up d = true) → ∀ j, j < n → up j = true := fun h j hj => by
      rw [List.all_eq_true] at hclo
      have := hclo j (by simp; omega)
      exact clo_up hcl fuel D h j (by simpa using this)
    by_cases hS0 : up n = true
    · exfalso
      have hall : ∀ j, j < n + 1 → up j = true := fun j hj => by
        by_cases e : j = n
        · rw [e]; exact hS0
        · exact hcl2 (fun d hd => by
            have h2 := hD d hd
            rw [Bool.and_eq_true, decide_eq_true_eq] at h2
            obtain ⟨e, he, hej, hbd⟩ := waits_spec h2.2 hS
            rw [← hej]; exact hcl n oS e hS he hbd hS0) j (by omega)
      rw [hall i hil] at hi; cases hi
    · have hS0 : up n = false := by simpa using hS0
      obtain ⟨hBW, hV⟩ := hT.1 hS0
      have hdst : i < n → o.dst.isSome = true := fun h => by
        rw [List.all_eq_true] at hds
        exact hds _ (List.mem_of_getElem? (i := i) (by rw [List.getElem?_take_of_lt h]; exact ho))
      by_cases hin : i < n
      · have key : ∀ u W', Below W.heap.size W W' → V i u W' → ((fun j => (j == i) || up j) n = false → Below v.heap.size v W' ∧ ∀ j, j < n → (fun j => (j == i) || up j) j = true → V j ((fun j => if j = i then u else vals j) j) W') ∧ ((fun j => (j == i) || up j) n = true → K W') := fun u W' hW hVi => by
          refine ⟨fun _ => ⟨blw_trans hBW hW, fun j hj hu => ?_⟩, fun h => ?_⟩
          · by_cases e : j = i
            · simp only [e, if_true]; exact hVi
            · have hu : up j = true := by simpa [e] using hu
              simp only [e, if_false]
              exact hVm _ _ _ _ hW (hV j hj hu)
          · have : ¬ n = i := by omega
            have : up n = true := by simpa [this] using h
            rw [hS0] at this; cases this
        rcases hop i o ho hin a W hBW hk (fun j o' k hj hk' hd hjn => by
            obtain ⟨q1, q2, _⟩ := hdep j o' k hj hk' hd
            rw [q2]; exact hV j hjn q1) with ⟨u, W', hr, hW, hVi⟩ | ⟨f, args, hr, hc⟩
        · exact Or.inl ⟨u, W', hr, hdst hin, trivial, key u W' hW hVi⟩
        · refine Or.inr (Or.inr ⟨f, args, hr, hdst hin, hc.mono ?_⟩)
          rintro e W' ⟨u, rfl, hW, hVi⟩
          exact ⟨u, rfl, trivial, key u W' hW hVi⟩
      · obtain rfl : i = n := by omega
        rw [hS] at ho
        injection ho with ho
        subst ho
        obtain ⟨f, args, hr, hc⟩ := hfin a W hBW hk (fun j o' k hj hk' hd hjn => by
          obtain ⟨q1, q2, _⟩ := hdep j o' k hj hk' hd
          rw [q2]; exact hV j hjn q1)
        refine Or.inr (Or.inr ⟨f, args, hr, hSd, hc.mono ?_⟩)
        rintro e W' ⟨u, rfl, hK⟩
        exact ⟨u, rfl, trivial, fun h => by simp at h, fun _ => hK⟩
  · intro up vals vs W hall hv2 hT
    exact hend vs W (hT.2 (hall n (by omega)))
end RY

end Go.Proofs.YteemfpocmmainaaDoor

namespace Go.Proofs.YteemfpocmmainaaDoor
open Go.RowKit Go.Deep

theorem By.mks {W W' : World} {S : Nat → Prop} {lo : Nat} {v : Value} {l : List UInt8} (h : By W lo v l) (hm : Marks S W W') (hn : ∀ q, v.ownBlock = some q → ¬ S q) : By W' lo v l := by
  refine ⟨h.1, ?_⟩
  rcases h.2 with q | ⟨g, cap, cur, e, h1, h2, r⟩
  · exact .inl q
  · have hl : g < W.heap.size := by
      by_cases q : g < W.heap.size
      · exact q
      · rw [Array.getElem?_eq_none (by omega)] at h2; cases h2
    exact .inr ⟨g, cap, cur, e, h1, (hm.block g hl (hn g (by rw [e]; rfl))).trans h2, r⟩
abbrev tyWriter : TypeId := 48
theorem Tryd.und_builder : Tryd.prog.underlying 44 = some (.pointer 46) := by kernel_rfl
theorem Tryd.und_unsafe : Tryd.prog.underlying 112 = some .unsafePointer := by kernel_rfl
theorem Tryd.und_pbyte : Tryd.prog.underlying 79 = some (.pointer 5) := by kernel_rfl
theorem Tryd.size_builder : (Tryd.prog.info? 46).map (·.size) = some 2 := by kernel_rfl
theorem Tryd.lies_builder : liesAt Tryd.prog Tryd.prog.depth tyWriter (2 / Tryd.prog.cellsOf tyWriter) 0 46 1 = true := by kernel_rfl
theorem Tryd.cells_byte : Tryd.prog.cellsOf 5 = 1 := by kernel_rfl
theorem WBox.shape {W : World} {p : Nat} {u : TypeId} {cs : List Value} (h : WBox W p u cs) : W.shape? p = some (u, cs.length) := by
  obtain ⟨c, h1, h2⟩ := h.own
  simp [World.shape?, h1, h2]
theorem WBox.grownE {W W' : World} {row : Option Nat} {p : Nat} {u : TypeId} {cs : List Value} (h : WBox W p u cs) (hg : W.grownBy W' row) (hn : row ≠ some p) : WBox W' p u cs := by
  have hb : W'.heap[p]? = W.heap[p]? := hg.block p h.own.lt (fun e => hn e.symm)
  refine ⟨?_, rA_same h.at_ fun j _ => World.cell?_of_block (a := ⟨p, 0 + j, none⟩) hb⟩
  obtain ⟨c, h1, h2⟩ := h.own
  exact ⟨c, hb.trans h1, h2⟩

set_option maxRecDepth 100000 in
set_option maxHeartbeats 2000000 in
theorem copyCheckI (b : Nat) (p v : Value) (w : World) (hp : p = .pointer none ∨ p = .pointer (some ⟨b, 0, none⟩)) (h : WBox w b tyWriter [p, v]) :
    Calls Tryd.prog 52 #[.pointer (some ⟨b, 0, none⟩)] w fun e w' => e = .returned (.tuple #[]) ∧ WBox w' b tyWriter [.pointer (some ⟨b, 0, none⟩), v] ∧ Marks (fun x => x = b) w w' := by
  obtain ⟨j, hj, hjs⟩ := Option.map_eq_some_iff.1 Tryd.size_builder
  have hsh : w.shape? b = some (tyWriter, 2) := h.shape
  have c0 := h.get 0 _ rfl
  have hfz := h.own.frozen 0
  have hlt := h.own.lt
  have HX := uh h
  rcases hp with hp | hp
  · subst hp
    have H2 : Hid (WBox (w.setCell ⟨b, 0, none⟩ (.pointer (some ⟨b, 0, none⟩))) b tyWriter [.pointer (some ⟨b, 0, none⟩), v]) := HX.out.set 0 _ (by simp)
    clear h
    go_enter Tryd.func52, Tryd.ntmps52
    go_wp2
    rw [Lib.run_to_unsafe w ⟨b, 0, none⟩ Tryd.und_builder Tryd.und_unsafe hj (by rw [hjs]; decide) hsh (Nat.zero_lt_succ 1)]
    simp only [Result.andThen]
    rw [Oper.upon_value]
    go_wp2
    rw [run_callFunc_extern Tryd.func65 (by kernel_rfl) (by kernel_rfl) (by kernel_rfl) (e := Extern.AbiNoEscape.same) (by kernel_rfl)]
    rw [Lib.run_noEscape]
    simp only [Result.andThen]
    rw [Oper.upon_value]
    go_wp2
    rw [Lib.run_from_unsafe w ⟨b, 0, none⟩ Tryd.und_unsafe Tryd.und_builder hj hsh Tryd.lies_builder]
    simp only [Result.andThen]
    rw [Oper.upon_value]
    go_wp2
    go_end0
    exact ⟨rfl, H2.out, Marks.sc (S := fun x => x = b) w rfl 0 _⟩
  · subst hp
    clear h
    go_enter Tryd.func52, Tryd.ntmps52
    go_wp2
    rw [Lib.run_neq_ptr_same w _ Tryd.und_builder hj]
    go_wp2
    go_end0
    exact ⟨rfl, HX.out, Marks.refl _ _⟩

/-- What was written so far lies in a builder at b, within a sheetWriter. -/
structure BW (B b : Nat) (l : List UInt8) (W : World) : Prop where
  hB : B ≤ b
  ex : ∃ p v, (p = .pointer none ∨ p = .pointer (some ⟨b, 0, none⟩)) ∧ WBox W b tyWriter [p, v] ∧ By W B v l ∧ (l = [] → v = .slice none 0 0)
/-- What stays as it is while something is written. -/
structure KB (B b : Nat) (w w' : World) : Prop where
  bel : Below B w w'
  box : ∀ k T cs, WBox w k T cs → k ≠ b → T ≠ 5 → WBox w' k T cs
theorem KB.refl (B b : Nat) (w : World) : KB B b w w := ⟨Below.refl _ _, fun _ _ _ h _ _ => h⟩
theorem KB.trans {B b : Nat} {a c d : World} (h : KB B b a c) (k : KB B b c d) : KB B b a d := ⟨h.bel.trans k.bel, fun q T cs hb h1 h2 => k.box q T cs (h.box q T cs hb h1 h2) h1 h2⟩
theorem KB.of {B b : Nat} {w w' : World} (hB : B ≤ w.heap.size) (h : Below w.heap.size w w') : KB B b w w' :=
  ⟨⟨h.os, h.tape, h.output, h.size, fun k hk => h.block k (by omega)⟩, fun _ _ _ hb _ _ => hb.later h⟩
theorem BW.later {B b : Nat} {l : List UInt8} {w w' : World} (h : BW B b l w) (hb : Below w.heap.size w w') : BW B b l w' := by
  obtain ⟨p, v, h1, h2, h3, h4⟩ := h.ex
  exact ⟨h.hB, p, v, h1, h2.later hb, h3.later hb, h4⟩
theorem ty_wb : tyWriter ≠ 5 := by decide

set_option maxRecDepth 8000 in
set_option maxHeartbeats 4000000 in
theorem writeI (B b : Nat) (l : List UInt8) (s : ByteArray) (w : World) (h : BW B b l w) (hBw : B ≤ w.heap.size) (hne : l.length + s.size ≠ 0) (hsz : l.length + s.size ≤ 1099511627776) :
    Calls Tryd.prog 30 #[.pointer (some ⟨b, 0, none⟩), .string s] w fun e w' => e = .returned (.tuple #[.int .i64 (s.size : Nat), .nilIface]) ∧ BW B b (l ++ s.data.toList) w' ∧ KB B b w w' ∧ B ≤ w'.heap.size := by
  obtain ⟨hB, p, v, hp, hbx, hby, _⟩ := h
  have HC := uh (copyCheckI b p v w hp hbx)
  have HBX := uh hbx
  have HBY := uh hby
  have HNE : Hid (l ++ s.data.toList ≠ []) := fun e => by
    have := congrArg List.length e
    rw [List.length_append, Pl.len_data, List.length_nil] at this
    omega
  clear hbx hby hp hne
  go_enter Tryd.func30, Tryd.ntmps30
  go_wp2_with fail
  refine HC.out.mono ?_
  rintro e w1 ⟨rfl, hbx1, hm1⟩
  have hnb : v.ownBlock ≠ some b := HBY.out.ne HBX.out ty_wb
  have HBX1 := uh hbx1
  have HM1 := uh hm1
  have HBY1 : Hid (By w1 B v l) := HBY.out.mks hm1 (fun q hq e => hnb (by rw [hq, e]))
  have hlo : B ≤ w1.heap.size := Nat.le_trans hBw hm1.size
  have c1 := hbx1.get 1 _ rfl
  have hlt := hbx1.own.lt
  obtain ⟨a1, k1, e1⟩ := HBY.out.shape
  subst e1
  clear hbx1 hm1 HC
  go_wp2_with (refine by_str rfl (.tmp 12) (.tmp 13) rfl B (.slice a1 l.length k1) l rfl HBY1.out s rfl hsz hlo ?_; intro v' w2 hby2 hg2; obtain ⟨a2, k2, e2⟩ := hby2.shape; rw [List.length_append, Pl.len_data] at e2; subst e2; have HBY2 := uh hby2; have HG2 := uh hg2; have HBX2 := uh (HBX1.out.grownE hg2 (HBY1.out.ne HBX1.out ty_wb)); have c2 := HBX2.out.get 1 _ rfl; have hlt2 := HBX2.out.own.lt; have hfz2 := HBX2.out.own.frozen 1; clear hby2 hg2 c1 hlt)
  go_ret2
  have hm3 : Marks (fun x => x = b) w2 (w2.setCell ⟨b, 1, none⟩ (.slice a2 (l.length + s.size) k2)) := Marks.sc (S := fun x => x = b) w2 rfl 1 _
  have hbx3 := HBX2.out.set 1 (.slice a2 (l.length + s.size) k2) (by simp)
  refine ⟨rfl, ⟨hB, _, _, Or.inr rfl, hbx3, HBY2.out.mks hm3 (fun q hq e => HBY2.out.ne HBX2.out ty_wb (by rw [hq, e])), fun e => absurd e HNE.out⟩, ⟨?_, fun k T cs hk hkb hT => ?_⟩, ?_⟩
  · have q1 : Below B w w1 := ⟨HM1.out.os, HM1.out.tape, HM1.out.output, HM1.out.size, fun k hk => HM1.out.block k (by omega) (by omega)⟩
    have q2 : Below B w w2 := Below.grown q1 HG2.out hlo fun q hq => by have := (World.ownsRow.lt HBY1.out q hq).1; omega
    exact q2.setCell (p := ⟨b, 1, none⟩) hB _
  · have h1 := hk.mks HM1.out hkb
    have h2 := h1.grownE HG2.out (HBY1.out.ne h1 hT)
    exact h2.mks hm3 hkb
  · exact Nat.le_trans (Nat.le_trans hlo HG2.out.size) hm3.size

set_option maxRecDepth 100000 in
set_option maxHeartbeats 4000000 in
theorem strI (B b : Nat) (l : List UInt8) (w : World) (h : BW B b l w) (hsz : l.length ≤ 1099511627776) :
    Calls Tryd.prog 15 #[.pointer (some ⟨b, 0, none⟩)] w fun e w' => e = .returned (.string ⟨l.toArray⟩) ∧ Below B w w' := by
  obtain ⟨hB, p, v, hp, hbx, hby, h0⟩ := h
  have hlt : b < w.drew.heap.size := hbx.own.lt
  by_cases hl : l = []
  · have hv := h0 hl
    subst hv; subst hl
    have c1 : w.drew.cell? ⟨b, 1, none⟩ = some (.slice none 0 0) := hbx.get 1 _ rfl
    have hSD : (Builtin.unsafeSliceData_ #[35] 79 #[.slice none 0 0]).run Tryd.prog w.drew = .ok (.pointer none) w.drew := Lib.run_unsafeSliceData_nil _ _ _ _ _
    have hUS : (Builtin.unsafeString_ #[79, 3] 9 #[.pointer none, .int .i64 0]).run Tryd.prog w.drew = .ok (.string .empty) w.drew := Lib.run_unsafeString_none _ _ _ _ _
    have HB : Hid (Below B w w.drew) := Below.drew (Below.refl _ _)
    clear hbx hby h0 hp
    go_enter Tryd.func15, Tryd.ntmps15
    go_wp2
    have mixed : Tryd.prog.follows .mixedOrders = true := by kernel_rfl
    go_region_o
    all_goals (go_wp2; go_ret; exact ⟨rfl, HB.out⟩)
  · have hl0 : l.length ≠ 0 := fun e => hl (List.eq_nil_of_length_eq_zero e)
    obtain ⟨g, cap, cur, rfl, hbg, hg, hnc, hcm, hcs, htake⟩ : ∃ g cap cur, v = .slice (some ⟨g, 0, none⟩) l.length cap ∧ B ≤ g ∧ w.heap[g]? = some (.cells cur 5 (0, 0)) ∧ l.length ≤ cap ∧ cap ≤ maxLen ∧ cur.size = cap * 1 ∧ cur.toList.take (l.length * 1) = Pl.byV l := by
      rcases hby.2 with ⟨_, hz⟩ | ⟨g, cap, cur, hv, r⟩
      · exact absurd hz hl0
      · exact ⟨g, cap, cur, hv, r⟩
    have c1 : w.drew.cell? ⟨b, 1, none⟩ = some (.slice (some ⟨g, 0, none⟩) l.length cap) := hbx.get 1 _ rfl
    have hSD : (Builtin.unsafeSliceData_ #[35] 79 #[.slice (some ⟨g, 0, none⟩) l.length cap]).run Tryd.prog w.drew = .ok (.pointer (some ⟨g, 0, none⟩)) w.drew := Lib.run_unsafeSliceData_row _ _ _ _ _ _ (by omega)
    have hUS : (Builtin.unsafeString_ #[79, 3] 9 #[.pointer (some ⟨g, 0, none⟩), .int .i64 l.length]).run Tryd.prog w.drew = .ok (.string ⟨l.toArray⟩) (w.drew.freeze ⟨g, 0, none⟩ l.length) := by
      refine Lib.run_unsafeString_row w.drew 79 3 9 5 Tryd.und_pbyte Tryd.cells_byte g cur.size (by have hg' : w.drew.heap[g]? = some (.cells cur 5 (0, 0)) := hg; simp [World.shape?, hg']) l hl (by omega) (by omega) ?_
      intro j x hx
      have hx' : (Pl.byV l)[j]? = some (.int .u8 (x.toNat : Int)) := by simp [Pl.byV, hx]
      have hjl : j < l.length := (List.getElem?_eq_some_iff.1 hx).1
      have q : cur.toList[j]? = some (.int .u8 (x.toNat : Int)) := by rw [← hx', ← htake, List.getElem?_take, if_pos (by omega)]
      rw [show (Addr.add ⟨g, 0, none⟩ j) = ⟨g, j, none⟩ by rw [Addr.add_mid, Nat.zero_add]]
      have hg' : w.drew.heap[g]? = some (.cells cur 5 (0, 0)) := hg
      simp only [World.cell?, hg']
      simpa using q
    have HB : Hid (Below B w (w.drew.freeze ⟨g, 0, none⟩ l.length)) := Lib.below_freeze (Below.drew (Below.refl B w)) (p := ⟨g, 0, none⟩) hbg _
    clear hbx hby h0 hp hg hcs htake hl hcm hnc
    go_enter Tryd.func15, Tryd.ntmps15
    go_wp2
    have mixed : Tryd.prog.follows .mixedOrders = true := by kernel_rfl
    go_region_o
    all_goals (go_wp2; go_ret; exact ⟨rfl, HB.out⟩)

end Go.Proofs.YteemfpocmmainaaDoor
