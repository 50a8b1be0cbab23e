/-
  Sheets: a line of a block: by the specification.
-/
import Derived.Deep.AppendLies
import Derived.Test.YtdllbcafbfkngaaGreatDoorRgSt
import Derived.Test.YtdllbcafbfkngaaGreatDoorUC
import Derived.Test.YtdllbcafbfkngaaGreatDoorEKk
import Derived.Test.YtdllbcafbfkngaaGreatDoorRgG
namespace Go.Proofs.YtdllbcafbfkngaaGreatDoor
open Go.RowKit Go.Deep

namespace RY
theorem region_nw {P : Program} {id : Nat} {Q : Exit → Act → World → Prop} {a0 : Act} {w : World} {l : List Oper} (v : World) (hv : Below v.heap.size v w)
    (V : Nat → Value → World → Option Nat → Prop) (hVm : ∀ j u W W' A, Below W.heap.size W W' → V j u W A → V j u W' A) (hVa : ∀ j u W, V j u W none → V j u W (some W.heap.size))
    (K : (Nat → Value) → World → Prop) (n fuel : Nat)
    (hm : P.follows .mixedOrders = true) (hasc : asc .any l.toArray = true) (hap : apartB l = true) (hpl : plainB l a0.tmps.size = true)
    (hlen : l.length = n + 1) (D : List Nat) (hD : (D.all fun d => decide (d < n) && waits l n d) = true)
    (hclo : ((List.range n).all fun i => (clo l fuel D).contains i) = true)
    (oS : Oper) (hS : l[n]? = some oS) (hSd : oS.dst = none)
    (hds : ((l.take n).all fun o => o.dst.isSome) = true)
    (iA kA : Nat) (oA : Oper) (hA : l[iA]? = some oA) (hAd : oA.dst = some kA) (hAn : iA < n) (T : TypeId) (zs : List Value)
    (r5 : ∀ (a : Act) (W : World), (execOp a.eval oA).run P W = .ok (.value (.pointer (some ⟨W.heap.size, 0, none⟩))) (W.alloc (.cells zs.toArray T)))
    (hop : ∀ (i : Nat) (o : Oper), l[i]? = some o → i < n → i ≠ iA → ∀ (a : Act) (W : World) (A : Option Nat), Below v.heap.size v W → (∀ q, A = some q → q < W.heap.size) → (∀ k, noDst l k = true → a.eval (.tmp k) = a0.eval (.tmp k)) →
      (∀ (j : Nat) (o' : Oper) (k : Nat), l[j]? = some o' → o'.dst = some k → (∃ e ∈ o.after, e.on = j ∧ Region.binds .any e = true) → j < n → j ≠ iA → V j (a.eval (.tmp k)) W A) →
      (∃ u W', (execOp a.eval o).run P W = .ok (.value u) W' ∧ Below W.heap.size W W' ∧ V i u W' A) ∨
      (∃ f args, (execOp a.eval o).run P W = .ok (.enter f args) W ∧ Calls P f args W fun e W' => ∃ u, e = .returned u ∧ Below W.heap.size W W' ∧ V i u W' A))
    (hfin : ∀ (a : Act) (W : World) (vals : Nat → Value) (q : Nat), Below v.heap.size v W → (∀ k, noDst l k = true → a.eval (.tmp k) = a0.eval (.tmp k)) → vals iA = .pointer (some ⟨q, 0, none⟩) → v.heap.size ≤ q → OwnBlk W q T zs.length → (∀ j, j < n → j ≠ iA → V j (vals j) W (some q)) →
      (∀ (j : Nat) (o' : Oper) (k : Nat), l[j]? = some o' → o'.dst = some k → (∃ e ∈ oS.after, e.on = j ∧ Region.binds .any e = true) → j < n → a.eval (.tmp k) = vals j) →
      ∃ W', (execOp a.eval oS).run P W = .ok .skip W' ∧ K vals W')
    (hend : ∀ (vals vs : Nat → Value) (W : World), K vals W → (∀ (i : Nat) (o : Oper) (k : Nat), l[i]? = some o → o.dst = some k → vs k = vals i) → Q .normal (putAll l a0 vs) W) :
    (Code.region id l.toArray true).wp P Q a0 w := by
  rw [List.all_eq_true] at hD
  refine region_TC (fun _ _ => True) (fun up vals W => (up n = false → Below v.heap.size v W ∧ ∃ A : Option Nat, (up iA = false → A = none) ∧ (up iA = true → ∃ q, A = some q ∧ vals iA = .pointer (some ⟨q, 0, none⟩) ∧ v.heap.size ≤ q ∧ OwnBlk W q T zs.length) ∧ ∀ j, j < n → j ≠ iA → up j = true → V j (vals j) W A) ∧ (up n = true → K vals W)) hm hasc hap hpl ?_ ?_ ?_
  · intro vals
    exact ⟨fun _ => ⟨Below.drew hv, none, fun _ => rfl, fun h => by simp at h, fun j _ _ h => by simp at h⟩, fun h => by simp at h⟩
  · intro up vals i o ho hi hcl a W hk hdep hT
    have hil : i < n + 1 := by rw [← hlen]; exact (List.getElem?_eq_some_iff.1 ho).1
    have hcl2 : (∀ d ∈ D, up d = true) → ∀ j, j < n → up j = true := fun h j hj => by
      rw [List.all_eq_true] at hclo
      have := hclo j (by simp; omega)
      exact clo_up hcl fuel D h j (by simpa using this)
    by_cases hS0 : up n = true
    · exfalso
      have hall : ∀ j, j < n + 1 → up j = true := fun j hj => by
        by_cases e : j = n
        · rw [e]; exact hS0
        · exact hcl2 (fun d hd => by
            have h2 := hD d hd
            rw [Bool.and_eq_true, decide_eq_true_eq] at h2
            obtain ⟨e, he, hej, hbd⟩ := waits_spec h2.2 hS
            rw [← hej]; exact hcl n oS e hS he hbd hS0) j (by omega)
      rw [hall i hil] at hi; cases hi
    · have hS0 : up n = false := by simpa using hS0
      obtain ⟨hBW, A, hA0, hA1, hV⟩ := hT.1 hS0
      have hdst : i < n → o.dst.isSome = true := fun h => by
        rw [List.all_eq_true] at hds
        exact hds _ (List.mem_of_getElem? (i := i) (by rw [List.getElem?_take_of_lt h]; exact ho))
      have hni : i < n → ¬ n = i := fun h => by omega
      by_cases hin : i < n
      · by_cases hia : i = iA
        · subst hia
          obtain rfl : o = oA := Option.some.inj (ho.symm.trans hA)
          have hAN : A = none := hA0 hi
          subst hAN
          have hb : Below W.heap.size W (W.alloc (.cells zs.toArray T)) := blw_alloc (Below.refl _ _) _
          refine Or.inl ⟨_, _, r5 a W, hdst hin, trivial, fun _ => ⟨blw_trans hBW hb, some W.heap.size, fun h => by simp at h, fun _ => ⟨W.heap.size, rfl, by simp, hBW.size, OwnBlk.alloc W _ _ _ (by simp)⟩, fun j hj hja hu => ?_⟩, fun h => ?_⟩
          · have hu : up j = true := by simpa [hja] using hu
            simp only [hja, if_false]
            exact hVm _ _ _ _ _ hb (hVa _ _ _ (hV j hj hja hu))
          · have : up n = true := by simpa [hni hin] using h
            rw [hS0] at this; cases this
        · have hAq : ∀ q, A = some q → q < W.heap.size := fun q e => by
            cases h : up iA
            · rw [hA0 h] at e; cases e
            · obtain ⟨q', e1, _, _, e4⟩ := hA1 h
              rw [e1] at e; injection e with e; subst e; exact e4.lt
          have hai : ¬ iA = i := fun e => hia e.symm
          have key : ∀ u W', Below W.heap.size W W' → V i u W' A → ((fun j => (j == i) || up j) n = false → Below v.heap.size v W' ∧ ∃ A : Option Nat, ((fun j => (j == i) || up j) iA = false → A = none) ∧ ((fun j => (j == i) || up j) iA = true → ∃ q, A = some q ∧ (fun j => if j = i then u else vals j) iA = .pointer (some ⟨q, 0, none⟩) ∧ v.heap.size ≤ q ∧ OwnBlk W' q T zs.length) ∧ ∀ j, j < n → j ≠ iA → (fun j => (j == i) || up j) j = true → V j ((fun j => if j = i then u else vals j) j) W' A) ∧ ((fun j => (j == i) || up j) n = true → K (fun j => if j = i then u else vals j) W') := fun u W' hW hVi => by
            refine ⟨fun _ => ⟨blw_trans hBW hW, A, fun h => hA0 (by simpa [hai] using h), fun h => ?_, fun j hj hja hu => ?_⟩, fun h => ?_⟩
            · obtain ⟨q, e1, e2, e3, e4⟩ := hA1 (by simpa [hai] using h)
              exact ⟨q, e1, by simpa [hai] using e2, e3, e4.later hW⟩
            · by_cases e : j = i
              · simp only [e, if_true]; exact hVi
              · have hu : up j = true := by simpa [e] using hu
                simp only [e, if_false]
                exact hVm _ _ _ _ _ hW (hV j hj hja hu)
            · have : up n = true := by simpa [hni hin] using h
              rw [hS0] at this; cases this
          rcases hop i o ho hin hia a W A hBW hAq hk (fun j o' k hj hk' hd hjn hja => by
              obtain ⟨q1, q2, _⟩ := hdep j o' k hj hk' hd
              rw [q2]; exact hV j hjn hja q1) with ⟨u, W', hr, hW, hVi⟩ | ⟨f, args, hr, hc⟩
          · exact Or.inl ⟨u, W', hr, hdst hin, trivial, key u W' hW hVi⟩
          · refine Or.inr (Or.inr ⟨f, args, hr, hdst hin, hc.mono ?_⟩)
            rintro e W' ⟨u, rfl, hW, hVi⟩
            exact ⟨u, rfl, trivial, key u W' hW hVi⟩
      · obtain rfl : i = n := by omega
        rw [hS] at ho
        injection ho with ho
        subst ho
        have hsub : ∀ j, j < i → up j = true := hcl2 fun d hd => by
          have h2 := hD d hd
          rw [Bool.and_eq_true, decide_eq_true_eq] at h2
          obtain ⟨e, he, hej, hbd⟩ := waits_spec h2.2 hS
          have hdl : d < l.length := by rw [hlen]; omega
          have hq : (l[d]).dst.isSome = true := by
            rw [List.all_eq_true] at hds
            exact hds _ (List.mem_of_getElem? (i := d) (by rw [List.getElem?_take_of_lt h2.1]; simp))
          obtain ⟨k, hk'⟩ := Option.isSome_iff_exists.1 hq
          exact (hdep d l[d] k (by simp) hk' ⟨e, he, hej, hbd⟩).1
        obtain ⟨q, e1, e2, e3, e4⟩ := hA1 (hsub iA hAn)
        subst e1
        obtain ⟨W', hr, hK⟩ := hfin a W vals q hBW hk e2 e3 e4 (fun j hj hja => hV j hj hja (hsub j hj)) (fun j o' k hj hk' hd hjn => (hdep j o' k hj hk' hd).2.1)
        exact Or.inr (Or.inl ⟨W', hr, hSd, fun h => by simp at h, fun _ => hK⟩)
  · intro up vals vs W hall hv2 hT
    exact hend vals vs W (hT.2 (hall n (by omega))) (fun i o k hi hd => (hv2 i o k hi hd).1)
end RY
end Go.Proofs.YtdllbcafbfkngaaGreatDoor

namespace Go.Proofs.YtdllbcafbfkngaaGreatDoor
open Go.RowKit Go.Deep

theorem app_new0 {P : Program} (t ty e t0 : TypeId) (size bytes : Nat) (z : Value) (ht : P.underlying t = some (.slice e)) (hinf : (P.info? e).map (fun i => (i.zero, i.size, i.bytes)) = some (some z, size, bytes)) (hzs : z.cells.size = size) (hs0 : 0 < size) (hb : bytes ≤ 1000)
    (sh : List Sh) (hk : sh.length = size) (hfl : flatB sh = true) (W : World) (g : Nat) (hg : W.heap[g]? = some (.cells #[] e (0, 0))) (n : Nat) (es : List Dt) (v : Value) (h : Raw W [.row t0 sh] [.row n es] [v]) (hn : n ≤ 4194304) :
    ∃ v' W' F, (Builtin.append_ #[t, t] ty #[.slice (some ⟨g, 0, none⟩) 0 0, v]).run P W = .ok v' W' ∧ Rep W' false [.row e sh] F [.row n es] [v'] ∧ F.Nodup ∧ (∀ b ∈ F, W.heap.size ≤ b) ∧ Below W.heap.size W W' := by
  have hgl : g < W.heap.size := (Array.getElem?_eq_some_iff.1 hg).1
  obtain ⟨v', W', xs, hrun, hG, hB⟩ := app_copy (P := P) g t ty e t0 size bytes z ht hinf hzs hs0 hb sh hk hfl W (.slice (some ⟨g, 0, none⟩) 0 0) (Or.inr ⟨g, rfl, Nat.le_refl _, hg⟩) (by omega) n es v h hn
  obtain ⟨i, hi, ei⟩ := Option.map_eq_some_iff.1 hinf
  simp only [Prod.mk.injEq] at ei
  obtain ⟨hz, hs, hby⟩ := ei
  by_cases h0 : n = 0
  · subst h0
    have he0 : es = [] := List.eq_nil_of_length_eq_zero (by obtain ⟨_, _, _, q, t, _⟩ := h.typ.c_r; injection q with e1 e2; injection e1 with e3 e4; subst e3; subst e4; have := t.rows; omega)
    subst he0
    obtain ⟨a, c, rfl⟩ := h.len0
    have hsrc : Src P i.size t (.slice a 0 c) 0 [] W := by
      cases a with
      | none => exact Src.ofNil W ht c
      | some ad => exact Src.ofSlice W ht ad 0 c [] (by simp) (fun j u h => by simp at h) (fun u h => by cases h)
    have hr2 : (Builtin.append_ #[t, t] ty #[.slice (some ⟨g, 0, none⟩) 0 0, .slice a 0 c]).run P W = .ok (.slice (some ⟨g, 0, none⟩) 0 0) W := by
      have := run_append_room_src (P := P) W t t ty e i ht hi g 0 0 0 (.slice a 0 c) 0 [] hsrc (by omega) (fun j h => by simp at h) (fun j h => by simp at h)
      rw [this]; rfl
    exact ⟨_, W, [], hr2, .emp _ _ _ rfl .nil, List.nodup_nil, by simp, Below.refl _ _⟩
  · rcases h.slice with ⟨e0, _⟩ | ⟨p, o, c, rfl, hp, hnn, vs, hr, hR⟩
    · exact absurd e0 h0
    have hl : vs.length = n * size := by rw [hR.len, reps_len, hk]
    have hnb : n * bytes ≤ 4194304 * 1000 := Nat.mul_le_mul hn hb
    obtain ⟨g2, cap, w2, hrun2, hown2, _, hor, _⟩ := run_append_lies (P := P) (w := W) t ty g e i z size bytes ht hi hz hs hby hzs hs0 (.slice (some ⟨g, 0, none⟩) 0 0) 0 [] (Emp0.owns (W := W) (lo := g) (e := e) (Or.inr ⟨g, rfl, Nat.le_refl _, hg⟩) size) ⟨p, o, none⟩ n c vs hl (fun j u hu => by rw [Addr.add_mid]; exact hr j u hu) hR.one (by omega) (by unfold maxLen; omega) (by rw [Nat.zero_add]; omega) (by omega) _ rfl
    rw [hrun] at hrun2
    injection hrun2 with hv hw
    subst hv; subst hw
    rw [Nat.zero_add, List.nil_append] at hown2
    have hg2 : g2 = W.heap.size := by
      rcases hor with q | q
      · exfalso
        have e2 : g = g2 := by simpa [Value.ownBlock] using q
        subst e2
        rcases hown2.2 with ⟨q1, _⟩ | ⟨g3, cap3, cur, q1, q2, q3, q4, q5, q6, q7⟩
        · cases q1
        · injection q1 with q1
          injection q1 with q1
          injection q1 with q1
          subst q1
          have := (hB.block g hgl).symm.trans q3
          rw [hg] at this
          injection this with this
          injection this with this
          subst this
          simp at q6
          have : 0 < cap3 * size := Nat.mul_pos (by omega) hs0
          omega
      · exact q
    rw [Nat.zero_add] at hrun
    have hG2 : Gr W' W.heap.size e sh (.slice (some ⟨g2, 0, none⟩) n cap) n [] es vs := by
      refine ⟨?_, hR.flat (flatB_reps hfl n) W' false, List.nodup_nil, by simp⟩
      rw [hk]
      refine ⟨hown2.1, hown2.2.imp id ?_⟩
      rintro ⟨g3, cap3, cur, q1, q2, q3⟩
      refine ⟨g3, cap3, cur, q1, ?_, q3⟩
      injection q1 with q1
      injection q1 with q1
      injection q1 with q1
      omega
    obtain ⟨F, r, nd, fr⟩ := hG2.done
    exact ⟨_, W', F, hrun, r, nd, fr, hB⟩
end Go.Proofs.YtdllbcafbfkngaaGreatDoor

namespace Go.Proofs.YtdllbcafbfkngaaGreatDoor
open Go.RowKit Go.Deep


namespace Pl
def insLn (ws : List ByteArray) : Ln := ⟨ws.getD 0 txNo, ws.drop 1⟩
def insideC (b : Bl) (ws : List ByteArray) : Nat :=
  match ruIx (rulesOf b.kind) (insLn ws).key with
  | none => 5
  | some j =>
    if sheetFits b.kind (insLn ws).key (insLn ws).ws = false then 7
    else if decide (0 < sameCnt b.lines (insLn ws)) || (decide (0 < keyCnt b.lines (insLn ws).key) && !((rulesOf b.kind).getD j ruNo).many) then 6
    else if 10 ≤ keyCnt b.lines (insLn ws).key then 10 else 0
def insideB (b : Bl) (ws : List ByteArray) : Bl := if insideC b ws = 0 then ⟨b.kind, b.name, putLn b.kind b.lines (insLn ws)⟩ else b
end Pl
/-- A list of texts less its first. -/
theorem tail_list {w : World} {ws : List ByteArray} {p o c m : Nat} (h : Raw w shTxs [.row ws.length (txD ws)] [.slice (some ⟨p, o, none⟩) (m + 1) c]) (hm : ws.length = m + 1) : ∃ a c', (∀ W, (Instr.slice 33 (.slice (some ⟨p, o, none⟩) (m + 1) c) (some (.int .i64 1)) none none).run Tryz.prog W = .ok (.slice a m c') W) ∧ Raw w shTxs [.row m (txD (ws.drop 1))] [.slice a m c'] := by
  rw [hm] at h
  rcases h.slice with ⟨e0, _⟩ | ⟨p', o', c2, hv, hp, hml, vs, hr, hR⟩
  · omega
  injection hv with g1 g2 g3
  injection g1 with g1
  injection g1 with g4 g5
  subst g4; subst g5; subst g3
  obtain ⟨x, ws2, rfl⟩ : ∃ x ws2, ws = x :: ws2 := by
    cases ws with
    | nil => simp at hm
    | cons x l => exact ⟨x, l, rfl⟩
  have hR2 : Raw w (.s :: reps m [.s]) (.s x :: txD ws2) vs := by rw [reps_succ] at hR; exact hR
  obtain ⟨vs2, hvs, hR3⟩ := hR2.c_s
  subst hvs
  have hr2 : w.rangeAt p (o + 1) vs2 := (rA_cut (x := [.string x]) (y := vs2) hr).2
  obtain ⟨i, hi, ei⟩ := Option.map_eq_some_iff.1 Tryz.info_text
  simp only [Prod.mk.injEq] at ei
  refine ⟨some (if c = 1 then ⟨p, o, none⟩ else ⟨p, o + 1, none⟩), c - 1, fun W => ?_, ?_⟩
  · rw [run_slice_l (P := Tryz.prog) (w := W) (t := 33) (a := some ⟨p, o, none⟩) (len := m + 1) (cap := c) (by kernel_rfl) .i64 1 (by omega) (by omega)]
    have he : Tryz.prog.elem 33 = 9 := by kernel_rfl
    by_cases hc1 : c = 1 <;> simp [sizeOf, typeInfo, he, hi, sliced, ei.2.1, hc1, Addr.add_mid]
  · by_cases hc1 : c = 1
    · have hm0 : m = 0 := by omega
      subst hm0
      have hw2 : ws2 = [] := by
        cases ws2 with
        | nil => rfl
        | cons y l => simp at hm
      subst hw2
      exact .emp _ _ _ _ .nil
    · rw [if_neg hc1]
      exact .row _ _ p (o + 1) m (c - 1) vs2 (txD ws2) hp ⟨by omega, by omega⟩ hr2 hR3 .nil
def VKIa (b0 : Nat) (p : Nat) (o : Nat) (m : Nat) (wc : Nat) (b : Pl.Bl) (k0 : ByteArray) : Nat → Value → World → Prop
  | 0, vv, _ => vv = .pointer (some ⟨b0, 0, none⟩)
  | 1, vv, _ => vv = .string b.kind
  | 2, vv, _ => vv = .slice (some ⟨p, o, none⟩) (m + 1) wc
  | 3, vv, _ => vv = .pointer (some ⟨p, o, none⟩)
  | 4, vv, _ => vv = .string k0
  | 5, vv, _ => vv = .int .i64 (Pl.ixI (Pl.ruIx (Pl.rulesOf b.kind) k0))
  | 6, vv, _ => vv = .int .i64 (Pl.ixI (Pl.ruIx (Pl.rulesOf b.kind) k0))
  | _, _, _ => True
theorem VKIa_mono (b0 : Nat) (p : Nat) (o : Nat) (m : Nat) (wc : Nat) (b : Pl.Bl) (k0 : ByteArray) : ∀ jj vv W W', Below W.heap.size W W' → VKIa b0 p o m wc b k0 jj vv W → VKIa b0 p o m wc b k0 jj vv W' := by
  intro jj vv W W' hb h
  match jj with
  | 0 => exact h
  | 1 => exact h
  | 2 => exact h
  | 3 => exact h
  | 4 => exact h
  | 5 => exact h
  | 6 => exact h
  | n + 7 => exact trivial
def VKIb (N0 : Nat) (p : Nat) (o : Nat) (m : Nat) (wc : Nat) (tc : Nat) (ta : Option Addr) (k0 : ByteArray) (ts : List ByteArray) : Nat → Value → World → Option Nat → Prop
  | 0, vv, _, _ => vv = .slice (some ⟨p, o, none⟩) (m + 1) wc
  | 1, vv, _, _ => vv = .pointer (some ⟨p, o, none⟩)
  | 2, vv, _, _ => vv = .string k0
  | 3, vv, W, _ => ∃ g, vv = .slice (some ⟨g, 0, none⟩) 0 0 ∧ W.heap[g]? = some (.cells #[] 9 (0, 0))
  | 4, vv, _, _ => vv = .slice (some ⟨p, o, none⟩) (m + 1) wc
  | 5, vv, _, _ => vv = .slice ta m tc
  | 6, vv, W, A_ => ∃ v F, vv = v ∧ Rep W false shTxs F [.row m (txD ts)] [v] ∧ ∀ b ∈ F, N0 ≤ b ∧ A_ ≠ some b
  | 7, vv, W, A_ => ∃ a3 c3 F, vv = .agg #[.string k0, .slice a3 m c3] ∧ Rep W false shTxs F [.row m (txD ts)] [.slice a3 m c3] ∧ ∀ b ∈ F, N0 ≤ b ∧ A_ ≠ some b
  | 8, _, _, _ => True
  | _, _, _, _ => True
theorem VKIb_mono (N0 : Nat) (p : Nat) (o : Nat) (m : Nat) (wc : Nat) (tc : Nat) (ta : Option Addr) (k0 : ByteArray) (ts : List ByteArray) : ∀ jj vv W W' A_, Below W.heap.size W W' → VKIb N0 p o m wc tc ta k0 ts jj vv W A_ → VKIb N0 p o m wc tc ta k0 ts jj vv W' A_ := by
  intro jj vv W W' A_ hb h
  match jj with
  | 0 => exact h
  | 1 => exact h
  | 2 => exact h
  | 3 =>
    obtain ⟨g, h1, h2⟩ := h
    exact ⟨g, h1, (hb.block g (Array.getElem?_eq_some_iff.1 h2).1).trans h2⟩
  | 4 => exact h
  | 5 => exact h
  | 6 =>
    obtain ⟨v, F, h1, h2, h3⟩ := h
    exact ⟨v, F, h1, h2.later hb, h3⟩
  | 7 =>
    obtain ⟨a3, c3, F, h1, h2, h3⟩ := h
    exact ⟨a3, c3, F, h1, h2.later hb, h3⟩
  | 8 => exact h
  | n + 9 => exact trivial
theorem VKIb_na (N0 : Nat) (p : Nat) (o : Nat) (m : Nat) (wc : Nat) (tc : Nat) (ta : Option Addr) (k0 : ByteArray) (ts : List ByteArray) : ∀ jj vv W, VKIb N0 p o m wc tc ta k0 ts jj vv W none → VKIb N0 p o m wc tc ta k0 ts jj vv W (some W.heap.size) := by
  intro jj vv W h
  match jj with
  | 0 => exact h
  | 1 => exact h
  | 2 => exact h
  | 3 => exact h
  | 4 => exact h
  | 5 => exact h
  | 6 =>
    obtain ⟨v, F, h1, h2, h3⟩ := h
    exact ⟨v, F, h1, h2, fun b hb => ⟨(h3 b hb).1, fun e => by injection e with e; have := h2.lt b hb; omega⟩⟩
  | 7 =>
    obtain ⟨a3, c3, F, h1, h2, h3⟩ := h
    exact ⟨a3, c3, F, h1, h2, fun b hb => ⟨(h3 b hb).1, fun e => by injection e with e; have := h2.lt b hb; omega⟩⟩
  | 8 => exact h
  | n + 9 => exact trivial

set_option maxRecDepth 8000 in
set_option maxHeartbeats 16000000 in
theorem l39InsideS {S : Nat → Prop} {B lo : Nat} (b : Pl.Bl) (ws : List ByteArray) (lv wv : Value) (w : World) (h : Dat S B lo w shLns [lnsD b.lines] [lv]) (hx : Raw w shTxs [.row ws.length (txD ws)] [wv]) (hw0 : 0 < ws.length) (hwl : ws.length ≤ 4194304) (hz : ∀ x ∈ ws, x.size ≤ maxLen) (hl : b.lines.length ≤ 4194304) (hlo : lo ≤ w.heap.size) :
    Calls Tryz.prog 13 #[.agg #[.string b.kind, .string b.name, lv], wv] w fun e w' => ∃ c, e = .returned (.tuple #[.agg c.toArray, .int .i64 (Pl.insideC b ws : Nat)]) ∧ Dat S B lo w' shSheetBlock (blD (Pl.insideB b ws)) c ∧ Below w.heap.size w w' := by
  have HD := uh (h.shift (pb := w.heap.size) (Nat.le_refl _) (w.heap.size + 2))
  have HLO := uh hlo
  obtain ⟨va, vc, ev⟩ := h.raw.len0
  subst ev
  obtain ⟨m, hm⟩ : ∃ m, ws.length = m + 1 := ⟨ws.length - 1, by omega⟩
  obtain ⟨xa0, wc, ev⟩ := hx.len0
  subst ev
  rcases txs_open hx with ⟨e0, _⟩ | ⟨p, o, c, hv, hp, hml, hopen⟩
  · omega
  injection hv with g1 g2 g3
  subst g1; subst g3
  have h0 := hopen 0 (by omega)
  rw [Nat.add_zero] at h0
  rw [hm] at hx
  obtain ⟨ta, tc, hts, htr⟩ := tail_list (by rw [hm]; exact hx) hm
  obtain ⟨x, hxe⟩ : ∃ x, x = Pl.insLn ws := ⟨_, rfl⟩
  have HXE := uh hxe
  obtain ⟨k0, hk0⟩ : ∃ k0, k0 = x.key := ⟨_, rfl⟩
  obtain ⟨ts, hts0⟩ : ∃ ts, ts = x.ws := ⟨_, rfl⟩
  have HKX : Hid (x = ⟨k0, ts⟩) := by show _ = _; rw [hk0, hts0]
  have e0 : ws.getD 0 Pl.txNo = k0 := by rw [hk0, hxe]; rfl
  have e1 : ws.drop 1 = ts := by rw [hts0, hxe]; rfl
  rw [e0] at h0
  rw [e1] at htr
  have HTR := uh htr
  have HTL : Hid (ts.length = m) := by show _ = _; rw [← e1, List.length_drop]; omega
  have HMZ : Hid (m ≤ 4194304) := by show _ ≤ _; omega
  have HTZ : Hid (∀ t ∈ ts, t.size ≤ maxLen) := fun t ht => hz t (List.mem_of_mem_drop (by rw [e1]; exact ht))
  have HG0 : Hid (w.cell? ⟨p, o, none⟩ = some (.string k0) ∧ p < w.heap.size) := ⟨h0, hp⟩
  have hm0 : (0 : Int) ≤ (m : Int) := by omega
  rw [hm]
  clear h hx hopen hml hp h0 htr e0 e1 hxe hk0 hts0 hz hw0 hwl
  obtain ⟨w0, hw0⟩ : ∃ w0, w0 = (w.alloc (.cells #[.string b.kind, .string b.name, .slice va b.lines.length vc] 37)).alloc (.cells #[.string { data := #[] }, .string { data := #[] }, .slice none 0 0] 37) := ⟨_, rfl⟩
  obtain ⟨b0, hb0⟩ : ∃ b0, b0 = w.heap.size := ⟨_, rfl⟩
  have HBZ := uh hb0
  have HB : Hid (Below w.heap.size w w0) := by show Below _ _ _; rw [hw0]; exact blw_alloc (blw_alloc (Below.refl _ _) _) _
  have HUB : Hid (LBox w0 b0 [.string b.kind, .string b.name, .slice va b.lines.length vc]) := by show LBox _ _ _; rw [hw0, hb0]; exact (LBox.new w #[.string b.kind, .string b.name, .slice va b.lines.length vc] _ _ rfl).past _
  have HRS : Hid (WBox w0 (b0 + 1) 37 [.string { data := #[] }, .string { data := #[] }, .slice none 0 0]) := by show WBox _ _ _ _; rw [hw0, hb0]; exact WBox.new (w.alloc (.cells #[.string b.kind, .string b.name, .slice va b.lines.length vc] 37)) [.string { data := #[] }, .string { data := #[] }, .slice none 0 0] 37 _ (by simp)
  rw [← hb0] at HD HLO
  replace HD := uh (HD.out.later HB.out)
  have HGX : Hid (w0.rangeAt p o [.string k0]) := by
    show World.rangeAt _ _ _ _
    refine rA_later (w := w) (fun j v hv => ?_) HG0.out.2 HB.out
    match j, hv with
    | 0, hv => injection hv with hv; rw [← hv]; exact HG0.out.1
  have HPZ : Hid (p < w0.heap.size) := Nat.lt_of_lt_of_le HG0.out.2 HB.out.size
  have HTR0 := uh (HTR.out.later HB.out)
  clear HTR HG0
  go_enter Tryz.func13, Tryz.ntmps13
  go_upto_region 1 with fail
  rw [← hw0, ← hb0]
  clear hw0 hb0
  obtain ⟨wr, hwr⟩ : ∃ wr, wr = w0 := ⟨_, rfl⟩
  rw [← hwr] at HB HUB HRS HD HGX HPZ HTR0 ⊢
  clear hwr
  refine RY.region_past wr (Below.refl _ _) (VKIa b0 p o m wc b k0) (VKIa_mono _ _ _ _ _ _ _) (by kernel_rfl) (by kernel_rfl) (by kernel_rfl) (by kernel_rfl) ?_ ?_
  · intro ii o' ho a X hX hk hd
    have zb0 := HUB.out.later hX
    have zb0l := zb0.lt
    match ii, ho with
    | 0, ho =>
      injection ho with ho; subst ho
      have e2 : a.tmps[2]?.getD undef = .pointer (some ⟨b0, 0, none⟩) := (RY.ev_tmp a 2).trans ((hk 2 (by kernel_rfl)).trans rfl)
      exact Or.inl ⟨.pointer (some ⟨b0, 0, none⟩), X, by simp [execOp, go_sem, e2], Below.refl _ _, rfl⟩
    | 1, ho =>
      injection ho with ho; subst ho
      have e10 : a.tmps[10]?.getD undef = .pointer (some ⟨b0, 0, none⟩) := (RY.ev_tmp a 10).trans (hd 0 _ 10 rfl rfl ⟨⟨0, .data⟩, by simp, rfl, rfl⟩)
      have ycl_ := zb0.get 0 _ rfl
      exact Or.inl ⟨.string b.kind, X, by simp [execOp, go_sem, e10, ycl_], Below.refl _ _, rfl⟩
    | 2, ho =>
      injection ho with ho; subst ho
      have e1 : a.tmps[1]?.getD undef = .slice (some ⟨p, o, none⟩) (m + 1) wc := (RY.ev_tmp a 1).trans ((hk 1 (by kernel_rfl)).trans rfl)
      exact Or.inl ⟨.slice (some ⟨p, o, none⟩) (m + 1) wc, X, by simp [execOp, go_sem, e1], Below.refl _ _, rfl⟩
    | 3, ho =>
      injection ho with ho; subst ho
      have e12 : a.tmps[12]?.getD undef = .slice (some ⟨p, o, none⟩) (m + 1) wc := (RY.ev_tmp a 12).trans (hd 2 _ 12 rfl rfl ⟨⟨2, .data⟩, by simp, rfl, rfl⟩)
      exact Or.inl ⟨.pointer (some ⟨p, o, none⟩), X, by simp [execOp, go_sem, e12], Below.refl _ _, rfl⟩
    | 4, ho =>
      injection ho with ho; subst ho
      have e13 : a.tmps[13]?.getD undef = .pointer (some ⟨p, o, none⟩) := (RY.ev_tmp a 13).trans (hd 3 _ 13 rfl rfl ⟨⟨3, .data⟩, by simp, rfl, rfl⟩)
      have ypl_ := Nat.lt_of_lt_of_le HPZ.out hX.size
      have ycl_ : X.cell? ⟨p, o, none⟩ = some (.string k0) := by have q := rA_get (rA_later HGX.out HPZ.out hX) 0 _ rfl; simpa using q
      exact Or.inl ⟨.string k0, X, by simp [execOp, go_sem, e13, ycl_], Below.refl _ _, rfl⟩
    | 5, ho =>
      injection ho with ho; subst ho
      have e11 : a.tmps[11]?.getD undef = .string b.kind := (RY.ev_tmp a 11).trans (hd 1 _ 11 rfl rfl ⟨⟨1, .data⟩, by simp, rfl, rfl⟩)
      have e14 : a.tmps[14]?.getD undef = .string k0 := (RY.ev_tmp a 14).trans (hd 4 _ 14 rfl rfl ⟨⟨4, .data⟩, by simp, rfl, rfl⟩)
      refine Or.inr ⟨24, #[.string b.kind, .string k0], by simp [go_sem, e11, e14], (l38RuleS b.kind k0 X).mono ?_⟩
      rintro e W' ⟨rfl, hb⟩
      exact ⟨_, rfl, hb, rfl⟩
    | 6, ho =>
      injection ho with ho; subst ho
      have e15 : a.tmps[15]?.getD undef = .int .i64 (Pl.ixI (Pl.ruIx (Pl.rulesOf b.kind) k0)) := (RY.ev_tmp a 15).trans (hd 5 _ 15 rfl rfl ⟨⟨5, .data⟩, by simp, rfl, rfl⟩)
      exact Or.inl ⟨.int .i64 (Pl.ixI (Pl.ruIx (Pl.rulesOf b.kind) k0)), X, by simp [execOp, go_sem, e15], Below.refl _ _, rfl⟩
    | n + 7, ho => simp at ho
  intro X vs hX hvs
  have q6 : vs 6 = _ := hvs 6 _ 6 rfl rfl
  simp only [RY.putAll, Act.put, List.setIfInBounds_toArray, List.set_cons_zero, List.set_cons_succ]
  rw [q6]
  generalize vs 10 = s10
  generalize vs 11 = s11
  generalize vs 12 = s12
  generalize vs 13 = s13
  generalize vs 14 = s14
  generalize vs 15 = s15
  clear hvs q6
  replace HB := uh (blw_trans HB.out hX)
  replace HUB := uh (HUB.out.later hX)
  replace HRS := uh (HRS.out.later hX)
  replace HD := uh (HD.out.later hX)
  replace HGX := uh (rA_later HGX.out HPZ.out hX)
  replace HPZ := uh (Nat.lt_of_lt_of_le HPZ.out hX.size)
  replace HTR0 := uh (HTR0.out.later hX)
  clear hX
  obtain ⟨wr, hwr⟩ : ∃ wr, wr = X := ⟨_, rfl⟩
  rw [← hwr] at HB HUB HRS HD HGX HPZ HTR0 ⊢
  clear hwr
  have HTR := HTR0
  obtain ⟨N0, hN0⟩ : ∃ N0, N0 = wr.heap.size := ⟨_, rfl⟩
  have HN0 : Hid (N0 ≤ wr.heap.size ∧ b0 + 2 ≤ N0) := ⟨by omega, by rw [hN0]; exact HRS.out.own.lt⟩
  clear hN0
  go_upto_region 2 with fail
  refine RY.region_nw wr (Below.refl _ _) (VKIb N0 p o m wc tc ta k0 ts) (VKIb_mono _ _ _ _ _ _ _ _ _) (VKIb_na _ _ _ _ _ _ _ _ _) (fun vals W' => ∃ q a3 c3 F, vals 8 = .pointer (some ⟨q, 0, none⟩) ∧ Below wr.heap.size wr W' ∧ WBox W' q 62 [.string k0, .slice a3 m c3] ∧ Rep W' false shTxs F [.row m (txD ts)] [.slice a3 m c3] ∧ ∀ b ∈ F, N0 ≤ b) 9 12 (by kernel_rfl) (by kernel_rfl) (by kernel_rfl) (by kernel_rfl) rfl [7, 8] (by kernel_rfl) (by kernel_rfl) _ rfl rfl (by kernel_rfl) 8 7 _ rfl rfl (by decide) 62 [.string { data := #[] }, .slice none 0 0] ?_ ?_ ?_ ?_
  · intro a Wx
    kernel_rfl
  · intro ii o' ho hii hia a X A_ hX hAq hk hd
    match ii, ho with
    | 0, ho =>
      injection ho with ho; subst ho
      have e1 : a.tmps[1]?.getD undef = .slice (some ⟨p, o, none⟩) (m + 1) wc := (RY.ev_tmp a 1).trans ((hk 1 (by kernel_rfl)).trans rfl)
      exact Or.inl ⟨.slice (some ⟨p, o, none⟩) (m + 1) wc, X, by simp [execOp, go_sem, e1], Below.refl _ _, rfl⟩
    | 1, ho =>
      injection ho with ho; subst ho
      have e16 : a.tmps[16]?.getD undef = .slice (some ⟨p, o, none⟩) (m + 1) wc := (RY.ev_tmp a 16).trans (hd 0 _ 16 rfl rfl ⟨⟨0, .data⟩, by simp, rfl, rfl⟩ (by decide) (by decide))
      exact Or.inl ⟨.pointer (some ⟨p, o, none⟩), X, by simp [execOp, go_sem, e16], Below.refl _ _, rfl⟩
    | 2, ho =>
      injection ho with ho; subst ho
      have e17 : a.tmps[17]?.getD undef = .pointer (some ⟨p, o, none⟩) := (RY.ev_tmp a 17).trans (hd 1 _ 17 rfl rfl ⟨⟨1, .data⟩, by simp, rfl, rfl⟩ (by decide) (by decide))
      have ypl_ := Nat.lt_of_lt_of_le HPZ.out hX.size
      have ycl_ : X.cell? ⟨p, o, none⟩ = some (.string k0) := by have q := rA_get (rA_later HGX.out HPZ.out hX) 0 _ rfl; simpa using q
      exact Or.inl ⟨.string k0, X, by simp [execOp, go_sem, e17, ycl_], Below.refl _ _, rfl⟩
    | 3, ho =>
      injection ho with ho; subst ho
      exact Or.inl ⟨.slice (some ⟨X.heap.size, 0, none⟩) 0 0, X.alloc (.cells #[] 9), by simp [execOp, go_sem], blw_alloc (Below.refl _ _) _, X.heap.size, rfl, heap_alloc_new X _⟩
    | 4, ho =>
      injection ho with ho; subst ho
      have e1 : a.tmps[1]?.getD undef = .slice (some ⟨p, o, none⟩) (m + 1) wc := (RY.ev_tmp a 1).trans ((hk 1 (by kernel_rfl)).trans rfl)
      exact Or.inl ⟨.slice (some ⟨p, o, none⟩) (m + 1) wc, X, by simp [execOp, go_sem, e1], Below.refl _ _, rfl⟩
    | 5, ho =>
      injection ho with ho; subst ho
      have e20 : a.tmps[20]?.getD undef = .slice (some ⟨p, o, none⟩) (m + 1) wc := (RY.ev_tmp a 20).trans (hd 4 _ 20 rfl rfl ⟨⟨4, .data⟩, by simp, rfl, rfl⟩ (by decide) (by decide))
      exact Or.inl ⟨.slice ta m tc, X, by simp [execOp, go_sem, e20, hts], Below.refl _ _, rfl⟩
    | 6, ho =>
      injection ho with ho; subst ho
      obtain ⟨g, q19, hg19⟩ := hd 3 _ 19 rfl rfl ⟨⟨3, .data⟩, by simp, rfl, rfl⟩ (by decide) (by decide)
      have e19 : a.tmps[19]?.getD undef = .slice (some ⟨g, 0, none⟩) 0 0 := (RY.ev_tmp a 19).trans q19
      have e21 : a.tmps[21]?.getD undef = .slice ta m tc := (RY.ev_tmp a 21).trans (hd 5 _ 21 rfl rfl ⟨⟨5, .data⟩, by simp, rfl, rfl⟩ (by decide) (by decide))
      obtain ⟨v', X', F, hrun, hr, nd, fr, hb⟩ := app_new0 (P := Tryz.prog) 33 33 9 9 1 16 _ Tryz.under_texts Tryz.info_text rfl (by decide) (by decide) [.s] rfl (by simp [flatB]) X g hg19 m (txD ts) (.slice ta m tc) (HTR.out.later hX) HMZ.out
      exact Or.inl ⟨v', X', uexec_append (.tmp 19) (.tmp 21) 33 rfl q19 ((hd 5 _ 21 rfl rfl ⟨⟨5, .data⟩, by simp, rfl, rfl⟩ (by decide) (by decide))) hrun, hb, v', F, rfl, hr, fun b hb' => ⟨by have := fr b hb'; have := hX.size; have := HN0.out; omega, fun e => by have := fr b hb'; have := hAq b e; omega⟩⟩
    | 7, ho =>
      injection ho with ho; subst ho
      have e18 : a.tmps[18]?.getD undef = .string k0 := (RY.ev_tmp a 18).trans (hd 2 _ 18 rfl rfl ⟨⟨2, .data⟩, by simp, rfl, rfl⟩ (by decide) (by decide))
      obtain ⟨v22, F22, q22, hR22, hF22⟩ := hd 6 _ 22 rfl rfl ⟨⟨6, .data⟩, by simp, rfl, rfl⟩ (by decide) (by decide)
      have e22 : a.tmps[22]?.getD undef = v22 := (RY.ev_tmp a 22).trans q22
      obtain ⟨a3, c3, hv3⟩ := hR22.raw.len0
      subst hv3
      exact Or.inl ⟨.agg #[.string k0, .slice a3 m c3], X, by simp [execOp, go_sem, e18, e22], Below.refl _ _, a3, c3, F22, rfl, hR22, hF22⟩
    | 8, ho =>
      exact absurd rfl hia
    | n + 9, ho => omega
  · intro a X vals q hX hk hqv hq hown hV hd
    obtain ⟨a3, c3, F, e1, hr3, hf3⟩ := hV 7 (by decide) (by decide)
    have t23 : a.eval (.tmp 23) = _ := (hd 7 _ 23 rfl rfl ⟨⟨7, .data⟩, by simp, rfl, rfl⟩ (by decide)).trans e1
    have t7 : a.eval (.tmp 7) = _ := (hd 8 _ 7 rfl rfl ⟨⟨8, .data⟩, by simp, rfl, rfl⟩ (by decide)).trans hqv
    have hth : X.there q 0 2 := uthere hown _ _ (by simp)
    refine ⟨X.setCells q 0 [.string k0, .slice a3 m c3], RY.exec_store_mid _ _ _ rfl t7 t23 hth (by kernel_rfl) (by simp [Value.oneCell']), q, a3, c3, F, hqv, blw_scs hq _ _ _ hX, ⟨own_scs _ _ _ hown, World.rangeAt_setCells_same _ _ _ _ hth⟩, ?_, fun b hb => (hf3 b hb).1⟩
    exact hr3.keep (mks_scs (S := fun b => b = q) rfl _ _ _) fun b hb e => (hf3 b hb).2 (by rw [e])
  · intro vals vs X hK hvs
    simp only [RY.putAll, Act.put, List.setIfInBounds_toArray, List.set_cons_zero, List.set_cons_succ]
    have q7 := hvs 8 _ 7 rfl rfl
    generalize vs 16 = s16
    generalize vs 17 = s17
    generalize vs 18 = s18
    generalize vs 19 = s19
    generalize vs 20 = s20
    generalize vs 21 = s21
    generalize vs 22 = s22
    generalize vs 23 = s23
    clear hvs
    obtain ⟨q, a3, c3, F, e7, hB1, hQ, hR3, hF3⟩ := hK
    rw [q7, e7]
    clear q7 e7
    obtain ⟨W1, hW1⟩ : ∃ W1, W1 = X := ⟨_, rfl⟩
    rw [← hW1] at hB1 hQ hR3 ⊢
    clear hW1
    have HQ := uh hQ
    have HDX : Hid (Dat (fun q => (S q ∧ q < B) ∨ lo ≤ q) b0 (b0 + 2) W1 shTxs [.row m (txD ts)] [.slice a3 m c3]) := ⟨F, hR3, fun b hb => Or.inr (by have := hF3 b hb; have := HN0.out.2; omega)⟩
    replace HB := uh (blw_trans HB.out hB1)
    replace HUB := uh (HUB.out.later hB1)
    replace HRS := uh (HRS.out.later hB1)
    replace HD := uh (HD.out.later hB1)
    clear hQ hR3 hF3 hB1 HTR0 HTR HGX HPZ HN0 hts
    cases hj : Pl.ruIx (Pl.rulesOf b.kind) k0 with
    | none =>
      simp only [Pl.ixI]
      have HE : Hid (Pl.insideC b ws = 5) := by show _ = _; unfold Pl.insideC; rw [← HXE.out, HKX.out, hj]
      have HEB : Hid (Pl.insideB b ws = b) := by show _ = _; unfold Pl.insideB; rw [HE.out]; rfl
      have hth : W1.there (b0 + 1) 0 (#[.string b.kind, .string b.name, .slice va b.lines.length vc] : Array Value).size := uthere HRS.out.own _ _ (by simp)
      obtain ⟨we, hwe⟩ : ∃ we, we = W1.setCells (b0 + 1) 0 [.string b.kind, .string b.name, .slice va b.lines.length vc] := ⟨_, rfl⟩
      have hrt : we.rangeAt (b0 + 1) 0 [.string b.kind, .string b.name, .slice va b.lines.length vc] := by rw [hwe]; exact World.rangeAt_setCells_same _ _ _ _ hth
      have HM2 : Hid (Marks (fun b => b = b0 + 1) W1 we) := by show Marks _ _ _; rw [hwe]; exact mks_scs (S := fun b => b = b0 + 1) rfl _ _ _
      have xz := HUB.out.lt
      have xa := HUB.out.at_
      go_wp2_with (first | (refine wpList_load_mid rfl 37 _ rfl b0 0 rfl [.string b.kind, .string b.name, .slice va b.lines.length vc] _ xa Tryz.underlying37 rfl (by kernel_rfl) ?_) | (refine wpList_store_mid rfl 37 _ _ rfl (b0 + 1) 0 #[.string b.kind, .string b.name, .slice va b.lines.length vc] rfl rfl hth (by kernel_rfl) (by simp [Value.oneCell']) ?_))
      first | rw [← hwe] | (simp only [List.toList_toArray]; rw [← hwe])
      try simp only [Act.put, List.setIfInBounds_toArray, List.set_cons_zero, List.set_cons_succ]
      refine bodyPost_ret (v := .tuple #[.agg #[.string b.kind, .string b.name, .slice va b.lines.length vc], .int .i64 5]) (by simp [results, Tryz.results13, asAddr, run_loadVar_mid (P := Tryz.prog) _ _ _ 37 [.string b.kind, .string b.name, .slice va b.lines.length vc] _ hrt Tryz.underlying37 rfl (by kernel_rfl)]) rfl ?_
      have hz := HBZ.out
      refine ⟨[.string b.kind, .string b.name, .slice va b.lines.length vc], by rw [HE.out]; rfl, ?_, HM2.out.below (fun b e => by omega) HB.out⟩
      rw [HEB.out]
      exact Dat.back (dat_blk_mk (HD.out.keep HM2.out fun b e => by omega)) (by have := HLO.out; omega)
    | some j =>
      have HC0 : Hid (Pl.insideC b ws = if Pl.sheetFits b.kind k0 ts = false then 7 else if decide (0 < Pl.sameCnt b.lines x) || (decide (0 < Pl.keyCnt b.lines k0) && !((Pl.rulesOf b.kind).getD j Pl.ruNo).many) then 6 else if 10 ≤ Pl.keyCnt b.lines k0 then 10 else 0) := by
        show _ = _
        unfold Pl.insideC
        rw [← HXE.out]
        have hk2 : x.key = k0 := by rw [HKX.out]
        have hk3 : x.ws = ts := by rw [HKX.out]
        rw [hk2, hk3, hj]
      simp only [Pl.ixI]
      have hjn : ¬ ((j : Int) < 0) := by omega
      have xz := HUB.out.lt
      have x0 := HUB.out.get 0 _ rfl
      have qz := HQ.out.own.lt
      have q0 := HQ.out.get 0 _ rfl
      have q1 := HQ.out.get 1 _ rfl
      have HCF := uh (sheetFitsS b.kind k0 ts (.slice a3 m c3) W1 (by rw [HTL.out]; exact HDX.out.raw) HTZ.out)
      go_wp2_with fail
      refine HCF.out.mono ?_
      rintro e W2 ⟨rfl, hb⟩
      replace HB := uh (blw_trans HB.out hb)
      replace HUB := uh (HUB.out.later hb)
      replace HRS := uh (HRS.out.later hb)
      replace HD := uh (HD.out.later hb)
      replace HQ := uh (HQ.out.later hb)
      replace HDX := uh (HDX.out.later hb)
      clear hb xz x0 qz q0 q1 HCF
      cases hft : Pl.sheetFits b.kind k0 ts
      ·
        have HE : Hid (Pl.insideC b ws = 7) := by show _ = _; rw [HC0.out, if_pos hft]
        have HEB : Hid (Pl.insideB b ws = b) := by show _ = _; unfold Pl.insideB; rw [HE.out]; rfl
        have hth : W2.there (b0 + 1) 0 (#[.string b.kind, .string b.name, .slice va b.lines.length vc] : Array Value).size := uthere HRS.out.own _ _ (by simp)
        obtain ⟨we, hwe⟩ : ∃ we, we = W2.setCells (b0 + 1) 0 [.string b.kind, .string b.name, .slice va b.lines.length vc] := ⟨_, rfl⟩
        have hrt : we.rangeAt (b0 + 1) 0 [.string b.kind, .string b.name, .slice va b.lines.length vc] := by rw [hwe]; exact World.rangeAt_setCells_same _ _ _ _ hth
        have HM2 : Hid (Marks (fun b => b = b0 + 1) W2 we) := by show Marks _ _ _; rw [hwe]; exact mks_scs (S := fun b => b = b0 + 1) rfl _ _ _
        have xz := HUB.out.lt
        have xa := HUB.out.at_
        go_wp2_with (first | (refine wpList_load_mid rfl 37 _ rfl b0 0 rfl [.string b.kind, .string b.name, .slice va b.lines.length vc] _ xa Tryz.underlying37 rfl (by kernel_rfl) ?_) | (refine wpList_store_mid rfl 37 _ _ rfl (b0 + 1) 0 #[.string b.kind, .string b.name, .slice va b.lines.length vc] rfl rfl hth (by kernel_rfl) (by simp [Value.oneCell']) ?_))
        first | rw [← hwe] | (simp only [List.toList_toArray]; rw [← hwe])
        try simp only [Act.put, List.setIfInBounds_toArray, List.set_cons_zero, List.set_cons_succ]
        refine bodyPost_ret (v := .tuple #[.agg #[.string b.kind, .string b.name, .slice va b.lines.length vc], .int .i64 7]) (by simp [results, Tryz.results13, asAddr, run_loadVar_mid (P := Tryz.prog) _ _ _ 37 [.string b.kind, .string b.name, .slice va b.lines.length vc] _ hrt Tryz.underlying37 rfl (by kernel_rfl)]) rfl ?_
        have hz := HBZ.out
        refine ⟨[.string b.kind, .string b.name, .slice va b.lines.length vc], by rw [HE.out]; rfl, ?_, HM2.out.below (fun b e => by omega) HB.out⟩
        rw [HEB.out]
        exact Dat.back (dat_blk_mk (HD.out.keep HM2.out fun b e => by omega)) (by have := HLO.out; omega)
      have xz := HUB.out.lt
      have xa := HUB.out.at_
      have qz := HQ.out.own.lt
      have qa := HQ.out.at_
      have HCK : Hid (Calls Tryz.prog 26 #[.agg #[.string b.kind, .string b.name, .slice va b.lines.length vc], .agg #[.string k0, .slice a3 m c3]] W2 fun e w' => e = .returned (.tuple #[.int .i64 (Pl.keyCnt b.lines k0 : Nat), .int .i64 (Pl.sameCnt b.lines x : Nat)]) ∧ Below W2.heap.size W2 w') := by
        have := l39KeyS b ⟨k0, ts⟩ (.slice va b.lines.length vc) (.slice a3 m c3) W2 HD.out.raw (by show Raw _ _ [.row ts.length _] _; rw [HTL.out]; exact HDX.out.raw) hl
        rw [← HKX.out] at this
        have hk2 : x.key = k0 := by rw [HKX.out]
        rw [hk2] at this
        exact this
      obtain ⟨c1, hc1⟩ : ∃ c1, c1 = Pl.keyCnt b.lines k0 := ⟨_, rfl⟩
      obtain ⟨c2, hc2⟩ : ∃ c2, c2 = Pl.sameCnt b.lines x := ⟨_, rfl⟩
      rw [← hc1, ← hc2] at HCK HC0
      clear hc1 hc2
      go_wp2_with (first | (refine wpList_load_mid rfl 37 _ rfl b0 0 rfl [.string b.kind, .string b.name, .slice va b.lines.length vc] _ xa Tryz.underlying37 rfl (by kernel_rfl) ?_) | (refine wpList_load_mid rfl 62 _ rfl q 0 rfl [.string k0, .slice a3 m c3] _ qa Tryz.underlying62 rfl (by kernel_rfl) ?_))
      refine HCK.out.mono ?_
      rintro e W3 ⟨rfl, hb⟩
      replace HB := uh (blw_trans HB.out hb)
      replace HUB := uh (HUB.out.later hb)
      replace HRS := uh (HRS.out.later hb)
      replace HD := uh (HD.out.later hb)
      replace HQ := uh (HQ.out.later hb)
      replace HDX := uh (HDX.out.later hb)
      clear hb xz xa qz qa HCK
      by_cases hs2 : 0 < c2
      · have d2 : (0 : Int) < (c2 : Int) := by omega
        go_upto_region 9 with fail
        have HE : Hid (Pl.insideC b ws = 6) := by show _ = _; rw [HC0.out, hft, if_neg (by decide), decide_eq_true hs2]; rfl
        have HEB : Hid (Pl.insideB b ws = b) := by show _ = _; unfold Pl.insideB; rw [HE.out]; rfl
        have hth : W3.there (b0 + 1) 0 (#[.string b.kind, .string b.name, .slice va b.lines.length vc] : Array Value).size := uthere HRS.out.own _ _ (by simp)
        obtain ⟨we, hwe⟩ : ∃ we, we = W3.setCells (b0 + 1) 0 [.string b.kind, .string b.name, .slice va b.lines.length vc] := ⟨_, rfl⟩
        have hrt : we.rangeAt (b0 + 1) 0 [.string b.kind, .string b.name, .slice va b.lines.length vc] := by rw [hwe]; exact World.rangeAt_setCells_same _ _ _ _ hth
        have HM2 : Hid (Marks (fun b => b = b0 + 1) W3 we) := by show Marks _ _ _; rw [hwe]; exact mks_scs (S := fun b => b = b0 + 1) rfl _ _ _
        have xz := HUB.out.lt
        have xa := HUB.out.at_
        go_wp2_with (first | (refine wpList_load_mid rfl 37 _ rfl b0 0 rfl [.string b.kind, .string b.name, .slice va b.lines.length vc] _ xa Tryz.underlying37 rfl (by kernel_rfl) ?_) | (refine wpList_store_mid rfl 37 _ _ rfl (b0 + 1) 0 #[.string b.kind, .string b.name, .slice va b.lines.length vc] rfl rfl hth (by kernel_rfl) (by simp [Value.oneCell']) ?_))
        first | rw [← hwe] | (simp only [List.toList_toArray]; rw [← hwe])
        try simp only [Act.put, List.setIfInBounds_toArray, List.set_cons_zero, List.set_cons_succ]
        refine bodyPost_ret (v := .tuple #[.agg #[.string b.kind, .string b.name, .slice va b.lines.length vc], .int .i64 6]) (by simp [results, Tryz.results13, asAddr, run_loadVar_mid (P := Tryz.prog) _ _ _ 37 [.string b.kind, .string b.name, .slice va b.lines.length vc] _ hrt Tryz.underlying37 rfl (by kernel_rfl)]) rfl ?_
        have hz := HBZ.out
        refine ⟨[.string b.kind, .string b.name, .slice va b.lines.length vc], by rw [HE.out]; rfl, ?_, HM2.out.below (fun b e => by omega) HB.out⟩
        rw [HEB.out]
        exact Dat.back (dat_blk_mk (HD.out.keep HM2.out fun b e => by omega)) (by have := HLO.out; omega)
      have d2 : ¬ ((0 : Int) < (c2 : Int)) := by omega
      have HC1 : Hid (Pl.insideC b ws = if decide (0 < c1) && !((Pl.rulesOf b.kind).getD j Pl.ruNo).many then 6 else if 10 ≤ c1 then 10 else 0) := by show _ = _; rw [HC0.out, hft, if_neg (by decide), decide_eq_false hs2, Bool.false_or]
      clear HC0
      by_cases hs1 : 0 < c1
      rotate_left
      · have d1 : ¬ ((0 : Int) < (c1 : Int)) := by omega
        have HE0 : Hid (Pl.insideC b ws = 0) := by show _ = _; rw [HC1.out, decide_eq_false hs1, Bool.false_and, if_neg (by decide), if_neg (by omega)]
        have d3 : ¬ ((10 : Int) ≤ (c1 : Int)) := by omega
        obtain ⟨W5, hW5⟩ : ∃ W5, W5 = W3 := ⟨_, rfl⟩
        rw [← hW5] at HB HUB HRS HD HQ HDX ⊢
        clear hW5
        go_upto_region 12 with fail
        clear d1 d2 d3
        have xz := HUB.out.lt
        have xa := HUB.out.at_
        have qz := HQ.out.own.lt
        have qa := HQ.out.at_
        have HCP : Hid (Calls Tryz.prog 28 #[.agg #[.string b.kind, .string b.name, .slice va b.lines.length vc], .agg #[.string k0, .slice a3 m c3]] W5 (AnsD (fun q => (S q ∧ q < B) ∨ lo ≤ q) b0 (b0 + 2) shSheetBlock (blD ⟨b.kind, b.name, Pl.putLn b.kind b.lines x⟩) W5)) := by
          have := l39PutLineD (S := (fun q => (S q ∧ q < B) ∨ lo ≤ q)) (B := b0) (lo := b0 + 2) b ⟨k0, ts⟩ (.slice va b.lines.length vc) (.slice a3 m c3) W5 HD.out (by show Dat _ _ _ _ _ [.row ts.length _] _; rw [HTL.out]; exact HDX.out) hl (by have := HRS.out.own.lt; omega)
          rw [← HKX.out] at this
          have hk2 : x.key = k0 := by rw [HKX.out]
          rw [hk2] at this
          exact this
        go_wp2_with (first | (refine wpList_load_mid rfl 37 _ rfl b0 0 rfl [.string b.kind, .string b.name, .slice va b.lines.length vc] _ xa Tryz.underlying37 rfl (by kernel_rfl) ?_) | (refine wpList_load_mid rfl 62 _ rfl q 0 rfl [.string k0, .slice a3 m c3] _ qa Tryz.underlying62 rfl (by kernel_rfl) ?_))
        refine HCP.out.mono ?_
        rintro e W6 ⟨cc, rfl, hDn, hb⟩
        obtain ⟨a5, m5, hcc, hDn2⟩ := dat_block hDn
        subst hcc
        have HDN := uh hDn2
        replace HB := uh (blw_trans HB.out hb)
        replace HUB := uh (HUB.out.later hb)
        replace HRS := uh (HRS.out.later hb)
        clear xz xa qz qa HCP hDn hDn2 hb
        have HE := HE0
        have HEB : Hid (Pl.insideB b ws = ⟨b.kind, b.name, Pl.putLn b.kind b.lines x⟩) := by show _ = _; unfold Pl.insideB; rw [if_pos HE.out, HXE.out]
        have hth : W6.there (b0 + 1) 0 (#[.string b.kind, .string b.name, .slice a5 (Pl.putLn b.kind b.lines x).length m5] : Array Value).size := uthere HRS.out.own _ _ (by simp)
        obtain ⟨we, hwe⟩ : ∃ we, we = W6.setCells (b0 + 1) 0 [.string b.kind, .string b.name, .slice a5 (Pl.putLn b.kind b.lines x).length m5] := ⟨_, rfl⟩
        have hrt : we.rangeAt (b0 + 1) 0 [.string b.kind, .string b.name, .slice a5 (Pl.putLn b.kind b.lines x).length m5] := by rw [hwe]; exact World.rangeAt_setCells_same _ _ _ _ hth
        have HM2 : Hid (Marks (fun b => b = b0 + 1) W6 we) := by show Marks _ _ _; rw [hwe]; exact mks_scs (S := fun b => b = b0 + 1) rfl _ _ _
        have xz := HUB.out.lt
        have xa := HUB.out.at_
        go_wp2_with (first | (refine wpList_load_mid rfl 37 _ rfl b0 0 rfl [.string b.kind, .string b.name, .slice va b.lines.length vc] _ xa Tryz.underlying37 rfl (by kernel_rfl) ?_) | (refine wpList_store_mid rfl 37 _ _ rfl (b0 + 1) 0 #[.string b.kind, .string b.name, .slice a5 (Pl.putLn b.kind b.lines x).length m5] rfl rfl hth (by kernel_rfl) (by simp [Value.oneCell']) ?_))
        first | rw [← hwe] | (simp only [List.toList_toArray]; rw [← hwe])
        try simp only [Act.put, List.setIfInBounds_toArray, List.set_cons_zero, List.set_cons_succ]
        refine bodyPost_ret (v := .tuple #[.agg #[.string b.kind, .string b.name, .slice a5 (Pl.putLn b.kind b.lines x).length m5], .int .i64 0]) (by simp [results, Tryz.results13, asAddr, run_loadVar_mid (P := Tryz.prog) _ _ _ 37 [.string b.kind, .string b.name, .slice a5 (Pl.putLn b.kind b.lines x).length m5] _ hrt Tryz.underlying37 rfl (by kernel_rfl)]) rfl ?_
        have hz := HBZ.out
        refine ⟨[.string b.kind, .string b.name, .slice a5 (Pl.putLn b.kind b.lines x).length m5], by rw [HE.out]; rfl, ?_, HM2.out.below (fun b e => by omega) HB.out⟩
        rw [HEB.out]
        exact Dat.back (dat_blk_mk (HDN.out.keep HM2.out fun b e => by omega)) (by have := HLO.out; omega)
      have d1 : (0 : Int) < (c1 : Int) := by omega
      have xz := HUB.out.lt
      have x0 := HUB.out.get 0 _ rfl
      have HCR := uh (sheetRulesS b.kind W3)
      go_wp2_with fail
      refine HCR.out.mono ?_
      rintro e W4 ⟨rv, RF, rfl, rep, nd, fr, hb⟩
      obtain ⟨rp, ro, rc, r1, rc1, rv3, hv, hp, hg, _, _⟩ := rule_at rep.raw (Pl.ruIx_lt hj)
      subst hv
      replace HB := uh (blw_trans HB.out hb)
      replace HUB := uh (HUB.out.later hb)
      replace HRS := uh (HRS.out.later hb)
      replace HD := uh (HD.out.later hb)
      replace HQ := uh (HQ.out.later hb)
      replace HDX := uh (HDX.out.later hb)
      clear rep nd fr hb xz x0 HCR
      have hg2 := rA_get hg 2 _ rfl
      have hj0 : (0 : Int) ≤ (j : Int) := by omega
      have hjl : (j : Int) < ((Pl.rulesOf b.kind).length : Int) := by have := Pl.ruIx_lt hj; omega
      obtain ⟨mn, hmn⟩ : ∃ mn, mn = ((Pl.rulesOf b.kind).getD j Pl.ruNo).many := ⟨_, rfl⟩
      rw [← hmn] at hg2 HC1
      clear hmn hg
      cases mn
      ·
        go_upto_region 9 with fail
        have HE : Hid (Pl.insideC b ws = 6) := by show _ = _; rw [HC1.out, decide_eq_true hs1]; rfl
        have HEB : Hid (Pl.insideB b ws = b) := by show _ = _; unfold Pl.insideB; rw [HE.out]; rfl
        have hth : W4.there (b0 + 1) 0 (#[.string b.kind, .string b.name, .slice va b.lines.length vc] : Array Value).size := uthere HRS.out.own _ _ (by simp)
        obtain ⟨we, hwe⟩ : ∃ we, we = W4.setCells (b0 + 1) 0 [.string b.kind, .string b.name, .slice va b.lines.length vc] := ⟨_, rfl⟩
        have hrt : we.rangeAt (b0 + 1) 0 [.string b.kind, .string b.name, .slice va b.lines.length vc] := by rw [hwe]; exact World.rangeAt_setCells_same _ _ _ _ hth
        have HM2 : Hid (Marks (fun b => b = b0 + 1) W4 we) := by show Marks _ _ _; rw [hwe]; exact mks_scs (S := fun b => b = b0 + 1) rfl _ _ _
        have xz := HUB.out.lt
        have xa := HUB.out.at_
        go_wp2_with (first | (refine wpList_load_mid rfl 37 _ rfl b0 0 rfl [.string b.kind, .string b.name, .slice va b.lines.length vc] _ xa Tryz.underlying37 rfl (by kernel_rfl) ?_) | (refine wpList_store_mid rfl 37 _ _ rfl (b0 + 1) 0 #[.string b.kind, .string b.name, .slice va b.lines.length vc] rfl rfl hth (by kernel_rfl) (by simp [Value.oneCell']) ?_))
        first | rw [← hwe] | (simp only [List.toList_toArray]; rw [← hwe])
        try simp only [Act.put, List.setIfInBounds_toArray, List.set_cons_zero, List.set_cons_succ]
        refine bodyPost_ret (v := .tuple #[.agg #[.string b.kind, .string b.name, .slice va b.lines.length vc], .int .i64 6]) (by simp [results, Tryz.results13, asAddr, run_loadVar_mid (P := Tryz.prog) _ _ _ 37 [.string b.kind, .string b.name, .slice va b.lines.length vc] _ hrt Tryz.underlying37 rfl (by kernel_rfl)]) rfl ?_
        have hz := HBZ.out
        refine ⟨[.string b.kind, .string b.name, .slice va b.lines.length vc], by rw [HE.out]; rfl, ?_, HM2.out.below (fun b e => by omega) HB.out⟩
        rw [HEB.out]
        exact Dat.back (dat_blk_mk (HD.out.keep HM2.out fun b e => by omega)) (by have := HLO.out; omega)
      have HC2 : Hid (Pl.insideC b ws = if 10 ≤ c1 then 10 else 0) := by show _ = _; rw [HC1.out, decide_eq_true hs1]; rfl
      by_cases h10 : 10 ≤ c1
      · have d3 : (10 : Int) ≤ (c1 : Int) := by omega
        go_upto_region 11 with fail
        have HE : Hid (Pl.insideC b ws = 10) := by show _ = _; rw [HC2.out, if_pos h10]
        have HEB : Hid (Pl.insideB b ws = b) := by show _ = _; unfold Pl.insideB; rw [HE.out]; rfl
        have hth : W4.there (b0 + 1) 0 (#[.string b.kind, .string b.name, .slice va b.lines.length vc] : Array Value).size := uthere HRS.out.own _ _ (by simp)
        obtain ⟨we, hwe⟩ : ∃ we, we = W4.setCells (b0 + 1) 0 [.string b.kind, .string b.name, .slice va b.lines.length vc] := ⟨_, rfl⟩
        have hrt : we.rangeAt (b0 + 1) 0 [.string b.kind, .string b.name, .slice va b.lines.length vc] := by rw [hwe]; exact World.rangeAt_setCells_same _ _ _ _ hth
        have HM2 : Hid (Marks (fun b => b = b0 + 1) W4 we) := by show Marks _ _ _; rw [hwe]; exact mks_scs (S := fun b => b = b0 + 1) rfl _ _ _
        have xz := HUB.out.lt
        have xa := HUB.out.at_
        go_wp2_with (first | (refine wpList_load_mid rfl 37 _ rfl b0 0 rfl [.string b.kind, .string b.name, .slice va b.lines.length vc] _ xa Tryz.underlying37 rfl (by kernel_rfl) ?_) | (refine wpList_store_mid rfl 37 _ _ rfl (b0 + 1) 0 #[.string b.kind, .string b.name, .slice va b.lines.length vc] rfl rfl hth (by kernel_rfl) (by simp [Value.oneCell']) ?_))
        first | rw [← hwe] | (simp only [List.toList_toArray]; rw [← hwe])
        try simp only [Act.put, List.setIfInBounds_toArray, List.set_cons_zero, List.set_cons_succ]
        refine bodyPost_ret (v := .tuple #[.agg #[.string b.kind, .string b.name, .slice va b.lines.length vc], .int .i64 10]) (by simp [results, Tryz.results13, asAddr, run_loadVar_mid (P := Tryz.prog) _ _ _ 37 [.string b.kind, .string b.name, .slice va b.lines.length vc] _ hrt Tryz.underlying37 rfl (by kernel_rfl)]) rfl ?_
        have hz := HBZ.out
        refine ⟨[.string b.kind, .string b.name, .slice va b.lines.length vc], by rw [HE.out]; rfl, ?_, HM2.out.below (fun b e => by omega) HB.out⟩
        rw [HEB.out]
        exact Dat.back (dat_blk_mk (HD.out.keep HM2.out fun b e => by omega)) (by have := HLO.out; omega)
      have d3 : ¬ ((10 : Int) ≤ (c1 : Int)) := by omega
      have HE0 : Hid (Pl.insideC b ws = 0) := by show _ = _; rw [HC2.out, if_neg h10]
      obtain ⟨W5, hW5⟩ : ∃ W5, W5 = W4 := ⟨_, rfl⟩
      rw [← hW5] at HB HUB HRS HD HQ HDX hp hg2 ⊢
      clear hW5
      go_upto_region 12 with fail
      clear d1 d2 d3 hp hg2 hj0 hjl
      have xz := HUB.out.lt
      have xa := HUB.out.at_
      have qz := HQ.out.own.lt
      have qa := HQ.out.at_
      have HCP : Hid (Calls Tryz.prog 28 #[.agg #[.string b.kind, .string b.name, .slice va b.lines.length vc], .agg #[.string k0, .slice a3 m c3]] W5 (AnsD (fun q => (S q ∧ q < B) ∨ lo ≤ q) b0 (b0 + 2) shSheetBlock (blD ⟨b.kind, b.name, Pl.putLn b.kind b.lines x⟩) W5)) := by
        have := l39PutLineD (S := (fun q => (S q ∧ q < B) ∨ lo ≤ q)) (B := b0) (lo := b0 + 2) b ⟨k0, ts⟩ (.slice va b.lines.length vc) (.slice a3 m c3) W5 HD.out (by show Dat _ _ _ _ _ [.row ts.length _] _; rw [HTL.out]; exact HDX.out) hl (by have := HRS.out.own.lt; omega)
        rw [← HKX.out] at this
        have hk2 : x.key = k0 := by rw [HKX.out]
        rw [hk2] at this
        exact this
      go_wp2_with (first | (refine wpList_load_mid rfl 37 _ rfl b0 0 rfl [.string b.kind, .string b.name, .slice va b.lines.length vc] _ xa Tryz.underlying37 rfl (by kernel_rfl) ?_) | (refine wpList_load_mid rfl 62 _ rfl q 0 rfl [.string k0, .slice a3 m c3] _ qa Tryz.underlying62 rfl (by kernel_rfl) ?_))
      refine HCP.out.mono ?_
      rintro e W6 ⟨cc, rfl, hDn, hb⟩
      obtain ⟨a5, m5, hcc, hDn2⟩ := dat_block hDn
      subst hcc
      have HDN := uh hDn2
      replace HB := uh (blw_trans HB.out hb)
      replace HUB := uh (HUB.out.later hb)
      replace HRS := uh (HRS.out.later hb)
      clear xz xa qz qa HCP hDn hDn2 hb
      have HE := HE0
      have HEB : Hid (Pl.insideB b ws = ⟨b.kind, b.name, Pl.putLn b.kind b.lines x⟩) := by show _ = _; unfold Pl.insideB; rw [if_pos HE.out, HXE.out]
      have hth : W6.there (b0 + 1) 0 (#[.string b.kind, .string b.name, .slice a5 (Pl.putLn b.kind b.lines x).length m5] : Array Value).size := uthere HRS.out.own _ _ (by simp)
      obtain ⟨we, hwe⟩ : ∃ we, we = W6.setCells (b0 + 1) 0 [.string b.kind, .string b.name, .slice a5 (Pl.putLn b.kind b.lines x).length m5] := ⟨_, rfl⟩
      have hrt : we.rangeAt (b0 + 1) 0 [.string b.kind, .string b.name, .slice a5 (Pl.putLn b.kind b.lines x).length m5] := by rw [hwe]; exact World.rangeAt_setCells_same _ _ _ _ hth
      have HM2 : Hid (Marks (fun b => b = b0 + 1) W6 we) := by show Marks _ _ _; rw [hwe]; exact mks_scs (S := fun b => b = b0 + 1) rfl _ _ _
      have xz := HUB.out.lt
      have xa := HUB.out.at_
      go_wp2_with (first | (refine wpList_load_mid rfl 37 _ rfl b0 0 rfl [.string b.kind, .string b.name, .slice va b.lines.length vc] _ xa Tryz.underlying37 rfl (by kernel_rfl) ?_) | (refine wpList_store_mid rfl 37 _ _ rfl (b0 + 1) 0 #[.string b.kind, .string b.name, .slice a5 (Pl.putLn b.kind b.lines x).length m5] rfl rfl hth (by kernel_rfl) (by simp [Value.oneCell']) ?_))
      first | rw [← hwe] | (simp only [List.toList_toArray]; rw [← hwe])
      try simp only [Act.put, List.setIfInBounds_toArray, List.set_cons_zero, List.set_cons_succ]
      refine bodyPost_ret (v := .tuple #[.agg #[.string b.kind, .string b.name, .slice a5 (Pl.putLn b.kind b.lines x).length m5], .int .i64 0]) (by simp [results, Tryz.results13, asAddr, run_loadVar_mid (P := Tryz.prog) _ _ _ 37 [.string b.kind, .string b.name, .slice a5 (Pl.putLn b.kind b.lines x).length m5] _ hrt Tryz.underlying37 rfl (by kernel_rfl)]) rfl ?_
      have hz := HBZ.out
      refine ⟨[.string b.kind, .string b.name, .slice a5 (Pl.putLn b.kind b.lines x).length m5], by rw [HE.out]; rfl, ?_, HM2.out.below (fun b e => by omega) HB.out⟩
      rw [HEB.out]
      exact Dat.back (dat_blk_mk (HDN.out.keep HM2.out fun b e => by omega)) (by have := HLO.out; omega)

end Go.Proofs.YtdllbcafbfkngaaGreatDoor
