/-
  Sheets: a text taken as a sheet: plain.
-/
import Derived.Test.YtdllbcafbfkngaaGreatDoorRgSt
import Derived.Test.YtdllbcafbfkngaaGreatDoorEWe
import Derived.Test.YtdllbcafbfkngaaGreatDoorEPw
import Derived.Test.YtdllbcafbfkngaaGreatDoorEKi
import Derived.Test.YtdllbcafbfkngaaGreatDoorEKc
import Derived.Test.YtdllbcafbfkngaaGreatDoorEKk
import Derived.Test.YtdllbcafbfkngaaGreatDoorEFd
namespace Go.Proofs.YtdllbcafbfkngaaGreatDoor
open Go.RowKit Go.Deep

namespace RY
theorem region_se {P : Program} {id : Nat} {Q : Exit → Act → World → Prop} {a0 : Act} {w : World} {l : List Oper} (v : World) (hv : Below v.heap.size v w)
    (V : Nat → Value → World → Prop) (hVm : ∀ j u W W', Below W.heap.size W W' → V j u W → V j u W')
    (K : (Nat → Value) → World → Prop) (n fuel : Nat) (hKe : ∀ f g W, (∀ j, j < n → f j = g j) → K f W → K g W)
    (hm : P.follows .mixedOrders = true) (hasc : asc .any l.toArray = true) (hap : apartB l = true) (hpl : plainB l a0.tmps.size = true)
    (hlen : l.length = n + 2) (D : List Nat) (hD : (D.all fun d => decide (d < n) && waits l n d) = true)
    (hclo : ((List.range n).all fun i => (clo l fuel D).contains i) = true)
    (oS : Oper) (hS : l[n]? = some oS) (hSd : oS.dst = none)
    (hds : ((l.take n).all fun o => o.dst.isSome) = true)
    (oE : Oper) (hE : l[n + 1]? = some oE) (hEd : oE.dst.isSome = true) (uE : Value) (hEr : ∀ (a : Act) (W : World), (execOp a.eval oE).run P W = .ok (.value uE) W)
    (hop : ∀ (i : Nat) (o : Oper), l[i]? = some o → i < n → ∀ (a : Act) (W : World), Below v.heap.size v W → (∀ k, noDst l k = true → a.eval (.tmp k) = a0.eval (.tmp k)) →
      (∀ (j : Nat) (o' : Oper) (k : Nat), l[j]? = some o' → o'.dst = some k → (∃ e ∈ o.after, e.on = j ∧ Region.binds .any e = true) → j < n → V j (a.eval (.tmp k)) W) →
      (∃ u W', (execOp a.eval o).run P W = .ok (.value u) W' ∧ Below W.heap.size W W' ∧ V i u W') ∨
      (∃ f args, (execOp a.eval o).run P W = .ok (.enter f args) W ∧ Calls P f args W fun e W' => ∃ u, e = .returned u ∧ Below W.heap.size W W' ∧ V i u W'))
    (hfin : ∀ (a : Act) (W : World) (vals : Nat → Value), Below v.heap.size v W → (∀ k, noDst l k = true → a.eval (.tmp k) = a0.eval (.tmp k)) → (∀ j, j < n → V j (vals j) W) →
      (∀ (j : Nat) (o' : Oper) (k : Nat), l[j]? = some o' → o'.dst = some k → (∃ e ∈ oS.after, e.on = j ∧ Region.binds .any e = true) → j < n → a.eval (.tmp k) = vals j) →
      ∃ W', (execOp a.eval oS).run P W = .ok .skip W' ∧ K vals W')
    (hend : ∀ (vals vs : Nat → Value) (W : World), K vals W → vals (n + 1) = uE → (∀ (i : Nat) (o : Oper) (k : Nat), l[i]? = some o → o.dst = some k → vs k = vals i) → Q .normal (putAll l a0 vs) W) :
    (Code.region id l.toArray true).wp P Q a0 w := by
  rw [List.all_eq_true] at hD
  refine region_TC (fun _ _ => True) (fun up vals W => (up n = false → Below v.heap.size v W ∧ ∀ j, j < n → up j = true → V j (vals j) W) ∧ (up n = true → K vals W) ∧ (up (n + 1) = true → vals (n + 1) = uE)) hm hasc hap hpl ?_ ?_ ?_
  · intro vals
    exact ⟨fun _ => ⟨Below.drew hv, fun j _ h => by simp at h⟩, fun h => by simp at h, fun h => by simp at h⟩
  · intro up vals i o ho hi hcl a W hk hdep hT
    have hil : i < n + 2 := by rw [← hlen]; exact (List.getElem?_eq_some_iff.1 ho).1
    have hcl2 : (∀ d ∈ D, up d = true) → ∀ j, j < n → up j = true := fun h j hj => by
      rw [List.all_eq_true] at hclo
      have := hclo j (by simp; omega)
      exact clo_up hcl fuel D h j (by simpa using this)
    have hallS : up n = true → ∀ j, j < n → up j = true := fun hS0 => hcl2 (fun d hd => by
      have h2 := hD d hd
      rw [Bool.and_eq_true, decide_eq_true_eq] at h2
      obtain ⟨e, he, hej, hbd⟩ := waits_spec h2.2 hS
      rw [← hej]; exact hcl n oS e hS he hbd hS0)
    by_cases hiE : i = n + 1
    · subst hiE
      obtain rfl : o = oE := Option.some.inj (ho.symm.trans hE)
      refine Or.inl ⟨uE, W, hEr a W, hEd, trivial, fun h => ?_, fun h => ?_, fun _ => by simp⟩
      · have hn : up n = false := by simpa using h
        obtain ⟨h1, h2⟩ := hT.1 hn
        refine ⟨h1, fun j hj hu => ?_⟩
        have e : ¬ j = n + 1 := by omega
        have hu : up j = true := by simpa [e] using hu
        simp only [e, if_false]
        exact h2 j hj hu
      · have hn : up n = true := by simpa using h
        refine hKe vals _ W (fun j hj => ?_) (hT.2.1 hn)
        have e : ¬ j = n + 1 := by omega
        simp only [e, if_false]
    by_cases hS0 : up n = true
    · exfalso
      have hin : i < n := by
        rcases Nat.lt_or_ge i n with h | h
        · exact h
        · have : i = n := by omega
          rw [this, hS0] at hi; cases hi
      rw [hallS hS0 i hin] at hi; cases hi
    · have hS0 : up n = false := by simpa using hS0
      obtain ⟨hBW, hV⟩ := hT.1 hS0
      have hdst : i < n → o.dst.isSome = true := fun h => by
        rw [List.all_eq_true] at hds
        exact hds _ (List.mem_of_getElem? (i := i) (by rw [List.getElem?_take_of_lt h]; exact ho))
      by_cases hin : i < n
      · have key : ∀ u W', Below W.heap.size W W' → V i u W' → ((fun j => (j == i) || up j) n = false → Below v.heap.size v W' ∧ ∀ j, j < n → (fun j => (j == i) || up j) j = true → V j ((fun j => if j = i then u else vals j) j) W') ∧ ((fun j => (j == i) || up j) n = true → K (fun j => if j = i then u else vals j) W') ∧ ((fun j => (j == i) || up j) (n + 1) = true → (fun j => if j = i then u else vals j) (n + 1) = uE) := fun u W' hW hVi => by
          refine ⟨fun _ => ⟨blw_trans hBW hW, fun j hj hu => ?_⟩, fun h => ?_, fun h => ?_⟩
          · by_cases e : j = i
            · simp only [e, if_true]; exact hVi
            · have hu : up j = true := by simpa [e] using hu
              simp only [e, if_false]
              exact hVm _ _ _ _ hW (hV j hj hu)
          · have : ¬ n = i := by omega
            have : up n = true := by simpa [this] using h
            rw [hS0] at this; cases this
          · have e : ¬ n + 1 = i := by omega
            have : up (n + 1) = true := by simpa [e] using h
            simp only [e, if_false]
            exact hT.2.2 this
        rcases hop i o ho hin a W hBW hk (fun j o' k hj hk' hd hjn => by
            obtain ⟨q1, q2, _⟩ := hdep j o' k hj hk' hd
            rw [q2]; exact hV j hjn q1) with ⟨u, W', hr, hW, hVi⟩ | ⟨f, args, hr, hc⟩
        · exact Or.inl ⟨u, W', hr, hdst hin, trivial, key u W' hW hVi⟩
        · refine Or.inr (Or.inr ⟨f, args, hr, hdst hin, hc.mono ?_⟩)
          rintro e W' ⟨u, rfl, hW, hVi⟩
          exact ⟨u, rfl, trivial, key u W' hW hVi⟩
      · obtain rfl : i = n := by omega
        rw [hS] at ho
        injection ho with ho
        subst ho
        have hsub : ∀ j, j < i → up j = true := hcl2 fun d hd => by
          have h2 := hD d hd
          rw [Bool.and_eq_true, decide_eq_true_eq] at h2
          obtain ⟨e, he, hej, hbd⟩ := waits_spec h2.2 hS
          have hdl : d < l.length := by rw [hlen]; omega
          have hq : (l[d]).dst.isSome = true := by
            rw [List.all_eq_true] at hds
            exact hds _ (List.mem_of_getElem? (i := d) (by rw [List.getElem?_take_of_lt h2.1]; simp))
          obtain ⟨k, hk'⟩ := Option.isSome_iff_exists.1 hq
          exact (hdep d l[d] k (by simp) hk' ⟨e, he, hej, hbd⟩).1
        obtain ⟨W', hr, hK⟩ := hfin a W vals hBW hk (fun j hj => hV j hj (hsub j hj)) (fun j o' k hj hk' hd hjn => (hdep j o' k hj hk' hd).2.1)
        refine Or.inr (Or.inl ⟨W', hr, hSd, fun h => by simp at h, fun _ => hK, fun h => ?_⟩)
        have e : ¬ i + 1 = i := by omega
        exact hT.2.2 (by simpa [e] using h)
  · intro up vals vs W hall hv2 hT
    exact hend vals vs W (hT.2.1 (hall n (by omega))) (hT.2.2 (hall (n + 1) (by omega))) (fun i o k hi hd => (hv2 i o k hi hd).1)
end RY
end Go.Proofs.YtdllbcafbfkngaaGreatDoor

namespace Go.Proofs.YtdllbcafbfkngaaGreatDoor
open Go.RowKit Go.Deep


namespace Pl
def beginC (s : List Bl) (ws : List ByteArray) : Nat :=
  if ws.length ≠ 2 then 2 else if (rulesOf (ws.getD 0 txNo)).length = 0 then 3 else if nameOk20 (ws.getD 1 txNo) = false then 4
  else if (findB s (ws.getD 0 txNo) (ws.getD 1 txNo)).isSome then 9 else if 60 ≤ s.length then 10 else 0
def beginB (s : List Bl) (ws : List ByteArray) : Bl := if beginC s ws = 0 then ⟨ws.getD 0 txNo, ws.getD 1 txNo, []⟩ else ⟨{ data := #[] }, { data := #[] }, []⟩
end Pl
theorem ixI_geq {o : Option Nat} : (decide ((0 : Int) ≤ Pl.ixI o)) = o.isSome := by
  cases o with
  | none => rfl
  | some n => exact decide_eq_true (by show (0 : Int) ≤ (n : Int); omega)
def VBa (p : Nat) (o : Nat) (wc : Nat) (vc : Nat) (va : Option Addr) (s : List Pl.Bl) (k0 : ByteArray) (k1 : ByteArray) : Nat → Value → World → Prop
  | 0, vv, _ => vv = .agg #[.slice va s.length vc]
  | 1, vv, _ => vv = .slice (some ⟨p, o, none⟩) 2 wc
  | 2, vv, _ => vv = .pointer (some ⟨p, o, none⟩)
  | 3, vv, _ => vv = .string k0
  | 4, vv, _ => vv = .slice (some ⟨p, o, none⟩) 2 wc
  | 5, vv, _ => vv = .pointer (some ⟨p, o + 1, none⟩)
  | 6, vv, _ => vv = .string k1
  | 7, vv, _ => vv = .int .i64 (Pl.ixI (Pl.findB s k0 k1))
  | 8, vv, _ => vv = .bool (Pl.findB s k0 k1).isSome
  | _, _, _ => True
theorem VBa_mono (p : Nat) (o : Nat) (wc : Nat) (vc : Nat) (va : Option Addr) (s : List Pl.Bl) (k0 : ByteArray) (k1 : ByteArray) : ∀ jj vv W W', Below W.heap.size W W' → VBa p o wc vc va s k0 k1 jj vv W → VBa p o wc vc va s k0 k1 jj vv W' := by
  intro jj vv W W' hb h
  match jj with
  | 0 => exact h
  | 1 => exact h
  | 2 => exact h
  | 3 => exact h
  | 4 => exact h
  | 5 => exact h
  | 6 => exact h
  | 7 => exact h
  | 8 => exact h
  | n + 9 => exact trivial
def VBb (p : Nat) (o : Nat) (wc : Nat) (k0 : ByteArray) (k1 : ByteArray) : Nat → Value → World → Prop
  | 0, vv, _ => vv = .slice (some ⟨p, o, none⟩) 2 wc
  | 1, vv, _ => vv = .pointer (some ⟨p, o, none⟩)
  | 2, vv, _ => vv = .string k0
  | 3, vv, _ => vv = .slice (some ⟨p, o, none⟩) 2 wc
  | 4, vv, _ => vv = .pointer (some ⟨p, o + 1, none⟩)
  | 5, vv, _ => vv = .string k1
  | 6, vv, _ => vv = .agg #[.string k0, .string k1, .slice none 0 0]
  | _, _, _ => True
theorem VBb_mono (p : Nat) (o : Nat) (wc : Nat) (k0 : ByteArray) (k1 : ByteArray) : ∀ jj vv W W', Below W.heap.size W W' → VBb p o wc k0 k1 jj vv W → VBb p o wc k0 k1 jj vv W' := by
  intro jj vv W W' hb h
  match jj with
  | 0 => exact h
  | 1 => exact h
  | 2 => exact h
  | 3 => exact h
  | 4 => exact h
  | 5 => exact h
  | 6 => exact h
  | n + 7 => exact trivial

set_option maxRecDepth 8000 in
set_option maxHeartbeats 16000000 in
theorem l39BeginS (s : List Pl.Bl) (ws : List ByteArray) (lv wv : Value) (w : World) (h : Raw w shBls [blsD s] [lv]) (hx : Raw w shTxs [.row ws.length (txD ws)] [wv]) (hl : s.length ≤ 4194304) (hz : ∀ x ∈ ws, x.size ≤ maxLen) :
    Calls Tryz.prog 14 #[.agg #[lv], wv] w fun e w' => e = .returned (.tuple #[.agg #[.string (Pl.beginB s ws).kind, .string (Pl.beginB s ws).name, .slice none 0 0], .int .i64 (Pl.beginC s ws : Nat)]) ∧ Below w.heap.size w w' := by
  have HL := uh h
  have HX := uh hx
  have HZS := uh hz
  obtain ⟨va, vc, ev⟩ := h.len0
  subst ev
  obtain ⟨xa, wc, ev⟩ := hx.len0
  subst ev
  clear h hx hz
  obtain ⟨w0, hw0⟩ : ∃ w0, w0 = (w.alloc (.cells #[.slice va s.length vc] 24)).alloc (.cells #[.string { data := #[] }, .string { data := #[] }, .slice none 0 0] 37) := ⟨_, rfl⟩
  obtain ⟨b0, hb0⟩ : ∃ b0, b0 = w.heap.size := ⟨_, rfl⟩
  have HBZ := uh hb0
  have HB : Hid (Below w.heap.size w w0) := by show Below _ _ _; rw [hw0]; exact blw_alloc (blw_alloc (Below.refl _ _) _) _
  have HUB : Hid (LBox w0 b0 [.slice va s.length vc]) := by show LBox _ _ _; rw [hw0, hb0]; exact (LBox.new w #[.slice va s.length vc] _ _ rfl).past _
  have HRS : Hid (WBox w0 (b0 + 1) 37 [.string { data := #[] }, .string { data := #[] }, .slice none 0 0]) := by show WBox _ _ _ _; rw [hw0, hb0]; exact WBox.new (w.alloc (.cells #[.slice va s.length vc] 24)) [.string { data := #[] }, .string { data := #[] }, .slice none 0 0] 37 _ (by simp)
  go_enter Tryz.func14, Tryz.ntmps14
  go_upto_region 1 with fail
  rw [← hw0, ← hb0]
  clear hw0 hb0
  by_cases hw2 : ws.length = 2
  rotate_left
  · have d0 : ((ws.length : Int) != 2) = true := by simp; omega
    have HE : Hid (Pl.beginC s ws = 2) := by show _ = _; unfold Pl.beginC; rw [if_pos hw2]
    have hth : w0.there (b0 + 1) 0 (#[.string { data := #[] }, .string { data := #[] }, .slice none 0 0] : Array Value).size := uthere HRS.out.own _ _ (by simp)
    obtain ⟨we, hwe⟩ : ∃ we, we = w0.setCells (b0 + 1) 0 [.string { data := #[] }, .string { data := #[] }, .slice none 0 0] := ⟨_, rfl⟩
    have hrt : we.rangeAt (b0 + 1) 0 [.string { data := #[] }, .string { data := #[] }, .slice none 0 0] := by rw [hwe]; exact World.rangeAt_setCells_same _ _ _ _ hth
    have HBB : Hid (Below w.heap.size w we) := by show Below _ _ _; rw [hwe]; exact blw_scs (by have := HBZ.out; omega) _ _ _ HB.out
    go_wp2_with (refine wpList_store_mid rfl 37 _ _ rfl (b0 + 1) 0 #[.string { data := #[] }, .string { data := #[] }, .slice none 0 0] rfl rfl hth (by kernel_rfl) (by simp [Value.oneCell']) ?_)
    first | rw [← hwe] | (simp only [List.toList_toArray]; rw [← hwe])
    try simp only [Act.put, List.setIfInBounds_toArray, List.set_cons_zero, List.set_cons_succ]
    refine bodyPost_ret (v := .tuple #[.agg #[.string { data := #[] }, .string { data := #[] }, .slice none 0 0], .int .i64 2]) (by simp [results, Tryz.results14, asAddr, run_loadVar_mid (P := Tryz.prog) _ _ _ 37 [.string { data := #[] }, .string { data := #[] }, .slice none 0 0] _ hrt Tryz.underlying37 rfl (by kernel_rfl)]) rfl ?_
    exact ⟨by unfold Pl.beginB; rw [HE.out]; rfl, HBB.out⟩
  rcases txs_open HX.out with ⟨e0, _⟩ | ⟨p, o, c, hv, hp, hml, hopen⟩
  · omega
  injection hv with g1 g2 g3
  subst g1; subst g3
  have h0 := hopen 0 (by omega)
  have h1 := hopen 1 (by omega)
  obtain ⟨k0, hk0⟩ : ∃ k0, k0 = ws.getD 0 Pl.txNo := ⟨_, rfl⟩
  obtain ⟨k1, hk1⟩ : ∃ k1, k1 = ws.getD 1 Pl.txNo := ⟨_, rfl⟩
  have HSZ : Hid (k0.size ≤ maxLen ∧ k1.size ≤ maxLen) := by
    have e0 : ws.getD 0 Pl.txNo = ws[0] := by simp [hw2]
    have e1 : ws.getD 1 Pl.txNo = ws[1] := by simp [hw2]
    rw [hk0, hk1, e0, e1]
    exact ⟨HZS.out _ (List.getElem_mem _), HZS.out _ (List.getElem_mem _)⟩
  rw [← hk0] at h0
  rw [← hk1] at h1
  have HGX : Hid (w0.rangeAt p o [.string k0, .string k1]) := by
    show World.rangeAt _ _ _ _
    refine rA_later (w := w) (fun j v hv => ?_) hp HB.out
    match j, hv with
    | 0, hv => injection hv with hv; rw [← hv]; exact h0
    | 1, hv => injection hv with hv; rw [← hv]; exact h1
  have HPZ : Hid (p < w0.heap.size) := Nat.lt_of_lt_of_le hp HB.out.size
  have HC0 : Hid (Pl.beginC s ws = if (Pl.rulesOf k0).length = 0 then 3 else if Pl.nameOk20 k1 = false then 4 else if (Pl.findB s k0 k1).isSome then 9 else if 60 ≤ s.length then 10 else 0) := by show _ = _; unfold Pl.beginC; rw [if_neg (by omega), ← hk0, ← hk1]
  have HBB0 : Hid (Pl.beginC s ws = 0 → Pl.beginB s ws = ⟨k0, k1, []⟩) := fun e => by unfold Pl.beginB; rw [if_pos e, hk0, hk1]
  rw [hw2]
  clear h0 h1 hopen hml hp hk0 hk1
  have d0 : (((2 : Nat) : Int) != 2) = false := by simp
  have yp := HPZ.out
  have y0 := rA_get HGX.out 0 _ rfl
  rw [Nat.add_zero] at y0
  have HC1 := uh (sheetRulesS k0 w0)
  go_wp2_with fail
  refine HC1.out.mono ?_
  rintro e w1 ⟨rv, RF, rfl, rep, nd, fr, hb⟩
  obtain ⟨ra, rc, hrv⟩ := rep.raw.len0
  subst hrv
  replace HB := uh (blw_trans HB.out hb)
  replace HUB := uh (HUB.out.later hb)
  replace HRS := uh (HRS.out.later hb)
  replace HGX := uh (rA_later HGX.out HPZ.out hb)
  replace HPZ := uh (Nat.lt_of_lt_of_le HPZ.out hb.size)
  clear rep nd fr hb yp y0 HC1 d0
  by_cases hr0 : (Pl.rulesOf k0).length = 0
  · have d1 : (((Pl.rulesOf k0).length : Int) == 0) = true := by rw [hr0]; rfl
    have HE : Hid (Pl.beginC s ws = 3) := by show _ = _; rw [HC0.out, if_pos hr0]
    have hth : w1.there (b0 + 1) 0 (#[.string { data := #[] }, .string { data := #[] }, .slice none 0 0] : Array Value).size := uthere HRS.out.own _ _ (by simp)
    obtain ⟨we, hwe⟩ : ∃ we, we = w1.setCells (b0 + 1) 0 [.string { data := #[] }, .string { data := #[] }, .slice none 0 0] := ⟨_, rfl⟩
    have hrt : we.rangeAt (b0 + 1) 0 [.string { data := #[] }, .string { data := #[] }, .slice none 0 0] := by rw [hwe]; exact World.rangeAt_setCells_same _ _ _ _ hth
    have HBB : Hid (Below w.heap.size w we) := by show Below _ _ _; rw [hwe]; exact blw_scs (by have := HBZ.out; omega) _ _ _ HB.out
    go_wp2_with (refine wpList_store_mid rfl 37 _ _ rfl (b0 + 1) 0 #[.string { data := #[] }, .string { data := #[] }, .slice none 0 0] rfl rfl hth (by kernel_rfl) (by simp [Value.oneCell']) ?_)
    first | rw [← hwe] | (simp only [List.toList_toArray]; rw [← hwe])
    try simp only [Act.put, List.setIfInBounds_toArray, List.set_cons_zero, List.set_cons_succ]
    refine bodyPost_ret (v := .tuple #[.agg #[.string { data := #[] }, .string { data := #[] }, .slice none 0 0], .int .i64 3]) (by simp [results, Tryz.results14, asAddr, run_loadVar_mid (P := Tryz.prog) _ _ _ 37 [.string { data := #[] }, .string { data := #[] }, .slice none 0 0] _ hrt Tryz.underlying37 rfl (by kernel_rfl)]) rfl ?_
    exact ⟨by unfold Pl.beginB; rw [HE.out]; rfl, HBB.out⟩
  have d1 : (((Pl.rulesOf k0).length : Int) == 0) = false := by rw [beq_eq_false_iff_ne]; omega
  have yp := HPZ.out
  have y1 := rA_get HGX.out 1 _ rfl
  have HC1 := uh (l38NameOkS k1 w1 HSZ.out.2)
  go_wp2_with fail
  refine HC1.out.mono ?_
  rintro e w2 ⟨rfl, rfl⟩
  clear yp y1 HC1 d1
  cases hnm : Pl.nameOk20 k1
  ·
    have HE : Hid (Pl.beginC s ws = 4) := by show _ = _; rw [HC0.out, if_neg hr0, if_pos hnm]
    have hth : w1.there (b0 + 1) 0 (#[.string { data := #[] }, .string { data := #[] }, .slice none 0 0] : Array Value).size := uthere HRS.out.own _ _ (by simp)
    obtain ⟨we, hwe⟩ : ∃ we, we = w1.setCells (b0 + 1) 0 [.string { data := #[] }, .string { data := #[] }, .slice none 0 0] := ⟨_, rfl⟩
    have hrt : we.rangeAt (b0 + 1) 0 [.string { data := #[] }, .string { data := #[] }, .slice none 0 0] := by rw [hwe]; exact World.rangeAt_setCells_same _ _ _ _ hth
    have HBB : Hid (Below w.heap.size w we) := by show Below _ _ _; rw [hwe]; exact blw_scs (by have := HBZ.out; omega) _ _ _ HB.out
    go_wp2_with (refine wpList_store_mid rfl 37 _ _ rfl (b0 + 1) 0 #[.string { data := #[] }, .string { data := #[] }, .slice none 0 0] rfl rfl hth (by kernel_rfl) (by simp [Value.oneCell']) ?_)
    first | rw [← hwe] | (simp only [List.toList_toArray]; rw [← hwe])
    try simp only [Act.put, List.setIfInBounds_toArray, List.set_cons_zero, List.set_cons_succ]
    refine bodyPost_ret (v := .tuple #[.agg #[.string { data := #[] }, .string { data := #[] }, .slice none 0 0], .int .i64 4]) (by simp [results, Tryz.results14, asAddr, run_loadVar_mid (P := Tryz.prog) _ _ _ 37 [.string { data := #[] }, .string { data := #[] }, .slice none 0 0] _ hrt Tryz.underlying37 rfl (by kernel_rfl)]) rfl ?_
    exact ⟨by unfold Pl.beginB; rw [HE.out]; rfl, HBB.out⟩
  obtain ⟨wr, hwr⟩ : ∃ wr, wr = w1 := ⟨_, rfl⟩
  rw [← hwr] at HB HUB HRS HGX HPZ ⊢
  clear hwr
  have hgq : (decide ((0 : Int) ≤ Pl.ixI (Pl.findB s k0 k1))) = (Pl.findB s k0 k1).isSome := ixI_geq
  have HCF := uh (fun (X : World) (hX : Below wr.heap.size wr X) => l39FindS s (.slice va s.length vc) k0 k1 X ((HL.out.later HB.out).later hX))
  go_upto_region 7 with fail
  refine RY.region_past wr (Below.refl _ _) (VBa p o wc vc va s k0 k1) (VBa_mono _ _ _ _ _ _ _ _) (by kernel_rfl) (by kernel_rfl) (by kernel_rfl) (by kernel_rfl) ?_ ?_
  · intro ii o' ho a X hX hk hd
    have zb0 := HUB.out.later hX
    have zb0l := zb0.lt
    match ii, ho with
    | 0, ho =>
      injection ho with ho; subst ho
      have v2 : a.eval (.tmp 2) = .pointer (some ⟨b0, 0, none⟩) := (hk 2 (by kernel_rfl)).trans rfl
      exact Or.inl ⟨_, X, exec_load_mid 24 _ rfl b0 0 v2 [.slice va s.length vc] _ zb0.at_ Tryz.underlying24 rfl (by kernel_rfl), Below.refl _ _, rfl⟩
    | 1, ho =>
      injection ho with ho; subst ho
      have e1 : a.tmps[1]?.getD undef = .slice (some ⟨p, o, none⟩) 2 wc := (RY.ev_tmp a 1).trans ((hk 1 (by kernel_rfl)).trans rfl)
      exact Or.inl ⟨.slice (some ⟨p, o, none⟩) 2 wc, X, by simp [execOp, go_sem, e1], Below.refl _ _, rfl⟩
    | 2, ho =>
      injection ho with ho; subst ho
      have e24 : a.tmps[24]?.getD undef = .slice (some ⟨p, o, none⟩) 2 wc := (RY.ev_tmp a 24).trans (hd 1 _ 24 rfl rfl ⟨⟨1, .data⟩, by simp, rfl, rfl⟩)
      exact Or.inl ⟨.pointer (some ⟨p, o, none⟩), X, by simp [execOp, go_sem, e24], Below.refl _ _, rfl⟩
    | 3, ho =>
      injection ho with ho; subst ho
      have e25 : a.tmps[25]?.getD undef = .pointer (some ⟨p, o, none⟩) := (RY.ev_tmp a 25).trans (hd 2 _ 25 rfl rfl ⟨⟨2, .data⟩, by simp, rfl, rfl⟩)
      have ypl_ := Nat.lt_of_lt_of_le HPZ.out hX.size
      have ycl_ : X.cell? ⟨p, o, none⟩ = some (.string k0) := by have q := rA_get (rA_later HGX.out HPZ.out hX) 0 _ rfl; simpa using q
      exact Or.inl ⟨.string k0, X, by simp [execOp, go_sem, e25, ycl_], Below.refl _ _, rfl⟩
    | 4, ho =>
      injection ho with ho; subst ho
      have e1 : a.tmps[1]?.getD undef = .slice (some ⟨p, o, none⟩) 2 wc := (RY.ev_tmp a 1).trans ((hk 1 (by kernel_rfl)).trans rfl)
      exact Or.inl ⟨.slice (some ⟨p, o, none⟩) 2 wc, X, by simp [execOp, go_sem, e1], Below.refl _ _, rfl⟩
    | 5, ho =>
      injection ho with ho; subst ho
      have e27 : a.tmps[27]?.getD undef = .slice (some ⟨p, o, none⟩) 2 wc := (RY.ev_tmp a 27).trans (hd 4 _ 27 rfl rfl ⟨⟨4, .data⟩, by simp, rfl, rfl⟩)
      exact Or.inl ⟨.pointer (some ⟨p, o + 1, none⟩), X, by simp [execOp, go_sem, e27], Below.refl _ _, rfl⟩
    | 6, ho =>
      injection ho with ho; subst ho
      have e28 : a.tmps[28]?.getD undef = .pointer (some ⟨p, o + 1, none⟩) := (RY.ev_tmp a 28).trans (hd 5 _ 28 rfl rfl ⟨⟨5, .data⟩, by simp, rfl, rfl⟩)
      have ypl_ := Nat.lt_of_lt_of_le HPZ.out hX.size
      have ycl_ : X.cell? ⟨p, o + 1, none⟩ = some (.string k1) := by have q := rA_get (rA_later HGX.out HPZ.out hX) 1 _ rfl; simpa using q
      exact Or.inl ⟨.string k1, X, by simp [execOp, go_sem, e28, ycl_], Below.refl _ _, rfl⟩
    | 7, ho =>
      injection ho with ho; subst ho
      have e23 : a.tmps[23]?.getD undef = .agg #[.slice va s.length vc] := (RY.ev_tmp a 23).trans (hd 0 _ 23 rfl rfl ⟨⟨0, .data⟩, by simp, rfl, rfl⟩)
      have e26 : a.tmps[26]?.getD undef = .string k0 := (RY.ev_tmp a 26).trans (hd 3 _ 26 rfl rfl ⟨⟨3, .data⟩, by simp, rfl, rfl⟩)
      have e29 : a.tmps[29]?.getD undef = .string k1 := (RY.ev_tmp a 29).trans (hd 6 _ 29 rfl rfl ⟨⟨6, .data⟩, by simp, rfl, rfl⟩)
      refine Or.inr ⟨30, #[.agg #[.slice va s.length vc], .string k0, .string k1], by simp [go_sem, e23, e26, e29], (HCF.out X hX).mono ?_⟩
      rintro e W' ⟨rfl, hb⟩
      exact ⟨_, rfl, hb, rfl⟩
    | 8, ho =>
      injection ho with ho; subst ho
      have e30 : a.tmps[30]?.getD undef = .int .i64 (Pl.ixI (Pl.findB s k0 k1)) := (RY.ev_tmp a 30).trans (hd 7 _ 30 rfl rfl ⟨⟨7, .data⟩, by simp, rfl, rfl⟩)
      exact Or.inl ⟨.bool (Pl.findB s k0 k1).isSome, X, by simp [execOp, go_sem, e30, hgq], Below.refl _ _, rfl⟩
    | n + 9, ho => simp at ho
  intro X vs hX hvs
  have q31 : vs 31 = _ := hvs 8 _ 31 rfl rfl
  simp only [RY.putAll, Act.put, List.setIfInBounds_toArray, List.set_cons_zero, List.set_cons_succ]
  rw [q31]
  generalize vs 23 = s23
  generalize vs 24 = s24
  generalize vs 25 = s25
  generalize vs 26 = s26
  generalize vs 27 = s27
  generalize vs 28 = s28
  generalize vs 29 = s29
  generalize vs 30 = s30
  clear hvs q31
  replace HB := uh (blw_trans HB.out hX)
  replace HUB := uh (HUB.out.later hX)
  replace HRS := uh (HRS.out.later hX)
  replace HGX := uh (rA_later HGX.out HPZ.out hX)
  replace HPZ := uh (Nat.lt_of_lt_of_le HPZ.out hX.size)
  clear hX HCF hgq
  cases hfi : (Pl.findB s k0 k1).isSome
  rotate_left
  ·
    have HE : Hid (Pl.beginC s ws = 9) := by show _ = _; rw [HC0.out, if_neg hr0, hnm, if_neg (by decide), hfi]; rfl
    have hth : X.there (b0 + 1) 0 (#[.string { data := #[] }, .string { data := #[] }, .slice none 0 0] : Array Value).size := uthere HRS.out.own _ _ (by simp)
    obtain ⟨we, hwe⟩ : ∃ we, we = X.setCells (b0 + 1) 0 [.string { data := #[] }, .string { data := #[] }, .slice none 0 0] := ⟨_, rfl⟩
    have hrt : we.rangeAt (b0 + 1) 0 [.string { data := #[] }, .string { data := #[] }, .slice none 0 0] := by rw [hwe]; exact World.rangeAt_setCells_same _ _ _ _ hth
    have HBB : Hid (Below w.heap.size w we) := by show Below _ _ _; rw [hwe]; exact blw_scs (by have := HBZ.out; omega) _ _ _ HB.out
    go_wp2_with (refine wpList_store_mid rfl 37 _ _ rfl (b0 + 1) 0 #[.string { data := #[] }, .string { data := #[] }, .slice none 0 0] rfl rfl hth (by kernel_rfl) (by simp [Value.oneCell']) ?_)
    first | rw [← hwe] | (simp only [List.toList_toArray]; rw [← hwe])
    try simp only [Act.put, List.setIfInBounds_toArray, List.set_cons_zero, List.set_cons_succ]
    refine bodyPost_ret (v := .tuple #[.agg #[.string { data := #[] }, .string { data := #[] }, .slice none 0 0], .int .i64 9]) (by simp [results, Tryz.results14, asAddr, run_loadVar_mid (P := Tryz.prog) _ _ _ 37 [.string { data := #[] }, .string { data := #[] }, .slice none 0 0] _ hrt Tryz.underlying37 rfl (by kernel_rfl)]) rfl ?_
    exact ⟨by unfold Pl.beginB; rw [HE.out]; rfl, HBB.out⟩
  have x0 := HUB.out.get 0 _ rfl
  have xl := HUB.out.lt
  by_cases hs60 : 60 ≤ s.length
  · have d3 : (60 : Int) ≤ (s.length : Int) := by omega
    have HE : Hid (Pl.beginC s ws = 10) := by show _ = _; rw [HC0.out, if_neg hr0, hnm, if_neg (by decide), hfi, if_neg (by decide), if_pos hs60]
    have hth : X.there (b0 + 1) 0 (#[.string { data := #[] }, .string { data := #[] }, .slice none 0 0] : Array Value).size := uthere HRS.out.own _ _ (by simp)
    obtain ⟨we, hwe⟩ : ∃ we, we = X.setCells (b0 + 1) 0 [.string { data := #[] }, .string { data := #[] }, .slice none 0 0] := ⟨_, rfl⟩
    have hrt : we.rangeAt (b0 + 1) 0 [.string { data := #[] }, .string { data := #[] }, .slice none 0 0] := by rw [hwe]; exact World.rangeAt_setCells_same _ _ _ _ hth
    have HBB : Hid (Below w.heap.size w we) := by show Below _ _ _; rw [hwe]; exact blw_scs (by have := HBZ.out; omega) _ _ _ HB.out
    go_wp2_with (refine wpList_store_mid rfl 37 _ _ rfl (b0 + 1) 0 #[.string { data := #[] }, .string { data := #[] }, .slice none 0 0] rfl rfl hth (by kernel_rfl) (by simp [Value.oneCell']) ?_)
    first | rw [← hwe] | (simp only [List.toList_toArray]; rw [← hwe])
    try simp only [Act.put, List.setIfInBounds_toArray, List.set_cons_zero, List.set_cons_succ]
    refine bodyPost_ret (v := .tuple #[.agg #[.string { data := #[] }, .string { data := #[] }, .slice none 0 0], .int .i64 10]) (by simp [results, Tryz.results14, asAddr, run_loadVar_mid (P := Tryz.prog) _ _ _ 37 [.string { data := #[] }, .string { data := #[] }, .slice none 0 0] _ hrt Tryz.underlying37 rfl (by kernel_rfl)]) rfl ?_
    exact ⟨by unfold Pl.beginB; rw [HE.out]; rfl, HBB.out⟩
  have HE : Hid (Pl.beginC s ws = 0) := by show _ = _; rw [HC0.out, if_neg hr0, hnm, if_neg (by decide), hfi, if_neg (by decide), if_neg hs60]
  have d3 : ¬ ((60 : Int) ≤ (s.length : Int)) := by omega
  go_upto_region 11 with fail
  clear x0 xl d3
  obtain ⟨Y, hY⟩ : ∃ Y, Y = X := ⟨_, rfl⟩
  rw [← hY] at HB HUB HRS HGX HPZ ⊢
  clear hY
  refine RY.region_se Y (Below.refl _ _) (VBb p o wc k0 k1) (VBb_mono _ _ _ _ _) (fun _ W' => W'.rangeAt (b0 + 1) 0 [.string k0, .string k1, .slice none 0 0] ∧ Below w.heap.size w W') 7 12 (fun _ _ _ _ h => h) (by kernel_rfl) (by kernel_rfl) (by kernel_rfl) (by kernel_rfl) rfl [6] (by kernel_rfl) (by kernel_rfl) _ rfl rfl (by kernel_rfl) _ rfl rfl (.int .i64 0) (fun a W => by simp [execOp, go_sem]) ?_ ?_ ?_
  · intro ii o' ho hii a X hX hk hd
    match ii, ho with
    | 0, ho =>
      injection ho with ho; subst ho
      have e1 : a.tmps[1]?.getD undef = .slice (some ⟨p, o, none⟩) 2 wc := (RY.ev_tmp a 1).trans ((hk 1 (by kernel_rfl)).trans rfl)
      exact Or.inl ⟨.slice (some ⟨p, o, none⟩) 2 wc, X, by simp [execOp, go_sem, e1], Below.refl _ _, rfl⟩
    | 1, ho =>
      injection ho with ho; subst ho
      have e38 : a.tmps[38]?.getD undef = .slice (some ⟨p, o, none⟩) 2 wc := (RY.ev_tmp a 38).trans (hd 0 _ 38 rfl rfl ⟨⟨0, .data⟩, by simp, rfl, rfl⟩ (by decide))
      exact Or.inl ⟨.pointer (some ⟨p, o, none⟩), X, by simp [execOp, go_sem, e38], Below.refl _ _, rfl⟩
    | 2, ho =>
      injection ho with ho; subst ho
      have e39 : a.tmps[39]?.getD undef = .pointer (some ⟨p, o, none⟩) := (RY.ev_tmp a 39).trans (hd 1 _ 39 rfl rfl ⟨⟨1, .data⟩, by simp, rfl, rfl⟩ (by decide))
      have ypl_ := Nat.lt_of_lt_of_le HPZ.out hX.size
      have ycl_ : X.cell? ⟨p, o, none⟩ = some (.string k0) := by have q := rA_get (rA_later HGX.out HPZ.out hX) 0 _ rfl; simpa using q
      exact Or.inl ⟨.string k0, X, by simp [execOp, go_sem, e39, ycl_], Below.refl _ _, rfl⟩
    | 3, ho =>
      injection ho with ho; subst ho
      have e1 : a.tmps[1]?.getD undef = .slice (some ⟨p, o, none⟩) 2 wc := (RY.ev_tmp a 1).trans ((hk 1 (by kernel_rfl)).trans rfl)
      exact Or.inl ⟨.slice (some ⟨p, o, none⟩) 2 wc, X, by simp [execOp, go_sem, e1], Below.refl _ _, rfl⟩
    | 4, ho =>
      injection ho with ho; subst ho
      have e41 : a.tmps[41]?.getD undef = .slice (some ⟨p, o, none⟩) 2 wc := (RY.ev_tmp a 41).trans (hd 3 _ 41 rfl rfl ⟨⟨3, .data⟩, by simp, rfl, rfl⟩ (by decide))
      exact Or.inl ⟨.pointer (some ⟨p, o + 1, none⟩), X, by simp [execOp, go_sem, e41], Below.refl _ _, rfl⟩
    | 5, ho =>
      injection ho with ho; subst ho
      have e42 : a.tmps[42]?.getD undef = .pointer (some ⟨p, o + 1, none⟩) := (RY.ev_tmp a 42).trans (hd 4 _ 42 rfl rfl ⟨⟨4, .data⟩, by simp, rfl, rfl⟩ (by decide))
      have ypl_ := Nat.lt_of_lt_of_le HPZ.out hX.size
      have ycl_ : X.cell? ⟨p, o + 1, none⟩ = some (.string k1) := by have q := rA_get (rA_later HGX.out HPZ.out hX) 1 _ rfl; simpa using q
      exact Or.inl ⟨.string k1, X, by simp [execOp, go_sem, e42, ycl_], Below.refl _ _, rfl⟩
    | 6, ho =>
      injection ho with ho; subst ho
      have e40 : a.tmps[40]?.getD undef = .string k0 := (RY.ev_tmp a 40).trans (hd 2 _ 40 rfl rfl ⟨⟨2, .data⟩, by simp, rfl, rfl⟩ (by decide))
      have e43 : a.tmps[43]?.getD undef = .string k1 := (RY.ev_tmp a 43).trans (hd 5 _ 43 rfl rfl ⟨⟨5, .data⟩, by simp, rfl, rfl⟩ (by decide))
      exact Or.inl ⟨.agg #[.string k0, .string k1, .slice none 0 0], X, by simp [execOp, go_sem, e40, e43], Below.refl _ _, rfl⟩
    | n + 7, ho => omega
  · intro a X vals hX hk hV hd
    have e2 : a.eval (.tmp 44) = _ := (hd 6 _ 44 rfl rfl ⟨⟨6, .data⟩, by simp, rfl, rfl⟩ (by decide)).trans (hV 6 (by decide))
    have t4 : a.eval (.tmp 4) = .pointer (some ⟨b0 + 1, 0, none⟩) := (hk 4 (by kernel_rfl)).trans rfl
    have hx2 := HRS.out.later hX
    have hth : X.there (b0 + 1) 0 3 := uthere hx2.own _ _ (by simp)
    exact ⟨X.setCells (b0 + 1) 0 [.string k0, .string k1, .slice none 0 0], RY.exec_store_mid _ _ _ rfl t4 e2 hth (by kernel_rfl) (by simp [Value.oneCell']), World.rangeAt_setCells_same _ _ _ _ hth, blw_scs (by have := HBZ.out; omega) _ _ _ (blw_trans HB.out hX)⟩
  · intro vals vs X hK hE hvs
    simp only [RY.putAll, Act.put, List.setIfInBounds_toArray, List.set_cons_zero, List.set_cons_succ]
    have q5 := (hvs 8 _ 5 rfl rfl).trans hE
    rw [q5]
    generalize vs 38 = s38
    generalize vs 39 = s39
    generalize vs 40 = s40
    generalize vs 41 = s41
    generalize vs 42 = s42
    generalize vs 43 = s43
    generalize vs 44 = s44
    clear hvs hE q5
    obtain ⟨hrt, hBB⟩ := hK
    have HBB := uh hBB
    clear hBB
    go_wp2
    refine bodyPost_ret (v := .tuple #[.agg #[.string k0, .string k1, .slice none 0 0], .int .i64 0]) (by simp [results, Tryz.results14, asAddr, run_loadVar_mid (P := Tryz.prog) _ _ _ 37 [.string k0, .string k1, .slice none 0 0] _ hrt Tryz.underlying37 rfl (by kernel_rfl)]) rfl ?_
    rw [HBB0.out HE.out, HE.out]
    exact ⟨rfl, HBB.out⟩

end Go.Proofs.YtdllbcafbfkngaaGreatDoor

namespace Go.Proofs.YtdllbcafbfkngaaGreatDoor
open Go.RowKit Go.Deep

theorem cutL_len : ∀ (n : Nat) (l : List UInt8) (m : Nat), l.length ≤ n → m ≤ 8 → ∀ ws, Pl.cutL l m = some ws → m + ws.length ≤ 8
  | 0, [], m, _, hm, ws, h => by rw [Pl.cutL] at h; injection h with h; subst h; simpa using hm
  | n + 1, [], m, _, hm, ws, h => by rw [Pl.cutL] at h; injection h with h; subst h; simpa using hm
  | n + 1, c :: r, m, hl, hm, ws, h => by
    rw [List.length_cons] at hl
    rw [Pl.cutL] at h
    split at h
    · exact cutL_len n r m (by omega) hm ws h
    · split at h
      · injection h with h; subst h; simpa using hm
      · split at h
        · cases h
        · rename_i x k _
          split at h
          · rename_i hc
            simp only [Bool.and_eq_true, decide_eq_true_eq] at hc
            obtain ⟨y, h1, h2⟩ := Option.map_eq_some_iff.1 h
            subst h2
            have := cutL_len n (r.drop k) (m + 1) (by rw [List.length_drop]; omega) (by omega) y h1
            simp only [List.length_cons]; omega
          · cases h
theorem cntL_tx : ∀ l : List ByteArray, cntL (txD l) = l.length
  | [] => by simp [txD, cntL]
  | x :: l => by show cntL (.s x :: txD l) = _; rw [cntL, cntL_tx l, List.length_cons]; omega
end Go.Proofs.YtdllbcafbfkngaaGreatDoor

namespace Go.Proofs.YtdllbcafbfkngaaGreatDoor.Pl

theorem cut_sizes : ∀ (n : Nat) (l : List UInt8) (m : Nat), l.length ≤ n → ∀ ws, cutL l m = some ws → ∀ w ∈ ws, w.size ≤ 200
  | 0, [], m, _, ws, h => by rw [cutL] at h; injection h with h; subst h; intro w hw; cases hw
  | n + 1, [], m, _, ws, h => by rw [cutL] at h; injection h with h; subst h; intro w hw; cases hw
  | n + 1, c :: r, m, hl, ws, h => by
    rw [List.length_cons] at hl
    rw [cutL] at h
    split at h
    · exact cut_sizes n r m (by omega) ws h
    · split at h
      · injection h with h; subst h; intro w hw; cases hw
      · split at h
        · cases h
        · rename_i x k _
          split at h
          · rename_i hc
            simp only [Bool.and_eq_true, decide_eq_true_eq] at hc
            obtain ⟨y, h1, h2⟩ := Option.map_eq_some_iff.1 h
            subst h2
            intro w hw
            rcases List.mem_cons.1 hw with rfl | q
            · show x.toArray.size ≤ 200
              simpa using hc.1.2
            · exact cut_sizes n (r.drop k) (m + 1) (by rw [List.length_drop]; omega) y h1 w q
          · cases h

end Go.Proofs.YtdllbcafbfkngaaGreatDoor.Pl

namespace Go.Proofs.YtdllbcafbfkngaaGreatDoor
open Go.RowKit Go.Deep

namespace Pl
/-- What has been read so far: the blocks, the one that is open, whether one is. -/
structure PS where
  acc : List Bl
  cur : Bl
  opn : Bool
def isEnd (st : PS) (ws : List ByteArray) : Bool := st.opn && (decide (ws.length = 1) && ((ws.getD 0 txNo).toList == [101, 110, 100]))
def wordsC (st : PS) (ws : List ByteArray) : Nat :=
  if ws.length = 0 then 0 else if isEnd st ws then 0 else if st.opn then insideC st.cur ws else beginC st.acc ws
def wordsS (st : PS) (ws : List ByteArray) : PS :=
  if ws.length = 0 then st else if isEnd st ws then ⟨putBl st.acc st.cur, st.cur, false⟩ else if st.opn then ⟨st.acc, insideB st.cur ws, true⟩ else ⟨st.acc, beginB st.acc ws, true⟩
def stepC (st : PS) (l : ByteArray) : Nat := match cutL l.data.toList 0 with
  | none => 1
  | some ws => wordsC st ws
def stepS (st : PS) (l : ByteArray) : PS := match cutL l.data.toList 0 with
  | none => st
  | some ws => wordsS st ws
def parseFrom (st : PS) : List ByteArray → Nat → List Bl × Nat × Nat
  | [], i => if st.opn then ([], i + 1, 8) else (st.acc, 0, 0)
  | l :: r, i => if stepC st l = 0 then parseFrom (stepS st l) r (i + 1) else ([], i + 1, stepC st l)
def psNo : PS := ⟨[], ⟨⟨#[]⟩, ⟨#[]⟩, []⟩, false⟩
def parseOut (t : ByteArray) : List Bl × Nat × Nat :=
  if 20000 < t.size then ([], 0, 11) else if 400 < (linL t).length then ([], 0, 11) else parseFrom psNo (linL t) 0
/-- Sizes of what has been read behind n lines. -/
structure OkP (n : Nat) (st : PS) : Prop where
  al : st.acc.length ≤ n
  cl : st.cur.lines.length ≤ n
  cw : ∀ x ∈ st.cur.lines, x.ws.length ≤ 8
  aw : ∀ b ∈ st.acc, b.lines.length ≤ n ∧ ∀ x ∈ b.lines, x.ws.length ≤ 8
theorem okNo : OkP 0 psNo := ⟨Nat.le_refl _, Nat.le_refl _, (by simp [psNo]), (by simp [psNo])⟩
theorem OkP.up {n : Nat} {st : PS} (h : OkP n st) : OkP (n + 1) st := ⟨Nat.le_succ_of_le h.al, Nat.le_succ_of_le h.cl, h.cw, fun b hb => ⟨Nat.le_succ_of_le (h.aw b hb).1, (h.aw b hb).2⟩⟩
theorem insideB_len (b : Bl) (ws : List ByteArray) : (insideB b ws).lines.length ≤ b.lines.length + 1 := by
  unfold insideB; split
  · simp only; rw [putLn_len]; exact Nat.le_refl _
  · omega
theorem insideB_ws (b : Bl) (ws : List ByteArray) (hb : ∀ x ∈ b.lines, x.ws.length ≤ 8) (hw : ws.length ≤ 8) : ∀ x ∈ (insideB b ws).lines, x.ws.length ≤ 8 := by
  unfold insideB; split
  · intro x hx
    rcases (putLn_mem _ _ _ _).1 hx with e | e
    · rw [e, insLn, List.length_drop]; omega
    · exact hb x e
  · exact hb
theorem beginB_lines (s : List Bl) (ws : List ByteArray) : (beginB s ws).lines = [] := by unfold beginB; split <;> rfl
theorem OkP.words {n : Nat} {st : PS} (h : OkP n st) (ws : List ByteArray) (hw : ws.length ≤ 8) : OkP (n + 1) (wordsS st ws) := by
  unfold wordsS
  split
  · exact h.up
  · split
    · refine ⟨?_, Nat.le_succ_of_le h.cl, h.cw, fun b hb => ?_⟩
      · simp only; rw [putBl_len]; have := h.al; omega
      · rcases (putBl_mem _ _ _).1 hb with e | e
        · rw [e]; exact ⟨Nat.le_succ_of_le h.cl, h.cw⟩
        · exact h.up.aw b e
    · split
      · exact ⟨h.up.al, Nat.le_trans (insideB_len _ _) (by have := h.cl; omega), insideB_ws _ _ h.cw hw, h.up.aw⟩
      · refine ⟨h.up.al, ?_, ?_, h.up.aw⟩
        · simp only; rw [beginB_lines]; simp
        · simp only; rw [beginB_lines]; simp
theorem drop_line (ls : List ByteArray) (k : Nat) (h : k < ls.length) : ls.drop k = ls.getD k txNo :: ls.drop (k + 1) := by
  rw [List.drop_eq_getElem_cons h]; simp [h]
theorem linA_size : ∀ (l acc : List UInt8) (x : List UInt8), x ∈ linA acc l → x.length ≤ acc.length + l.length
  | [], acc, x, h => by
    rw [linA] at h
    split at h
    · cases h
    · rw [List.mem_singleton] at h; subst h; simp
  | c :: l, acc, x, h => by
    rw [linA] at h
    split at h
    · rcases List.mem_cons.1 h with e | e
      · subst e; omega
      · have := linA_size l [] x e; simp only [List.length_cons, List.length_nil] at *; omega
    · have := linA_size l (acc ++ [c]) x h
      simp only [List.length_append, List.length_cons, List.length_nil] at *; omega
theorem linL_size (t x : ByteArray) (h : x ∈ linL t) : x.size ≤ t.size := by
  obtain ⟨y, hy, e⟩ := List.mem_map.1 h
  have := linA_size _ _ _ hy
  rw [len_data] at this
  rw [← e]
  show y.toArray.size ≤ _
  simpa using this
end Pl

end Go.Proofs.YtdllbcafbfkngaaGreatDoor
