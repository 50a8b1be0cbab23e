/-
  Sheets: the differences of two sheets: the specification.
-/
import Derived.Test.YtojcopamegmeeaaEVb
import Derived.Test.YtojcopamegmeeaaELc
import Derived.Test.YtojcopamegmeeaaEGf
import Derived.Test.YtojcopamegmeeaaECl
import Derived.Test.YtojcopamegmeeaaEOp
import Derived.Test.YtojcopamegmeeaaETx
namespace Go.Proofs.Ytojcopamegmeeaa
open Go.RowKit Go.Deep
namespace RY

theorem region_finC {P : Program} {id : Nat} {Q : Exit → Act → World → Prop} {a0 : Act} {w : World} {l : List Oper} (v : World) (hv : Below v.heap.size v w) (V : Nat → Value → World → Prop) (hVm : ∀ j u W W', Below W.heap.size W W' → V j u W → V j u W') (K : Value → World → Prop) (n fuel kL kA : Nat)
    (hm : P.follows .mixedOrders = true) (hasc : asc .any l.toArray = true) (hap : apartB l = true) (hpl : plainB l a0.tmps.size = true)
    (hclo : ((List.range n).all fun i => (clo l fuel [n]).contains i) = true) (hlen : l.length = n + 2) (hds : (l.all fun o => o.dst.isSome) = true)
    (oL oA : Oper) (hL : l[n]? = some oL) (hLd : oL.dst = some kL) (hA : l[n + 1]? = some oA) (hAd : oA.dst = some kA) (hAo : oA.op = .assign (.tmp kL)) (hAw : waits l (n + 1) n = true)
    (hop : ∀ (i : Nat) (o : Oper), l[i]? = some o → i < n → ∀ (a : Act) (W : World), Below v.heap.size v W → (∀ k, (∀ (j : Nat) (o' : Oper), l[j]? = some o' → o'.dst = some k → n ≤ j) → a.eval (.tmp k) = a0.eval (.tmp k)) →
      (∀ (j : Nat) (o' : Oper) (k : Nat), l[j]? = some o' → o'.dst = some k → (∃ e ∈ o.after, e.on = j ∧ Region.binds .any e = true) → j < n → V j (a.eval (.tmp k)) W) →
      (∃ u W', (execOp a.eval o).run P W = .ok (.value u) W' ∧ Below W.heap.size W W' ∧ V i u W') ∨ (∃ f args, (execOp a.eval o).run P W = .ok (.enter f args) W ∧ Calls P f args W fun e W' => ∃ u, e = .returned u ∧ Below W.heap.size W W' ∧ V i u W'))
    (hfin : ∀ (a : Act) (W : World), Below v.heap.size v W → (∀ k, (∀ (j : Nat) (o' : Oper), l[j]? = some o' → o'.dst = some k → n ≤ j) → a.eval (.tmp k) = a0.eval (.tmp k)) →
      (∀ (j : Nat) (o' : Oper) (k : Nat), l[j]? = some o' → o'.dst = some k → (∃ e ∈ oL.after, e.on = j ∧ Region.binds .any e = true) → j < n → V j (a.eval (.tmp k)) W) →
      ∃ u W', (execOp a.eval oL).run P W = .ok (.value u) W' ∧ K u W')
    (hend : ∀ (vs : Nat → Value) (W : World), K (vs kL) W → vs kA = vs kL → Q .normal (putAll l a0 vs) W) :
    (Code.region id l.toArray true).wp P Q a0 w := by
  have hdst : ∀ {i : Nat} {o : Oper}, l[i]? = some o → o.dst.isSome = true := fun h => by
    rw [List.all_eq_true] at hds
    exact hds _ (List.mem_of_getElem? h)
  refine region_TO (fun _ _ => True) (fun up vals W => (up n = false → up (n + 1) = false ∧ Below v.heap.size v W ∧ ∀ j, j < n → up j = true → V j (vals j) W) ∧ (up n = true → K (vals n) W) ∧ (up (n + 1) = true → vals (n + 1) = vals n)) hm hasc hap hpl ?_ ?_ ?_
  · intro vals
    exact ⟨fun _ => ⟨rfl, Below.drew hv, fun _ _ h => (by cases h)⟩, fun h => (by cases h), fun h => (by cases h)⟩
  · intro up vals i o ho hi hcl a W hk hd hT
    have hall : up n = true → ∀ j, j < n → up j = true := fun hn j hj => by
      rw [List.all_eq_true] at hclo
      have := hclo j (List.mem_range.2 hj)
      rw [List.contains_iff_mem] at this
      exact clo_up hcl fuel [n] (by simpa using hn) j this
    have hil : i < n + 2 := by rw [← hlen]; exact (List.getElem?_eq_some_iff.1 ho).1
    by_cases h1 : i < n
    · have hn : up n = false := by
        cases e : up n
        · rfl
        · rw [hall e i h1] at hi; cases hi
      obtain ⟨hn1, hB, hV⟩ := hT.1 hn
      have hop' := hop i o ho h1 a W hB (fun k hkk => hk k fun j o' hj hj' => by
          have := hkk j o' hj hj'
          have hjl : j < n + 2 := by rw [← hlen]; exact (List.getElem?_eq_some_iff.1 hj).1
          by_cases e : j = n
          · rw [e]; exact hn
          · have : j = n + 1 := by omega
            rw [this]; exact hn1)
        (fun j o' k hj hk' hdep hjn => by
          obtain ⟨q1, q2, _⟩ := hd j o' k hj hk' hdep
          rw [q2]; exact hV j hjn q1)
      have stp : ∀ u W', Below W.heap.size W W' → V i u W' → (((fun j => (j == i) || up j) n = false → (fun j => (j == i) || up j) (n + 1) = false ∧ Below v.heap.size v W' ∧ ∀ j, j < n → (fun j => (j == i) || up j) j = true → V j ((fun j => if j = i then u else vals j) j) W') ∧ ((fun j => (j == i) || up j) n = true → K ((fun j => if j = i then u else vals j) n) W') ∧ ((fun j => (j == i) || up j) (n + 1) = true → (fun j => if j = i then u else vals j) (n + 1) = (fun j => if j = i then u else vals j) n)) := by
        intro u W' hb hu
        refine ⟨fun _ => ⟨?_, blw_trans hB hb, fun j hj hup => ?_⟩, fun h => ?_, fun h => ?_⟩
        · simp [hn1]; omega
        · by_cases e : j = i
          · subst e; dsimp only; rw [if_pos rfl]; exact hu
          · dsimp only; rw [if_neg e]
            have : up j = true := by simpa [e] using hup
            exact hVm _ _ _ _ hb (hV j hj this)
        · have : up n = true := by have : n ≠ i := by omega
                                   simpa [this] using h
          rw [hn] at this; cases this
        · have : up (n + 1) = true := by have : n + 1 ≠ i := by omega
                                         simpa [this] using h
          rw [hn1] at this; cases this
      rcases hop' with ⟨u, W', hr, hb, hu⟩ | ⟨f, args, hr, hc⟩
      · exact Or.inl ⟨u, W', hr, hdst ho, trivial, stp u W' hb hu⟩
      · exact Or.inr (Or.inr ⟨f, args, hr, hdst ho, hc.mono fun e W' ⟨u, he, hb, hu⟩ => ⟨u, he, trivial, stp u W' hb hu⟩⟩)
    · by_cases h2 : i = n
      · subst h2
        obtain ⟨hn1, hB, hV⟩ := hT.1 hi
        obtain rfl : o = oL := Option.some.inj (ho.symm.trans hL)
        obtain ⟨u, W', hr, hK⟩ := hfin a W hB (fun k hkk => hk k fun j o' hj hj' => by
            have := hkk j o' hj hj'
            have hjl : j < i + 2 := by rw [← hlen]; exact (List.getElem?_eq_some_iff.1 hj).1
            by_cases e : j = i
            · rw [e]; exact hi
            · have : j = i + 1 := by omega
              rw [this]; exact hn1)
          (fun j o' k hj hk' hdep hjn => by
            obtain ⟨q1, q2, _⟩ := hd j o' k hj hk' hdep
            rw [q2]; exact hV j hjn q1)
        refine Or.inl ⟨u, W', hr, hdst ho, trivial, ⟨fun h => by simp at h, fun _ => by dsimp only; rw [if_pos rfl]; exact hK, fun h => ?_⟩⟩
        have : up (i + 1) = true := by simpa using h
        rw [hn1] at this; cases this
      · have h3 : i = n + 1 := by omega
        subst h3
        obtain rfl : o = oA := Option.some.inj (ho.symm.trans hA)
        obtain ⟨q1, q2, _⟩ := hd n oL kL hL hLd (by obtain ⟨e, he, h4, h5⟩ := waits_spec hAw hA; exact ⟨e, he, h4, h5⟩)
        refine Or.inl ⟨vals n, W, ?_, hdst ho, trivial, ⟨fun h => ?_, fun h => ?_, fun _ => ?_⟩⟩
        · rw [← q2]; simp [execOp, hAo]
        · dsimp only at h; rw [q1] at h; simp at h
        · have : n ≠ n + 1 := by omega
          dsimp only; rw [if_neg this]; exact hT.2.1 q1
        · have : n ≠ n + 1 := by omega
          dsimp only; rw [if_pos rfl, if_neg this]
  · intro up vals vs W hup hvs hT
    have h1 := hvs n oL kL hL hLd
    have h2 := hvs (n + 1) oA kA hA hAd
    have u1 := hup n (by omega)
    have u2 := hup (n + 1) (by omega)
    refine hend vs W ?_ ?_
    · rw [h1.1]; exact hT.2.1 u1
    · rw [h1.1, h2.1]; exact hT.2.2 u2
end RY
end Go.Proofs.Ytojcopamegmeeaa

namespace Go.Proofs.Ytojcopamegmeeaa
open Go.RowKit Go.Deep

def VDa (b0 : Nat) (p : Nat) (o : Nat) (na : Nat) (ac : Nat) (nb : Nat) (bc : Nat) (k : Nat) (ba : Option Addr) (x : Pl.Bl) (fo : Option Nat) : Nat → Value → World → Prop
  | 0, vv, _ => vv = .agg #[.slice ba nb bc]
  | 1, vv, _ => vv = .pointer (some ⟨b0, 0, none⟩)
  | 2, vv, _ => vv = .slice (some ⟨p, o, none⟩) na ac
  | 3, vv, _ => vv = .int .i64 (k : Int)
  | 4, vv, _ => vv = .pointer (some ⟨p, o + k * 3, none⟩)
  | 5, vv, _ => vv = .pointer (some ⟨p, o + k * 3, none⟩)
  | 6, vv, _ => vv = .string x.kind
  | 7, vv, _ => vv = .pointer (some ⟨b0, 0, none⟩)
  | 8, vv, _ => vv = .slice (some ⟨p, o, none⟩) na ac
  | 9, vv, _ => vv = .int .i64 (k : Int)
  | 10, vv, _ => vv = .pointer (some ⟨p, o + k * 3, none⟩)
  | 11, vv, _ => vv = .pointer (some ⟨p, o + k * 3 + 1, none⟩)
  | 12, vv, _ => vv = .string x.name
  | 13, vv, _ => vv = .int .i64 (Pl.ixI fo)
  | 14, vv, _ => vv = .bool fo.isNone
  | _, _, _ => True
theorem VDa_mono (b0 : Nat) (p : Nat) (o : Nat) (na : Nat) (ac : Nat) (nb : Nat) (bc : Nat) (k : Nat) (ba : Option Addr) (x : Pl.Bl) (fo : Option Nat) : ∀ jj vv W W', Below W.heap.size W W' → VDa b0 p o na ac nb bc k ba x fo jj vv W → VDa b0 p o na ac nb bc k ba x fo jj vv W' := by
  intro jj vv W W' hb h
  match jj with
  | 0 => exact h
  | 1 => exact h
  | 2 => exact h
  | 3 => exact h
  | 4 => exact h
  | 5 => exact h
  | 6 => exact h
  | 7 => exact h
  | 8 => exact h
  | 9 => exact h
  | 10 => exact h
  | 11 => exact h
  | 12 => exact h
  | 13 => exact h
  | 14 => exact h
  | n + 15 => exact trivial
def VDb (b0 : Nat) (p : Nat) (o : Nat) (na : Nat) (ac : Nat) (k : Nat) (m : Nat) (uc : Nat) (N0 : Nat) (ua : Option Addr) (x : Pl.Bl) : Nat → Value → World → Prop
  | 0, vv, _ => vv = .slice ua m uc
  | 1, vv, _ => vv = .pointer (some ⟨b0, 0, none⟩)
  | 2, vv, _ => vv = .slice (some ⟨p, o, none⟩) na ac
  | 3, vv, _ => vv = .int .i64 (k : Int)
  | 4, vv, _ => vv = .pointer (some ⟨p, o + k * 3, none⟩)
  | 5, vv, _ => vv = .pointer (some ⟨p, o + k * 3, none⟩)
  | 6, vv, _ => vv = .string x.kind
  | 7, vv, _ => vv = .pointer (some ⟨b0, 0, none⟩)
  | 8, vv, _ => vv = .slice (some ⟨p, o, none⟩) na ac
  | 9, vv, _ => vv = .int .i64 (k : Int)
  | 10, vv, _ => vv = .pointer (some ⟨p, o + k * 3, none⟩)
  | 11, vv, _ => vv = .pointer (some ⟨p, o + k * 3 + 1, none⟩)
  | 12, vv, _ => vv = .string x.name
  | 13, vv, _ => vv = .agg #[.int .i64 1, .string x.kind, .string x.name, .string { data := #[] }, .slice none 0 0]
  | 14, vv, W => ∃ y1 y2 F, vv = .slice y1 1 y2 ∧ Rep W false shChs F [.row 1 (chD (Pl.goneCh x))] [.slice y1 1 y2] ∧ F.Nodup ∧ ∀ z ∈ F, N0 ≤ z
  | _, _, _ => True
theorem VDb_mono (b0 : Nat) (p : Nat) (o : Nat) (na : Nat) (ac : Nat) (k : Nat) (m : Nat) (uc : Nat) (N0 : Nat) (ua : Option Addr) (x : Pl.Bl) : ∀ jj vv W W', Below W.heap.size W W' → VDb b0 p o na ac k m uc N0 ua x jj vv W → VDb b0 p o na ac k m uc N0 ua x jj vv W' := by
  intro jj vv W W' hb h
  match jj with
  | 0 => exact h
  | 1 => exact h
  | 2 => exact h
  | 3 => exact h
  | 4 => exact h
  | 5 => exact h
  | 6 => exact h
  | 7 => exact h
  | 8 => exact h
  | 9 => exact h
  | 10 => exact h
  | 11 => exact h
  | 12 => exact h
  | 13 => exact h
  | 14 =>
    obtain ⟨y1, y2, F, h1, h2, h3⟩ := h
    exact ⟨y1, y2, F, h1, h2.later hb, h3⟩
  | n + 15 => exact trivial
def VDc (py : Nat) (m : Nat) (uc : Nat) (N0 : Nat) (ua : Option Addr) (ya : Option Addr) (yc : Nat) (y : Pl.Bl) : Nat → Value → World → Prop
  | 0, vv, _ => vv = .slice ua m uc
  | 1, vv, _ => vv = .pointer (some ⟨py, 0, none⟩)
  | 2, vv, _ => vv = .string y.kind
  | 3, vv, _ => vv = .pointer (some ⟨py, 1, none⟩)
  | 4, vv, _ => vv = .string y.name
  | 5, vv, _ => vv = .pointer (some ⟨py, 2, none⟩)
  | 6, vv, _ => vv = .slice ya y.lines.length yc
  | 7, vv, W => ∃ y1 y2 F, vv = .slice y1 y.lines.length y2 ∧ Rep W false shLns F [lnsD y.lines] [.slice y1 y.lines.length y2] ∧ F.Nodup ∧ ∀ z ∈ F, N0 ≤ z
  | 8, vv, W => ∃ y1 y2 F, vv = .agg #[.int .i64 2, .string y.kind, .string y.name, .string { data := #[] }, .slice y1 y.lines.length y2] ∧ Rep W false shLns F [lnsD y.lines] [.slice y1 y.lines.length y2] ∧ F.Nodup ∧ ∀ z ∈ F, N0 ≤ z
  | 9, vv, W => ∃ y1 y2 F, vv = .slice y1 1 y2 ∧ Rep W false shChs F [.row 1 (chD (Pl.newCh y))] [.slice y1 1 y2] ∧ F.Nodup ∧ ∀ z ∈ F, N0 ≤ z
  | _, _, _ => True
theorem VDc_mono (py : Nat) (m : Nat) (uc : Nat) (N0 : Nat) (ua : Option Addr) (ya : Option Addr) (yc : Nat) (y : Pl.Bl) : ∀ jj vv W W', Below W.heap.size W W' → VDc py m uc N0 ua ya yc y jj vv W → VDc py m uc N0 ua ya yc y jj vv W' := by
  intro jj vv W W' hb h
  match jj with
  | 0 => exact h
  | 1 => exact h
  | 2 => exact h
  | 3 => exact h
  | 4 => exact h
  | 5 => exact h
  | 6 => exact h
  | 7 =>
    obtain ⟨y1, y2, F, h1, h2, h3⟩ := h
    exact ⟨y1, y2, F, h1, h2.later hb, h3⟩
  | 8 =>
    obtain ⟨y1, y2, F, h1, h2, h3⟩ := h
    exact ⟨y1, y2, F, h1, h2.later hb, h3⟩
  | 9 =>
    obtain ⟨y1, y2, F, h1, h2, h3⟩ := h
    exact ⟨y1, y2, F, h1, h2.later hb, h3⟩
  | n + 10 => exact trivial
def VDd (b0 : Nat) (p : Nat) (o : Nat) (na : Nat) (ac : Nat) (m : Nat) (uc : Nat) (q : Nat) (N0 : Nat) (ua : Option Addr) (xa : Option Addr) (ya : Option Addr) (xc : Nat) (yc : Nat) (x : Pl.Bl) (y : Pl.Bl) (L : List Pl.Ch) : Nat → Value → World → Prop
  | 0, vv, _ => vv = .slice ua m uc
  | 1, vv, _ => vv = .pointer (some ⟨b0, 0, none⟩)
  | 2, vv, _ => vv = .slice (some ⟨p, o, none⟩) na ac
  | 3, vv, _ => vv = .int .i64 (q : Int)
  | 4, vv, _ => vv = .pointer (some ⟨p, o + q * 3, none⟩)
  | 5, vv, _ => vv = .agg #[.string x.kind, .string x.name, .slice xa x.lines.length xc]
  | 6, vv, _ => vv = .agg #[.string y.kind, .string y.name, .slice ya y.lines.length yc]
  | 7, vv, W => ∃ y1 y2 F, vv = .slice y1 L.length y2 ∧ Rep W false shChs F [chsD L] [.slice y1 L.length y2] ∧ F.Nodup ∧ ∀ z ∈ F, N0 ≤ z
  | _, _, _ => True
theorem VDd_mono (b0 : Nat) (p : Nat) (o : Nat) (na : Nat) (ac : Nat) (m : Nat) (uc : Nat) (q : Nat) (N0 : Nat) (ua : Option Addr) (xa : Option Addr) (ya : Option Addr) (xc : Nat) (yc : Nat) (x : Pl.Bl) (y : Pl.Bl) (L : List Pl.Ch) : ∀ jj vv W W', Below W.heap.size W W' → VDd b0 p o na ac m uc q N0 ua xa ya xc yc x y L jj vv W → VDd b0 p o na ac m uc q N0 ua xa ya xc yc x y L jj vv W' := by
  intro jj vv W W' hb h
  match jj with
  | 0 => exact h
  | 1 => exact h
  | 2 => exact h
  | 3 => exact h
  | 4 => exact h
  | 5 => exact h
  | 6 => exact h
  | 7 =>
    obtain ⟨y1, y2, F, h1, h2, h3⟩ := h
    exact ⟨y1, y2, F, h1, h2.later hb, h3⟩
  | n + 8 => exact trivial

theorem diffBl_len (a b : Pl.Bl) : (Pl.diffBl a b).length ≤ 12 := Nat.le_trans (keyChs_len a b _) (rules_len _)
theorem diffOne_len (a : List Pl.Bl) (y : Pl.Bl) : (Pl.diffOne a y).length ≤ 12 := by
  unfold Pl.diffOne
  split
  · simp
  · exact diffBl_len _ _
theorem diffs_len (a : List Pl.Bl) : ∀ l : List Pl.Bl, (l.flatMap (Pl.diffOne a)).length ≤ l.length * 12
  | [] => by simp
  | y :: l => by
    have := diffs_len a l
    have h2 := diffOne_len a y
    rw [List.flatMap_cons, List.length_append, List.length_cons, Nat.succ_mul]; omega
def diffFo (a : List Pl.Bl) (y : Pl.Bl) : Option Nat → List Pl.Ch
  | none => [Pl.newCh y]
  | some q => Pl.diffBl (a.getD q Pl.blNo) y
theorem diffOne_fo (a : List Pl.Bl) (y : Pl.Bl) : Pl.diffOne a y = diffFo a y (Pl.findB a y.kind y.name) := by
  unfold Pl.diffOne
  cases Pl.findB a y.kind y.name <;> rfl
def diffTo (ga : List Pl.Ch) (a b : List Pl.Bl) (k : Nat) : List Pl.Ch := ga ++ (b.take k).flatMap (Pl.diffOne a)
def goneTo (a b : List Pl.Bl) (k : Nat) : List Pl.Ch := ((a.take k).filter (Pl.noIn b)).map Pl.goneCh
theorem goneTo_step {a b : List Pl.Bl} {k : Nat} (hk : k < a.length) : goneTo a b (k + 1) = if Pl.noIn b (a.getD k Pl.blNo) then goneTo a b k ++ [Pl.goneCh (a.getD k Pl.blNo)] else goneTo a b k := by
  unfold goneTo
  rw [Pl.filtB_step hk]
  split <;> simp
theorem goneTo_len (a b : List Pl.Bl) (k : Nat) : (goneTo a b k).length ≤ a.length := by
  unfold goneTo
  rw [List.length_map]
  exact Nat.le_trans (List.length_filter_le _ _) (by rw [List.length_take]; omega)
set_option maxRecDepth 8000 in
set_option maxHeartbeats 16000000 in
theorem sheetDiffS (a b : List Pl.Bl) (av bv : Value) (w : World) (ha : Raw w shBls [blsD a] [av]) (hb : Raw w shBls [blsD b] [bv]) (hza : okTx a) (hzb : okTx b) (hla : ∀ z ∈ a, z.lines.length ≤ 4194304 ∧ ∀ x ∈ z.lines, x.ws.length ≤ 4194304) (hlb : ∀ z ∈ b, z.lines.length ≤ 4194304 ∧ ∀ x ∈ z.lines, x.ws.length ≤ 4194304) :
    Calls Try.prog 5 #[.agg #[av], .agg #[bv]] w (AnsL shChs (chsD (Pl.diffOut a b)) w) := by
  obtain ⟨aa, ac, rfl⟩ := ha.len0
  obtain ⟨ba, bc, rfl⟩ := hb.len0
  have HA := uh ha
  have HB := uh hb
  have HZA := uh hza
  have HZB := uh hzb
  have HLA := uh hla
  have HLB := uh hlb
  have HDE : Hid (Pl.diffOut a b = if Pl.validS a && Pl.validS b then (a.filter (Pl.noIn b)).map Pl.goneCh ++ b.flatMap (Pl.diffOne a) else []) := rfl
  clear ha hb hza hzb hla hlb
  obtain ⟨na, hna⟩ : ∃ n, n = a.length := ⟨_, rfl⟩
  obtain ⟨nb, hnb⟩ : ∃ n, n = b.length := ⟨_, rfl⟩
  have HNA := uh hna
  have HNB := uh hnb
  have e1 : a.length = na := hna.symm
  have e2 : b.length = nb := hnb.symm
  clear hna hnb
  rw [e1, e2]
  clear e1 e2
  obtain ⟨b0, hb0⟩ : ∃ b, b = w.heap.size := ⟨_, rfl⟩
  have HZ0 := uh hb0
  obtain ⟨wa, hwa⟩ : ∃ wa, wa = (w.alloc (.cells #[.slice aa na ac] 30)).alloc (.cells #[.slice ba nb bc] 30) := ⟨_, rfl⟩
  have HBW : Hid (Below w.heap.size w wa) := by show Below _ _ _; rw [hwa]; exact blw_alloc (blw_alloc (Below.refl _ _) _) _
  have HA00 : Hid (LBox wa b0 [.slice aa na ac]) := by show LBox _ _ _; rw [hwa, hb0]; exact (LBox.new w #[.slice aa na ac] _ _ rfl).past _
  have HB00 : Hid (LBox wa (b0 + 1) [.slice ba nb bc]) := by show LBox _ _ _; rw [hwa]; exact LBox.new _ #[.slice ba nb bc] _ _ (by simp [hb0])
  have HAW : Hid (Raw wa shBls [blsD a] [.slice aa na ac]) := by show Raw _ _ _ _; rw [HNA.out]; exact HA.out.later HBW.out
  have HBB : Hid (Raw wa shBls [blsD b] [.slice ba nb bc]) := by show Raw _ _ _ _; rw [HNB.out]; exact HB.out.later HBW.out
  go_enter Try.func5, Try.ntmps5
  go_upto_region 1 with fail
  rw [← hwa, ← hb0]
  clear hwa hb0 HA HB
  obtain ⟨w1, hw1⟩ : ∃ w1, w1 = wa.alloc (.cells #[] 44) := ⟨_, rfl⟩
  have hb1 : Below wa.heap.size wa w1 := by rw [hw1]; exact blw_alloc (Below.refl _ _) _
  obtain ⟨g0, hg0⟩ : ∃ g, g = wa.heap.size := ⟨_, rfl⟩
  have HGr : Hid (Gr w1 wa.heap.size 44 shSheetChange (.slice (some ⟨g0, 0, none⟩) 0 0) 0 [] [] []) := by
    show Gr _ _ _ _ _ _ _ _ _
    rw [hw1, hg0]; exact Gr.emp shSheetChange (heap_alloc_new wa _) (Nat.le_refl _)
  go_upto_region 2 with fail
  rw [← hw1, ← hg0]
  clear hw1 hg0
  have HBr := uh hb1
  clear hb1
  have xa0 := (HA00.out.later HBr.out).get 0 _ rfl
  have xal := (HA00.out.later HBr.out).lt
  have HV1 := uh (sheetValidS a (.slice aa na ac) w1 (HAW.out.later HBr.out) HZA.out)
  obtain ⟨v1, hv1⟩ : ∃ x, x = Pl.validS a := ⟨_, rfl⟩
  obtain ⟨v2, hv2⟩ : ∃ x, x = Pl.validS b := ⟨_, rfl⟩
  have HVL : Hid ((v1 = true → na ≤ 60) ∧ (v2 = true → nb ≤ 60)) := ⟨fun h => by rw [HNA.out]; exact Pl.valid_len (hv1 ▸ h), fun h => by rw [HNB.out]; exact Pl.valid_len (hv2 ▸ h)⟩
  rw [← hv1] at HV1 HDE
  rw [← hv2] at HDE
  go_wp2_with fail
  refine HV1.out.mono ?_
  rintro e w2 ⟨rfl, hb2⟩
  replace HGr := uh (HGr.out.later hb2)
  replace HBr := uh (blw_trans HBr.out hb2)
  clear hb2 HV1 xa0 xal
  have HEMP : Hid (∀ X, Below w2.heap.size w2 X → Pl.diffOut a b = [] → AnsL shChs (chsD (Pl.diffOut a b)) w (.returned (.slice (some ⟨g0, 0, none⟩) 0 0)) X) := fun X hX he => by
    rw [he]; exact ⟨_, [], rfl, .emp _ _ _ rfl .nil, List.nodup_nil, by simp, blw_trans HBW.out (blw_trans HBr.out hX)⟩
  cases v1
  · have HX := uh (HEMP.out w2 (Below.refl _ _) HDE.out)
    clear HEMP hv1 hv2
    go_wp2
    go_ret
    exact HX.out
  have xb0 := (HB00.out.later HBr.out).get 0 _ rfl
  have xbl := (HB00.out.later HBr.out).lt
  have HV2 : Hid (Calls Try.prog 14 #[.agg #[.slice ba nb bc]] w2 fun e w' => e = .returned (.bool v2) ∧ Below w2.heap.size w2 w') := by rw [hv2]; exact sheetValidS b (.slice ba nb bc) w2 (HBB.out.later HBr.out) HZB.out
  clear hv1 hv2
  go_wp2_with fail
  refine HV2.out.mono ?_
  rintro e w3 ⟨rfl, hb3⟩
  cases v2
  · have HX := uh (HEMP.out w3 hb3 HDE.out)
    clear HEMP hb3
    go_wp2
    go_ret
    exact HX.out
  replace HGr := uh (HGr.out.later hb3)
  replace HBr := uh (blw_trans HBr.out hb3)
  clear HEMP hb3 HV2 xb0 xbl
  replace HDE : Hid (Pl.diffOut a b = (a.filter (Pl.noIn b)).map Pl.goneCh ++ b.flatMap (Pl.diffOne a)) := HDE.out
  have hna60 : na ≤ 60 := HVL.out.1 (by first | rfl | trivial)
  have hnb60 : nb ≤ 60 := HVL.out.2 (by first | rfl | trivial)
  clear HVL
  have HS0 : Hid (∀ X, Below w3.heap.size w3 X → Below wa.heap.size wa X) := fun X hX => blw_trans HBr.out hX
  go_wp2
  go_loopw [5, 6] (fun vo vi wr => ∃ (k : Nat) (G : List Nat) (xs : List Value), k ≤ na ∧ vi = .int .i64 k ∧ Gr wr wa.heap.size 44 shSheetChange vo (goneTo a b k).length G ((goneTo a b k).flatMap chD) xs ∧ Below wa.heap.size wa wr) (fun _ vi _ => na - (intOf vi).toNat)
  case atStart => exact ⟨0, [], [], Nat.zero_le _, rfl, HGr.out, HBr.out⟩
  case round =>
    obtain ⟨k, G, xs, hk, rfl, hG, hB⟩ := hrel
    clear HGr HBr HS0
    have HGr := uh hG
    have HBr := uh hB
    obtain ⟨ua, uc, huu⟩ := hG.shape
    subst huu
    have HA0 := uh (HA00.out.later hB)
    have HB0 := uh (HB00.out.later hB)
    clear hG hB
    have x0 := HA0.out.get 0 _ rfl
    have xl := HA0.out.lt
    by_cases hlt : k < na
    rotate_left
    · have hks : goneTo a b k = (a.filter (Pl.noIn b)).map Pl.goneCh := by unfold goneTo; rw [List.take_of_length_le (by have := HNA.out; omega)]
      have hgl := goneTo_len a b k
      rw [hks] at HGr hgl ⊢
      obtain ⟨ga, hga⟩ : ∃ ga, ga = (a.filter (Pl.noIn b)).map Pl.goneCh := ⟨_, rfl⟩
      rw [← hga] at HGr HDE hgl ⊢
      have HGL : Hid (ga.length ≤ 60) := by have := HNA.out; show _ ≤ _; omega
      clear hks hga hgl
      go_wp2
      clear x0 xl HA0 HB0
      go_loopw [5, 7] (fun vo vi wr => ∃ (k : Nat) (G : List Nat) (xs : List Value), k ≤ nb ∧ vi = .int .i64 k ∧ Gr wr wa.heap.size 44 shSheetChange vo (diffTo ga a b k).length G ((diffTo ga a b k).flatMap chD) xs ∧ Below wa.heap.size wa wr) (fun _ vi _ => nb - (intOf vi).toNat)
      case atStart => exact ⟨0, G, xs, Nat.zero_le _, rfl, by rw [show diffTo ga a b 0 = ga by simp [diffTo]]; exact HGr.out, HBr.out⟩
      case round =>
        obtain ⟨k2, G2, xs2, hk2, rfl, hG, hB⟩ := hrel
        clear HGr HBr
        have HGr := uh hG
        have HBr := uh hB
        obtain ⟨ua2, uc2, huu⟩ := hG.shape
        subst huu
        have HA0 := uh (HA00.out.later hB)
        have HB0 := uh (HB00.out.later hB)
        clear hG hB
        have x1 := HB0.out.get 0 _ rfl
        have xl1 := HB0.out.lt
        by_cases hlt2 : k2 < nb
        rotate_left
        · have hks : diffTo ga a b k2 = Pl.diffOut a b := by unfold diffTo; rw [HDE.out, List.take_of_length_le (by have := HNB.out; omega)]
          obtain ⟨dd, hdd⟩ : ∃ z, z = diffTo ga a b k2 := ⟨_, rfl⟩
          rw [← hdd] at HGr hks ⊢
          obtain ⟨F, r, nd, fr⟩ := HGr.out.done
          have HD : Hid (AnsL shChs (chsD (Pl.diffOut a b)) w (.returned (.slice ua2 dd.length uc2)) wr) := by rw [← hks]; exact ⟨_, F, rfl, r, nd, fun z hz => Nat.le_trans HBW.out.size (fr z hz), blw_trans HBW.out HBr.out⟩
          clear r nd fr hks hdd
          go_wp2
          go_ret
          exact HD.out
        have hkL2 : k2 < b.length := by have := HNB.out; omega
        rcases bls_open (HBB.out.later HBr.out) with ⟨e0, _⟩ | ⟨p2, o2, c2, hv2, hp2, hml2, hopen2⟩
        · have := HNB.out; omega
        rw [← HNB.out] at hv2
        injection hv2 with g1 _ g3
        subst g1; subst g3
        obtain ⟨ya, yc, hgy, hry⟩ := hopen2 k2 hkL2
        have HLY : Hid ((b.getD k2 Pl.blNo).lines.length ≤ 4194304 ∧ ∀ x ∈ (b.getD k2 Pl.blNo).lines, x.ws.length ≤ 4194304) := by
          have e : b.getD k2 Pl.blNo = b[k2] := by simp [hkL2]
          show _ ∧ _
          rw [e]; exact HLB.out _ (List.getElem_mem hkL2)
        have HTK : Hid (b.take (k2 + 1) = b.take k2 ++ [b.getD k2 Pl.blNo]) := by
          have e : b.getD k2 Pl.blNo = b[k2] := by simp [hkL2]
          show _ = _
          rw [e, List.take_succ_eq_append_getElem hkL2]
        have HML : Hid ((diffTo ga a b k2).length ≤ 10000) := by
          have h1 := diffs_len a (b.take k2)
          rw [List.length_take] at h1
          have := HGL.out; have := HNB.out
          show _ ≤ _
          unfold diffTo
          rw [List.length_append]; omega
        obtain ⟨y, hy⟩ : ∃ y, y = b.getD k2 Pl.blNo := ⟨_, rfl⟩
        rw [← hy] at hgy hry HLY HTK
        obtain ⟨ac0, hac⟩ : ∃ z, z = diffTo ga a b k2 := ⟨_, rfl⟩
        have HST : Hid (diffTo ga a b (k2 + 1) = ac0 ++ Pl.diffOne a y) := by show _ = _; rw [hac]; unfold diffTo; rw [HTK.out, List.flatMap_append, List.flatMap_singleton, List.append_assoc]
        rw [← hac] at HGr HML ⊢
        obtain ⟨m, hm⟩ : ∃ m, m = ac0.length := ⟨_, rfl⟩
        rw [← hm] at HGr HML ⊢
        have HM := uh hm
        obtain ⟨es, hes⟩ : ∃ es, es = ac0.flatMap chD := ⟨_, rfl⟩
        rw [← hes] at HGr
        have HES := uh hes
        have hk0 : (0 : Int) ≤ (k2 : Int) := by omega
        have hkn : (k2 : Int) < (nb : Int) := by omega
        obtain ⟨w12, hw12⟩ : ∃ z, z = wr.alloc (.cells #[.string y.kind, .string y.name, .slice ya y.lines.length yc] 42) := ⟨_, rfl⟩
        obtain ⟨py, hpy⟩ : ∃ z, z = wr.heap.size := ⟨_, rfl⟩
        have hb12 : Below wr.heap.size wr w12 := by rw [hw12]; exact blw_alloc (Below.refl _ _) _
        have HYB : Hid (LBox w12 py [.string y.kind, .string y.name, .slice ya y.lines.length yc]) := by show LBox _ _ _; rw [hw12, hpy]; exact LBox.new wr #[.string y.kind, .string y.name, .slice ya y.lines.length yc] _ _ rfl
        clear hac hm hes hy
        go_upto_region 13 with (refine wpList_load_mid rfl 42 _ rfl p2 (o2 + k2 * 3) rfl [.string y.kind, .string y.name, .slice ya y.lines.length yc] _ hgy Try.underlying42 rfl (by kernel_rfl) ?_)
        rw [← hw12, ← hpy]
        clear hw12 hpy hgy hp2 hopen2 hml2 x1 xl1
        replace HGr := uh (HGr.out.later hb12)
        replace HBr := uh (blw_trans HBr.out hb12)
        replace HA0 := uh (HA0.out.later hb12)
        have HRY := uh (hry.later hb12)
        clear hry hb12
        obtain ⟨fo, hfo⟩ : ∃ fo, fo = Pl.findB a y.kind y.name := ⟨_, rfl⟩
        have HFO := uh hfo
        have HCF := uh (l39FindS a (.slice aa na ac) y.kind y.name w12 (HAW.out.later HBr.out))
        rw [← hfo] at HCF
        have HD1 : Hid (Pl.diffOne a y = diffFo a y fo) := by show _ = _; rw [hfo]; exact diffOne_fo a y
        clear hfo
        have z0 := HA0.out.get 0 _ rfl
        have za := HA0.out.at_
        have zl := HA0.out.lt
        have y0 := HYB.out.get 0 _ rfl
        have y1 := HYB.out.get 1 _ rfl
        have yl := HYB.out.lt
        go_wp2_with fail
        refine HCF.out.mono ?_
        rintro e w13 ⟨rfl, hb13⟩
        replace HGr := uh (HGr.out.later hb13)
        replace HBr := uh (blw_trans HBr.out hb13)
        replace HA0 := uh (HA0.out.later hb13)
        replace HYB := uh (HYB.out.later hb13)
        replace HRY := uh (HRY.out.later hb13)
        clear hb13 HCF z0 za zl y0 y1 yl
        obtain ⟨ua, hua⟩ : ∃ z, z = ua2 := ⟨_, rfl⟩
        obtain ⟨uc, huc⟩ : ∃ z, z = uc2 := ⟨_, rfl⟩
        rw [← hua, ← huc] at HGr ⊢
        clear hua huc
        cases fo with
        | none =>
          have hmi : Pl.ixI none = -1 := rfl
          rw [hmi]
          clear hmi
          have HE : Hid (diffTo ga a b (k2 + 1) = ac0 ++ [Pl.newCh y]) := by show _ = _; rw [HST.out, HD1.out]; rfl
          have HCN : Hid ((1 : Nat) ≤ 100) := by show (1 : Nat) ≤ 100; decide
          have HCL := uh (fun (X : World) (hX : Below w13.heap.size w13 X) => l39LinesS y.lines (.slice ya y.lines.length yc) X (HRY.out.later hX) HLY.out.1 HLY.out.2)
          go_upto_region 15 with fail
          refine RY.region_finC w13 (Below.refl _ _) (VDc py m uc w13.heap.size ua ya yc y) (VDc_mono _ _ _ _ _ _ _ _) (fun u W' => ∃ g' c' G' xs', u = .slice g' (m + 1) c' ∧ Gr W' wa.heap.size 44 shSheetChange u (m + 1) G' (es ++ chD (Pl.newCh y)) xs' ∧ Below wa.heap.size wa W') 10 12 88 5 (by kernel_rfl) (by kernel_rfl) (by kernel_rfl) (by kernel_rfl) (by kernel_rfl) rfl (by kernel_rfl) _ _ rfl rfl rfl rfl rfl (by kernel_rfl) ?_ ?_ ?_
          · intro ii o' ho hii a X hX hk hd
            have zpy := HYB.out.later hX
            have zpyl := zpy.lt
            match ii, ho with
            | 0, ho =>
              injection ho with ho; subst ho
              have e5 : a.tmps[5]?.getD undef = .slice ua m uc := (RY.ev_tmp a 5).trans ((hk 5 (RY.late_spec (by kernel_rfl))).trans rfl)
              exact Or.inl ⟨.slice ua m uc, X, by simp [execOp, go_sem, e5], Below.refl _ _, rfl⟩
            | 1, ho =>
              injection ho with ho; subst ho
              have e8 : a.tmps[8]?.getD undef = .pointer (some ⟨py, 0, none⟩) := (RY.ev_tmp a 8).trans ((hk 8 (RY.late_spec (by kernel_rfl))).trans rfl)
              exact Or.inl ⟨.pointer (some ⟨py, 0, none⟩), X, by simp [execOp, go_sem, e8], Below.refl _ _, rfl⟩
            | 2, ho =>
              injection ho with ho; subst ho
              have e79 : a.tmps[79]?.getD undef = .pointer (some ⟨py, 0, none⟩) := (RY.ev_tmp a 79).trans (hd 1 _ 79 rfl rfl ⟨⟨1, .data⟩, by simp, rfl, rfl⟩ (by decide))
              have ycl_ := zpy.get 0 _ rfl
              exact Or.inl ⟨.string y.kind, X, by simp [execOp, go_sem, e79, ycl_], Below.refl _ _, rfl⟩
            | 3, ho =>
              injection ho with ho; subst ho
              have e8 : a.tmps[8]?.getD undef = .pointer (some ⟨py, 0, none⟩) := (RY.ev_tmp a 8).trans ((hk 8 (RY.late_spec (by kernel_rfl))).trans rfl)
              exact Or.inl ⟨.pointer (some ⟨py, 1, none⟩), X, by simp [execOp, go_sem, e8], Below.refl _ _, rfl⟩
            | 4, ho =>
              injection ho with ho; subst ho
              have e81 : a.tmps[81]?.getD undef = .pointer (some ⟨py, 1, none⟩) := (RY.ev_tmp a 81).trans (hd 3 _ 81 rfl rfl ⟨⟨3, .data⟩, by simp, rfl, rfl⟩ (by decide))
              have ycl_ := zpy.get 1 _ rfl
              exact Or.inl ⟨.string y.name, X, by simp [execOp, go_sem, e81, ycl_], Below.refl _ _, rfl⟩
            | 5, ho =>
              injection ho with ho; subst ho
              have e8 : a.tmps[8]?.getD undef = .pointer (some ⟨py, 0, none⟩) := (RY.ev_tmp a 8).trans ((hk 8 (RY.late_spec (by kernel_rfl))).trans rfl)
              exact Or.inl ⟨.pointer (some ⟨py, 2, none⟩), X, by simp [execOp, go_sem, e8], Below.refl _ _, rfl⟩
            | 6, ho =>
              injection ho with ho; subst ho
              have e83 : a.tmps[83]?.getD undef = .pointer (some ⟨py, 2, none⟩) := (RY.ev_tmp a 83).trans (hd 5 _ 83 rfl rfl ⟨⟨5, .data⟩, by simp, rfl, rfl⟩ (by decide))
              have ycl_ := zpy.get 2 _ rfl
              exact Or.inl ⟨.slice ya y.lines.length yc, X, by simp [execOp, go_sem, e83, ycl_], Below.refl _ _, rfl⟩
            | 7, ho =>
              injection ho with ho; subst ho
              have e84 : a.tmps[84]?.getD undef = .slice ya y.lines.length yc := (RY.ev_tmp a 84).trans (hd 6 _ 84 rfl rfl ⟨⟨6, .data⟩, by simp, rfl, rfl⟩ (by decide))
              refine Or.inr ⟨16, #[.slice ya y.lines.length yc], by simp [go_sem, e84], (HCL.out X hX).mono ?_⟩
              rintro e W' ⟨v, F, rfl, r, nd, fr, hb⟩
              obtain ⟨x1, x2, hx⟩ := r.raw.len0
              subst hx
              exact ⟨_, rfl, hb, x1, x2, F, rfl, r, nd, fun b hb2 => Nat.le_trans hX.size (fr b hb2)⟩
            | 8, ho =>
              injection ho with ho; subst ho
              have e80 : a.tmps[80]?.getD undef = .string y.kind := (RY.ev_tmp a 80).trans (hd 2 _ 80 rfl rfl ⟨⟨2, .data⟩, by simp, rfl, rfl⟩ (by decide))
              have e82 : a.tmps[82]?.getD undef = .string y.name := (RY.ev_tmp a 82).trans (hd 4 _ 82 rfl rfl ⟨⟨4, .data⟩, by simp, rfl, rfl⟩ (by decide))
              obtain ⟨y1, y2, F85, q85, hR85, hN85, hF85⟩ := hd 7 _ 85 rfl rfl ⟨⟨7, .data⟩, by simp, rfl, rfl⟩ (by decide)
              have e85 : a.tmps[85]?.getD undef = .slice y1 y.lines.length y2 := (RY.ev_tmp a 85).trans q85
              exact Or.inl ⟨_, X, by simp [execOp, go_sem, e80, e82, e85], Below.refl _ _, y1, y2, F85, rfl, hR85, hN85, hF85⟩
            | 9, ho =>
              injection ho with ho; subst ho
              obtain ⟨y1, y2, F86, q86, hR86, hN86, hF86⟩ := hd 8 _ 86 rfl rfl ⟨⟨8, .data⟩, by simp, rfl, rfl⟩ (by decide)
              have e86 : a.tmps[86]?.getD undef = .agg #[.int .i64 2, .string y.kind, .string y.name, .string { data := #[] }, .slice y1 y.lines.length y2] := (RY.ev_tmp a 86).trans q86
              exact Or.inl ⟨.slice (some ⟨X.heap.size, 0, none⟩) 1 1, X.alloc (.cells #[.int .i64 2, .string y.kind, .string y.name, .string { data := #[] }, .slice y1 y.lines.length y2] 44), by simp [execOp, go_sem, e86], blw_alloc (Below.refl _ _) _, some ⟨X.heap.size, 0, none⟩, 1, X.heap.size :: ((F86 ++ []) ++ []), rfl, rep1 (cs := #[.int .i64 2, .string y.kind, .string y.name, .string { data := #[] }, .slice y1 y.lines.length y2]) (repSheetChange_mk _ _ _ _ hR86), by rw [List.append_nil, List.append_nil, List.nodup_cons]; exact ⟨fun h => by have := hR86.lt _ h; omega, hN86⟩, fun z hz => by
                  rw [List.append_nil, List.append_nil] at hz
                  rcases List.mem_cons.1 hz with e | e
                  · rw [e]; exact hX.size
                  · exact hF86 z e⟩
            | n + 10, ho => omega
          · intro a X hX hk hd
            have e0 : a.eval (.tmp 78) = .slice ua m uc := hd 0 _ 78 rfl rfl ⟨⟨0, .data⟩, by simp, rfl, rfl⟩ (by decide)
            obtain ⟨y1, y2, FS, e1, hRS, hNS, hFS⟩ := hd 9 _ 87 rfl rfl ⟨⟨9, .data⟩, by simp, rfl, rfl⟩ (by decide)
            obtain ⟨u, W2, G', xs', hrun, hgr, hgw, _⟩ := gr_app (P := Try.prog) wa.heap.size 26 26 44 5 80 _ Try.under_chs Try.info_ch rfl (by decide) (by decide) shSheetChange rfl (HGr.out.later hX) hRS hNS (fun z hz => ⟨Nat.le_trans HBr.out.size (hFS z hz), fun hq => by have := HGr.out.rep.lt z hq; have := hFS z hz; omega, fun hq => by have := (owns_blk_lt HGr.out.row hq).2; have := hFS z hz; omega⟩) (by have := HCN.out; have := HML.out; omega) (Nat.le_trans HBr.out.size hX.size)
            obtain ⟨ux, uy, hux⟩ := hgr.shape
            subst hux
            exact ⟨_, W2, uexec_append (.tmp 78) (.tmp 87) 26 rfl e0 e1 hrun, ux, uy, G', xs', rfl, hgr, blw_grown (blw_trans HBr.out hX) hgw (fun b e => (owns_blk_lt HGr.out.row e).1)⟩
          · intro vs X hK e2
            simp only [RY.putAll, Act.put, List.setIfInBounds_toArray, List.set_cons_zero, List.set_cons_succ]
            rw [e2]
            generalize vs 78 = s78
            generalize vs 79 = s79
            generalize vs 80 = s80
            generalize vs 81 = s81
            generalize vs 82 = s82
            generalize vs 83 = s83
            generalize vs 84 = s84
            generalize vs 85 = s85
            generalize vs 86 = s86
            generalize vs 87 = s87
            generalize vs 88 = s88 at hK ⊢
            obtain ⟨g', c', G', xs', rfl, hgr, hbn⟩ := hK
            have HG2 := uh hgr
            have HB2 := uh hbn
            clear hgr hbn
            go_wp2
            go_roundw
            case rel => exact ⟨k2 + 1, G', xs', by omega, by go_num, by rw [HE.out, List.length_append, ← HM.out, List.flatMap_append, List.flatMap_singleton, ← HES.out]; exact HG2.out, HB2.out⟩
            case measure => simp [intOf]; omega
        | some q =>
          have hmi : Pl.ixI (some q) = (q : Int) := rfl
          rw [hmi]
          clear hmi
          have hqL : q < a.length := Pl.findB_lt HFO.out.symm
          rcases bls_open (HAW.out.later HBr.out) with ⟨e0, _⟩ | ⟨p, o, c, hv, hp, hml, hopen⟩
          · omega
          rw [← HNA.out] at hv
          injection hv with g1 _ g3
          subst g1; subst g3
          obtain ⟨xa, xc, hgx, hrx⟩ := hopen q hqL
          have HLX : Hid ((a.getD q Pl.blNo).lines.length ≤ 4194304 ∧ ∀ x ∈ (a.getD q Pl.blNo).lines, x.ws.length ≤ 4194304) := by
            have e : a.getD q Pl.blNo = a[q] := by simp [hqL]
            show _ ∧ _
            rw [e]; exact HLA.out _ (List.getElem_mem hqL)
          obtain ⟨x, hx⟩ : ∃ x, x = a.getD q Pl.blNo := ⟨_, rfl⟩
          have HD2 : Hid (Pl.diffOne a y = Pl.diffBl x y) := by rw [hx]; exact HD1.out
          rw [← hx] at hgx hrx HLX
          have HGX := uh hgx
          have HPX := uh hp
          obtain ⟨L, hL⟩ : ∃ L, L = Pl.diffBl x y := ⟨_, rfl⟩
          have HCN : Hid (L.length ≤ 100) := by show _ ≤ _; rw [hL]; have := diffBl_len x y; omega
          have HCK : Hid (∀ X, Below w13.heap.size w13 X → Calls Try.prog 17 #[.agg #[.string x.kind, .string x.name, .slice xa x.lines.length xc], .agg #[.string y.kind, .string y.name, .slice ya y.lines.length yc]] X (AnsL shChs (chsD L) X)) := fun X hX => by rw [hL]; exact l43BlockS x y _ _ X (hrx.later hX) (HRY.out.later hX) HLX.out HLY.out
          have HE : Hid (diffTo ga a b (k2 + 1) = ac0 ++ L) := by show _ = _; rw [HST.out, HD2.out, hL]
          have hq0 : (0 : Int) ≤ (q : Int) := by omega
          have hqn : (q : Int) < (na : Int) := by have := HNA.out; omega
          have hqq : ¬ ((q : Int) < 0) := by omega
          clear hx hgx hrx hp hopen hml hL
          go_upto_region 16 with fail
          refine RY.region_finC w13 (Below.refl _ _) (VDd b0 p o na ac m uc q w13.heap.size ua xa ya xc yc x y L) (VDd_mono _ _ _ _ _ _ _ _ _ _ _ _ _ _ _ _ _) (fun u W' => ∃ g' c' G' xs', u = .slice g' (m + L.length) c' ∧ Gr W' wa.heap.size 44 shSheetChange u (m + L.length) G' (es ++ L.flatMap chD) xs' ∧ Below wa.heap.size wa W') 8 12 97 5 (by kernel_rfl) (by kernel_rfl) (by kernel_rfl) (by kernel_rfl) (by kernel_rfl) rfl (by kernel_rfl) _ _ rfl rfl rfl rfl rfl (by kernel_rfl) ?_ ?_ ?_
          · intro ii o' ho hii a X hX hk hd
            have zb0 := HA0.out.later hX
            have zb0l := zb0.lt
            have zpy := HYB.out.later hX
            have zpyl := zpy.lt
            match ii, ho with
            | 0, ho =>
              injection ho with ho; subst ho
              have e5 : a.tmps[5]?.getD undef = .slice ua m uc := (RY.ev_tmp a 5).trans ((hk 5 (RY.late_spec (by kernel_rfl))).trans rfl)
              exact Or.inl ⟨.slice ua m uc, X, by simp [execOp, go_sem, e5], Below.refl _ _, rfl⟩
            | 1, ho =>
              injection ho with ho; subst ho
              have e2 : a.tmps[2]?.getD undef = .pointer (some ⟨b0, 0, none⟩) := (RY.ev_tmp a 2).trans ((hk 2 (RY.late_spec (by kernel_rfl))).trans rfl)
              exact Or.inl ⟨.pointer (some ⟨b0, 0, none⟩), X, by simp [execOp, go_sem, e2], Below.refl _ _, rfl⟩
            | 2, ho =>
              injection ho with ho; subst ho
              have e90 : a.tmps[90]?.getD undef = .pointer (some ⟨b0, 0, none⟩) := (RY.ev_tmp a 90).trans (hd 1 _ 90 rfl rfl ⟨⟨1, .data⟩, by simp, rfl, rfl⟩ (by decide))
              have ycl_ := zb0.get 0 _ rfl
              exact Or.inl ⟨.slice (some ⟨p, o, none⟩) na ac, X, by simp [execOp, go_sem, e90, ycl_], Below.refl _ _, rfl⟩
            | 3, ho =>
              injection ho with ho; subst ho
              have e9 : a.tmps[9]?.getD undef = .int .i64 (q : Int) := (RY.ev_tmp a 9).trans ((hk 9 (RY.late_spec (by kernel_rfl))).trans rfl)
              exact Or.inl ⟨.int .i64 (q : Int), X, by simp [execOp, go_sem, e9], Below.refl _ _, rfl⟩
            | 4, ho =>
              injection ho with ho; subst ho
              have e91 : a.tmps[91]?.getD undef = .slice (some ⟨p, o, none⟩) na ac := (RY.ev_tmp a 91).trans (hd 2 _ 91 rfl rfl ⟨⟨2, .data⟩, by simp, rfl, rfl⟩ (by decide))
              have e92 : a.tmps[92]?.getD undef = .int .i64 (q : Int) := (RY.ev_tmp a 92).trans (hd 3 _ 92 rfl rfl ⟨⟨3, .data⟩, by simp, rfl, rfl⟩ (by decide))
              exact Or.inl ⟨.pointer (some ⟨p, o + q * 3, none⟩), X, by simp [execOp, go_sem, e91, e92, hq0, hqn], Below.refl _ _, rfl⟩
            | 5, ho =>
              injection ho with ho; subst ho
              have v93 : a.eval (.tmp 93) = .pointer (some ⟨p, o + q * 3, none⟩) := hd 4 _ 93 rfl rfl ⟨⟨4, .data⟩, by simp, rfl, rfl⟩ (by decide)
              exact Or.inl ⟨_, X, exec_load_mid 42 _ rfl p (o + q * 3) v93 [.string x.kind, .string x.name, .slice xa x.lines.length xc] _ (rA_later HGX.out HPX.out hX) Try.underlying42 rfl (by kernel_rfl), Below.refl _ _, rfl⟩
            | 6, ho =>
              injection ho with ho; subst ho
              have v8 : a.eval (.tmp 8) = .pointer (some ⟨py, 0, none⟩) := (hk 8 (RY.late_spec (by kernel_rfl))).trans rfl
              exact Or.inl ⟨_, X, exec_load_mid 42 _ rfl py 0 v8 [.string y.kind, .string y.name, .slice ya y.lines.length yc] _ zpy.at_ Try.underlying42 rfl (by kernel_rfl), Below.refl _ _, rfl⟩
            | 7, ho =>
              injection ho with ho; subst ho
              have e94 : a.tmps[94]?.getD undef = .agg #[.string x.kind, .string x.name, .slice xa x.lines.length xc] := (RY.ev_tmp a 94).trans (hd 5 _ 94 rfl rfl ⟨⟨5, .data⟩, by simp, rfl, rfl⟩ (by decide))
              have e95 : a.tmps[95]?.getD undef = .agg #[.string y.kind, .string y.name, .slice ya y.lines.length yc] := (RY.ev_tmp a 95).trans (hd 6 _ 95 rfl rfl ⟨⟨6, .data⟩, by simp, rfl, rfl⟩ (by decide))
              refine Or.inr ⟨17, #[.agg #[.string x.kind, .string x.name, .slice xa x.lines.length xc], .agg #[.string y.kind, .string y.name, .slice ya y.lines.length yc]], by simp [go_sem, e94, e95], (HCK.out X hX).mono ?_⟩
              rintro e W' ⟨v, F, rfl, r, nd, fr, hb⟩
              obtain ⟨x1, x2, hx⟩ := r.raw.len0
              subst hx
              exact ⟨_, rfl, hb, x1, x2, F, rfl, r, nd, fun b hb2 => Nat.le_trans hX.size (fr b hb2)⟩
            | n + 8, ho => omega
          · intro a X hX hk hd
            have e0 : a.eval (.tmp 89) = .slice ua m uc := hd 0 _ 89 rfl rfl ⟨⟨0, .data⟩, by simp, rfl, rfl⟩ (by decide)
            obtain ⟨y1, y2, FS, e1, hRS, hNS, hFS⟩ := hd 7 _ 96 rfl rfl ⟨⟨7, .data⟩, by simp, rfl, rfl⟩ (by decide)
            obtain ⟨u, W2, G', xs', hrun, hgr, hgw, _⟩ := gr_app (P := Try.prog) wa.heap.size 26 26 44 5 80 _ Try.under_chs Try.info_ch rfl (by decide) (by decide) shSheetChange rfl (HGr.out.later hX) hRS hNS (fun z hz => ⟨Nat.le_trans HBr.out.size (hFS z hz), fun hq => by have := HGr.out.rep.lt z hq; have := hFS z hz; omega, fun hq => by have := (owns_blk_lt HGr.out.row hq).2; have := hFS z hz; omega⟩) (by have := HCN.out; have := HML.out; omega) (Nat.le_trans HBr.out.size hX.size)
            obtain ⟨ux, uy, hux⟩ := hgr.shape
            subst hux
            exact ⟨_, W2, uexec_append (.tmp 89) (.tmp 96) 26 rfl e0 e1 hrun, ux, uy, G', xs', rfl, hgr, blw_grown (blw_trans HBr.out hX) hgw (fun b e => (owns_blk_lt HGr.out.row e).1)⟩
          · intro vs X hK e2
            simp only [RY.putAll, Act.put, List.setIfInBounds_toArray, List.set_cons_zero, List.set_cons_succ]
            rw [e2]
            generalize vs 89 = s89
            generalize vs 90 = s90
            generalize vs 91 = s91
            generalize vs 92 = s92
            generalize vs 93 = s93
            generalize vs 94 = s94
            generalize vs 95 = s95
            generalize vs 96 = s96
            generalize vs 97 = s97 at hK ⊢
            obtain ⟨g', c', G', xs', rfl, hgr, hbn⟩ := hK
            have HG2 := uh hgr
            have HB2 := uh hbn
            clear hgr hbn
            go_wp2
            go_roundw
            case rel => exact ⟨k2 + 1, G', xs', by omega, by go_num, by rw [HE.out, List.length_append, ← HM.out, List.flatMap_append, ← HES.out]; exact HG2.out, HB2.out⟩
            case measure => simp [intOf]; omega
    have hkL : k < a.length := by have := HNA.out; omega
    rcases bls_open (HAW.out.later HBr.out) with ⟨e0, _⟩ | ⟨p, o, c, hv, hp, hml, hopen⟩
    · have := HNA.out; omega
    rw [← HNA.out] at hv
    injection hv with g1 _ g3
    subst g1; subst g3
    obtain ⟨xa, xc, hgx, _⟩ := hopen k hkL
    have HST := uh (goneTo_step (b := b) hkL)
    have HML : Hid ((goneTo a b k).length ≤ 60) := by have := goneTo_len a b k; have := HNA.out; show _ ≤ _; omega
    obtain ⟨x, hx⟩ : ∃ x, x = a.getD k Pl.blNo := ⟨_, rfl⟩
    rw [← hx] at hgx HST
    have HGX := uh hgx
    have HPX := uh hp
    have HCN : Hid ((1 : Nat) ≤ 100) := by show (1 : Nat) ≤ 100; decide
    obtain ⟨ac0, hac⟩ : ∃ z, z = goneTo a b k := ⟨_, rfl⟩
    rw [← hac] at HGr HML HST ⊢
    obtain ⟨m, hm⟩ : ∃ m, m = ac0.length := ⟨_, rfl⟩
    rw [← hm] at HGr HML ⊢
    have HM := uh hm
    obtain ⟨es, hes⟩ : ∃ es, es = ac0.flatMap chD := ⟨_, rfl⟩
    rw [← hes] at HGr
    have HES := uh hes
    have hk0 : (0 : Int) ≤ (k : Int) := by omega
    have hkn : (k : Int) < (na : Int) := by omega
    obtain ⟨fo, hfo⟩ : ∃ fo, fo = Pl.findB b x.kind x.name := ⟨_, rfl⟩
    have HNI : Hid (Pl.noIn b x = fo.isNone) := by rw [hfo]; rfl
    have HCF : Hid (∀ X, Below wr.heap.size wr X → Calls Try.prog 15 #[.agg #[.slice ba nb bc], .string x.kind, .string x.name] X fun e w' => e = .returned (.int .i64 (Pl.ixI fo)) ∧ Below X.heap.size X w') := fun X hX => by rw [hfo]; exact l39FindS b (.slice ba nb bc) x.kind x.name X (HBB.out.later (blw_trans HBr.out hX))
    have hng : decide (Pl.ixI fo < 0) = fo.isNone := ixI_neg
    clear hx hgx hp hopen hml hac hm hes hfo
    go_upto_region 7 with fail
    clear x0 xl
    refine RY.region_past wr (Below.refl _ _) (VDa b0 p o na ac nb bc k ba x fo) (VDa_mono _ _ _ _ _ _ _ _ _ _ _) (by kernel_rfl) (by kernel_rfl) (by kernel_rfl) (by kernel_rfl) ?_ ?_
    · intro ii o' ho a X hX hk hd
      have zb0 := HA0.out.later hX
      have zb0l := zb0.lt
      have z_b0___1_ := HB0.out.later hX
      have z_b0___1_l := z_b0___1_.lt
      match ii, ho with
      | 0, ho =>
        injection ho with ho; subst ho
        have v3 : a.eval (.tmp 3) = .pointer (some ⟨(b0 + 1), 0, none⟩) := (hk 3 (by kernel_rfl)).trans rfl
        exact Or.inl ⟨_, X, exec_load_mid 30 _ rfl (b0 + 1) 0 v3 [.slice ba nb bc] _ z_b0___1_.at_ Try.underlying30 rfl (by kernel_rfl), Below.refl _ _, rfl⟩
      | 1, ho =>
        injection ho with ho; subst ho
        have e2 : a.tmps[2]?.getD undef = .pointer (some ⟨b0, 0, none⟩) := (RY.ev_tmp a 2).trans ((hk 2 (by kernel_rfl)).trans rfl)
        exact Or.inl ⟨.pointer (some ⟨b0, 0, none⟩), X, by simp [execOp, go_sem, e2], Below.refl _ _, rfl⟩
      | 2, ho =>
        injection ho with ho; subst ho
        have e28 : a.tmps[28]?.getD undef = .pointer (some ⟨b0, 0, none⟩) := (RY.ev_tmp a 28).trans (hd 1 _ 28 rfl rfl ⟨⟨1, .data⟩, by simp, rfl, rfl⟩)
        have ycl_ := zb0.get 0 _ rfl
        exact Or.inl ⟨.slice (some ⟨p, o, none⟩) na ac, X, by simp [execOp, go_sem, e28, ycl_], Below.refl _ _, rfl⟩
      | 3, ho =>
        injection ho with ho; subst ho
        have e6 : a.tmps[6]?.getD undef = .int .i64 (k : Int) := (RY.ev_tmp a 6).trans ((hk 6 (by kernel_rfl)).trans rfl)
        exact Or.inl ⟨.int .i64 (k : Int), X, by simp [execOp, go_sem, e6], Below.refl _ _, rfl⟩
      | 4, ho =>
        injection ho with ho; subst ho
        have e29 : a.tmps[29]?.getD undef = .slice (some ⟨p, o, none⟩) na ac := (RY.ev_tmp a 29).trans (hd 2 _ 29 rfl rfl ⟨⟨2, .data⟩, by simp, rfl, rfl⟩)
        have e30 : a.tmps[30]?.getD undef = .int .i64 (k : Int) := (RY.ev_tmp a 30).trans (hd 3 _ 30 rfl rfl ⟨⟨3, .data⟩, by simp, rfl, rfl⟩)
        exact Or.inl ⟨.pointer (some ⟨p, o + k * 3, none⟩), X, by simp [execOp, go_sem, e29, e30, hk0, hkn], Below.refl _ _, rfl⟩
      | 5, ho =>
        injection ho with ho; subst ho
        have e31 : a.tmps[31]?.getD undef = .pointer (some ⟨p, o + k * 3, none⟩) := (RY.ev_tmp a 31).trans (hd 4 _ 31 rfl rfl ⟨⟨4, .data⟩, by simp, rfl, rfl⟩)
        exact Or.inl ⟨.pointer (some ⟨p, o + k * 3, none⟩), X, by simp [execOp, go_sem, e31], Below.refl _ _, rfl⟩
      | 6, ho =>
        injection ho with ho; subst ho
        have e32 : a.tmps[32]?.getD undef = .pointer (some ⟨p, o + k * 3, none⟩) := (RY.ev_tmp a 32).trans (hd 5 _ 32 rfl rfl ⟨⟨5, .data⟩, by simp, rfl, rfl⟩)
        have ypl_ := Nat.lt_of_lt_of_le HPX.out hX.size
        have ycl_ : X.cell? ⟨p, o + k * 3, none⟩ = some (.string x.kind) := by have q := rA_get (rA_later HGX.out HPX.out hX) 0 _ rfl; simpa using q
        exact Or.inl ⟨.string x.kind, X, by simp [execOp, go_sem, e32, ycl_], Below.refl _ _, rfl⟩
      | 7, ho =>
        injection ho with ho; subst ho
        have e2 : a.tmps[2]?.getD undef = .pointer (some ⟨b0, 0, none⟩) := (RY.ev_tmp a 2).trans ((hk 2 (by kernel_rfl)).trans rfl)
        exact Or.inl ⟨.pointer (some ⟨b0, 0, none⟩), X, by simp [execOp, go_sem, e2], Below.refl _ _, rfl⟩
      | 8, ho =>
        injection ho with ho; subst ho
        have e34 : a.tmps[34]?.getD undef = .pointer (some ⟨b0, 0, none⟩) := (RY.ev_tmp a 34).trans (hd 7 _ 34 rfl rfl ⟨⟨7, .data⟩, by simp, rfl, rfl⟩)
        have ycl_ := zb0.get 0 _ rfl
        exact Or.inl ⟨.slice (some ⟨p, o, none⟩) na ac, X, by simp [execOp, go_sem, e34, ycl_], Below.refl _ _, rfl⟩
      | 9, ho =>
        injection ho with ho; subst ho
        have e6 : a.tmps[6]?.getD undef = .int .i64 (k : Int) := (RY.ev_tmp a 6).trans ((hk 6 (by kernel_rfl)).trans rfl)
        exact Or.inl ⟨.int .i64 (k : Int), X, by simp [execOp, go_sem, e6], Below.refl _ _, rfl⟩
      | 10, ho =>
        injection ho with ho; subst ho
        have e35 : a.tmps[35]?.getD undef = .slice (some ⟨p, o, none⟩) na ac := (RY.ev_tmp a 35).trans (hd 8 _ 35 rfl rfl ⟨⟨8, .data⟩, by simp, rfl, rfl⟩)
        have e36 : a.tmps[36]?.getD undef = .int .i64 (k : Int) := (RY.ev_tmp a 36).trans (hd 9 _ 36 rfl rfl ⟨⟨9, .data⟩, by simp, rfl, rfl⟩)
        exact Or.inl ⟨.pointer (some ⟨p, o + k * 3, none⟩), X, by simp [execOp, go_sem, e35, e36, hk0, hkn], Below.refl _ _, rfl⟩
      | 11, ho =>
        injection ho with ho; subst ho
        have e37 : a.tmps[37]?.getD undef = .pointer (some ⟨p, o + k * 3, none⟩) := (RY.ev_tmp a 37).trans (hd 10 _ 37 rfl rfl ⟨⟨10, .data⟩, by simp, rfl, rfl⟩)
        exact Or.inl ⟨.pointer (some ⟨p, o + k * 3 + 1, none⟩), X, by simp [execOp, go_sem, e37], Below.refl _ _, rfl⟩
      | 12, ho =>
        injection ho with ho; subst ho
        have e38 : a.tmps[38]?.getD undef = .pointer (some ⟨p, o + k * 3 + 1, none⟩) := (RY.ev_tmp a 38).trans (hd 11 _ 38 rfl rfl ⟨⟨11, .data⟩, by simp, rfl, rfl⟩)
        have ypl_ := Nat.lt_of_lt_of_le HPX.out hX.size
        have ycl_ : X.cell? ⟨p, o + k * 3 + 1, none⟩ = some (.string x.name) := by have q := rA_get (rA_later HGX.out HPX.out hX) 1 _ rfl; simpa using q
        exact Or.inl ⟨.string x.name, X, by simp [execOp, go_sem, e38, ycl_], Below.refl _ _, rfl⟩
      | 13, ho =>
        injection ho with ho; subst ho
        have e27 : a.tmps[27]?.getD undef = .agg #[.slice ba nb bc] := (RY.ev_tmp a 27).trans (hd 0 _ 27 rfl rfl ⟨⟨0, .data⟩, by simp, rfl, rfl⟩)
        have e33 : a.tmps[33]?.getD undef = .string x.kind := (RY.ev_tmp a 33).trans (hd 6 _ 33 rfl rfl ⟨⟨6, .data⟩, by simp, rfl, rfl⟩)
        have e39 : a.tmps[39]?.getD undef = .string x.name := (RY.ev_tmp a 39).trans (hd 12 _ 39 rfl rfl ⟨⟨12, .data⟩, by simp, rfl, rfl⟩)
        refine Or.inr ⟨15, #[.agg #[.slice ba nb bc], .string x.kind, .string x.name], by simp [go_sem, e27, e33, e39], (HCF.out X hX).mono ?_⟩
        rintro e W' ⟨rfl, hb⟩
        exact ⟨_, rfl, hb, rfl⟩
      | 14, ho =>
        injection ho with ho; subst ho
        have e40 : a.tmps[40]?.getD undef = .int .i64 (Pl.ixI fo) := (RY.ev_tmp a 40).trans (hd 13 _ 40 rfl rfl ⟨⟨13, .data⟩, by simp, rfl, rfl⟩)
        exact Or.inl ⟨.bool fo.isNone, X, by simp [execOp, go_sem, e40, hng], Below.refl _ _, rfl⟩
      | n + 15, ho => simp at ho
    intro X vs hX hvs
    have q41 : vs 41 = _ := hvs 14 _ 41 rfl rfl
    simp only [RY.putAll, Act.put, List.setIfInBounds_toArray, List.set_cons_zero, List.set_cons_succ]
    rw [q41]
    generalize vs 27 = s27
    generalize vs 28 = s28
    generalize vs 29 = s29
    generalize vs 30 = s30
    generalize vs 31 = s31
    generalize vs 32 = s32
    generalize vs 33 = s33
    generalize vs 34 = s34
    generalize vs 35 = s35
    generalize vs 36 = s36
    generalize vs 37 = s37
    generalize vs 38 = s38
    generalize vs 39 = s39
    generalize vs 40 = s40
    clear hvs q41
    replace HA0 := uh (HA0.out.later hX)
    replace HB0 := uh (HB0.out.later hX)
    replace HGr := uh (HGr.out.later hX)
    replace HBr := uh (blw_trans HBr.out hX)
    replace HGX := uh (rA_later HGX.out HPX.out hX)
    replace HPX := uh (Nat.lt_of_lt_of_le HPX.out hX.size)
    obtain ⟨w7, hw7⟩ : ∃ w7, w7 = X := ⟨_, rfl⟩
    rw [← hw7] at HA0 HB0 HGr HBr HGX HPX ⊢
    clear hw7 hX hng HCF
    cases fo with
    | some qf =>
      have hsn : (some qf).isNone = false := rfl
      rw [hsn]
      clear hsn
      have HE : Hid (goneTo a b (k + 1) = ac0) := by show _ = _; rw [HST.out, HNI.out]; rfl
      go_wp2
      go_roundw
      case rel => exact ⟨k + 1, G, xs, by omega, by go_num, by rw [HE.out, ← HM.out, ← HES.out]; exact HGr.out, HBr.out⟩
      case measure => simp [intOf]; omega
    | none =>
    have hsn : (none : Option Nat).isNone = true := rfl
    rw [hsn]
    clear hsn
    have HE : Hid (goneTo a b (k + 1) = ac0 ++ [Pl.goneCh x]) := by show _ = _; rw [HST.out, HNI.out]; rfl
    go_upto_region 8 with fail
    refine RY.region_finC w7 (Below.refl _ _) (VDb b0 p o na ac k m uc w7.heap.size ua x) (VDb_mono _ _ _ _ _ _ _ _ _ _ _) (fun u W' => ∃ g' c' G' xs', u = .slice g' (m + 1) c' ∧ Gr W' wa.heap.size 44 shSheetChange u (m + 1) G' (es ++ chD (Pl.goneCh x)) xs' ∧ Below wa.heap.size wa W') 15 12 57 5 (by kernel_rfl) (by kernel_rfl) (by kernel_rfl) (by kernel_rfl) (by kernel_rfl) rfl (by kernel_rfl) _ _ rfl rfl rfl rfl rfl (by kernel_rfl) ?_ ?_ ?_
    · intro ii o' ho hii a X hX hk hd
      have zb0 := HA0.out.later hX
      have zb0l := zb0.lt
      match ii, ho with
      | 0, ho =>
        injection ho with ho; subst ho
        have e5 : a.tmps[5]?.getD undef = .slice ua m uc := (RY.ev_tmp a 5).trans ((hk 5 (RY.late_spec (by kernel_rfl))).trans rfl)
        exact Or.inl ⟨.slice ua m uc, X, by simp [execOp, go_sem, e5], Below.refl _ _, rfl⟩
      | 1, ho =>
        injection ho with ho; subst ho
        have e2 : a.tmps[2]?.getD undef = .pointer (some ⟨b0, 0, none⟩) := (RY.ev_tmp a 2).trans ((hk 2 (RY.late_spec (by kernel_rfl))).trans rfl)
        exact Or.inl ⟨.pointer (some ⟨b0, 0, none⟩), X, by simp [execOp, go_sem, e2], Below.refl _ _, rfl⟩
      | 2, ho =>
        injection ho with ho; subst ho
        have e43 : a.tmps[43]?.getD undef = .pointer (some ⟨b0, 0, none⟩) := (RY.ev_tmp a 43).trans (hd 1 _ 43 rfl rfl ⟨⟨1, .data⟩, by simp, rfl, rfl⟩ (by decide))
        have ycl_ := zb0.get 0 _ rfl
        exact Or.inl ⟨.slice (some ⟨p, o, none⟩) na ac, X, by simp [execOp, go_sem, e43, ycl_], Below.refl _ _, rfl⟩
      | 3, ho =>
        injection ho with ho; subst ho
        have e6 : a.tmps[6]?.getD undef = .int .i64 (k : Int) := (RY.ev_tmp a 6).trans ((hk 6 (RY.late_spec (by kernel_rfl))).trans rfl)
        exact Or.inl ⟨.int .i64 (k : Int), X, by simp [execOp, go_sem, e6], Below.refl _ _, rfl⟩
      | 4, ho =>
        injection ho with ho; subst ho
        have e44 : a.tmps[44]?.getD undef = .slice (some ⟨p, o, none⟩) na ac := (RY.ev_tmp a 44).trans (hd 2 _ 44 rfl rfl ⟨⟨2, .data⟩, by simp, rfl, rfl⟩ (by decide))
        have e45 : a.tmps[45]?.getD undef = .int .i64 (k : Int) := (RY.ev_tmp a 45).trans (hd 3 _ 45 rfl rfl ⟨⟨3, .data⟩, by simp, rfl, rfl⟩ (by decide))
        exact Or.inl ⟨.pointer (some ⟨p, o + k * 3, none⟩), X, by simp [execOp, go_sem, e44, e45, hk0, hkn], Below.refl _ _, rfl⟩
      | 5, ho =>
        injection ho with ho; subst ho
        have e46 : a.tmps[46]?.getD undef = .pointer (some ⟨p, o + k * 3, none⟩) := (RY.ev_tmp a 46).trans (hd 4 _ 46 rfl rfl ⟨⟨4, .data⟩, by simp, rfl, rfl⟩ (by decide))
        exact Or.inl ⟨.pointer (some ⟨p, o + k * 3, none⟩), X, by simp [execOp, go_sem, e46], Below.refl _ _, rfl⟩
      | 6, ho =>
        injection ho with ho; subst ho
        have e47 : a.tmps[47]?.getD undef = .pointer (some ⟨p, o + k * 3, none⟩) := (RY.ev_tmp a 47).trans (hd 5 _ 47 rfl rfl ⟨⟨5, .data⟩, by simp, rfl, rfl⟩ (by decide))
        have ypl_ := Nat.lt_of_lt_of_le HPX.out hX.size
        have ycl_ : X.cell? ⟨p, o + k * 3, none⟩ = some (.string x.kind) := by have q := rA_get (rA_later HGX.out HPX.out hX) 0 _ rfl; simpa using q
        exact Or.inl ⟨.string x.kind, X, by simp [execOp, go_sem, e47, ycl_], Below.refl _ _, rfl⟩
      | 7, ho =>
        injection ho with ho; subst ho
        have e2 : a.tmps[2]?.getD undef = .pointer (some ⟨b0, 0, none⟩) := (RY.ev_tmp a 2).trans ((hk 2 (RY.late_spec (by kernel_rfl))).trans rfl)
        exact Or.inl ⟨.pointer (some ⟨b0, 0, none⟩), X, by simp [execOp, go_sem, e2], Below.refl _ _, rfl⟩
      | 8, ho =>
        injection ho with ho; subst ho
        have e49 : a.tmps[49]?.getD undef = .pointer (some ⟨b0, 0, none⟩) := (RY.ev_tmp a 49).trans (hd 7 _ 49 rfl rfl ⟨⟨7, .data⟩, by simp, rfl, rfl⟩ (by decide))
        have ycl_ := zb0.get 0 _ rfl
        exact Or.inl ⟨.slice (some ⟨p, o, none⟩) na ac, X, by simp [execOp, go_sem, e49, ycl_], Below.refl _ _, rfl⟩
      | 9, ho =>
        injection ho with ho; subst ho
        have e6 : a.tmps[6]?.getD undef = .int .i64 (k : Int) := (RY.ev_tmp a 6).trans ((hk 6 (RY.late_spec (by kernel_rfl))).trans rfl)
        exact Or.inl ⟨.int .i64 (k : Int), X, by simp [execOp, go_sem, e6], Below.refl _ _, rfl⟩
      | 10, ho =>
        injection ho with ho; subst ho
        have e50 : a.tmps[50]?.getD undef = .slice (some ⟨p, o, none⟩) na ac := (RY.ev_tmp a 50).trans (hd 8 _ 50 rfl rfl ⟨⟨8, .data⟩, by simp, rfl, rfl⟩ (by decide))
        have e51 : a.tmps[51]?.getD undef = .int .i64 (k : Int) := (RY.ev_tmp a 51).trans (hd 9 _ 51 rfl rfl ⟨⟨9, .data⟩, by simp, rfl, rfl⟩ (by decide))
        exact Or.inl ⟨.pointer (some ⟨p, o + k * 3, none⟩), X, by simp [execOp, go_sem, e50, e51, hk0, hkn], Below.refl _ _, rfl⟩
      | 11, ho =>
        injection ho with ho; subst ho
        have e52 : a.tmps[52]?.getD undef = .pointer (some ⟨p, o + k * 3, none⟩) := (RY.ev_tmp a 52).trans (hd 10 _ 52 rfl rfl ⟨⟨10, .data⟩, by simp, rfl, rfl⟩ (by decide))
        exact Or.inl ⟨.pointer (some ⟨p, o + k * 3 + 1, none⟩), X, by simp [execOp, go_sem, e52], Below.refl _ _, rfl⟩
      | 12, ho =>
        injection ho with ho; subst ho
        have e53 : a.tmps[53]?.getD undef = .pointer (some ⟨p, o + k * 3 + 1, none⟩) := (RY.ev_tmp a 53).trans (hd 11 _ 53 rfl rfl ⟨⟨11, .data⟩, by simp, rfl, rfl⟩ (by decide))
        have ypl_ := Nat.lt_of_lt_of_le HPX.out hX.size
        have ycl_ : X.cell? ⟨p, o + k * 3 + 1, none⟩ = some (.string x.name) := by have q := rA_get (rA_later HGX.out HPX.out hX) 1 _ rfl; simpa using q
        exact Or.inl ⟨.string x.name, X, by simp [execOp, go_sem, e53, ycl_], Below.refl _ _, rfl⟩
      | 13, ho =>
        injection ho with ho; subst ho
        have e48 : a.tmps[48]?.getD undef = .string x.kind := (RY.ev_tmp a 48).trans (hd 6 _ 48 rfl rfl ⟨⟨6, .data⟩, by simp, rfl, rfl⟩ (by decide))
        have e54 : a.tmps[54]?.getD undef = .string x.name := (RY.ev_tmp a 54).trans (hd 12 _ 54 rfl rfl ⟨⟨12, .data⟩, by simp, rfl, rfl⟩ (by decide))
        exact Or.inl ⟨.agg #[.int .i64 1, .string x.kind, .string x.name, .string { data := #[] }, .slice none 0 0], X, by simp [execOp, go_sem, e48, e54], Below.refl _ _, rfl⟩
      | 14, ho =>
        injection ho with ho; subst ho
        have e55 : a.tmps[55]?.getD undef = .agg #[.int .i64 1, .string x.kind, .string x.name, .string { data := #[] }, .slice none 0 0] := (RY.ev_tmp a 55).trans (hd 13 _ 55 rfl rfl ⟨⟨13, .data⟩, by simp, rfl, rfl⟩ (by decide))
        exact Or.inl ⟨.slice (some ⟨X.heap.size, 0, none⟩) 1 1, X.alloc (.cells #[.int .i64 1, .string x.kind, .string x.name, .string { data := #[] }, .slice none 0 0] 44), by simp [execOp, go_sem, e55], blw_alloc (Below.refl _ _) _, some ⟨X.heap.size, 0, none⟩, 1, X.heap.size :: ([] ++ []), rfl, rep1 (cs := #[.int .i64 1, .string x.kind, .string x.name, .string { data := #[] }, .slice none 0 0]) (repSheetChange_mk _ _ _ _ (.emp _ _ none rfl .nil)), by simp, fun z hz => (List.mem_cons.1 hz).elim (fun e => by rw [e]; exact hX.size) (fun e => by simp at e)⟩
      | n + 15, ho => omega
    · intro a X hX hk hd
      have e0 : a.eval (.tmp 42) = .slice ua m uc := hd 0 _ 42 rfl rfl ⟨⟨0, .data⟩, by simp, rfl, rfl⟩ (by decide)
      obtain ⟨y1, y2, FS, e1, hRS, hNS, hFS⟩ := hd 14 _ 56 rfl rfl ⟨⟨14, .data⟩, by simp, rfl, rfl⟩ (by decide)
      obtain ⟨u, W2, G', xs', hrun, hgr, hgw, _⟩ := gr_app (P := Try.prog) wa.heap.size 26 26 44 5 80 _ Try.under_chs Try.info_ch rfl (by decide) (by decide) shSheetChange rfl (HGr.out.later hX) hRS hNS (fun z hz => ⟨Nat.le_trans HBr.out.size (hFS z hz), fun hq => by have := HGr.out.rep.lt z hq; have := hFS z hz; omega, fun hq => by have := (owns_blk_lt HGr.out.row hq).2; have := hFS z hz; omega⟩) (by have := HCN.out; have := HML.out; omega) (Nat.le_trans HBr.out.size hX.size)
      obtain ⟨ux, uy, hux⟩ := hgr.shape
      subst hux
      exact ⟨_, W2, uexec_append (.tmp 42) (.tmp 56) 26 rfl e0 e1 hrun, ux, uy, G', xs', rfl, hgr, blw_grown (blw_trans HBr.out hX) hgw (fun b e => (owns_blk_lt HGr.out.row e).1)⟩
    · intro vs X hK e2
      simp only [RY.putAll, Act.put, List.setIfInBounds_toArray, List.set_cons_zero, List.set_cons_succ]
      rw [e2]
      generalize vs 42 = s42
      generalize vs 43 = s43
      generalize vs 44 = s44
      generalize vs 45 = s45
      generalize vs 46 = s46
      generalize vs 47 = s47
      generalize vs 48 = s48
      generalize vs 49 = s49
      generalize vs 50 = s50
      generalize vs 51 = s51
      generalize vs 52 = s52
      generalize vs 53 = s53
      generalize vs 54 = s54
      generalize vs 55 = s55
      generalize vs 56 = s56
      generalize vs 57 = s57 at hK ⊢
      obtain ⟨g', c', G', xs', rfl, hgr, hbn⟩ := hK
      have HG2 := uh hgr
      have HB2 := uh hbn
      clear hgr hbn
      go_wp2
      go_roundw
      case rel => exact ⟨k + 1, G', xs', by omega, by go_num, by rw [HE.out, List.length_append, ← HM.out, List.flatMap_append, List.flatMap_singleton, ← HES.out]; exact HG2.out, HB2.out⟩
      case measure => simp [intOf]; omega

end Go.Proofs.Ytojcopamegmeeaa
