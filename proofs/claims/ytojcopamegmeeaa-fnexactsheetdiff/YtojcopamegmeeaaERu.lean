/-
  Sheets: the rules of a kind: the specification.
-/
import Derived.BigFrame
import Derived.Great.BuildSlice
import Derived.Test.YtojcopamegmeeaaECs
import Derived.Test.YtojcopamegmeeaaETx
import Derived.Test.YtojcopamegmeeaaEPu
namespace Go.Proofs.Ytojcopamegmeeaa
open Go.RowKit Go.Deep
namespace RY

/-- Each operation of the chain waits for the one ahead of it, which yields something. -/
def chB (l : List Oper) : List Nat → Bool
  | [] => true
  | [_] => true
  | x :: y :: r => waits l y x && (match l[x]? with
    | some o => o.dst.isSome
    | none => false) && !(y :: r).contains x && chB l (y :: r)
theorem chB_at {l : List Oper} : ∀ {ch : List Nat}, chB l ch = true → ∀ k x y, ch[k]? = some x → ch[k + 1]? = some y → waits l y x = true ∧ ∃ o d, l[x]? = some o ∧ o.dst = some d
  | [], _, k, x, y, h, _ => by simp at h
  | [a], _, k, x, y, _, h => by simp at h
  | a :: b :: r, hc, k, x, y, h1, h2 => by
    rw [chB, Bool.and_eq_true, Bool.and_eq_true, Bool.and_eq_true] at hc
    obtain ⟨⟨⟨hw, hd⟩, _⟩, hr⟩ := hc
    cases k with
    | zero =>
      simp at h1 h2
      subst h1; subst h2
      refine ⟨hw, ?_⟩
      cases ho : l[a]? with
      | none => rw [ho] at hd; cases hd
      | some o =>
        rw [ho] at hd
        obtain ⟨d, hdd⟩ := Option.isSome_iff_exists.1 hd
        exact ⟨o, d, rfl, hdd⟩
    | succ k => exact chB_at hr k x y (by simpa using h1) (by simpa using h2)
theorem chB_nd {l : List Oper} : ∀ {ch : List Nat}, chB l ch = true → ch.Nodup
  | [], _ => List.nodup_nil
  | [a], _ => by simp
  | a :: b :: r, hc => by
    rw [chB, Bool.and_eq_true, Bool.and_eq_true, Bool.and_eq_true] at hc
    rw [List.nodup_cons]
    refine ⟨fun e => ?_, chB_nd hc.2⟩
    have := hc.1.2
    simp only [Bool.not_eq_true', List.contains_eq_mem, decide_eq_false_iff_not] at this
    exact this e
structure TCh (ch : List Nat) (Ws : Nat → World) (up : Nat → Bool) (j : Nat) (X : World) : Prop where
  le : j ≤ ch.length
  yes : ∀ k x, ch[k]? = some x → k < j → up x = true
  no : ∀ k x, ch[k]? = some x → j ≤ k → up x = false
  eq : X = Ws j

/-- c waits for i, on and on. -/
def cloB (l : List Oper) (c i : Nat) : Bool := (clo l 8 [c]).contains i
theorem cloF_up {l : List Oper} {up : Nat → Bool} (hcl : ∀ (j : Nat) (o' : Oper) (e : _), l[j]? = some o' → e ∈ o'.after → Region.binds .any e = true → up j = true → up e.on = true) (f : Nat) {S : List Nat} (hS : ∀ x ∈ S, up x = true) {i : Nat} (h : (clo l f S).contains i = true) : up i = true :=
  clo_up hcl f S hS i (List.contains_iff_mem.1 h)
theorem cloB_up {l : List Oper} {up : Nat → Bool} (hcl : ∀ (j : Nat) (o' : Oper) (e : _), l[j]? = some o' → e ∈ o'.after → Region.binds .any e = true → up j = true → up e.on = true) {c i : Nat} (h : cloB l c i = true) (hu : up c = true) : up i = true := by
  unfold cloB at h
  generalize 8 = f at h
  exact cloF_up hcl f (fun x hx => by rw [List.mem_singleton] at hx; rw [hx]; exact hu) h
/-- The worlds of a chain of two, of three. -/
def ws3 (a b c : World) : Nat → World
  | 0 => a
  | 1 => b
  | _ => c
def ws4 (a b c d : World) : Nat → World
  | 0 => a
  | 1 => b
  | 2 => c
  | _ => d

theorem region_ch {P : Program} {id : Nat} {Q : Exit → Act → World → Prop} {a0 : Act} {w : World} {l : List Oper} (V : Nat → Value → Prop) (ch : List Nat) (Ws : Nat → World) (mx : List Nat) (hm : P.follows .mixedOrders = true)
    (hasc : asc .any l.toArray = true) (hap : apartB l = true) (hpl : plainB l a0.tmps.size = true) (hch : chB l ch = true) (hmx : ((List.range l.length).all fun i => decide (ch.findIdx (fun c => cloB l c i) ≤ mx.getD i 0)) = true) (h0 : Ws 0 = w.drew)
    (hop : ∀ (i : Nat) (o : Oper), l[i]? = some o → ∀ (a : Act), (∀ k, noDst l k = true → a.eval (.tmp k) = a0.eval (.tmp k)) →
      (∀ (j : Nat) (o' : Oper) (k : Nat), l[j]? = some o' → o'.dst = some k → (∃ e ∈ o.after, e.on = j ∧ Region.binds .any e = true) → V j (a.eval (.tmp k))) →
      (∀ j, ch[j]? = some i → (∃ u, (execOp a.eval o).run P (Ws j) = .ok (.value u) (Ws (j + 1)) ∧ o.dst.isSome = true ∧ V i u) ∨ ((execOp a.eval o).run P (Ws j) = .ok .skip (Ws (j + 1)) ∧ o.dst = none)) ∧
      (ch.contains i = false → ∀ j, j ≤ mx.getD i 0 → ∃ u, (execOp a.eval o).run P (Ws j) = .ok (.value u) (Ws j) ∧ o.dst.isSome = true ∧ V i u))
    (hend : ∀ (vs : Nat → Value), (∀ (i : Nat) (o : Oper) (k : Nat), l[i]? = some o → o.dst = some k → V i (vs k)) → Q .normal (putAll l a0 vs) (Ws ch.length)) (hcl : ∀ x ∈ ch, x < l.length) :
    (Code.region id l.toArray true).wp P Q a0 w := by
  have hnd := chB_nd hch
  have inj : ∀ {k k' x : Nat}, ch[k]? = some x → ch[k']? = some x → k = k' := fun {k k' x} h1 h2 => by
    exact (List.getElem?_inj (List.getElem?_eq_some_iff.1 h1).1 hnd).1 (h1.trans h2.symm)
  refine region_T V (fun up _ X => ∃ j, TCh ch Ws up j X) hm hasc hap hpl (fun _ => ⟨0, Nat.zero_le _, fun _ _ _ h => absurd h (Nat.not_lt_zero _), fun _ _ _ _ => rfl, h0.symm⟩) ?_ ?_
  · rintro up vals i o ho hi hcls a X hk hd ⟨j, hT⟩
    obtain ⟨h1, h2⟩ := hop i o ho a hk (fun j o' k hj hk e => by obtain ⟨_, q2, q3⟩ := hd j o' k hj hk e; rw [q2]; exact q3)
    have hX := hT.eq
    subst hX
    cases hc : ch.contains i
    · have hne : ∀ k x, ch[k]? = some x → x ≠ i := fun k x hx e => by
        subst e
        have := List.mem_of_getElem? hx
        rw [List.contains_eq_mem, decide_eq_false_iff_not] at hc
        exact hc this
      have hj : j ≤ ch.findIdx (fun c => cloB l c i) := by
        rcases Nat.lt_or_ge (ch.findIdx (fun c => cloB l c i)) j with q | q
        · exfalso
          have hlt : ch.findIdx (fun c => cloB l c i) < ch.length := Nat.lt_of_lt_of_le q hT.le
          have hw : cloB l (ch[ch.findIdx (fun c => cloB l c i)]) i = true := List.findIdx_getElem (w := hlt) (p := fun c => cloB l c i)
          have hu := hT.yes _ _ (List.getElem?_eq_getElem hlt) q
          have := cloB_up hcls hw hu
          rw [hi] at this
          cases this
        · exact q
      have hil : i < l.length := (List.getElem?_eq_some_iff.1 ho).1
      have hmi := (List.all_eq_true.1 hmx) i (List.mem_range.2 hil)
      rw [decide_eq_true_eq] at hmi
      obtain ⟨u, hr, hds, hV⟩ := h2 hc j (Nat.le_trans hj hmi)
      refine Or.inl ⟨u, _, hr, hds, hV, j, hT.le, fun k x hx hkj => ?_, fun k x hx hkj => ?_, rfl⟩
      · show ((x == i) || up x) = true; rw [hT.yes k x hx hkj]; simp
      · show ((x == i) || up x) = false; rw [hT.no k x hx hkj, show (x == i) = false from by simpa using hne k x hx]; rfl
    · obtain ⟨k, hk⟩ : ∃ k, ch[k]? = some i := by
        rw [List.contains_eq_mem, decide_eq_true_eq] at hc
        exact List.getElem?_of_mem hc
      have hjk : j ≤ k := by
        rcases Nat.lt_or_ge k j with q | q
        · have := hT.yes k i hk q; rw [hi] at this; cases this
        · exact q
      have hkj : k ≤ j := by
        cases k with
        | zero => exact Nat.zero_le _
        | succ k =>
          have hkl : k + 1 < ch.length := (List.getElem?_eq_some_iff.1 hk).1
          have hx : ch[k]? = some ch[k] := List.getElem?_eq_getElem (by omega)
          obtain ⟨hw, ox, d, hox, hdx⟩ := chB_at hch k _ _ hx hk
          have hu := (hd _ _ _ hox hdx (waits_spec hw ho)).1
          rcases Nat.lt_or_ge k j with q | q
          · exact q
          · have := hT.no k _ hx q; rw [hu] at this; cases this
      have e : k = j := by omega
      subst e
      have st : TCh ch Ws (fun x => (x == i) || up x) (k + 1) (Ws (k + 1)) := by
        have hkl : k < ch.length := (List.getElem?_eq_some_iff.1 hk).1
        refine ⟨hkl, fun q x hx hq => ?_, fun q x hx hq => ?_, rfl⟩
        · by_cases e : q = k
          · subst e; rw [hk] at hx; injection hx with hx; subst hx; simp
          · show ((x == i) || up x) = true; rw [hT.yes q x hx (by omega)]; simp
        · have hne : x ≠ i := fun e => by subst e; have := inj hx hk; omega
          show ((x == i) || up x) = false; rw [hT.no q x hx (by omega), show (x == i) = false from by simpa using hne]; rfl
      rcases h1 k hk with ⟨u, hr, hds, hV⟩ | ⟨hr, hds⟩
      · exact Or.inl ⟨u, _, hr, hds, hV, k + 1, st⟩
      · exact Or.inr ⟨_, hr, hds, k + 1, st⟩
  · rintro up vals vs X hall hvs ⟨j, hT⟩
    have hj : j = ch.length := by
      rcases Nat.lt_or_ge j ch.length with q | q
      · exfalso
        have hx : ch[j]? = some ch[j] := List.getElem?_eq_getElem q
        have := hT.no j _ hx (Nat.le_refl _)
        rw [hall _ (hcl _ (List.getElem_mem q))] at this
        cases this
      · exact Nat.le_antisymm hT.le q
    have hX := hT.eq
    subst hX
    rw [hj]
    exact hend vs (fun i o k hi hk => by obtain ⟨q1, q2⟩ := hvs i o k hi hk; rw [q1]; exact q2)
end RY
end Go.Proofs.Ytojcopamegmeeaa

namespace Go.Proofs.Ytojcopamegmeeaa
open Go.RowKit Go.Deep

abbrev shSheetRule : List Sh := [.s, .row 3 [.i], .b, .row 9 [.s]]
theorem typSheetRule {ds : List Dt} (h : Typ shSheetRule ds) : ∃ a0 n1 e1 a2 n3 e3, ds = [.s a0, .row n1 e1, .b a2, .row n3 e3] ∧ Typ (reps n1 [.i]) e1 ∧ Typ (reps n3 [.s]) e3 := by
  obtain ⟨a0, x0, rfl, h1⟩ := h.c_s
  obtain ⟨n1, e1, x1, rfl, t1, h2⟩ := h1.c_r
  obtain ⟨a2, x2, rfl, h3⟩ := h2.c_b
  obtain ⟨n3, e3, x3, rfl, t3, h4⟩ := h3.c_r
  obtain rfl := h4.c_n
  exact ⟨a0, n1, e1, a2, n3, e3, rfl, t1, t3⟩
theorem repSheetRule {w : World} {tt : Bool} {F : List Nat} {a0 : ByteArray} {n1 : Nat} {e1 : List Dt} {a2 : Bool} {n3 : Nat} {e3 : List Dt} {cs : List Value} (h : Rep w tt shSheetRule F [.s a0, .row n1 e1, .b a2, .row n3 e3] cs) : ∃ F1 v1 F3 v3, F = F1 ++ (F3 ++ []) ∧ cs = [.string a0, v1, .bool a2, v3] ∧ Rep w tt [.row 3 [.i]] F1 [.row n1 e1] [v1] ∧ Rep w tt [.row 9 [.s]] F3 [.row n3 e3] [v3] := by
  obtain ⟨x0, rfl, h1⟩ := h.c_s
  obtain ⟨F1, G1, v1, x1, rfl, rfl, t1, h2⟩ := h1.c_r
  obtain ⟨x2, rfl, h3⟩ := h2.c_b
  obtain ⟨F3, G3, v3, x3, rfl, rfl, t3, h4⟩ := h3.c_r
  obtain ⟨rfl, rfl⟩ := h4.c_n
  exact ⟨F1, v1, F3, v3, rfl, rfl, t1, t3⟩
theorem rawSheetRule {w : World} {a0 : ByteArray} {n1 : Nat} {e1 : List Dt} {a2 : Bool} {n3 : Nat} {e3 : List Dt} {cs : List Value} (h : Raw w shSheetRule [.s a0, .row n1 e1, .b a2, .row n3 e3] cs) : ∃ v1 v3, cs = [.string a0, v1, .bool a2, v3] ∧ Raw w [.row 3 [.i]] [.row n1 e1] [v1] ∧ Raw w [.row 9 [.s]] [.row n3 e3] [v3] := by
  obtain ⟨x0, rfl, h1⟩ := h.c_s
  obtain ⟨v1, x1, rfl, t1, h2⟩ := h1.c_r
  obtain ⟨x2, rfl, h3⟩ := h2.c_b
  obtain ⟨v3, x3, rfl, t3, h4⟩ := h3.c_r
  obtain rfl := h4.c_n
  exact ⟨v1, v3, rfl, t1, t3⟩
theorem repSheetRule_mk {w : World} {tt : Bool} (a0 : ByteArray) {F1 : List Nat} {n1 : Nat} {e1 : List Dt} {v1 : Value} (h1 : Rep w tt [.row 3 [.i]] F1 [.row n1 e1] [v1]) (a2 : Bool) {F3 : List Nat} {n3 : Nat} {e3 : List Dt} {v3 : Value} (h3 : Rep w tt [.row 9 [.s]] F3 [.row n3 e3] [v3]) : Rep w tt shSheetRule (F1 ++ (F3 ++ [])) [.s a0, .row n1 e1, .b a2, .row n3 e3] [.string a0, v1, .bool a2, v3] :=
  (.s a0 (h1.app (.b a2 (h3.app .nil))))
theorem rawSheetRule_mk {w : World} (a0 : ByteArray) {n1 : Nat} {e1 : List Dt} {v1 : Value} (h1 : Raw w [.row 3 [.i]] [.row n1 e1] [v1]) (a2 : Bool) {n3 : Nat} {e3 : List Dt} {v3 : Value} (h3 : Raw w [.row 9 [.s]] [.row n3 e3] [v3]) : Raw w shSheetRule [.s a0, .row n1 e1, .b a2, .row n3 e3] [.string a0, v1, .bool a2, v3] :=
  (.s a0 (h1.app (.b a2 (h3.app .nil))))
theorem segTypSheetRule {ds : List Dt} (h : Typ shSheetRule ds) : ∃ (a0 : ByteArray) (n1 : Nat) (e1 : List Dt) (a2 : Bool) (n3 : Nat) (e3 : List Dt), ds = .s a0 :: .row n1 e1 :: .b a2 :: .row n3 e3 :: [] ∧ Typ (reps n1 [.i]) e1 ∧ Typ (reps n3 [.s]) e3 := by
  obtain ⟨a0, x0, rfl, h1⟩ := h.c_s
  obtain ⟨n1, e1, x1, rfl, t1, h2⟩ := h1.c_r
  obtain ⟨a2, x2, rfl, h3⟩ := h2.c_b
  obtain ⟨n3, e3, x3, rfl, t3, h4⟩ := h3.c_r
  obtain rfl := h4.c_n
  exact ⟨a0, n1, e1, a2, n3, e3, rfl, t1, t3⟩
theorem segRepSheetRule {w : World} {tt : Bool} {F : List Nat} {ds : List Dt} {cs : List Value} (h : Rep w tt shSheetRule F ds cs) : ∃ (a0 : ByteArray) (F1 : List Nat) (n1 : Nat) (e1 : List Dt) (v1 : Value) (a2 : Bool) (F3 : List Nat) (n3 : Nat) (e3 : List Dt) (v3 : Value), F = (F1 ++ (F3 ++ [])) ∧ ds = .s a0 :: .row n1 e1 :: .b a2 :: .row n3 e3 :: [] ∧ cs = .string a0 :: v1 :: .bool a2 :: v3 :: [] ∧ Rep w tt [.row 3 [.i]] F1 [.row n1 e1] [v1] ∧ Rep w tt [.row 9 [.s]] F3 [.row n3 e3] [v3] := by
  obtain ⟨a0, n1, e1, a2, n3, e3, rfl, tt1, tt3⟩ := segTypSheetRule h.raw.typ
  obtain ⟨x0, rfl, h1⟩ := h.c_s
  obtain ⟨F1, G1, v1, x1, rfl, rfl, t1, h2⟩ := h1.c_r
  obtain ⟨x2, rfl, h3⟩ := h2.c_b
  obtain ⟨F3, G3, v3, x3, rfl, rfl, t3, h4⟩ := h3.c_r
  obtain ⟨rfl, rfl⟩ := h4.c_n
  exact ⟨a0, F1, n1, e1, v1, a2, F3, n3, e3, v3, rfl, rfl, rfl, t1, t3⟩
theorem segRawSheetRule {w : World} {ds : List Dt} {cs : List Value} (h : Raw w shSheetRule ds cs) : ∃ (a0 : ByteArray) (n1 : Nat) (e1 : List Dt) (v1 : Value) (a2 : Bool) (n3 : Nat) (e3 : List Dt) (v3 : Value), ds = .s a0 :: .row n1 e1 :: .b a2 :: .row n3 e3 :: [] ∧ cs = .string a0 :: v1 :: .bool a2 :: v3 :: [] ∧ Raw w [.row 3 [.i]] [.row n1 e1] [v1] ∧ Raw w [.row 9 [.s]] [.row n3 e3] [v3] := by
  obtain ⟨a0, n1, e1, a2, n3, e3, rfl, tt1, tt3⟩ := segTypSheetRule h.typ
  obtain ⟨x0, rfl, h1⟩ := h.c_s
  obtain ⟨v1, x1, rfl, t1, h2⟩ := h1.c_r
  obtain ⟨x2, rfl, h3⟩ := h2.c_b
  obtain ⟨v3, x3, rfl, t3, h4⟩ := h3.c_r
  obtain rfl := h4.c_n
  exact ⟨a0, n1, e1, v1, a2, n3, e3, v3, rfl, rfl, t1, t3⟩
theorem segRepSheetRule_mk {w : World} {tt : Bool} (a0 : ByteArray) {F1 : List Nat} {n1 : Nat} {e1 : List Dt} {v1 : Value} (h1 : Rep w tt [.row 3 [.i]] F1 [.row n1 e1] [v1]) (a2 : Bool) {F3 : List Nat} {n3 : Nat} {e3 : List Dt} {v3 : Value} (h3 : Rep w tt [.row 9 [.s]] F3 [.row n3 e3] [v3]) : Rep w tt shSheetRule (F1 ++ (F3 ++ [])) (.s a0 :: .row n1 e1 :: .b a2 :: .row n3 e3 :: []) (.string a0 :: v1 :: .bool a2 :: v3 :: []) :=
  (.s a0 (h1.app (.b a2 (h3.app .nil))))
theorem segRawSheetRule_mk {w : World} (a0 : ByteArray) {n1 : Nat} {e1 : List Dt} {v1 : Value} (h1 : Raw w [.row 3 [.i]] [.row n1 e1] [v1]) (a2 : Bool) {n3 : Nat} {e3 : List Dt} {v3 : Value} (h3 : Raw w [.row 9 [.s]] [.row n3 e3] [v3]) : Raw w shSheetRule (.s a0 :: .row n1 e1 :: .b a2 :: .row n3 e3 :: []) (.string a0 :: v1 :: .bool a2 :: v3 :: []) :=
  (.s a0 (h1.app (.b a2 (h3.app .nil))))
theorem boxSheetRule {W : World} {B : Nat} {a0 : ByteArray} {v1 : Value} {a2 : Bool} {v3 : Value}  (h : W.rangeAt B 0 (.string a0 :: v1 :: .bool a2 :: v3 :: [])) : W.cell? ⟨B, 0, none⟩ = some (.string a0) ∧ W.cell? ⟨B, 1, none⟩ = some (v1) ∧ W.cell? ⟨B, 2, none⟩ = some (.bool a2) ∧ W.cell? ⟨B, 3, none⟩ = some (v3) := by
  obtain ⟨g0, k0⟩ := rA_cons h
  have h1 : W.rangeAt B 1 _ := k0
  obtain ⟨g1, k1⟩ := rA_cons h1
  have h2 : W.rangeAt B 2 _ := k1
  obtain ⟨g2, k2⟩ := rA_cons h2
  have h3 : W.rangeAt B 3 _ := k2
  obtain ⟨g3, k3⟩ := rA_cons h3
  have h4 : W.rangeAt B 4 _ := k3
  exact ⟨g0, g1, g2, g3⟩
end Go.Proofs.Ytojcopamegmeeaa

namespace Go.Proofs.Ytojcopamegmeeaa
open Go.RowKit Go.Deep

theorem Try.under_ints : Try.prog.underlying 71 = some (.slice 3) := by kernel_rfl
theorem Try.info_int : (Try.prog.info? 3).map (fun i => (i.zero, i.size, i.bytes)) = some (some (.int .i64 0), 1, 8) := by kernel_rfl
theorem sliceRun (s : ByteArray) (f k : Nat) (h1 : f ≤ k) (h2 : k ≤ s.size) (w : World) : (Instr.slice 9 (.string s) (some (.int .i64 (f : Int))) (some (.int .i64 (k : Int))) none).run Try.prog w = .ok (.string (s.extract f k)) w := by
  rw [run_slice_string_if w 9 s .i64 .i64 (f : Int) (k : Int) (by kernel_rfl), if_pos ⟨by omega, by omega⟩, if_pos ⟨by omega, by omega⟩]
  simp only [Int.toNat_natCast]
/-- While a rule is made: the answer's variable, the rule's, its words so far. -/
structure OR (w : World) (p : Nat) (key : ByteArray) (av : Value) (FA : List Nat) (n : Nat) (es : List Dt) (wr : World) (v : Value) (ts : List ByteArray) : Prop where
  bel : Below w.heap.size w wr
  res : WBox wr w.heap.size 73 [.string { data := #[] }, .slice none 0 0, .bool false, .slice none 0 0]
  box : WBox wr p 73 [.string key, av, .bool false, v]
  arg : Rep wr false [.row 3 [.i]] FA [.row n es] [av]
  row : TxR wr (p + 1) v ts
theorem OR.put {w wr wb w1 : World} {p : Nat} {key : ByteArray} {av v v' : Value} {FA : List Nat} {n : Nat} {es : List Dt} {ts ts' : List ByteArray} (h : OR w p key av FA n es wr v ts) (hwp : w.heap.size < p) (hFA : ∀ b ∈ FA, b < p) (hb : Below wr.heap.size wr wb) (hg : wb.grownBy w1 v.ownBlock) (hx : TxR w1 (p + 1) v' ts') : OR w p key av FA n es (w1.setCell ⟨p, 3, none⟩ v') v' ts' := by
  have hn : ∀ q, q < p + 1 → v.ownBlock ≠ some q := fun q hq e => by have := (owns_blk_lt h.row e).1; omega
  have hm : Marks (fun b => b = p) w1 (w1.setCell ⟨p, 3, none⟩ v') := Marks.sc (S := fun b => b = p) w1 rfl 3 v'
  refine ⟨?_, ((h.res.later hb).grow hg (hn _ (by omega))).other (by omega) _ _, ((h.box.later hb).grow hg (hn _ (by omega))).set 3 v' (by simp), ((h.arg.later hb).grown hg fun b hb => hn b (by have := hFA b hb; omega)).keep hm fun b hb e => by have := hFA b hb; omega, owns_mks hx hm fun b hb e => by omega⟩
  exact ((h.row.later hb).below (lo := p + 1) (blw_trans h.bel hb) hg (by omega)).setCell (p := ⟨p, 3, none⟩) (by show w.heap.size ≤ p; omega) _
theorem orAns {w wr we : World} {p : Nat} {key : ByteArray} {av v : Value} {FA : List Nat} {n : Nat} {es : List Dt} {ts : List ByteArray} (h : OR w p key av FA n es wr v ts) (hwp : w.heap.size < p) (nd : FA.Nodup) (hFA : ∀ b ∈ FA, w.heap.size < b ∧ b < p) (hm : Marks (fun b => b = w.heap.size) wr we) (hb : Below w.heap.size w we) :
    Ans shSheetRule [.s key, .row n es, .b false, .row ts.length (txD ts)] w (.returned (.agg #[.string key, av, .bool false, v])) we := by
  obtain ⟨F, h1, h2, h3⟩ := TxR.done (show TxR we (p + 1) v ts from owns_mks h.row hm fun b hb e => by omega)
  refine ⟨[.string key, av, .bool false, v], FA ++ (F ++ []), rfl, repSheetRule_mk key (h.arg.keep hm fun b hb e => by have := hFA b hb; omega) false h1, ?_, fun b hb' => ?_, hb⟩
  · rw [List.append_nil]
    exact nd_join nd h2 (fun b hb => (hFA b hb).2) (fun b hb => by have := h3 b hb; omega)
  · rw [List.append_nil] at hb'
    rcases List.mem_append.1 hb' with q | q
    · have := hFA b q; omega
    · have := h3 b q; omega
def VOr (wz p f k g cap : Nat) (s X : ByteArray) (va : Value) (m : Nat) : Nat → Value → Prop
  | 0, u => u = .pointer (some ⟨p, 3, none⟩)
  | 1, u => u = va
  | 2, u => u = .string s
  | 3, u => u = .int .i64 (f : Int)
  | 4, u => u = .int .i64 (k : Int)
  | 5, u => u = .string X
  | 6, u => u = .slice (some ⟨wz, 0, none⟩) 1 1
  | 7, u => u = .slice (some ⟨g, 0, none⟩) (m + 1) cap
  | 8, u => u = .pointer (some ⟨p, 3, none⟩)
  | _, _ => True

set_option maxRecDepth 8000 in
set_option maxHeartbeats 8000000 in
theorem l38OneS (key s : ByteArray) (va : Option Addr) (n vc : Nat) (es : List Dt) (w : World) (hs : s.size ≤ 1048576) (hv : Raw w [.row 3 [.i]] [.row n es] [.slice va n vc]) (hn : n ≤ 4194304) :
    Calls Try.prog 48 #[.string key, .string s, .slice va n vc] w (Ans shSheetRule [.s key, .row n es, .b false, .row (Pl.splL s).length (txD (Pl.splL s))] w) := by
  obtain ⟨wa, hwa⟩ : ∃ wa, wa = w.alloc (.cells #[.string { data := #[] }, .slice none 0 0, .bool false, .slice none 0 0] 73) := ⟨_, rfl⟩
  have hba : Below w.heap.size w wa := by rw [hwa]; exact blw_alloc (Below.refl _ _) _
  have hsa : wa.heap.size = w.heap.size + 1 := by rw [hwa]; simp
  have HRES : Hid (WBox wa w.heap.size 73 [.string { data := #[] }, .slice none 0 0, .bool false, .slice none 0 0]) := by show WBox _ _ _ _; rw [hwa]; exact WBox.new w [.string { data := #[] }, .slice none 0 0, .bool false, .slice none 0 0] 73 _ rfl
  obtain ⟨wb, hwb⟩ : ∃ wb, wb = wa.alloc (.cells #[] 3) := ⟨_, rfl⟩
  have hbb : Below wa.heap.size wa wb := by rw [hwb]; exact blw_alloc (Below.refl _ _) _
  obtain ⟨v', W1, xs, hrun, hg, hb1⟩ := app_copy (P := Try.prog) wa.heap.size 71 71 3 3 1 8 _ Try.under_ints Try.info_int rfl (by decide) (by decide) [.i] rfl (by simp [flatB]) wb (.slice (some ⟨wa.heap.size, 0, none⟩) 0 0) (Or.inr ⟨wa.heap.size, rfl, Nat.le_refl _, by rw [hwb]; exact heap_alloc_new _ _⟩) hbb.size n es (.slice va n vc) ((hv.later hba).later hbb) hn
  rw [hwb] at hrun
  obtain ⟨wx, wc, hvx⟩ := hg.shape
  subst hvx
  obtain ⟨FA, rA, ndA, frA⟩ := hg.done
  obtain ⟨p, hp⟩ : ∃ p, p = W1.heap.size := ⟨_, rfl⟩
  obtain ⟨wd, hwd⟩ : ∃ wd, wd = W1.alloc (.cells #[.string key, .slice wx n wc, .bool false, .slice none 0 0] 73) := ⟨_, rfl⟩
  have H0 : Hid (OR w p key (.slice wx n wc) FA n es wd (.slice none 0 0) []) := by
    have hb2 : Below W1.heap.size W1 wd := by rw [hwd]; exact blw_alloc (Below.refl _ _) _
    show OR _ _ _ _ _ _ _ _ _ _
    exact ⟨blw_trans (blw_trans (blw_trans hba hbb) hb1) hb2, ((HRES.out.later hbb).later hb1).later hb2, by rw [hwd, hp]; exact WBox.new W1 [.string key, .slice wx n wc, .bool false, .slice none 0 0] 73 _ rfl, rA.later hb2, TxR.nil _ _⟩
  have HFA : Hid (FA.Nodup ∧ ∀ b ∈ FA, w.heap.size < b ∧ b < p) := ⟨ndA, fun b hb => ⟨by have := frA b hb; omega, by rw [hp]; exact rA.lt b hb⟩⟩
  have HWP : Hid (w.heap.size < p) := by show _ < _; rw [hp]; have := hba.size; have := hbb.size; have := hb1.size; omega
  clear hg rA ndA frA HRES hv hwb hbb hb1 hsa hba
  go_enter Try.func48, Try.ntmps48
  go_upto_region 1 with fail
  rw [← hwa]
  clear hwa
  go_upto_region 2 with (at_builtin; refine Go.Lib.wpList_append_run _ rfl _ _ 71 71 rfl _ _ rfl rfl _ W1 hrun ?_)
  rw [← hwd, ← hp]
  clear hwd hp hrun
  go_wp2
  go_loopw [8, 9] (fun vf vi wr => ∃ (f k : Nat) (v : Value) (ts : List ByteArray), vf = .int .i64 f ∧ vi = .int .i64 k ∧ OR w p key (.slice wx n wc) FA n es wr v ts ∧ ts.length ≤ k ∧ k ≤ s.size + 1 ∧ f ≤ k ∧ ((k ≤ s.size ∧ Pl.splL s = ts ++ Pl.splR s f k) ∨ (k = s.size + 1 ∧ Pl.splL s = ts))) (fun _ vi _ => s.size + 1 - (intOf vi).toNat)
  case atStart => exact ⟨0, 0, _, [], rfl, rfl, H0.out, Nat.le_refl _, by omega, Nat.le_refl _, Or.inl ⟨Nat.zero_le _, by rw [Pl.splR_start]; rfl⟩⟩
  case round =>
    obtain ⟨f, k, v, ts, rfl, rfl, hO, htl, hk1, hfk, hspl⟩ := hrel
    have HO := uh hO
    have HSP := uh hspl
    have HTL := uh htl
    obtain ⟨sa, sc, hvv⟩ := hO.row.shape
    subst hvv
    clear hO hspl htl H0
    by_cases hle : k ≤ s.size
    rotate_left
    · have HSE : Hid (Pl.splL s = ts) := by rcases HSP.out with h | h; exact absurd h.1 hle; exact h.2
      have HBEL := uh HO.out.bel
      go_upto_region 9 with fail
      have hxa := HO.out.box.at_
      have hxl := HO.out.box.own.lt
      have hol := HO.out.res.own.lt
      have hth : wr.there w.heap.size 0 (#[.string key, .slice wx n wc, .bool false, .slice sa ts.length sc] : Array Value).size := uthere HO.out.res.own _ _ (by simp)
      obtain ⟨we, hwe⟩ : ∃ we, we = wr.setCells w.heap.size 0 [.string key, .slice wx n wc, .bool false, .slice sa ts.length sc] := ⟨_, rfl⟩
      have hrt : we.rangeAt w.heap.size 0 [.string key, .slice wx n wc, .bool false, .slice sa ts.length sc] := by rw [hwe]; exact World.rangeAt_setCells_same _ _ _ _ hth
      have HMK : Hid (Marks (fun b => b = w.heap.size) wr we) := by show Marks _ _ _; rw [hwe]; exact mks_scs (S := fun b => b = w.heap.size) rfl _ _ _
      have HBB : Hid (Below w.heap.size w we) := by show Below _ _ _; rw [hwe]; exact blw_scs (Nat.le_refl _) _ _ _ HBEL.out
      go_wp2_with (first | (refine wpList_load_mid rfl 73 _ rfl p 0 rfl [.string key, .slice wx n wc, .bool false, .slice sa ts.length sc] _ hxa Try.underlying73 rfl (by kernel_rfl) ?_) | (refine wpList_store_mid rfl 73 _ _ rfl w.heap.size 0 #[.string key, .slice wx n wc, .bool false, .slice sa ts.length sc] rfl rfl hth (by kernel_rfl) (by simp [Value.oneCell']) ?_))
      first | rw [← hwe] | (simp only [List.toList_toArray]; rw [← hwe])
      try simp only [Act.put]
      refine bodyPost_ret (v := .agg #[.string key, .slice wx n wc, .bool false, .slice sa ts.length sc]) (by simp [results, Try.results48, asAddr, run_loadVar_mid (P := Try.prog) _ _ _ 73 [.string key, .slice wx n wc, .bool false, .slice sa ts.length sc] _ hrt Try.underlying73 rfl (by kernel_rfl)]) rfl ?_
      rw [HSE.out]; exact orAns HO.out HWP.out HFA.out.1 HFA.out.2 HMK.out HBB.out
    have HSR : Hid (Pl.splL s = ts ++ Pl.splR s f k) := by
      rcases HSP.out with h | h
      · exact h.2
      · exact absurd h.1 (by omega)
    clear HSP
    have hcut : (k = s.size) ∨ (∃ h : k < s.size, s[k].toNat = 32) ∨ (∃ h : k < s.size, s[k].toNat ≠ 32) := by
      by_cases e : k = s.size
      · exact Or.inl e
      · by_cases e2 : s[k].toNat = 32
        · exact Or.inr (Or.inl ⟨by omega, e2⟩)
        · exact Or.inr (Or.inr ⟨by omega, e2⟩)
    have HSL : Hid (∀ w, (Instr.slice 9 (.string s) (some (.int .i64 (f : Int))) (some (.int .i64 (k : Int))) none).run Try.prog w = .ok (.string (s.extract f k)) w) := fun w => sliceRun s f k hfk hle w
    obtain ⟨X, hX⟩ : ∃ X, X = s.extract f k := ⟨_, rfl⟩
    rw [← hX] at HSL
    have hkk : IntKind.i64.wrap ((k : Int) + 1) = (k : Int) + 1 := IntWalk.i64_in _ ⟨by omega, by omega⟩
    rcases hcut with he | ⟨hlt, hc⟩ | ⟨hlt, hc⟩
    rotate_right
    · have HNX : Hid (Pl.splL s = ts ++ Pl.splR s f (k + 1)) := by show _ = _; rw [HSR.out, Pl.splR_on s f k hfk hlt hc]
      have d1 : ((k : Int) == (s.size : Int)) = false := by simp; omega
      have d2 : ((s[k].toNat : Int) == 32) = false := by simp; omega
      clear hc
      go_wp2
      go_roundw
      case rel => exact ⟨f, k + 1, _, ts, rfl, by go_num, HO.out, by have := HTL.out; omega, by omega, by omega, Or.inl ⟨by omega, HNX.out⟩⟩
      case measure => simp [intOf]; omega
    all_goals
      have HNX : Hid (((k + 1 ≤ s.size ∧ Pl.splL s = (ts ++ [X]) ++ Pl.splR s (k + 1) (k + 1)) ∨ (k + 1 = s.size + 1 ∧ Pl.splL s = ts ++ [X]))) := by
        first
          | (refine Or.inr ⟨by omega, ?_⟩; rw [HSR.out, hX]; subst he; rw [Pl.splR_end])
          | (refine Or.inl ⟨by omega, ?_⟩; rw [HSR.out, Pl.splR_cut s f k hlt hc, hX]; simp)
      first
        | have d1 : ((k : Int) == (s.size : Int)) = true := by simp; omega
        | (have d1 : ((k : Int) == (s.size : Int)) = false := by simp; omega
           have d2 : ((s[k].toNat : Int) == 32) = true := by simp; omega)
      have hwd0 : Below wr.heap.size wr wr.drew := Below.drew (Below.refl _ _)
      obtain ⟨Wb, hWb⟩ : ∃ Wb, Wb = wr.drew.alloc (.cells #[.string X] 9) := ⟨_, rfl⟩
      have hbW : Below wr.heap.size wr Wb := by rw [hWb]; exact blw_alloc hwd0 _
      obtain ⟨g, cap, W1', hrun, hx1, hgr⟩ := tx_run (HO.out.row.later hbW) 67 wr.heap.size 1 1 [X] rfl (by rw [hWb]; exact World.news_of_block (cs := #[.string X]) (heap_alloc_new wr.drew _)) (by decide) (by have := HTL.out; omega) (by have := HO.out.box.own.lt; have := hbW.size; omega)
      have c0 := (HO.out.box.later hwd0).get 3 _ rfl
      have c0b := (HO.out.box.later hbW).get 3 _ rfl
      have HOP := uh (HO.out.put HWP.out (fun b hb => (HFA.out.2 b hb).2) hbW hgr hx1)
      have hn1 : (Value.slice sa ts.length sc).ownBlock ≠ some p := fun e => by have := (owns_blk_lt HO.out.row e).1; omega
      have x0 := ((HO.out.box.later hbW).grow hgr hn1).get 3 _ rfl
      have xf := ((HO.out.box.later hbW).grow hgr hn1).own.frozen 3
      clear hx1 hgr hn1 hbW hwd0
      go_upto_region 7 with fail
      refine RY.region_ch (VOr wr.heap.size p f k g cap s X (.slice sa ts.length sc) ts.length) [6, 7, 9] (RY.ws4 wr.drew Wb W1' (W1'.setCell ⟨p, 3, none⟩ (.slice (some ⟨g, 0, none⟩) (ts.length + 1) cap))) [1, 1, 0, 0, 0, 0, 0, 1, 2, 2] (by kernel_rfl) (by kernel_rfl) (by kernel_rfl) (by kernel_rfl) (by kernel_rfl) (by kernel_rfl) rfl ?_ ?_ (by simp)
      · intro i o ho a hk hd
        match i, ho with
        | 0, ho =>
          injection ho with ho; subst ho
          have s7 : a.eval (.tmp 7) = .pointer (some ⟨p, 0, none⟩) := (hk 7 rfl).trans rfl
          have t7 : a.tmps[7]?.getD undef = .pointer (some ⟨p, 0, none⟩) := (RY.ev_tmp a 7).trans s7
          refine ⟨fun j hj => absurd (List.mem_of_getElem? hj) (by decide), fun _ j hj => ?_⟩
          exact ⟨.pointer (some ⟨p, 3, none⟩), by simp [execOp, go_sem, t7], rfl, rfl⟩
        | 1, ho =>
          injection ho with ho; subst ho
          have s31 : a.eval (.tmp 31) = .pointer (some ⟨p, 3, none⟩) := hd 0 _ 31 rfl rfl ⟨⟨0, .data⟩, by simp, rfl, rfl⟩
          have t31 : a.tmps[31]?.getD undef = .pointer (some ⟨p, 3, none⟩) := (RY.ev_tmp a 31).trans s31
          refine ⟨fun j hj => absurd (List.mem_of_getElem? hj) (by decide), fun _ j hj => ?_⟩
          replace hj : j ≤ 1 := hj
          match j, hj with
          | 0, _ => exact ⟨.slice sa ts.length sc, by simp [RY.ws4, execOp, go_sem, t31, c0], rfl, rfl⟩
          | 1, _ => exact ⟨.slice sa ts.length sc, by simp [RY.ws4, execOp, go_sem, t31, c0b], rfl, rfl⟩
          | n + 2, hj => exact absurd hj (by omega)
        | 2, ho =>
          injection ho with ho; subst ho
          have s1 : a.eval (.tmp 1) = .string s := (hk 1 rfl).trans rfl
          have t1 : a.tmps[1]?.getD undef = .string s := (RY.ev_tmp a 1).trans s1
          refine ⟨fun j hj => absurd (List.mem_of_getElem? hj) (by decide), fun _ j hj => ?_⟩
          exact ⟨.string s, by simp [execOp, go_sem, t1], rfl, rfl⟩
        | 3, ho =>
          injection ho with ho; subst ho
          have s8 : a.eval (.tmp 8) = .int .i64 (f : Int) := (hk 8 rfl).trans rfl
          have t8 : a.tmps[8]?.getD undef = .int .i64 (f : Int) := (RY.ev_tmp a 8).trans s8
          refine ⟨fun j hj => absurd (List.mem_of_getElem? hj) (by decide), fun _ j hj => ?_⟩
          exact ⟨.int .i64 (f : Int), by simp [execOp, go_sem, t8], rfl, rfl⟩
        | 4, ho =>
          injection ho with ho; subst ho
          have s9 : a.eval (.tmp 9) = .int .i64 (k : Int) := (hk 9 rfl).trans rfl
          have t9 : a.tmps[9]?.getD undef = .int .i64 (k : Int) := (RY.ev_tmp a 9).trans s9
          refine ⟨fun j hj => absurd (List.mem_of_getElem? hj) (by decide), fun _ j hj => ?_⟩
          exact ⟨.int .i64 (k : Int), by simp [execOp, go_sem, t9], rfl, rfl⟩
        | 5, ho =>
          injection ho with ho; subst ho
          have s33 : a.eval (.tmp 33) = .string s := hd 2 _ 33 rfl rfl ⟨⟨2, .data⟩, by simp, rfl, rfl⟩
          have t33 : a.tmps[33]?.getD undef = .string s := (RY.ev_tmp a 33).trans s33
          have s34 : a.eval (.tmp 34) = .int .i64 (f : Int) := hd 3 _ 34 rfl rfl ⟨⟨3, .data⟩, by simp, rfl, rfl⟩
          have t34 : a.tmps[34]?.getD undef = .int .i64 (f : Int) := (RY.ev_tmp a 34).trans s34
          have s35 : a.eval (.tmp 35) = .int .i64 (k : Int) := hd 4 _ 35 rfl rfl ⟨⟨4, .data⟩, by simp, rfl, rfl⟩
          have t35 : a.tmps[35]?.getD undef = .int .i64 (k : Int) := (RY.ev_tmp a 35).trans s35
          refine ⟨fun j hj => absurd (List.mem_of_getElem? hj) (by decide), fun _ j hj => ?_⟩
          replace hj : j ≤ 0 := hj
          match j, hj with
          | 0, _ => exact ⟨.string X, by simp [RY.ws4, execOp, go_sem, t33, t34, t35, HSL.out], rfl, rfl⟩
          | n + 1, hj => exact absurd hj (by omega)
        | 6, ho =>
          injection ho with ho; subst ho
          have s36 : a.eval (.tmp 36) = .string X := hd 5 _ 36 rfl rfl ⟨⟨5, .data⟩, by simp, rfl, rfl⟩
          have t36 : a.tmps[36]?.getD undef = .string X := (RY.ev_tmp a 36).trans s36
          refine ⟨fun j hj => ?_, fun h => absurd h (by decide)⟩
          obtain rfl : j = 0 := by
            match j, hj with
            | 0, hj => first | rfl | (simp at hj)
            | 1, hj => first | rfl | (simp at hj)
            | 2, hj => first | rfl | (simp at hj)
            | n + 3, hj => simp at hj
          exact Or.inl ⟨.slice (some ⟨wr.heap.size, 0, none⟩) 1 1, by rw [hWb]; simp [RY.ws4, execOp, go_sem, t36], rfl, rfl⟩
        | 7, ho =>
          injection ho with ho; subst ho
          have s32 : a.eval (.tmp 32) = .slice sa ts.length sc := hd 1 _ 32 rfl rfl ⟨⟨1, .data⟩, by simp, rfl, rfl⟩
          have t32 : a.tmps[32]?.getD undef = .slice sa ts.length sc := (RY.ev_tmp a 32).trans s32
          have s37 : a.eval (.tmp 37) = .slice (some ⟨wr.heap.size, 0, none⟩) 1 1 := hd 6 _ 37 rfl rfl ⟨⟨6, .data⟩, by simp, rfl, rfl⟩
          have t37 : a.tmps[37]?.getD undef = .slice (some ⟨wr.heap.size, 0, none⟩) 1 1 := (RY.ev_tmp a 37).trans s37
          refine ⟨fun j hj => ?_, fun h => absurd h (by decide)⟩
          obtain rfl : j = 1 := by
            match j, hj with
            | 0, hj => first | rfl | (simp at hj)
            | 1, hj => first | rfl | (simp at hj)
            | 2, hj => first | rfl | (simp at hj)
            | n + 3, hj => simp at hj
          exact Or.inl ⟨_, uexec_append (.tmp 32) (.tmp 37) 67 rfl s32 s37 hrun, rfl, rfl⟩
        | 8, ho =>
          injection ho with ho; subst ho
          have s7 : a.eval (.tmp 7) = .pointer (some ⟨p, 0, none⟩) := (hk 7 rfl).trans rfl
          have t7 : a.tmps[7]?.getD undef = .pointer (some ⟨p, 0, none⟩) := (RY.ev_tmp a 7).trans s7
          refine ⟨fun j hj => absurd (List.mem_of_getElem? hj) (by decide), fun _ j hj => ?_⟩
          exact ⟨.pointer (some ⟨p, 3, none⟩), by simp [execOp, go_sem, t7], rfl, rfl⟩
        | 9, ho =>
          injection ho with ho; subst ho
          have s39 : a.eval (.tmp 39) = .pointer (some ⟨p, 3, none⟩) := hd 8 _ 39 rfl rfl ⟨⟨8, .data⟩, by simp, rfl, rfl⟩
          have t39 : a.tmps[39]?.getD undef = .pointer (some ⟨p, 3, none⟩) := (RY.ev_tmp a 39).trans s39
          have s38 : a.eval (.tmp 38) = .slice (some ⟨g, 0, none⟩) (ts.length + 1) cap := hd 7 _ 38 rfl rfl ⟨⟨7, .data⟩, by simp, rfl, rfl⟩
          have t38 : a.tmps[38]?.getD undef = .slice (some ⟨g, 0, none⟩) (ts.length + 1) cap := (RY.ev_tmp a 38).trans s38
          refine ⟨fun j hj => ?_, fun h => absurd h (by decide)⟩
          obtain rfl : j = 2 := by
            match j, hj with
            | 0, hj => first | rfl | (simp at hj)
            | 1, hj => first | rfl | (simp at hj)
            | 2, hj => first | rfl | (simp at hj)
            | n + 3, hj => simp at hj
          exact Or.inr ⟨by simp [RY.ws4, execOp, go_sem, t39, t38, x0, xf], rfl⟩
        | n + 10, ho => simp at ho
      intro vs hvs
      simp only [RY.putAll, Act.put, List.setIfInBounds_toArray, List.set_cons_zero, List.set_cons_succ]
      generalize vs 31 = g31
      generalize vs 32 = g32
      generalize vs 33 = g33
      generalize vs 34 = g34
      generalize vs 35 = g35
      generalize vs 36 = g36
      generalize vs 37 = g37
      generalize vs 38 = g38
      generalize vs 39 = g39
      clear hvs
      clear c0 c0b x0 xf hrun hWb
      show _
      go_wp2
      go_roundw
      case rel => exact ⟨k + 1, k + 1, _, ts ++ [X], by go_num, by go_num, HOP.out, by rw [List.length_append]; have := HTL.out; simp; omega, by omega, Nat.le_refl _, HNX.out⟩
      case measure => simp [intOf]; omega

set_option maxRecDepth 8000 in
set_option maxHeartbeats 8000000 in
theorem l38ManyS (key : ByteArray) (va : Option Addr) (n vc : Nat) (es : List Dt) (w : World) (hv : Raw w [.row 3 [.i]] [.row n es] [.slice va n vc]) (hn : n ≤ 4194304) :
    Calls Try.prog 49 #[.string key, .slice va n vc] w (Ans shSheetRule [.s key, .row n es, .b true, .row 0 []] w) := by
  obtain ⟨wa, hwa⟩ : ∃ wa, wa = w.alloc (.cells #[.string { data := #[] }, .slice none 0 0, .bool false, .slice none 0 0] 73) := ⟨_, rfl⟩
  have hba : Below w.heap.size w wa := by rw [hwa]; exact blw_alloc (Below.refl _ _) _
  have hsa : wa.heap.size = w.heap.size + 1 := by rw [hwa]; simp
  have HRES : Hid (WBox wa w.heap.size 73 [.string { data := #[] }, .slice none 0 0, .bool false, .slice none 0 0]) := by show WBox _ _ _ _; rw [hwa]; exact WBox.new w [.string { data := #[] }, .slice none 0 0, .bool false, .slice none 0 0] 73 _ rfl
  obtain ⟨wb, hwb⟩ : ∃ wb, wb = wa.alloc (.cells #[] 3) := ⟨_, rfl⟩
  have hbb : Below wa.heap.size wa wb := by rw [hwb]; exact blw_alloc (Below.refl _ _) _
  obtain ⟨v', W1, xs, hrun, hg, hb1⟩ := app_copy (P := Try.prog) wa.heap.size 71 71 3 3 1 8 _ Try.under_ints Try.info_int rfl (by decide) (by decide) [.i] rfl (by simp [flatB]) wb (.slice (some ⟨wa.heap.size, 0, none⟩) 0 0) (Or.inr ⟨wa.heap.size, rfl, Nat.le_refl _, by rw [hwb]; exact heap_alloc_new _ _⟩) hbb.size n es (.slice va n vc) ((hv.later hba).later hbb) hn
  rw [hwb] at hrun
  obtain ⟨wx, wc, hvx⟩ := hg.shape
  subst hvx
  obtain ⟨FA, rA, ndA, frA⟩ := hg.done
  obtain ⟨p, hp⟩ : ∃ p, p = W1.heap.size := ⟨_, rfl⟩
  have HFA : Hid (FA.Nodup ∧ ∀ b ∈ FA, w.heap.size < b) := ⟨ndA, fun b hb => by have := frA b hb; omega⟩
  have HRA := uh rA
  have HBEL : Hid (Below w.heap.size w W1) := blw_trans (blw_trans hba hbb) hb1
  replace HRES := uh ((HRES.out.later hbb).later hb1)
  clear hg rA ndA frA hv hp hba hbb hb1 hsa hwb
  have hol := HRES.out.own.lt
  have hth : W1.there w.heap.size 0 (#[.string key, .slice wx n wc, .bool true, .slice none 0 0] : Array Value).size := uthere HRES.out.own _ _ (by simp)
  obtain ⟨we, hwe⟩ : ∃ we, we = W1.setCells w.heap.size 0 [.string key, .slice wx n wc, .bool true, .slice none 0 0] := ⟨_, rfl⟩
  have hrt : we.rangeAt w.heap.size 0 [.string key, .slice wx n wc, .bool true, .slice none 0 0] := by rw [hwe]; exact World.rangeAt_setCells_same _ _ _ _ hth
  have HMK : Hid (Marks (fun b => b = w.heap.size) W1 we) := by show Marks _ _ _; rw [hwe]; exact mks_scs (S := fun b => b = w.heap.size) rfl _ _ _
  have HBB : Hid (Below w.heap.size w we) := by show Below _ _ _; rw [hwe]; exact blw_scs (Nat.le_refl _) _ _ _ HBEL.out
  go_enter Try.func49, Try.ntmps49
  go_upto_region 1 with fail
  rw [← hwa]
  clear hwa
  go_wp2_with (first | (at_builtin; refine Go.Lib.wpList_append_run _ rfl _ _ 71 71 rfl _ _ rfl rfl _ W1 hrun ?_) | (refine wpList_store_mid rfl 73 _ _ rfl w.heap.size 0 #[.string key, .slice wx n wc, .bool true, .slice none 0 0] rfl rfl hth (by kernel_rfl) (by simp [Value.oneCell']) ?_))
  first | rw [← hwe] | (simp only [List.toList_toArray]; rw [← hwe])
  try simp only [Act.put]
  refine bodyPost_ret (v := .agg #[.string key, .slice wx n wc, .bool true, .slice none 0 0]) (by simp [results, Try.results49, asAddr, run_loadVar_mid (P := Try.prog) _ _ _ 73 [.string key, .slice wx n wc, .bool true, .slice none 0 0] _ hrt Try.underlying73 rfl (by kernel_rfl)]) rfl ?_
  exact ⟨[.string key, .slice wx n wc, .bool true, .slice none 0 0], FA ++ ([] ++ []), rfl, repSheetRule_mk key (HRA.out.keep HMK.out fun b hb e => by have := HFA.out.2 b hb; omega) true (.emp _ _ none rfl .nil), by rw [List.append_nil, List.append_nil]; exact HFA.out.1, fun b hb => by rw [List.append_nil, List.append_nil] at hb; have := HFA.out.2 b hb; omega, HBB.out⟩

end Go.Proofs.Ytojcopamegmeeaa

namespace Go.Proofs.Ytojcopamegmeeaa
open Go.RowKit Go.Deep

theorem Try.under_rules : Try.prog.underlying 62 = some (.slice 73) := by kernel_rfl
theorem Try.info_rule : (Try.prog.info? 73).map (fun i => (i.zero, i.size, i.bytes)) = some (some (.agg #[.string { data := #[] }, .slice none 0 0, .bool false, .slice none 0 0]), 4, 72) := by kernel_rfl
/-- A rule as data. -/
def ruD (r : Pl.Ru) : List Dt := [.s r.key, .row r.args.length (r.args.map .i), .b r.many, .row r.dflt.length (txD r.dflt)]
def rulesD (l : List Pl.Ru) : Dt := .row l.length (l.flatMap ruD)
theorem rawInts (W : World) : ∀ xs : List Int, Raw W (reps xs.length [.i]) (xs.map .i) (xs.map (.int .i64))
  | [] => .nil
  | x :: xs => by rw [List.length_cons, reps_succ]; exact .i x (rawInts W xs)
theorem rawArgs (W : World) (xs : List Int) (cs : Array Value) (hcs : cs.toList = xs.map (.int .i64)) (hl : xs.length ≤ 100) : Raw (W.alloc (.cells cs 3)) [.row 3 [.i]] [.row xs.length (xs.map .i)] [.slice (some ⟨W.heap.size, 0, none⟩) xs.length xs.length] := by
  refine .row _ _ W.heap.size 0 xs.length xs.length (xs.map (.int .i64)) (xs.map .i) (by simp) (by unfold maxLen; omega) ?_ (rawInts _ xs) .nil
  intro j v hv
  rw [Nat.zero_add]
  refine (World.cell?_alloc_at _ _ _ _ rfl).trans ?_
  rw [← hcs] at hv
  simpa using hv
/-- What a rule's making answers. -/
def OneA (r : Pl.Ru) (W : World) (e : Ending) (W' : World) : Prop := ∃ a1 c1 a3 n3 c3 F, e = .returned (.agg #[.string r.key, .slice a1 r.args.length c1, .bool r.many, .slice a3 n3 c3]) ∧ Rep W' false shSheetRule F (ruD r) [.string r.key, .slice a1 r.args.length c1, .bool r.many, .slice a3 n3 c3] ∧ F.Nodup ∧ (∀ b ∈ F, W.heap.size ≤ b) ∧ Below W.heap.size W W'
theorem oneA_of {r : Pl.Ru} {W : World} {o : Obj} {e : Ending} {W' : World} (h : Ans shSheetRule (ruD r) (W.alloc o) e W') : OneA r W e W' := by
  obtain ⟨c, F, he, hr, nd, lo, hb⟩ := h
  obtain ⟨F1, v1, F3, v3, hF, hc, r1, r3⟩ := repSheetRule hr
  subst hc
  obtain ⟨a1, c1, h1⟩ := r1.raw.len0
  obtain ⟨a3, c3, h3⟩ := r3.raw.len0
  subst h1; subst h3
  exact ⟨a1, c1, a3, _, c3, F, he, hr, nd, fun b hb' => by have := lo b hb'; simp at this; omega, blw_trans (blw_alloc (Below.refl _ _) _) hb⟩
theorem oneC (r : Pl.Ru) (s : ByteArray) (cs : Array Value) (hcs : cs.toList = r.args.map (.int .i64)) (W : World) (hs : s.size ≤ 1048576) (hn : r.args.length ≤ 100) (hm : r.many = false) (hd : Pl.splL s = r.dflt) :
    Calls Try.prog 48 #[.string r.key, .string s, .slice (some ⟨W.heap.size, 0, none⟩) r.args.length r.args.length] (W.alloc (.cells cs 3)) (OneA r W) := by
  refine (l38OneS r.key s (some ⟨W.heap.size, 0, none⟩) r.args.length r.args.length (r.args.map .i) _ hs (rawArgs W r.args cs hcs hn) (by omega)).mono ?_
  intro e w' h
  refine oneA_of ?_ (o := .cells cs 3)
  unfold ruD
  rw [hm, ← hd]
  exact h
theorem manyC (r : Pl.Ru) (cs : Array Value) (hcs : cs.toList = r.args.map (.int .i64)) (W : World) (hn : r.args.length ≤ 100) (hm : r.many = true) (hd : r.dflt = []) :
    Calls Try.prog 49 #[.string r.key, .slice (some ⟨W.heap.size, 0, none⟩) r.args.length r.args.length] (W.alloc (.cells cs 3)) (OneA r W) := by
  refine (l38ManyS r.key (some ⟨W.heap.size, 0, none⟩) r.args.length r.args.length (r.args.map .i) _ (rawArgs W r.args cs hcs hn) (by omega)).mono ?_
  intro e w' h
  refine oneA_of ?_ (o := .cells cs 3)
  unfold ruD
  rw [hm, hd]
  exact h
/-- Rules made so far, in memory of their own. -/
structure Acc (w W : World) (l : List Pl.Ru) (G : List Nat) (cs : List Value) : Prop where
  rep : Rep W false (reps l.length shSheetRule) G (l.flatMap ruD) cs
  nd : G.Nodup
  lo : ∀ b ∈ G, w.heap.size ≤ b
  bel : Below w.heap.size w W
theorem Acc.push {w W W' : World} {l : List Pl.Ru} {G F : List Nat} {cs c : List Value} {r : Pl.Ru} (h : Acc w W l G cs) (hr : Rep W' false shSheetRule F (ruD r) c) (nd : F.Nodup) (lo : ∀ b ∈ F, W.heap.size ≤ b) (hb : Below W.heap.size W W') : Acc w W' (l ++ [r]) (G ++ F) (cs ++ c) := by
  refine ⟨?_, nd_join h.nd nd (fun b hb => h.rep.lt b hb) lo, lo_join h.lo fun b hb => Nat.le_trans h.bel.size (lo b hb), blw_trans h.bel hb⟩
  rw [List.length_append, List.length_singleton, reps_snoc, List.flatMap_append, List.flatMap_singleton]
  exact (h.rep.later hb).app hr
theorem Acc.done {w W : World} {l : List Pl.Ru} {G : List Nat} {cs : List Value} (h : Acc w W l G cs) (ca : Array Value) (hca : ca.toList = cs) (hl : l.length ≤ 100) : AnsL [.row 73 shSheetRule] (rulesD l) w (.returned (.slice (some ⟨W.heap.size, 0, none⟩) l.length l.length)) (W.alloc (.cells ca 73)) := by
  have hb : Below W.heap.size W (W.alloc (.cells ca 73)) := blw_alloc (Below.refl _ _) _
  have hcl : cs.length = l.length * 4 := by rw [h.rep.len, reps_len]; rfl
  refine ⟨_, W.heap.size :: (G ++ []), rfl, .row 73 shSheetRule W.heap.size 0 l.length l.length 73 (l.length * 4) cs (l.flatMap ruD) G ?_ ?_ ?_ ?_ ?_ (h.rep.later hb) .nil, ?_, ?_, blw_trans h.bel hb⟩
  · exact OwnBlk.alloc W ca 73 _ (by rw [← Array.length_toList, hca, hcl])
  · show 0 + l.length * 4 ≤ l.length * 4; omega
  · intro h; cases h
  · exact ⟨by unfold maxLen; omega, Nat.le_refl _⟩
  · intro j v hv
    rw [Nat.zero_add]
    refine (World.cell?_alloc_at _ _ _ _ rfl).trans ?_
    rw [← hca] at hv
    simpa using hv
  · rw [List.append_nil, List.nodup_cons]
    exact ⟨fun e => by have := h.rep.lt _ e; omega, h.nd⟩
  · intro b hb'
    rw [List.append_nil] at hb'
    rcases List.mem_cons.1 hb' with rfl | q
    · exact h.bel.size
    · exact h.lo b q
theorem Acc.nil (w : World) : Acc w w [] [] [] := ⟨.nil, List.nodup_nil, by simp, Below.refl _ _⟩

set_option maxRecDepth 16000 in
set_option maxHeartbeats 16000000 in
theorem sheetRulesS (s : ByteArray) (w : World) :
    Calls Try.prog 28 #[.string s] w (AnsL [.row 73 shSheetRule] (rulesD (Pl.rulesOf s)) w) := by
  obtain ⟨i0, hi0, hz0, hz1, hz2⟩ := uinfo Try.info_rule
  have A0 := uh (Acc.nil w)
  cases hteam : (s.toList == [116, 101, 97, 109])
  rotate_left
  · have HR : Hid (Pl.rulesOf s = Pl.kTeamR) := by show _ = _; unfold Pl.rulesOf; rw [if_pos hteam]
    go_enter Try.func28, Try.ntmps28
    go_upto_region 3 with fail
    clear hteam
    go_wp2_with fail
    refine (oneC ⟨{ data := #[99, 111, 112, 105, 101, 115] }, [1], false, [{ data := #[49, 48, 48] }]⟩ ({ data := #[49, 48, 48] }) #[.int .i64 1] rfl w (by decide) (by decide) rfl Pl.spl_team_copies).mono ?_
    rintro e w1 ⟨a0, b0, c0, m0, d0, F0, rfl, r, nd, lo, hb⟩
    have A1 := uh (A0.out.push r nd lo hb)
    clear r nd lo hb A0
    go_wp2_with fail
    refine (oneC ⟨{ data := #[114, 111, 111, 109] }, [1], false, [{ data := #[49, 48, 48, 48] }]⟩ ({ data := #[49, 48, 48, 48] }) #[.int .i64 1] rfl w1 (by decide) (by decide) rfl Pl.spl_team_room).mono ?_
    rintro e w2 ⟨a1, b1, c1, m1, d1, F1, rfl, r, nd, lo, hb⟩
    have A2 := uh (A1.out.push r nd lo hb)
    clear r nd lo hb A1
    have HD := uh (A2.out.done #[.string ({ data := #[99, 111, 112, 105, 101, 115] }), .slice a0 1 b0, .bool false, .slice c0 m0 d0, .string ({ data := #[114, 111, 111, 109] }), .slice a1 1 b1, .bool false, .slice c1 m1 d1] rfl (by decide))
    go_wp2_with (refine wpList_buildSlice rfl 62 73 2 _ rfl #[.string ({ data := #[99, 111, 112, 105, 101, 115] }), .slice a0 1 b0, .bool false, .slice c0 m0 d0, .string ({ data := #[114, 111, 111, 109] }), .slice a1 1 b1, .bool false, .slice c1 m1 d1] i0 _ Try.under_rules hi0 hz0 (by rw [hz1]; decide) (by rw [hz1]; decide) (by rw [hz1]; kernel_rfl) ?_)
    go_ret
    rw [HR.out]
    exact HD.out
  cases hberth : (s.toList == [98, 101, 114, 116, 104])
  rotate_left
  · have HR : Hid (Pl.rulesOf s = Pl.kBerthR) := by show _ = _; unfold Pl.rulesOf; rw [if_neg (by rw [hteam]; decide), if_pos hberth]
    go_enter Try.func28, Try.ntmps28
    go_upto_region 5 with fail
    clear hteam hberth
    go_wp2_with fail
    refine (oneC ⟨{ data := #[122, 111, 110, 101] }, [3], false, [{ data := #[122] }]⟩ ({ data := #[122] }) #[.int .i64 3] rfl w (by decide) (by decide) rfl Pl.spl_berth_zone).mono ?_
    rintro e w1 ⟨a0, b0, c0, m0, d0, F0, rfl, r, nd, lo, hb⟩
    have A1 := uh (A0.out.push r nd lo hb)
    clear r nd lo hb A0
    go_wp2_with fail
    refine (oneC ⟨{ data := #[114, 111, 111, 109] }, [1], false, [{ data := #[49, 48, 48] }]⟩ ({ data := #[49, 48, 48] }) #[.int .i64 1] rfl w1 (by decide) (by decide) rfl Pl.spl_berth_room).mono ?_
    rintro e w2 ⟨a1, b1, c1, m1, d1, F1, rfl, r, nd, lo, hb⟩
    have A2 := uh (A1.out.push r nd lo hb)
    clear r nd lo hb A1
    go_wp2_with fail
    refine (oneC ⟨{ data := #[104, 111, 108, 100] }, [1], false, [{ data := #[49, 48, 48] }]⟩ ({ data := #[49, 48, 48] }) #[.int .i64 1] rfl w2 (by decide) (by decide) rfl Pl.spl_berth_hold).mono ?_
    rintro e w3 ⟨a2, b2, c2, m2, d2, F2, rfl, r, nd, lo, hb⟩
    have A3 := uh (A2.out.push r nd lo hb)
    clear r nd lo hb A2
    go_wp2_with fail
    refine (manyC ⟨{ data := #[109, 97, 114, 107] }, [3], true, []⟩ #[.int .i64 3] rfl w3 (by decide) rfl rfl).mono ?_
    rintro e w4 ⟨a3, b3, c3, m3, d3, F3, rfl, r, nd, lo, hb⟩
    have A4 := uh (A3.out.push r nd lo hb)
    clear r nd lo hb A3
    have HD := uh (A4.out.done #[.string ({ data := #[122, 111, 110, 101] }), .slice a0 1 b0, .bool false, .slice c0 m0 d0, .string ({ data := #[114, 111, 111, 109] }), .slice a1 1 b1, .bool false, .slice c1 m1 d1, .string ({ data := #[104, 111, 108, 100] }), .slice a2 1 b2, .bool false, .slice c2 m2 d2, .string ({ data := #[109, 97, 114, 107] }), .slice a3 1 b3, .bool true, .slice c3 m3 d3] rfl (by decide))
    go_wp2_with (refine wpList_buildSlice rfl 62 73 4 _ rfl #[.string ({ data := #[122, 111, 110, 101] }), .slice a0 1 b0, .bool false, .slice c0 m0 d0, .string ({ data := #[114, 111, 111, 109] }), .slice a1 1 b1, .bool false, .slice c1 m1 d1, .string ({ data := #[104, 111, 108, 100] }), .slice a2 1 b2, .bool false, .slice c2 m2 d2, .string ({ data := #[109, 97, 114, 107] }), .slice a3 1 b3, .bool true, .slice c3 m3 d3] i0 _ Try.under_rules hi0 hz0 (by rw [hz1]; decide) (by rw [hz1]; decide) (by rw [hz1]; kernel_rfl) ?_)
    go_ret
    rw [HR.out]
    exact HD.out
  cases hservice : (s.toList == [115, 101, 114, 118, 105, 99, 101])
  rotate_left
  · have HR : Hid (Pl.rulesOf s = Pl.kServiceR) := by show _ = _; unfold Pl.rulesOf; rw [if_neg (by rw [hteam]; decide), if_neg (by rw [hberth]; decide), if_pos hservice]
    go_enter Try.func28, Try.ntmps28
    go_upto_region 7 with fail
    clear hteam hberth hservice
    go_wp2_with fail
    refine (oneC ⟨{ data := #[116, 101, 97, 109] }, [3], false, [{ data := #[99, 111, 114, 101] }]⟩ ({ data := #[99, 111, 114, 101] }) #[.int .i64 3] rfl w (by decide) (by decide) rfl Pl.spl_service_team).mono ?_
    rintro e w1 ⟨a0, b0, c0, m0, d0, F0, rfl, r, nd, lo, hb⟩
    have A1 := uh (A0.out.push r nd lo hb)
    clear r nd lo hb A0
    go_wp2_with fail
    refine (oneC ⟨{ data := #[105, 109, 97, 103, 101] }, [1], false, [{ data := #[49] }]⟩ ({ data := #[49] }) #[.int .i64 1] rfl w1 (by decide) (by decide) rfl Pl.spl_service_image).mono ?_
    rintro e w2 ⟨a1, b1, c1, m1, d1, F1, rfl, r, nd, lo, hb⟩
    have A2 := uh (A1.out.push r nd lo hb)
    clear r nd lo hb A1
    go_wp2_with fail
    refine (oneC ⟨{ data := #[119, 97, 110, 116] }, [1], false, [{ data := #[49] }]⟩ ({ data := #[49] }) #[.int .i64 1] rfl w2 (by decide) (by decide) rfl Pl.spl_service_want).mono ?_
    rintro e w3 ⟨a2, b2, c2, m2, d2, F2, rfl, r, nd, lo, hb⟩
    have A3 := uh (A2.out.push r nd lo hb)
    clear r nd lo hb A2
    go_wp2_with fail
    refine (oneC ⟨{ data := #[100, 111, 119, 110] }, [1], false, [{ data := #[49] }]⟩ ({ data := #[49] }) #[.int .i64 1] rfl w3 (by decide) (by decide) rfl Pl.spl_service_down).mono ?_
    rintro e w4 ⟨a3, b3, c3, m3, d3, F3, rfl, r, nd, lo, hb⟩
    have A4 := uh (A3.out.push r nd lo hb)
    clear r nd lo hb A3
    go_wp2_with fail
    refine (oneC ⟨{ data := #[111, 118, 101, 114] }, [1], false, [{ data := #[48] }]⟩ ({ data := #[48] }) #[.int .i64 1] rfl w4 (by decide) (by decide) rfl Pl.spl_service_over).mono ?_
    rintro e w5 ⟨a4, b4, c4, m4, d4, F4, rfl, r, nd, lo, hb⟩
    have A5 := uh (A4.out.push r nd lo hb)
    clear r nd lo hb A4
    go_wp2_with fail
    refine (oneC ⟨{ data := #[110, 101, 101, 100, 115] }, [1, 1], false, [{ data := #[49] }, { data := #[49] }]⟩ ({ data := #[49, 32, 49] }) #[.int .i64 1, .int .i64 1] rfl w5 (by decide) (by decide) rfl Pl.spl_service_needs).mono ?_
    rintro e w6 ⟨a5, b5, c5, m5, d5, F5, rfl, r, nd, lo, hb⟩
    have A6 := uh (A5.out.push r nd lo hb)
    clear r nd lo hb A5
    go_wp2_with fail
    refine (oneC ⟨{ data := #[119, 104, 101, 114, 101] }, [4], false, [{ data := #[] }]⟩ ({ data := #[] }) #[.int .i64 4] rfl w6 (by decide) (by decide) rfl Pl.spl_service_where).mono ?_
    rintro e w7 ⟨a6, b6, c6, m6, d6, F6, rfl, r, nd, lo, hb⟩
    have A7 := uh (A6.out.push r nd lo hb)
    clear r nd lo hb A6
    go_wp2_with fail
    refine (manyC ⟨{ data := #[108, 105, 107, 101] }, [4, 2], true, []⟩ #[.int .i64 4, .int .i64 2] rfl w7 (by decide) rfl rfl).mono ?_
    rintro e w8 ⟨a7, b7, c7, m7, d7, F7, rfl, r, nd, lo, hb⟩
    have A8 := uh (A7.out.push r nd lo hb)
    clear r nd lo hb A7
    go_wp2_with fail
    refine (oneC ⟨{ data := #[97, 112, 97, 114, 116] }, [6], false, [{ data := #[110, 111, 110, 101] }]⟩ ({ data := #[110, 111, 110, 101] }) #[.int .i64 6] rfl w8 (by decide) (by decide) rfl Pl.spl_service_apart).mono ?_
    rintro e w9 ⟨a8, b8, c8, m8, d8, F8, rfl, r, nd, lo, hb⟩
    have A9 := uh (A8.out.push r nd lo hb)
    clear r nd lo hb A8
    go_wp2_with fail
    refine (oneC ⟨{ data := #[118, 111, 108, 117, 109, 101] }, [5], false, [{ data := #[110, 111] }]⟩ ({ data := #[110, 111] }) #[.int .i64 5] rfl w9 (by decide) (by decide) rfl Pl.spl_service_volume).mono ?_
    rintro e w10 ⟨a9, b9, c9, m9, d9, F9, rfl, r, nd, lo, hb⟩
    have A10 := uh (A9.out.push r nd lo hb)
    clear r nd lo hb A9
    go_wp2_with fail
    refine (oneC ⟨{ data := #[102, 111, 108, 108, 111, 119] }, [1, 1, 1], false, [{ data := #[48] }, { data := #[48] }, { data := #[48] }]⟩ ({ data := #[48, 32, 48, 32, 48] }) #[.int .i64 1, .int .i64 1, .int .i64 1] rfl w10 (by decide) (by decide) rfl Pl.spl_service_follow).mono ?_
    rintro e w11 ⟨a10, b10, c10, m10, d10, F10, rfl, r, nd, lo, hb⟩
    have A11 := uh (A10.out.push r nd lo hb)
    clear r nd lo hb A10
    go_wp2_with fail
    refine (oneC ⟨{ data := #[112, 97, 99, 101] }, [1, 1, 1], false, [{ data := #[48] }, { data := #[48] }, { data := #[48] }]⟩ ({ data := #[48, 32, 48, 32, 48] }) #[.int .i64 1, .int .i64 1, .int .i64 1] rfl w11 (by decide) (by decide) rfl Pl.spl_service_pace).mono ?_
    rintro e w12 ⟨a11, b11, c11, m11, d11, F11, rfl, r, nd, lo, hb⟩
    have A12 := uh (A11.out.push r nd lo hb)
    clear r nd lo hb A11
    have HD := uh (A12.out.done #[.string ({ data := #[116, 101, 97, 109] }), .slice a0 1 b0, .bool false, .slice c0 m0 d0, .string ({ data := #[105, 109, 97, 103, 101] }), .slice a1 1 b1, .bool false, .slice c1 m1 d1, .string ({ data := #[119, 97, 110, 116] }), .slice a2 1 b2, .bool false, .slice c2 m2 d2, .string ({ data := #[100, 111, 119, 110] }), .slice a3 1 b3, .bool false, .slice c3 m3 d3, .string ({ data := #[111, 118, 101, 114] }), .slice a4 1 b4, .bool false, .slice c4 m4 d4, .string ({ data := #[110, 101, 101, 100, 115] }), .slice a5 2 b5, .bool false, .slice c5 m5 d5, .string ({ data := #[119, 104, 101, 114, 101] }), .slice a6 1 b6, .bool false, .slice c6 m6 d6, .string ({ data := #[108, 105, 107, 101] }), .slice a7 2 b7, .bool true, .slice c7 m7 d7, .string ({ data := #[97, 112, 97, 114, 116] }), .slice a8 1 b8, .bool false, .slice c8 m8 d8, .string ({ data := #[118, 111, 108, 117, 109, 101] }), .slice a9 1 b9, .bool false, .slice c9 m9 d9, .string ({ data := #[102, 111, 108, 108, 111, 119] }), .slice a10 3 b10, .bool false, .slice c10 m10 d10, .string ({ data := #[112, 97, 99, 101] }), .slice a11 3 b11, .bool false, .slice c11 m11 d11] rfl (by decide))
    go_wp2_with (refine wpList_buildSlice rfl 62 73 12 _ rfl #[.string ({ data := #[116, 101, 97, 109] }), .slice a0 1 b0, .bool false, .slice c0 m0 d0, .string ({ data := #[105, 109, 97, 103, 101] }), .slice a1 1 b1, .bool false, .slice c1 m1 d1, .string ({ data := #[119, 97, 110, 116] }), .slice a2 1 b2, .bool false, .slice c2 m2 d2, .string ({ data := #[100, 111, 119, 110] }), .slice a3 1 b3, .bool false, .slice c3 m3 d3, .string ({ data := #[111, 118, 101, 114] }), .slice a4 1 b4, .bool false, .slice c4 m4 d4, .string ({ data := #[110, 101, 101, 100, 115] }), .slice a5 2 b5, .bool false, .slice c5 m5 d5, .string ({ data := #[119, 104, 101, 114, 101] }), .slice a6 1 b6, .bool false, .slice c6 m6 d6, .string ({ data := #[108, 105, 107, 101] }), .slice a7 2 b7, .bool true, .slice c7 m7 d7, .string ({ data := #[97, 112, 97, 114, 116] }), .slice a8 1 b8, .bool false, .slice c8 m8 d8, .string ({ data := #[118, 111, 108, 117, 109, 101] }), .slice a9 1 b9, .bool false, .slice c9 m9 d9, .string ({ data := #[102, 111, 108, 108, 111, 119] }), .slice a10 3 b10, .bool false, .slice c10 m10 d10, .string ({ data := #[112, 97, 99, 101] }), .slice a11 3 b11, .bool false, .slice c11 m11 d11] i0 _ Try.under_rules hi0 hz0 (by rw [hz1]; decide) (by rw [hz1]; decide) (by rw [hz1]; kernel_rfl) ?_)
    go_ret
    rw [HR.out]
    exact HD.out
  have HR : Hid (Pl.rulesOf s = []) := by show _ = _; unfold Pl.rulesOf; rw [if_neg (by rw [hteam]; decide), if_neg (by rw [hberth]; decide), if_neg (by rw [hservice]; decide)]
  go_enter Try.func28, Try.ntmps28
  go_wp2
  go_ret
  rw [HR.out]
  exact A0.out.done #[] rfl (by decide)

end Go.Proofs.Ytojcopamegmeeaa
