/-
  A frame with the slots of one region open.
-/
import Derived.WalkKit
import Derived.Deep.OwnRows
import Derived.Deep.RegionWith
import Derived.Orders
import Derived.Test.YtfdahoekjpobaaaGreatOwn
namespace Go.Proofs.YtfdahoekjpobaaaGreat
open Go.RowKit Go.Deep

/-- How many operations have not come up. -/
def left (listed : Array Bool) : Nat := listed.toList.countP (fun b => !b)

theorem left_set {listed : Array Bool} {i : Nat} (h : listed.getD i true = false) : left (listed.setIfInBounds i true) + 1 = left listed := by
  have hlt : i < listed.size := by
    rcases Nat.lt_or_ge i listed.size with h' | h'
    · exact h'
    · simp [Array.getElem?_eq_none h'] at h
  have hv : listed[i] = false := by simpa [hlt] using h
  unfold left
  rw [Array.toList_setIfInBounds]
  have hl : i < listed.toList.length := by simpa using hlt
  have hv' : listed.toList[i] = false := by simpa using hv
  generalize listed.toList = l at hl hv'
  clear h hv hlt
  induction l generalizing i with
  | nil => simp at hl
  | cons b l ih =>
    cases i with
    | zero =>
      simp only [List.getElem_cons_zero] at hv'
      subst hv'
      simp
    | succ i =>
      simp only [List.set_cons_succ, List.countP_cons]
      have := ih (i := i) (by simpa using hl) (by simpa using hv')
      omega

theorem left_zero {listed : Array Bool} (h : left listed = 0) (i : Nat) : listed.getD i true = true := by
  unfold left at h
  rw [List.countP_eq_zero] at h
  by_cases hi : i < listed.size
  · have := h (listed[i]) (by simp)
    simpa [hi] using this
  · simp [Array.getElem?_eq_none (by omega : listed.size ≤ i)]

section
variable {P : Program} {ops : Array Oper} {md : Region.Mode} {Q : Exit → Act → World → Prop}

theorem ready_none {listed : Array Bool} (h : left listed = 0) : Region.ready md ops listed = [] := by
  rw [List.eq_nil_iff_forall_not_mem]
  intro j hj
  have := (mem_ready.1 hj).1
  rw [left_zero h j] at this
  cases this

theorem getD_set_mono {l : Array Bool} {i j : Nat} (h : l.getD j false = true) : (l.setIfInBounds i true).getD j false = true := by
  by_cases e : i = j
  · subst e
    have hlt : i < l.size := by
      rcases Nat.lt_or_ge i l.size with h' | h'
      · exact h'
      · simp [Array.getElem?_eq_none h'] at h
    simp [hlt]
  · rw [getD_set_ne false e]; exact h

theorem set_get {l : Array Bool} {i j : Nat} (h : (l.setIfInBounds i true).getD j false = true) : j = i ∨ l.getD j false = true := by
  by_cases e : i = j
  · exact Or.inl e.symm
  · rw [getD_set_ne false e] at h; exact Or.inr h

/-- What has come up stands behind what it waits for. -/
def Closed (md : Region.Mode) (ops : Array Oper) (l : Array Bool) : Prop := ∀ i o e, ops[i]? = some o → e ∈ o.after → Region.binds md e = true → l.getD i false = true → l.getD e.on false = true

theorem Closed.set {l : Array Bool} {i : Nat} (h : Closed md ops l) (hi : i ∈ Region.ready md ops l) : Closed md ops (l.setIfInBounds i true) := by
  intro j o e ho he hb hj
  rcases set_get hj with rfl | hj
  · obtain ⟨_, o', ho', hall⟩ := mem_ready.1 hi
    have : o' = o := Option.some.inj (ho'.symm.trans ho)
    subst this
    exact getD_set_mono (hall e he hb)
  · exact getD_set_mono (h j o e ho he hb hj)

theorem Closed.none (l : Array Bool) (h : ∀ i, l.getD i false = false) : Closed md ops l := by
  intro i o e _ _ _ hi
  rw [h i] at hi
  cases hi

theorem rep_none (n k : Nat) : (Array.replicate n false).getD k false = false := by
  rw [Array.getD_eq_getD_getElem?, Array.getElem?_replicate]; split <;> rfl

/-- An invariant of what has come up. -/
theorem wpAny_inv (I : Array Bool → Act → World → Prop)
    (hstep : ∀ listed a w i, I listed a w → Closed md ops listed → i ∈ Region.ready md ops listed → wpOp P ops Q i (fun a' w' => I (listed.setIfInBounds i true) a' w') a w)
    (hend : ∀ listed a w, I listed a w → Region.ready md ops listed = [] → Q .normal a w) :
    ∀ (fuel : Nat) (listed : Array Bool) (a : Act) (w : World), I listed a w → Closed md ops listed → left listed ≤ fuel → wpAny P md ops Q fuel listed a w
  | 0, listed, a, w, h, _, hf => ⟨ready_none (Nat.le_zero.1 hf), hend _ _ _ h (ready_none (Nat.le_zero.1 hf))⟩
  | fuel + 1, listed, a, w, h, hc, hf => ⟨fun h0 => hend _ _ _ h h0, fun i hi => wpOp_mono (fun a' w' h' => wpAny_inv I hstep hend fuel _ a' w' h' (hc.set hi) (by have := left_set (mem_ready.1 hi).1; omega)) (hstep _ _ _ _ h hc hi)⟩
end

/-- Each operation waits for earlier ones only. -/
def asc (md : Region.Mode) (ops : Array Oper) : Bool := (List.range ops.size).all fun n => match ops[n]? with
  | some o => o.after.all fun e => !(Region.binds md e) || decide (e.on < n)
  | none => true

theorem all_up {md : Region.Mode} {ops : Array Oper} {l : Array Bool} (hr : Region.ready md ops l = []) (ha : asc md ops = true) (hl : l.size = ops.size) : ∀ n, n < ops.size → l.getD n false = true := by
  intro n
  induction n using Nat.strongRecOn with
  | _ n ih =>
    intro hn
    cases h : l.getD n false with
    | true => rfl
    | false =>
      exfalso
      have h2 : l.getD n true = false := by have : n < l.size := by omega
                                            simpa [this] using h
      have ho : ops[n]? = some ops[n] := by simp [hn]
      have hA : ∀ e ∈ ops[n].after, Region.binds md e = true → e.on < n := by
        unfold asc at ha
        rw [List.all_eq_true] at ha
        have := ha n (List.mem_range.2 hn)
        rw [ho] at this
        intro e he hb
        have h3 := (Array.all_eq_true_iff_forall_mem.1 this) e he
        rw [hb] at h3
        simpa using h3
      have := mem_ready.2 ⟨h2, ops[n], ho, fun e he hb => ih e.on (hA e he hb) (by have := hA e he hb; omega)⟩
      rw [hr] at this
      cases this

theorem gen_frame {R : Act → Prop} (a : Act) (h : ∀ a0, a0 = a → R a0) : R a := h a rfl

theorem wpOp_value {P : Program} {ops : Array Oper} {Q : Exit → Act → World → Prop} {i : Nat} {K : Act → World → Prop} {a : Act} {w w' : World} {o : Oper} {v : Value} (ho : ops[i]? = some o) (hg : o.guard = none)
    (hr : (execOp a.eval o).run P w = .ok (.value v) w') (hk : K (a.put o.dst v) w') : wpOp P ops Q i K a w := by
  have hw : Region.wanted o (yielded ops a.tmps) = true := by simp [Region.wanted, hg]
  simp only [wpOp, ho, hw, if_true]
  left
  simp only [Oper.wp, hr, Oper.upon]
  exact hk
theorem wpOp_skip {P : Program} {ops : Array Oper} {Q : Exit → Act → World → Prop} {i : Nat} {K : Act → World → Prop} {a : Act} {w w' : World} {o : Oper} (ho : ops[i]? = some o) (hg : o.guard = none)
    (hr : (execOp a.eval o).run P w = .ok .skip w') (hk : K (a.put o.dst undef) w') : wpOp P ops Q i K a w := by
  have hw : Region.wanted o (yielded ops a.tmps) = true := by simp [Region.wanted, hg]
  simp only [wpOp, ho, hw, if_true]
  left
  simp only [Oper.wp, hr, Oper.upon]
  exact hk
theorem put_none (a : Act) (u : Value) : a.put none u = a := rfl
theorem set_here {l : Array Bool} {i : Nat} (h : l.getD i true = false) : (l.setIfInBounds i true).getD i false = true := by
  have hlt : i < l.size := by
    rcases Nat.lt_or_ge i l.size with h' | h'
    · exact h'
    · simp [Array.getElem?_eq_none h'] at h
  simp [hlt]
theorem getD_flip {l : Array Bool} {i : Nat} (h : l.getD i true = false) : l.getD i false = false := by
  have hlt : i < l.size := by
    rcases Nat.lt_or_ge i l.size with h' | h'
    · exact h'
    · simp [Array.getElem?_eq_none h'] at h
  simpa [hlt] using h
theorem wpOp_enter {P : Program} {ops : Array Oper} {Q : Exit → Act → World → Prop} {i : Nat} {K : Act → World → Prop} {a : Act} {w : World} {o : Oper} {f : FuncId} {args : Array Value} (ho : ops[i]? = some o) (hg : o.guard = none)
    (hr : (execOp a.eval o).run P w = .ok (.enter f args) w) (hk : Calls P f args w fun e w' => ∃ u, e = .returned u ∧ K (a.put o.dst u) w') : wpOp P ops Q i K a w := by
  have hw : Region.wanted o (yielded ops a.tmps) = true := by simp [Region.wanted, hg]
  simp only [wpOp, ho, hw, if_true]
  left
  simp only [Oper.wp, hr, Oper.upon]
  refine hk.mono ?_
  rintro e w' ⟨u, rfl, h⟩
  exact h

theorem put_put (a : Act) (k : Nat) (u v : Value) : (a.put (some k) u).put (some k) v = a.put (some k) v := by
  simp [Act.put]
theorem put_swap (a : Act) (j k : Nat) (u v : Value) (h : j ≠ k) : (a.put (some j) u).put (some k) v = (a.put (some k) v).put (some j) u := by
  simp [Act.put, Array.setIfInBounds_comm _ _ h]
theorem put_same (a : Act) (k : Nat) (u : Value) (h : k < a.tmps.size) : (a.put (some k) u).eval (.tmp k) = u := by
  simp [Act.put, Act.eval, h]
theorem put_else (a : Act) (j k : Nat) (u : Value) (h : j ≠ k) : (a.put (some j) u).eval (.tmp k) = a.eval (.tmp k) := by
  simp [Act.put, Act.eval, Array.getElem?_setIfInBounds_ne h]
theorem put_size (a : Act) (k : Nat) (u : Value) : (a.put (some k) u).tmps.size = a.tmps.size := by simp [Act.put]

theorem put_self (a : Act) (k : Nat) : a.put (some k) (a.eval (.tmp k)) = a := by
  obtain ⟨t, d⟩ := a
  simp only [Act.put, Act.eval]
  congr 1
  apply Array.ext
  · simp
  · intro i h1 h2
    rw [Array.getElem_setIfInBounds h2]
    split
    · rename_i e; subst e; simp [h2]
    · rfl

end Go.Proofs.YtfdahoekjpobaaaGreat

namespace Go.Proofs.YtfdahoekjpobaaaGreat
open Go.RowKit Go.Deep

/-- A frame whose slots of one region are what is named. -/
def ck (a0 : Act) (s38 s39 s40 s41 s42 s43 s44 s45 s46 s47 s48 s49 s50 s51 s52 s53 s54 : Value) : Act := (((((((((((((((((a0.put (some 38) s38).put (some 39) s39).put (some 40) s40).put (some 41) s41).put (some 42) s42).put (some 43) s43).put (some 44) s44).put (some 45) s45).put (some 46) s46).put (some 47) s47).put (some 48) s48).put (some 49) s49).put (some 50) s50).put (some 51) s51).put (some 52) s52).put (some 53) s53).put (some 54) s54)

theorem ck_self (a0 : Act) : a0 = ck a0 (a0.eval (.tmp 38)) (a0.eval (.tmp 39)) (a0.eval (.tmp 40)) (a0.eval (.tmp 41)) (a0.eval (.tmp 42)) (a0.eval (.tmp 43)) (a0.eval (.tmp 44)) (a0.eval (.tmp 45)) (a0.eval (.tmp 46)) (a0.eval (.tmp 47)) (a0.eval (.tmp 48)) (a0.eval (.tmp 49)) (a0.eval (.tmp 50)) (a0.eval (.tmp 51)) (a0.eval (.tmp 52)) (a0.eval (.tmp 53)) (a0.eval (.tmp 54)) := by
  unfold ck
  rw [put_self _ 38, put_self _ 39, put_self _ 40, put_self _ 41, put_self _ 42, put_self _ 43, put_self _ 44, put_self _ 45, put_self _ 46, put_self _ 47, put_self _ 48, put_self _ 49, put_self _ 50, put_self _ 51, put_self _ 52, put_self _ 53, put_self _ 54]

section
variable (a0 : Act) (s38 s39 s40 s41 s42 s43 s44 s45 s46 s47 s48 s49 s50 s51 s52 s53 s54 v : Value)
theorem ck_put38 : (ck a0 s38 s39 s40 s41 s42 s43 s44 s45 s46 s47 s48 s49 s50 s51 s52 s53 s54).put (some 38) v = ck a0 v s39 s40 s41 s42 s43 s44 s45 s46 s47 s48 s49 s50 s51 s52 s53 s54 := by unfold ck; rw [put_swap _ 54 38 _ _ (by decide), put_swap _ 53 38 _ _ (by decide), put_swap _ 52 38 _ _ (by decide), put_swap _ 51 38 _ _ (by decide), put_swap _ 50 38 _ _ (by decide), put_swap _ 49 38 _ _ (by decide), put_swap _ 48 38 _ _ (by decide), put_swap _ 47 38 _ _ (by decide), put_swap _ 46 38 _ _ (by decide), put_swap _ 45 38 _ _ (by decide), put_swap _ 44 38 _ _ (by decide), put_swap _ 43 38 _ _ (by decide), put_swap _ 42 38 _ _ (by decide), put_swap _ 41 38 _ _ (by decide), put_swap _ 40 38 _ _ (by decide), put_swap _ 39 38 _ _ (by decide), put_put _ 38]
theorem ck_at38 (h : 54 < a0.tmps.size) : (ck a0 s38 s39 s40 s41 s42 s43 s44 s45 s46 s47 s48 s49 s50 s51 s52 s53 s54).eval (.tmp 38) = s38 := by unfold ck; rw [put_else _ 54 38 _ (by decide), put_else _ 53 38 _ (by decide), put_else _ 52 38 _ (by decide), put_else _ 51 38 _ (by decide), put_else _ 50 38 _ (by decide), put_else _ 49 38 _ (by decide), put_else _ 48 38 _ (by decide), put_else _ 47 38 _ (by decide), put_else _ 46 38 _ (by decide), put_else _ 45 38 _ (by decide), put_else _ 44 38 _ (by decide), put_else _ 43 38 _ (by decide), put_else _ 42 38 _ (by decide), put_else _ 41 38 _ (by decide), put_else _ 40 38 _ (by decide), put_else _ 39 38 _ (by decide), put_same _ 38 _ (by first | omega | (simp only [put_size]; omega))]
theorem ck_put39 : (ck a0 s38 s39 s40 s41 s42 s43 s44 s45 s46 s47 s48 s49 s50 s51 s52 s53 s54).put (some 39) v = ck a0 s38 v s40 s41 s42 s43 s44 s45 s46 s47 s48 s49 s50 s51 s52 s53 s54 := by unfold ck; rw [put_swap _ 54 39 _ _ (by decide), put_swap _ 53 39 _ _ (by decide), put_swap _ 52 39 _ _ (by decide), put_swap _ 51 39 _ _ (by decide), put_swap _ 50 39 _ _ (by decide), put_swap _ 49 39 _ _ (by decide), put_swap _ 48 39 _ _ (by decide), put_swap _ 47 39 _ _ (by decide), put_swap _ 46 39 _ _ (by decide), put_swap _ 45 39 _ _ (by decide), put_swap _ 44 39 _ _ (by decide), put_swap _ 43 39 _ _ (by decide), put_swap _ 42 39 _ _ (by decide), put_swap _ 41 39 _ _ (by decide), put_swap _ 40 39 _ _ (by decide), put_put _ 39]
theorem ck_at39 (h : 54 < a0.tmps.size) : (ck a0 s38 s39 s40 s41 s42 s43 s44 s45 s46 s47 s48 s49 s50 s51 s52 s53 s54).eval (.tmp 39) = s39 := by unfold ck; rw [put_else _ 54 39 _ (by decide), put_else _ 53 39 _ (by decide), put_else _ 52 39 _ (by decide), put_else _ 51 39 _ (by decide), put_else _ 50 39 _ (by decide), put_else _ 49 39 _ (by decide), put_else _ 48 39 _ (by decide), put_else _ 47 39 _ (by decide), put_else _ 46 39 _ (by decide), put_else _ 45 39 _ (by decide), put_else _ 44 39 _ (by decide), put_else _ 43 39 _ (by decide), put_else _ 42 39 _ (by decide), put_else _ 41 39 _ (by decide), put_else _ 40 39 _ (by decide), put_same _ 39 _ (by first | omega | (simp only [put_size]; omega))]
theorem ck_put40 : (ck a0 s38 s39 s40 s41 s42 s43 s44 s45 s46 s47 s48 s49 s50 s51 s52 s53 s54).put (some 40) v = ck a0 s38 s39 v s41 s42 s43 s44 s45 s46 s47 s48 s49 s50 s51 s52 s53 s54 := by unfold ck; rw [put_swap _ 54 40 _ _ (by decide), put_swap _ 53 40 _ _ (by decide), put_swap _ 52 40 _ _ (by decide), put_swap _ 51 40 _ _ (by decide), put_swap _ 50 40 _ _ (by decide), put_swap _ 49 40 _ _ (by decide), put_swap _ 48 40 _ _ (by decide), put_swap _ 47 40 _ _ (by decide), put_swap _ 46 40 _ _ (by decide), put_swap _ 45 40 _ _ (by decide), put_swap _ 44 40 _ _ (by decide), put_swap _ 43 40 _ _ (by decide), put_swap _ 42 40 _ _ (by decide), put_swap _ 41 40 _ _ (by decide), put_put _ 40]
theorem ck_at40 (h : 54 < a0.tmps.size) : (ck a0 s38 s39 s40 s41 s42 s43 s44 s45 s46 s47 s48 s49 s50 s51 s52 s53 s54).eval (.tmp 40) = s40 := by unfold ck; rw [put_else _ 54 40 _ (by decide), put_else _ 53 40 _ (by decide), put_else _ 52 40 _ (by decide), put_else _ 51 40 _ (by decide), put_else _ 50 40 _ (by decide), put_else _ 49 40 _ (by decide), put_else _ 48 40 _ (by decide), put_else _ 47 40 _ (by decide), put_else _ 46 40 _ (by decide), put_else _ 45 40 _ (by decide), put_else _ 44 40 _ (by decide), put_else _ 43 40 _ (by decide), put_else _ 42 40 _ (by decide), put_else _ 41 40 _ (by decide), put_same _ 40 _ (by first | omega | (simp only [put_size]; omega))]
theorem ck_put41 : (ck a0 s38 s39 s40 s41 s42 s43 s44 s45 s46 s47 s48 s49 s50 s51 s52 s53 s54).put (some 41) v = ck a0 s38 s39 s40 v s42 s43 s44 s45 s46 s47 s48 s49 s50 s51 s52 s53 s54 := by unfold ck; rw [put_swap _ 54 41 _ _ (by decide), put_swap _ 53 41 _ _ (by decide), put_swap _ 52 41 _ _ (by decide), put_swap _ 51 41 _ _ (by decide), put_swap _ 50 41 _ _ (by decide), put_swap _ 49 41 _ _ (by decide), put_swap _ 48 41 _ _ (by decide), put_swap _ 47 41 _ _ (by decide), put_swap _ 46 41 _ _ (by decide), put_swap _ 45 41 _ _ (by decide), put_swap _ 44 41 _ _ (by decide), put_swap _ 43 41 _ _ (by decide), put_swap _ 42 41 _ _ (by decide), put_put _ 41]
theorem ck_at41 (h : 54 < a0.tmps.size) : (ck a0 s38 s39 s40 s41 s42 s43 s44 s45 s46 s47 s48 s49 s50 s51 s52 s53 s54).eval (.tmp 41) = s41 := by unfold ck; rw [put_else _ 54 41 _ (by decide), put_else _ 53 41 _ (by decide), put_else _ 52 41 _ (by decide), put_else _ 51 41 _ (by decide), put_else _ 50 41 _ (by decide), put_else _ 49 41 _ (by decide), put_else _ 48 41 _ (by decide), put_else _ 47 41 _ (by decide), put_else _ 46 41 _ (by decide), put_else _ 45 41 _ (by decide), put_else _ 44 41 _ (by decide), put_else _ 43 41 _ (by decide), put_else _ 42 41 _ (by decide), put_same _ 41 _ (by first | omega | (simp only [put_size]; omega))]
theorem ck_put42 : (ck a0 s38 s39 s40 s41 s42 s43 s44 s45 s46 s47 s48 s49 s50 s51 s52 s53 s54).put (some 42) v = ck a0 s38 s39 s40 s41 v s43 s44 s45 s46 s47 s48 s49 s50 s51 s52 s53 s54 := by unfold ck; rw [put_swap _ 54 42 _ _ (by decide), put_swap _ 53 42 _ _ (by decide), put_swap _ 52 42 _ _ (by decide), put_swap _ 51 42 _ _ (by decide), put_swap _ 50 42 _ _ (by decide), put_swap _ 49 42 _ _ (by decide), put_swap _ 48 42 _ _ (by decide), put_swap _ 47 42 _ _ (by decide), put_swap _ 46 42 _ _ (by decide), put_swap _ 45 42 _ _ (by decide), put_swap _ 44 42 _ _ (by decide), put_swap _ 43 42 _ _ (by decide), put_put _ 42]
theorem ck_at42 (h : 54 < a0.tmps.size) : (ck a0 s38 s39 s40 s41 s42 s43 s44 s45 s46 s47 s48 s49 s50 s51 s52 s53 s54).eval (.tmp 42) = s42 := by unfold ck; rw [put_else _ 54 42 _ (by decide), put_else _ 53 42 _ (by decide), put_else _ 52 42 _ (by decide), put_else _ 51 42 _ (by decide), put_else _ 50 42 _ (by decide), put_else _ 49 42 _ (by decide), put_else _ 48 42 _ (by decide), put_else _ 47 42 _ (by decide), put_else _ 46 42 _ (by decide), put_else _ 45 42 _ (by decide), put_else _ 44 42 _ (by decide), put_else _ 43 42 _ (by decide), put_same _ 42 _ (by first | omega | (simp only [put_size]; omega))]
theorem ck_put43 : (ck a0 s38 s39 s40 s41 s42 s43 s44 s45 s46 s47 s48 s49 s50 s51 s52 s53 s54).put (some 43) v = ck a0 s38 s39 s40 s41 s42 v s44 s45 s46 s47 s48 s49 s50 s51 s52 s53 s54 := by unfold ck; rw [put_swap _ 54 43 _ _ (by decide), put_swap _ 53 43 _ _ (by decide), put_swap _ 52 43 _ _ (by decide), put_swap _ 51 43 _ _ (by decide), put_swap _ 50 43 _ _ (by decide), put_swap _ 49 43 _ _ (by decide), put_swap _ 48 43 _ _ (by decide), put_swap _ 47 43 _ _ (by decide), put_swap _ 46 43 _ _ (by decide), put_swap _ 45 43 _ _ (by decide), put_swap _ 44 43 _ _ (by decide), put_put _ 43]
theorem ck_at43 (h : 54 < a0.tmps.size) : (ck a0 s38 s39 s40 s41 s42 s43 s44 s45 s46 s47 s48 s49 s50 s51 s52 s53 s54).eval (.tmp 43) = s43 := by unfold ck; rw [put_else _ 54 43 _ (by decide), put_else _ 53 43 _ (by decide), put_else _ 52 43 _ (by decide), put_else _ 51 43 _ (by decide), put_else _ 50 43 _ (by decide), put_else _ 49 43 _ (by decide), put_else _ 48 43 _ (by decide), put_else _ 47 43 _ (by decide), put_else _ 46 43 _ (by decide), put_else _ 45 43 _ (by decide), put_else _ 44 43 _ (by decide), put_same _ 43 _ (by first | omega | (simp only [put_size]; omega))]
theorem ck_put44 : (ck a0 s38 s39 s40 s41 s42 s43 s44 s45 s46 s47 s48 s49 s50 s51 s52 s53 s54).put (some 44) v = ck a0 s38 s39 s40 s41 s42 s43 v s45 s46 s47 s48 s49 s50 s51 s52 s53 s54 := by unfold ck; rw [put_swap _ 54 44 _ _ (by decide), put_swap _ 53 44 _ _ (by decide), put_swap _ 52 44 _ _ (by decide), put_swap _ 51 44 _ _ (by decide), put_swap _ 50 44 _ _ (by decide), put_swap _ 49 44 _ _ (by decide), put_swap _ 48 44 _ _ (by decide), put_swap _ 47 44 _ _ (by decide), put_swap _ 46 44 _ _ (by decide), put_swap _ 45 44 _ _ (by decide), put_put _ 44]
theorem ck_at44 (h : 54 < a0.tmps.size) : (ck a0 s38 s39 s40 s41 s42 s43 s44 s45 s46 s47 s48 s49 s50 s51 s52 s53 s54).eval (.tmp 44) = s44 := by unfold ck; rw [put_else _ 54 44 _ (by decide), put_else _ 53 44 _ (by decide), put_else _ 52 44 _ (by decide), put_else _ 51 44 _ (by decide), put_else _ 50 44 _ (by decide), put_else _ 49 44 _ (by decide), put_else _ 48 44 _ (by decide), put_else _ 47 44 _ (by decide), put_else _ 46 44 _ (by decide), put_else _ 45 44 _ (by decide), put_same _ 44 _ (by first | omega | (simp only [put_size]; omega))]
theorem ck_put45 : (ck a0 s38 s39 s40 s41 s42 s43 s44 s45 s46 s47 s48 s49 s50 s51 s52 s53 s54).put (some 45) v = ck a0 s38 s39 s40 s41 s42 s43 s44 v s46 s47 s48 s49 s50 s51 s52 s53 s54 := by unfold ck; rw [put_swap _ 54 45 _ _ (by decide), put_swap _ 53 45 _ _ (by decide), put_swap _ 52 45 _ _ (by decide), put_swap _ 51 45 _ _ (by decide), put_swap _ 50 45 _ _ (by decide), put_swap _ 49 45 _ _ (by decide), put_swap _ 48 45 _ _ (by decide), put_swap _ 47 45 _ _ (by decide), put_swap _ 46 45 _ _ (by decide), put_put _ 45]
theorem ck_at45 (h : 54 < a0.tmps.size) : (ck a0 s38 s39 s40 s41 s42 s43 s44 s45 s46 s47 s48 s49 s50 s51 s52 s53 s54).eval (.tmp 45) = s45 := by unfold ck; rw [put_else _ 54 45 _ (by decide), put_else _ 53 45 _ (by decide), put_else _ 52 45 _ (by decide), put_else _ 51 45 _ (by decide), put_else _ 50 45 _ (by decide), put_else _ 49 45 _ (by decide), put_else _ 48 45 _ (by decide), put_else _ 47 45 _ (by decide), put_else _ 46 45 _ (by decide), put_same _ 45 _ (by first | omega | (simp only [put_size]; omega))]
theorem ck_put46 : (ck a0 s38 s39 s40 s41 s42 s43 s44 s45 s46 s47 s48 s49 s50 s51 s52 s53 s54).put (some 46) v = ck a0 s38 s39 s40 s41 s42 s43 s44 s45 v s47 s48 s49 s50 s51 s52 s53 s54 := by unfold ck; rw [put_swap _ 54 46 _ _ (by decide), put_swap _ 53 46 _ _ (by decide), put_swap _ 52 46 _ _ (by decide), put_swap _ 51 46 _ _ (by decide), put_swap _ 50 46 _ _ (by decide), put_swap _ 49 46 _ _ (by decide), put_swap _ 48 46 _ _ (by decide), put_swap _ 47 46 _ _ (by decide), put_put _ 46]
theorem ck_at46 (h : 54 < a0.tmps.size) : (ck a0 s38 s39 s40 s41 s42 s43 s44 s45 s46 s47 s48 s49 s50 s51 s52 s53 s54).eval (.tmp 46) = s46 := by unfold ck; rw [put_else _ 54 46 _ (by decide), put_else _ 53 46 _ (by decide), put_else _ 52 46 _ (by decide), put_else _ 51 46 _ (by decide), put_else _ 50 46 _ (by decide), put_else _ 49 46 _ (by decide), put_else _ 48 46 _ (by decide), put_else _ 47 46 _ (by decide), put_same _ 46 _ (by first | omega | (simp only [put_size]; omega))]
theorem ck_put47 : (ck a0 s38 s39 s40 s41 s42 s43 s44 s45 s46 s47 s48 s49 s50 s51 s52 s53 s54).put (some 47) v = ck a0 s38 s39 s40 s41 s42 s43 s44 s45 s46 v s48 s49 s50 s51 s52 s53 s54 := by unfold ck; rw [put_swap _ 54 47 _ _ (by decide), put_swap _ 53 47 _ _ (by decide), put_swap _ 52 47 _ _ (by decide), put_swap _ 51 47 _ _ (by decide), put_swap _ 50 47 _ _ (by decide), put_swap _ 49 47 _ _ (by decide), put_swap _ 48 47 _ _ (by decide), put_put _ 47]
theorem ck_at47 (h : 54 < a0.tmps.size) : (ck a0 s38 s39 s40 s41 s42 s43 s44 s45 s46 s47 s48 s49 s50 s51 s52 s53 s54).eval (.tmp 47) = s47 := by unfold ck; rw [put_else _ 54 47 _ (by decide), put_else _ 53 47 _ (by decide), put_else _ 52 47 _ (by decide), put_else _ 51 47 _ (by decide), put_else _ 50 47 _ (by decide), put_else _ 49 47 _ (by decide), put_else _ 48 47 _ (by decide), put_same _ 47 _ (by first | omega | (simp only [put_size]; omega))]
theorem ck_put48 : (ck a0 s38 s39 s40 s41 s42 s43 s44 s45 s46 s47 s48 s49 s50 s51 s52 s53 s54).put (some 48) v = ck a0 s38 s39 s40 s41 s42 s43 s44 s45 s46 s47 v s49 s50 s51 s52 s53 s54 := by unfold ck; rw [put_swap _ 54 48 _ _ (by decide), put_swap _ 53 48 _ _ (by decide), put_swap _ 52 48 _ _ (by decide), put_swap _ 51 48 _ _ (by decide), put_swap _ 50 48 _ _ (by decide), put_swap _ 49 48 _ _ (by decide), put_put _ 48]
theorem ck_at48 (h : 54 < a0.tmps.size) : (ck a0 s38 s39 s40 s41 s42 s43 s44 s45 s46 s47 s48 s49 s50 s51 s52 s53 s54).eval (.tmp 48) = s48 := by unfold ck; rw [put_else _ 54 48 _ (by decide), put_else _ 53 48 _ (by decide), put_else _ 52 48 _ (by decide), put_else _ 51 48 _ (by decide), put_else _ 50 48 _ (by decide), put_else _ 49 48 _ (by decide), put_same _ 48 _ (by first | omega | (simp only [put_size]; omega))]
theorem ck_put49 : (ck a0 s38 s39 s40 s41 s42 s43 s44 s45 s46 s47 s48 s49 s50 s51 s52 s53 s54).put (some 49) v = ck a0 s38 s39 s40 s41 s42 s43 s44 s45 s46 s47 s48 v s50 s51 s52 s53 s54 := by unfold ck; rw [put_swap _ 54 49 _ _ (by decide), put_swap _ 53 49 _ _ (by decide), put_swap _ 52 49 _ _ (by decide), put_swap _ 51 49 _ _ (by decide), put_swap _ 50 49 _ _ (by decide), put_put _ 49]
theorem ck_at49 (h : 54 < a0.tmps.size) : (ck a0 s38 s39 s40 s41 s42 s43 s44 s45 s46 s47 s48 s49 s50 s51 s52 s53 s54).eval (.tmp 49) = s49 := by unfold ck; rw [put_else _ 54 49 _ (by decide), put_else _ 53 49 _ (by decide), put_else _ 52 49 _ (by decide), put_else _ 51 49 _ (by decide), put_else _ 50 49 _ (by decide), put_same _ 49 _ (by first | omega | (simp only [put_size]; omega))]
theorem ck_put50 : (ck a0 s38 s39 s40 s41 s42 s43 s44 s45 s46 s47 s48 s49 s50 s51 s52 s53 s54).put (some 50) v = ck a0 s38 s39 s40 s41 s42 s43 s44 s45 s46 s47 s48 s49 v s51 s52 s53 s54 := by unfold ck; rw [put_swap _ 54 50 _ _ (by decide), put_swap _ 53 50 _ _ (by decide), put_swap _ 52 50 _ _ (by decide), put_swap _ 51 50 _ _ (by decide), put_put _ 50]
theorem ck_at50 (h : 54 < a0.tmps.size) : (ck a0 s38 s39 s40 s41 s42 s43 s44 s45 s46 s47 s48 s49 s50 s51 s52 s53 s54).eval (.tmp 50) = s50 := by unfold ck; rw [put_else _ 54 50 _ (by decide), put_else _ 53 50 _ (by decide), put_else _ 52 50 _ (by decide), put_else _ 51 50 _ (by decide), put_same _ 50 _ (by first | omega | (simp only [put_size]; omega))]
theorem ck_put51 : (ck a0 s38 s39 s40 s41 s42 s43 s44 s45 s46 s47 s48 s49 s50 s51 s52 s53 s54).put (some 51) v = ck a0 s38 s39 s40 s41 s42 s43 s44 s45 s46 s47 s48 s49 s50 v s52 s53 s54 := by unfold ck; rw [put_swap _ 54 51 _ _ (by decide), put_swap _ 53 51 _ _ (by decide), put_swap _ 52 51 _ _ (by decide), put_put _ 51]
theorem ck_at51 (h : 54 < a0.tmps.size) : (ck a0 s38 s39 s40 s41 s42 s43 s44 s45 s46 s47 s48 s49 s50 s51 s52 s53 s54).eval (.tmp 51) = s51 := by unfold ck; rw [put_else _ 54 51 _ (by decide), put_else _ 53 51 _ (by decide), put_else _ 52 51 _ (by decide), put_same _ 51 _ (by first | omega | (simp only [put_size]; omega))]
theorem ck_put52 : (ck a0 s38 s39 s40 s41 s42 s43 s44 s45 s46 s47 s48 s49 s50 s51 s52 s53 s54).put (some 52) v = ck a0 s38 s39 s40 s41 s42 s43 s44 s45 s46 s47 s48 s49 s50 s51 v s53 s54 := by unfold ck; rw [put_swap _ 54 52 _ _ (by decide), put_swap _ 53 52 _ _ (by decide), put_put _ 52]
theorem ck_at52 (h : 54 < a0.tmps.size) : (ck a0 s38 s39 s40 s41 s42 s43 s44 s45 s46 s47 s48 s49 s50 s51 s52 s53 s54).eval (.tmp 52) = s52 := by unfold ck; rw [put_else _ 54 52 _ (by decide), put_else _ 53 52 _ (by decide), put_same _ 52 _ (by first | omega | (simp only [put_size]; omega))]
theorem ck_put53 : (ck a0 s38 s39 s40 s41 s42 s43 s44 s45 s46 s47 s48 s49 s50 s51 s52 s53 s54).put (some 53) v = ck a0 s38 s39 s40 s41 s42 s43 s44 s45 s46 s47 s48 s49 s50 s51 s52 v s54 := by unfold ck; rw [put_swap _ 54 53 _ _ (by decide), put_put _ 53]
theorem ck_at53 (h : 54 < a0.tmps.size) : (ck a0 s38 s39 s40 s41 s42 s43 s44 s45 s46 s47 s48 s49 s50 s51 s52 s53 s54).eval (.tmp 53) = s53 := by unfold ck; rw [put_else _ 54 53 _ (by decide), put_same _ 53 _ (by first | omega | (simp only [put_size]; omega))]
theorem ck_put54 : (ck a0 s38 s39 s40 s41 s42 s43 s44 s45 s46 s47 s48 s49 s50 s51 s52 s53 s54).put (some 54) v = ck a0 s38 s39 s40 s41 s42 s43 s44 s45 s46 s47 s48 s49 s50 s51 s52 s53 v := by unfold ck; rw [put_put _ 54]
theorem ck_at54 (h : 54 < a0.tmps.size) : (ck a0 s38 s39 s40 s41 s42 s43 s44 s45 s46 s47 s48 s49 s50 s51 s52 s53 s54).eval (.tmp 54) = s54 := by unfold ck; rw [put_same _ 54 _ (by first | omega | (simp only [put_size]; omega))]
theorem ck_get38 (h : 54 < a0.tmps.size) : (ck a0 s38 s39 s40 s41 s42 s43 s44 s45 s46 s47 s48 s49 s50 s51 s52 s53 s54).tmps[38]?.getD undef = s38 := by have := ck_at38 a0 s38 s39 s40 s41 s42 s43 s44 s45 s46 s47 s48 s49 s50 s51 s52 s53 s54 h; simpa [Act.eval] using this
theorem ck_get39 (h : 54 < a0.tmps.size) : (ck a0 s38 s39 s40 s41 s42 s43 s44 s45 s46 s47 s48 s49 s50 s51 s52 s53 s54).tmps[39]?.getD undef = s39 := by have := ck_at39 a0 s38 s39 s40 s41 s42 s43 s44 s45 s46 s47 s48 s49 s50 s51 s52 s53 s54 h; simpa [Act.eval] using this
theorem ck_get40 (h : 54 < a0.tmps.size) : (ck a0 s38 s39 s40 s41 s42 s43 s44 s45 s46 s47 s48 s49 s50 s51 s52 s53 s54).tmps[40]?.getD undef = s40 := by have := ck_at40 a0 s38 s39 s40 s41 s42 s43 s44 s45 s46 s47 s48 s49 s50 s51 s52 s53 s54 h; simpa [Act.eval] using this
theorem ck_get41 (h : 54 < a0.tmps.size) : (ck a0 s38 s39 s40 s41 s42 s43 s44 s45 s46 s47 s48 s49 s50 s51 s52 s53 s54).tmps[41]?.getD undef = s41 := by have := ck_at41 a0 s38 s39 s40 s41 s42 s43 s44 s45 s46 s47 s48 s49 s50 s51 s52 s53 s54 h; simpa [Act.eval] using this
theorem ck_get42 (h : 54 < a0.tmps.size) : (ck a0 s38 s39 s40 s41 s42 s43 s44 s45 s46 s47 s48 s49 s50 s51 s52 s53 s54).tmps[42]?.getD undef = s42 := by have := ck_at42 a0 s38 s39 s40 s41 s42 s43 s44 s45 s46 s47 s48 s49 s50 s51 s52 s53 s54 h; simpa [Act.eval] using this
theorem ck_get43 (h : 54 < a0.tmps.size) : (ck a0 s38 s39 s40 s41 s42 s43 s44 s45 s46 s47 s48 s49 s50 s51 s52 s53 s54).tmps[43]?.getD undef = s43 := by have := ck_at43 a0 s38 s39 s40 s41 s42 s43 s44 s45 s46 s47 s48 s49 s50 s51 s52 s53 s54 h; simpa [Act.eval] using this
theorem ck_get44 (h : 54 < a0.tmps.size) : (ck a0 s38 s39 s40 s41 s42 s43 s44 s45 s46 s47 s48 s49 s50 s51 s52 s53 s54).tmps[44]?.getD undef = s44 := by have := ck_at44 a0 s38 s39 s40 s41 s42 s43 s44 s45 s46 s47 s48 s49 s50 s51 s52 s53 s54 h; simpa [Act.eval] using this
theorem ck_get45 (h : 54 < a0.tmps.size) : (ck a0 s38 s39 s40 s41 s42 s43 s44 s45 s46 s47 s48 s49 s50 s51 s52 s53 s54).tmps[45]?.getD undef = s45 := by have := ck_at45 a0 s38 s39 s40 s41 s42 s43 s44 s45 s46 s47 s48 s49 s50 s51 s52 s53 s54 h; simpa [Act.eval] using this
theorem ck_get46 (h : 54 < a0.tmps.size) : (ck a0 s38 s39 s40 s41 s42 s43 s44 s45 s46 s47 s48 s49 s50 s51 s52 s53 s54).tmps[46]?.getD undef = s46 := by have := ck_at46 a0 s38 s39 s40 s41 s42 s43 s44 s45 s46 s47 s48 s49 s50 s51 s52 s53 s54 h; simpa [Act.eval] using this
theorem ck_get47 (h : 54 < a0.tmps.size) : (ck a0 s38 s39 s40 s41 s42 s43 s44 s45 s46 s47 s48 s49 s50 s51 s52 s53 s54).tmps[47]?.getD undef = s47 := by have := ck_at47 a0 s38 s39 s40 s41 s42 s43 s44 s45 s46 s47 s48 s49 s50 s51 s52 s53 s54 h; simpa [Act.eval] using this
theorem ck_get48 (h : 54 < a0.tmps.size) : (ck a0 s38 s39 s40 s41 s42 s43 s44 s45 s46 s47 s48 s49 s50 s51 s52 s53 s54).tmps[48]?.getD undef = s48 := by have := ck_at48 a0 s38 s39 s40 s41 s42 s43 s44 s45 s46 s47 s48 s49 s50 s51 s52 s53 s54 h; simpa [Act.eval] using this
theorem ck_get49 (h : 54 < a0.tmps.size) : (ck a0 s38 s39 s40 s41 s42 s43 s44 s45 s46 s47 s48 s49 s50 s51 s52 s53 s54).tmps[49]?.getD undef = s49 := by have := ck_at49 a0 s38 s39 s40 s41 s42 s43 s44 s45 s46 s47 s48 s49 s50 s51 s52 s53 s54 h; simpa [Act.eval] using this
theorem ck_get50 (h : 54 < a0.tmps.size) : (ck a0 s38 s39 s40 s41 s42 s43 s44 s45 s46 s47 s48 s49 s50 s51 s52 s53 s54).tmps[50]?.getD undef = s50 := by have := ck_at50 a0 s38 s39 s40 s41 s42 s43 s44 s45 s46 s47 s48 s49 s50 s51 s52 s53 s54 h; simpa [Act.eval] using this
theorem ck_get51 (h : 54 < a0.tmps.size) : (ck a0 s38 s39 s40 s41 s42 s43 s44 s45 s46 s47 s48 s49 s50 s51 s52 s53 s54).tmps[51]?.getD undef = s51 := by have := ck_at51 a0 s38 s39 s40 s41 s42 s43 s44 s45 s46 s47 s48 s49 s50 s51 s52 s53 s54 h; simpa [Act.eval] using this
theorem ck_get52 (h : 54 < a0.tmps.size) : (ck a0 s38 s39 s40 s41 s42 s43 s44 s45 s46 s47 s48 s49 s50 s51 s52 s53 s54).tmps[52]?.getD undef = s52 := by have := ck_at52 a0 s38 s39 s40 s41 s42 s43 s44 s45 s46 s47 s48 s49 s50 s51 s52 s53 s54 h; simpa [Act.eval] using this
theorem ck_get53 (h : 54 < a0.tmps.size) : (ck a0 s38 s39 s40 s41 s42 s43 s44 s45 s46 s47 s48 s49 s50 s51 s52 s53 s54).tmps[53]?.getD undef = s53 := by have := ck_at53 a0 s38 s39 s40 s41 s42 s43 s44 s45 s46 s47 s48 s49 s50 s51 s52 s53 s54 h; simpa [Act.eval] using this
theorem ck_get54 (h : 54 < a0.tmps.size) : (ck a0 s38 s39 s40 s41 s42 s43 s44 s45 s46 s47 s48 s49 s50 s51 s52 s53 s54).tmps[54]?.getD undef = s54 := by have := ck_at54 a0 s38 s39 s40 s41 s42 s43 s44 s45 s46 s47 s48 s49 s50 s51 s52 s53 s54 h; simpa [Act.eval] using this
theorem ck_at1 : (ck a0 s38 s39 s40 s41 s42 s43 s44 s45 s46 s47 s48 s49 s50 s51 s52 s53 s54).eval (.tmp 1) = a0.eval (.tmp 1) := by unfold ck; rw [put_else _ 54 1 _ (by decide), put_else _ 53 1 _ (by decide), put_else _ 52 1 _ (by decide), put_else _ 51 1 _ (by decide), put_else _ 50 1 _ (by decide), put_else _ 49 1 _ (by decide), put_else _ 48 1 _ (by decide), put_else _ 47 1 _ (by decide), put_else _ 46 1 _ (by decide), put_else _ 45 1 _ (by decide), put_else _ 44 1 _ (by decide), put_else _ 43 1 _ (by decide), put_else _ 42 1 _ (by decide), put_else _ 41 1 _ (by decide), put_else _ 40 1 _ (by decide), put_else _ 39 1 _ (by decide), put_else _ 38 1 _ (by decide)]
theorem ck_get1 (u : Value) (h : a0.eval (.tmp 1) = u) : (ck a0 s38 s39 s40 s41 s42 s43 s44 s45 s46 s47 s48 s49 s50 s51 s52 s53 s54).tmps[1]?.getD undef = u := by have := (ck_at1 a0 s38 s39 s40 s41 s42 s43 s44 s45 s46 s47 s48 s49 s50 s51 s52 s53 s54).trans h; simpa [Act.eval] using this
theorem ck_at7 : (ck a0 s38 s39 s40 s41 s42 s43 s44 s45 s46 s47 s48 s49 s50 s51 s52 s53 s54).eval (.tmp 7) = a0.eval (.tmp 7) := by unfold ck; rw [put_else _ 54 7 _ (by decide), put_else _ 53 7 _ (by decide), put_else _ 52 7 _ (by decide), put_else _ 51 7 _ (by decide), put_else _ 50 7 _ (by decide), put_else _ 49 7 _ (by decide), put_else _ 48 7 _ (by decide), put_else _ 47 7 _ (by decide), put_else _ 46 7 _ (by decide), put_else _ 45 7 _ (by decide), put_else _ 44 7 _ (by decide), put_else _ 43 7 _ (by decide), put_else _ 42 7 _ (by decide), put_else _ 41 7 _ (by decide), put_else _ 40 7 _ (by decide), put_else _ 39 7 _ (by decide), put_else _ 38 7 _ (by decide)]
theorem ck_get7 (u : Value) (h : a0.eval (.tmp 7) = u) : (ck a0 s38 s39 s40 s41 s42 s43 s44 s45 s46 s47 s48 s49 s50 s51 s52 s53 s54).tmps[7]?.getD undef = u := by have := (ck_at7 a0 s38 s39 s40 s41 s42 s43 s44 s45 s46 s47 s48 s49 s50 s51 s52 s53 s54).trans h; simpa [Act.eval] using this
theorem ck_at8 : (ck a0 s38 s39 s40 s41 s42 s43 s44 s45 s46 s47 s48 s49 s50 s51 s52 s53 s54).eval (.tmp 8) = a0.eval (.tmp 8) := by unfold ck; rw [put_else _ 54 8 _ (by decide), put_else _ 53 8 _ (by decide), put_else _ 52 8 _ (by decide), put_else _ 51 8 _ (by decide), put_else _ 50 8 _ (by decide), put_else _ 49 8 _ (by decide), put_else _ 48 8 _ (by decide), put_else _ 47 8 _ (by decide), put_else _ 46 8 _ (by decide), put_else _ 45 8 _ (by decide), put_else _ 44 8 _ (by decide), put_else _ 43 8 _ (by decide), put_else _ 42 8 _ (by decide), put_else _ 41 8 _ (by decide), put_else _ 40 8 _ (by decide), put_else _ 39 8 _ (by decide), put_else _ 38 8 _ (by decide)]
theorem ck_get8 (u : Value) (h : a0.eval (.tmp 8) = u) : (ck a0 s38 s39 s40 s41 s42 s43 s44 s45 s46 s47 s48 s49 s50 s51 s52 s53 s54).tmps[8]?.getD undef = u := by have := (ck_at8 a0 s38 s39 s40 s41 s42 s43 s44 s45 s46 s47 s48 s49 s50 s51 s52 s53 s54).trans h; simpa [Act.eval] using this
theorem ck_at10 : (ck a0 s38 s39 s40 s41 s42 s43 s44 s45 s46 s47 s48 s49 s50 s51 s52 s53 s54).eval (.tmp 10) = a0.eval (.tmp 10) := by unfold ck; rw [put_else _ 54 10 _ (by decide), put_else _ 53 10 _ (by decide), put_else _ 52 10 _ (by decide), put_else _ 51 10 _ (by decide), put_else _ 50 10 _ (by decide), put_else _ 49 10 _ (by decide), put_else _ 48 10 _ (by decide), put_else _ 47 10 _ (by decide), put_else _ 46 10 _ (by decide), put_else _ 45 10 _ (by decide), put_else _ 44 10 _ (by decide), put_else _ 43 10 _ (by decide), put_else _ 42 10 _ (by decide), put_else _ 41 10 _ (by decide), put_else _ 40 10 _ (by decide), put_else _ 39 10 _ (by decide), put_else _ 38 10 _ (by decide)]
theorem ck_get10 (u : Value) (h : a0.eval (.tmp 10) = u) : (ck a0 s38 s39 s40 s41 s42 s43 s44 s45 s46 s47 s48 s49 s50 s51 s52 s53 s54).tmps[10]?.getD undef = u := by have := (ck_at10 a0 s38 s39 s40 s41 s42 s43 s44 s45 s46 s47 s48 s49 s50 s51 s52 s53 s54).trans h; simpa [Act.eval] using this
theorem ck_at11 : (ck a0 s38 s39 s40 s41 s42 s43 s44 s45 s46 s47 s48 s49 s50 s51 s52 s53 s54).eval (.tmp 11) = a0.eval (.tmp 11) := by unfold ck; rw [put_else _ 54 11 _ (by decide), put_else _ 53 11 _ (by decide), put_else _ 52 11 _ (by decide), put_else _ 51 11 _ (by decide), put_else _ 50 11 _ (by decide), put_else _ 49 11 _ (by decide), put_else _ 48 11 _ (by decide), put_else _ 47 11 _ (by decide), put_else _ 46 11 _ (by decide), put_else _ 45 11 _ (by decide), put_else _ 44 11 _ (by decide), put_else _ 43 11 _ (by decide), put_else _ 42 11 _ (by decide), put_else _ 41 11 _ (by decide), put_else _ 40 11 _ (by decide), put_else _ 39 11 _ (by decide), put_else _ 38 11 _ (by decide)]
theorem ck_get11 (u : Value) (h : a0.eval (.tmp 11) = u) : (ck a0 s38 s39 s40 s41 s42 s43 s44 s45 s46 s47 s48 s49 s50 s51 s52 s53 s54).tmps[11]?.getD undef = u := by have := (ck_at11 a0 s38 s39 s40 s41 s42 s43 s44 s45 s46 s47 s48 s49 s50 s51 s52 s53 s54).trans h; simpa [Act.eval] using this
end

end Go.Proofs.YtfdahoekjpobaaaGreat
