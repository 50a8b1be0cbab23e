/-
  A drawn region: a head whose operations yield the same in every world behind one, then a tail that is forced.
-/
import Derived.Deep.Quiet
import Derived.StillTail
import Derived.Test.YtpamkibnahhphaaGreatDoorRelIn
import Derived.Test.YtpamkibnahhphaaGreatDoorCls
namespace Go.Proofs.YtpamkibnahhphaaGreatDoor
open Go.RowKit Go.Deep RY

section
variable {P : Program} {C : World → Prop}

theorem seq_fuel {md : Region.Mode} {ops : Array Oper} {Q : Exit → Act → World → Prop} : ∀ (l : List Oper) (m k : Nat) (listed : Array Bool) (a : Act) (w : World), (∀ j, l[j]? = ops[k + j]?) →
    Region.seqB md ops l.length k listed = true → wpList P ops Q l a w → wpAny P md ops Q (m + l.length) listed a w
  | [], 0, _, _, _, _, _, hB, h => ⟨by simpa [Region.seqB] using hB, h⟩
  | [], m + 1, _, listed, _, _, _, hB, h => by
    have hr : Region.ready md ops listed = [] := by simpa [Region.seqB] using hB
    exact ⟨fun _ => h, fun i hi => by rw [hr] at hi; cases hi⟩
  | o :: l, m, k, listed, a, w, hl, hB, h => by
    have h0 : ops[k]? = some o := by simpa using (hl 0).symm
    simp only [List.length_cons, Region.seqB, Bool.and_eq_true, decide_eq_true_eq] at hB
    refine ⟨fun h1 => (by rw [hB.1] at h1; cases h1), fun i hi => ?_⟩
    rw [hB.1] at hi
    have hik : i = k := by simpa using hi
    subst hik
    have hw : wpOp P ops Q i (wpList P ops Q l) a w := by unfold wpOp; simp only [h0]; exact h
    exact wpOp_mono (fun a' w' h' => seq_fuel l m (i + 1) _ a' w' (fun j => by have := hl (j + 1); simpa [Nat.add_assoc, Nat.add_comm 1 j] using this) hB.2 h') hw

def qwaits (o : Oper) (j : Nat) : Bool := o.after.toList.any fun e => Region.binds .any e && (e.on == j)
/-- Each operation of the head stands ahead of each of the tail, or of a later one of the head. -/
def sinks (hd tl : List Oper) : Bool := tl.all fun o => (List.range hd.length).all fun j => qwaits o j || (hd.drop (j + 1)).any fun o' => qwaits o' j

theorem qwaits_spec {o : Oper} {j : Nat} (h : qwaits o j = true) : ∃ e ∈ o.after, Region.binds .any e = true ∧ e.on = j := by
  obtain ⟨e, he, hb⟩ := List.any_eq_true.1 h
  rw [Bool.and_eq_true, beq_iff_eq] at hb
  exact ⟨e, by simpa using he, hb.1, hb.2⟩

theorem sinks_spec {hd tl : List Oper} (hS : sinks hd tl = true) {o : Oper} (ho : o ∈ tl) {L : Array Bool} (hc : Closed .any hd.toArray L) (h3 : ∀ j, j < hd.length → qwaits o j = true → L.getD j false = true) : ∀ m j, j < hd.length → hd.length ≤ j + m → L.getD j false = true := by
  have hso := List.all_eq_true.1 hS o ho
  intro m
  induction m with
  | zero => intro j hj hm; omega
  | succ m ih =>
    intro j hj hm
    have := List.all_eq_true.1 hso j (List.mem_range.2 hj)
    rw [Bool.or_eq_true] at this
    rcases this with h | h
    · exact h3 j hj h
    · obtain ⟨o', ho', hw⟩ := List.any_eq_true.1 h
      obtain ⟨i, hi⟩ := List.getElem?_of_mem ho'
      rw [List.getElem?_drop] at hi
      have hlt : j + 1 + i < hd.length := (List.getElem?_eq_some_iff.1 hi).1
      obtain ⟨e, he, hb, rfl⟩ := qwaits_spec hw
      exact hc (e.on + 1 + i) o' e (by simpa using hi) he hb (ih (e.on + 1 + i) hlt (by omega))
/-- The guards of the head lie in the head. -/
def guarded (n : Nat) (hd : List Oper) : Bool := hd.all fun o => match o.guard with
  | some (j, _) => decide (j < n)
  | none => true

theorem qOp_part {hd tl : List Oper} (hG : guarded hd.length hd = true) {i : Nat} (hi : i < hd.length) {K : Act → Prop} {a : Act} (h : qOp P hd.toArray C i K a) : qOp P (hd ++ tl).toArray C i K a := by
  have e1 : hd.toArray[i]? = some hd[i] := by simp [hi]
  have e2 : (hd ++ tl).toArray[i]? = some hd[i] := by simp [hi, List.getElem?_append_left hi]
  have ew : Region.wanted hd[i] (yielded (hd ++ tl).toArray a.tmps) = Region.wanted hd[i] (yielded hd.toArray a.tmps) := by
    have hg := List.all_eq_true.1 hG hd[i] (List.getElem_mem hi)
    unfold Region.wanted
    cases hgd : (hd[i]).guard with
    | none => rfl
    | some p =>
      obtain ⟨j, b⟩ := p
      rw [hgd] at hg
      have hj : j < hd.length := by simpa using hg
      have : yielded (hd ++ tl).toArray a.tmps j = yielded hd.toArray a.tmps j := by
        unfold yielded
        simp [List.getElem?_append_left hj]
      simp only [this]
  unfold qOp at h ⊢
  simp only [e1] at h
  simp only [e2, ew]
  exact h

theorem asc_spec {md : Region.Mode} {ops : Array Oper} {i : Nat} {o : Oper} (ha : asc md ops = true) (ho : ops[i]? = some o) : ∀ e ∈ o.after, Region.binds md e = true → e.on < i := by
  have hn : i < ops.size := (Array.getElem?_eq_some_iff.1 ho).1
  unfold asc at ha
  rw [List.all_eq_true] at ha
  have := ha i (List.mem_range.2 hn)
  rw [ho] at this
  intro e he hb
  have h3 := (Array.all_eq_true_iff_forall_mem.1 this) e he
  rw [hb] at h3
  simpa using h3

structure Same (n : Nat) (L' L : Array Bool) : Prop where
  size' : L'.size = n
  low : ∀ j, j < n → L.getD j false = L'.getD j false
  high : ∀ j, n ≤ j → j < L.size → L.getD j true = false

theorem getD_tf {L : Array Bool} {j : Nat} (h : j < L.size) : L.getD j true = L.getD j false := by simp [h]

theorem lift_tail {hd tl : List Oper} {Q : Exit → Act → World → Prop} {Qh : Act → Prop} (hG : guarded hd.length hd = true) (hS : sinks hd tl = true) (hA : asc .any hd.toArray = true)
    (hT : Region.seqB .any (hd ++ tl).toArray tl.length hd.length (List.replicate hd.length true ++ List.replicate tl.length false).toArray = true)
    (hQ : ∀ a w, C w → Qh a → wpList P (hd ++ tl).toArray Q tl a w) :
    ∀ (fuel : Nat) (L' L : Array Bool) (a : Act) (w : World), C w → Same hd.length L' L → Closed .any hd.toArray L' → L.size = hd.length + tl.length → wpAnyQ P .any hd.toArray C Qh fuel L' a → wpAny P .any (hd ++ tl).toArray Q (fuel + tl.length) L a w := by
  have fin : ∀ (m : Nat) (L' L : Array Bool) (a : Act) (w : World), C w → Same hd.length L' L → L.size = hd.length + tl.length → Region.ready .any hd.toArray L' = [] → Qh a → wpAny P .any (hd ++ tl).toArray Q (m + tl.length) L a w := by
    intro m L' L a w hC hs hsz hr hq
    have hup : ∀ j, j < hd.length → L'.getD j false = true := fun j hj => all_up hr hA (by simpa using hs.size') j (by simpa using hj)
    have e : L = (List.replicate hd.length true ++ List.replicate tl.length false).toArray := by
      apply Array.ext
      · simp [hsz]
      · intro j h1 h2
        by_cases hj : j < hd.length
        · have := (hs.low j hj).trans (hup j hj)
          have h3 : L[j] = true := by simpa [h1] using this
          rw [h3]
          simp [List.getElem_append_left, hj]
        · have := hs.high j (by omega) h1
          have h3 : L[j] = false := by simpa [h1] using this
          rw [h3]
          have h4 : (List.replicate hd.length true ++ List.replicate tl.length false)[j]? = some false := by
            rw [List.getElem?_append_right (by simpa using hj)]
            rw [List.getElem?_replicate]
            simp
            omega
          have h5 := (List.getElem?_eq_some_iff.1 h4).2
          simpa using h5.symm
    rw [e]
    exact seq_fuel tl m hd.length _ a w (fun j => by simp [List.getElem?_append_right]) hT (hQ a w hC hq)
  intro fuel
  induction fuel with
  | zero => intro L' L a w hC hs _ hsz h; exact fin 0 L' L a w hC hs hsz h.1 h.2
  | succ fuel ih =>
    intro L' L a w hC hs hcl hsz h
    by_cases hr : Region.ready .any hd.toArray L' = []
    · exact fin (fuel + 1) L' L a w hC hs hsz hr (h.1 hr)
    have toOps : ∀ i, i ∈ Region.ready .any hd.toArray L' → i ∈ Region.ready .any (hd ++ tl).toArray L := by
      intro i hi
      obtain ⟨h1, o, h2, h3⟩ := mem_ready.1 hi
      have hi' : i < hd.length := by simpa using (Array.getElem?_eq_some_iff.1 h2).1
      refine mem_ready.2 ⟨?_, o, ?_, ?_⟩
      · rw [getD_tf (by omega), hs.low i hi', ← getD_tf (by rw [hs.size']; exact hi')]; exact h1
      · simp only [List.getElem?_toArray] at h2 ⊢
        rw [List.getElem?_append_left hi']; exact h2
      · intro e he hb
        have hlt : e.on < i := asc_spec hA h2 e he hb
        rw [hs.low e.on (by omega)]
        exact h3 e he hb
    have fromOps : ∀ i, i ∈ Region.ready .any (hd ++ tl).toArray L → i < hd.length ∧ i ∈ Region.ready .any hd.toArray L' := by
      intro i hi
      obtain ⟨h1, o, h2, h3⟩ := mem_ready.1 hi
      have hiL : i < (hd ++ tl).length := by simpa using (Array.getElem?_eq_some_iff.1 h2).1
      have h2' : (hd ++ tl)[i]? = some o := by simpa using h2
      by_cases hi' : i < hd.length
      · refine ⟨hi', mem_ready.2 ⟨?_, o, ?_, ?_⟩⟩
        · rw [getD_tf (by rw [hs.size']; exact hi'), ← hs.low i hi', ← getD_tf (by omega)]; exact h1
        · rw [List.getElem?_append_left hi'] at h2'
          simpa using h2'
        · intro e he hb
          have hA' : hd.toArray[i]? = some o := by rw [List.getElem?_append_left hi'] at h2'; simpa using h2'
          have hlt : e.on < i := asc_spec hA hA' e he hb
          rw [← hs.low e.on (by omega)]
          exact h3 e he hb
      · exfalso
        rw [List.getElem?_append_right (by omega)] at h2'
        have ho := List.mem_of_getElem? h2'
        obtain ⟨q, hq⟩ := List.exists_mem_of_ne_nil _ hr
        obtain ⟨g1, oq, g2, _⟩ := mem_ready.1 hq
        have hq' : q < hd.length := by simpa using (Array.getElem?_eq_some_iff.1 g2).1
        have hup := sinks_spec hS ho hcl (fun j hj hw => by
          obtain ⟨e, he, hb, rfl⟩ := qwaits_spec hw
          rw [← hs.low e.on hj]
          exact h3 e he hb) hd.length q hq' (by omega)
        rw [getD_tf (by rw [hs.size']; exact hq'), hup] at g1
        cases g1
    rw [Nat.add_right_comm]
    refine ⟨fun h0 => ?_, fun i hi => ?_⟩
    · exfalso
      obtain ⟨q, hq⟩ := List.exists_mem_of_ne_nil _ hr
      have := toOps q hq
      rw [h0] at this
      cases this
    · obtain ⟨hi', hir⟩ := fromOps i hi
      refine wpOp_of_qOp hC (fun a' w' hC' h' => ?_) (qOp_part hG hi' (h.2 i hir))
      refine ih _ _ a' w' hC' ⟨by simp [hs.size'], fun j hj => ?_, fun j hj hjs => ?_⟩ (hcl.set hir) (by simpa using hsz) h'
      · by_cases e : i = j
        · subst e
          have u1 : i < L.size := by omega
          have u2 : i < L'.size := by rw [hs.size']; exact hi'
          simp [u1, u2]
        · have e1 : (L.setIfInBounds i true).getD j false = L.getD j false := by simp [Array.getD_eq_getD_getElem?, Array.getElem?_setIfInBounds_ne e]
          have e2 : (L'.setIfInBounds i true).getD j false = L'.getD j false := by simp [Array.getD_eq_getD_getElem?, Array.getElem?_setIfInBounds_ne e]
          rw [e1, e2]; exact hs.low j hj
      · have e1 : (L.setIfInBounds i true).getD j true = L.getD j true := by simp [Array.getD_eq_getD_getElem?, Array.getElem?_setIfInBounds_ne (show i ≠ j by omega)]
        rw [e1]
        exact hs.high j hj (by simpa using hjs)

theorem region_qtail {id : Nat} {Q : Exit → Act → World → Prop} {a : Act} {w : World} (hd tl : List Oper) (hm : P.follows .mixedOrders = true) (hB : Region.lexB .any hd.toArray = true) (hG : guarded hd.length hd = true) (hS : sinks hd tl = true) (hA : asc .any hd.toArray = true)
    (hT : Region.seqB .any (hd ++ tl).toArray tl.length hd.length (List.replicate hd.length true ++ List.replicate tl.length false).toArray = true) (hC : C w.drew)
    (h : wpQuiet P hd.toArray C (fun a' => ∀ w', C w' → wpList P (hd ++ tl).toArray Q tl a' w') hd a) : (Code.region id (hd ++ tl).toArray true).wp P Q a w := by
  refine wp_region_any hm ?_
  simp only [Region.lexB, Bool.and_eq_true] at hB
  have h1 := wpAnyQ_lex (C := C) (md := .any) hB.1 hd 0 (Array.replicate hd.toArray.size false) a (by simp) (by simpa using hB.2) h
  have h2 := lift_tail hG hS hA hT (fun a w hw hq => hq w hw) hd.length _ (Array.replicate (hd ++ tl).toArray.size false) a w.drew hC ⟨by simp, fun j _ => (getD_replicate_false _ _).trans (getD_replicate_false _ _).symm, fun j _ hj => by simp at hj; simp [hj]⟩ (Closed.none _ (getD_replicate_false _)) (by simp) h1
  rw [show (hd ++ tl).toArray.size = hd.length + tl.length by simp]
  rw [show (hd ++ tl).toArray.size = hd.length + tl.length by simp] at h2
  exact h2
end
end Go.Proofs.YtpamkibnahhphaaGreatDoor

namespace Go.Proofs.YtpamkibnahhphaaGreatDoor
open Go.RowKit Go.Deep RY

def apartAll (ops : Array Oper) (i : Nat) (oi : Oper) : List Oper → Bool
  | [] => true
  | oj :: r => (qwaits oj i || oi.apart ops oj) && apartAll ops i oi r
def pairsB (ops : Array Oper) : Nat → List Oper → Bool
  | _, [] => true
  | i, o :: r => apartAll ops i o r && pairsB ops (i + 1) r

theorem apartAll_spec {ops : Array Oper} {i : Nat} {oi : Oper} : ∀ (l : List Oper), apartAll ops i oi l = true → ∀ oj ∈ l, (qwaits oj i || oi.apart ops oj) = true
  | [], _, oj, h => by cases h
  | o :: r, h, oj, hj => by
    rw [apartAll, Bool.and_eq_true] at h
    rcases List.mem_cons.1 hj with rfl | hj
    · exact h.1
    · exact apartAll_spec r h.2 oj hj

theorem pairs_spec {ops : Array Oper} : ∀ (l : List Oper) (k : Nat), pairsB ops k l = true → ∀ i j oi oj, i < j → l[i]? = some oi → l[j]? = some oj → (qwaits oj (k + i) || oi.apart ops oj) = true
  | [], _, _, i, _, _, _, _, h, _ => by simp at h
  | o :: r, k, h, i, j, oi, oj, hij, hi, hj => by
    rw [pairsB, Bool.and_eq_true] at h
    cases j with
    | zero => omega
    | succ j =>
      rw [List.getElem?_cons_succ] at hj
      cases i with
      | zero =>
        rw [List.getElem?_cons_zero] at hi
        injection hi with hi
        subst hi
        exact apartAll_spec r h.1 oj (List.mem_of_getElem? hj)
      | succ i =>
        rw [List.getElem?_cons_succ] at hi
        have := pairs_spec r (k + 1) h.2 i j oi oj (by omega) hi hj
        rwa [show k + (i + 1) = k + 1 + i by omega]

theorem lexFrom_of {ops : Array Oper} (hA : asc .any ops = true) (hp : ∀ i j oi oj, i < j → ops[i]? = some oi → ops[j]? = some oj → (qwaits oj i || oi.apart ops oj) = true) :
    ∀ (g k : Nat) (L : Array Bool), k + g = ops.size → L.size = ops.size → (∀ j, j < k → L.getD j false = true) → (∀ j, k ≤ j → j < ops.size → L.getD j true = false) → Region.lexFrom .any ops g k L = true
  | 0, k, L, hk, hs, h1, h2 => by
    have : Region.ready .any ops L = [] := by
      rw [List.eq_nil_iff_forall_not_mem]
      intro j hj
      obtain ⟨g1, o, g2, _⟩ := mem_ready.1 hj
      have hlt : j < ops.size := (Array.getElem?_eq_some_iff.1 g2).1
      have := h1 j (by omega)
      rw [getD_tf (by omega), this] at g1
      cases g1
    simp [Region.lexFrom, this]
  | g + 1, k, L, hk, hs, h1, h2 => by
    have hlt : k < ops.size := by omega
    have hok : ops[k]? = some ops[k] := by simp [hlt]
    rw [Region.lexFrom, Bool.and_eq_true, Bool.and_eq_true]
    refine ⟨⟨?_, ?_⟩, ?_⟩
    · have : k ∈ Region.ready .any ops L := mem_ready.2 ⟨h2 k (Nat.le_refl _) hlt, ops[k], hok, fun e he hb => h1 e.on (asc_spec hA hok e he hb)⟩
      simpa using this
    · unfold Region.free
      rw [hok]
      simp only [List.all_eq_true, List.mem_range]
      intro j hj
      by_cases e : j = k
      · simp [e]
      by_cases hjk : j < k
      · have := h1 j hjk
        rw [← getD_tf (by omega)] at this
        rw [this]
        simp
      · have hoj : ops[j]? = some ops[j] := by simp [hj]
        have := hp k j ops[k] ops[j] (by omega) hok hoj
        rw [hoj]
        rw [Bool.or_eq_true] at this ⊢
        right
        rw [Bool.or_eq_true]
        rcases this with h | h
        · left
          unfold qwaits at h
          rw [← Array.any_toList]
          exact h
        · right; exact h
    · refine lexFrom_of hA hp g (k + 1) _ (by omega) (by simpa using hs) (fun j hj => ?_) (fun j hj hjs => ?_)
      · by_cases e : k = j
        · subst e
          have u : k < L.size := by omega
          simp [u]
        · have e1 : (L.setIfInBounds k true).getD j false = L.getD j false := by simp [Array.getD_eq_getD_getElem?, Array.getElem?_setIfInBounds_ne e]
          rw [e1]
          exact h1 j (by omega)
      · have e1 : (L.setIfInBounds k true).getD j true = L.getD j true := by simp [Array.getD_eq_getD_getElem?, Array.getElem?_setIfInBounds_ne (show k ≠ j by omega)]
        rw [e1]
        exact h2 j (by omega) hjs

theorem lexB_of {l : List Oper} (hn : Region.noSelect l.toArray = true) (hA : asc .any l.toArray = true) (hp : pairsB l.toArray 0 l = true) : Region.lexB .any l.toArray = true := by
  unfold Region.lexB
  rw [Bool.and_eq_true]
  refine ⟨hn, lexFrom_of hA (fun i j oi oj hij hi hj => ?_) _ 0 _ (by simp) (by simp) (fun j hj => by omega) (fun j _ hj => ?_)⟩
  · have := pairs_spec l 0 hp i j oi oj hij (by simpa using hi) (by simpa using hj)
    rwa [Nat.zero_add] at this
  · simp at hj
    simp [hj]

end Go.Proofs.YtpamkibnahhphaaGreatDoor

namespace Go.Proofs.YtpamkibnahhphaaGreatDoor
open Go.RowKit Go.Deep RY

theorem region_qcut {P : Program} {id : Nat} {Q : Exit → Act → World → Prop} {a : Act} {w : World} {l : List Oper} (v : World) (hv : Below v.heap.size v w) (n : Nat) (hm : P.follows .mixedOrders = true) (hB : Region.lexB .any (l.take n).toArray = true) (hG : guarded (l.take n).length (l.take n) = true) (hS : sinks (l.take n) (l.drop n) = true) (hA : asc .any (l.take n).toArray = true)
    (hT : Region.seqB .any l.toArray (l.drop n).length (l.take n).length (List.replicate (l.take n).length true ++ List.replicate (l.drop n).length false).toArray = true)
    (h : wpQuiet P (l.take n).toArray (fun w' => ∃ x : Pst v, w' = x.W) (fun a' => ∀ w', (∃ x : Pst v, w' = x.W) → wpList P l.toArray Q (l.drop n) a' w') (l.take n) a) : (Code.region id l.toArray true).wp P Q a w := by
  have := region_qtail (C := fun w' => ∃ x : Pst v, w' = x.W) (id := id) (Q := Q) (a := a) (w := w) (l.take n) (l.drop n) hm hB hG hS hA (by rw [List.take_append_drop]; exact hT) ⟨⟨w.drew, Below.drew hv⟩, rfl⟩ (by rw [List.take_append_drop]; exact h)
  rwa [List.take_append_drop] at this

end Go.Proofs.YtpamkibnahhphaaGreatDoor
