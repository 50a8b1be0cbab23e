/-
  slices.DeleteFunc: plain; cells put into a row of one's own.
-/
import Derived.Test.YtclagbakddkjcaaGreatSlH
import Derived.Test.YtclagbakddkjcaaGreatSeK
import Derived.Test.YtclagbakddkjcaaGreatSeB
namespace Go.Proofs.YtclagbakddkjcaaGreat
open Go.RowKit Go.Deep

theorem take_snoc {α : Type} (z : α) {l : List α} {k : Nat} (hk : k < l.length) : l.take (k + 1) = l.take k ++ [l.getD k z] := by
  have e : l[k]? = some (l.getD k z) := by simp [hk]
  rw [List.take_add_one, e]; rfl
theorem f1 {α : Type} (p : α → Bool) {x : α} (h : p x = true) : [x].filter (fun x => !p x) = [] := by simp [h]
theorem f0 {α : Type} (p : α → Bool) {x : α} (h : p x = false) : [x].filter (fun x => !p x) = [x] := by simp [h]
theorem df_none {α : Type} (z : α) (p : α → Bool) {l : List α} (h : ∀ j, j < l.length → p (l.getD j z) = false) : l.filter (fun x => !p x) = l := by
  rw [List.filter_eq_self]
  intro x hx
  have := all_getD z (p := fun x => p x = false) l h x hx
  simp [this]
theorem df_start {α : Type} (z : α) (p : α → Bool) {l : List α} {k : Nat} (hk : k < l.length) (hp : p (l.getD k z) = true) (h : ∀ j, j < k → p (l.getD j z) = false) : l.take k = (l.take (k + 1)).filter fun x => !p x := by
  rw [take_snoc z hk, List.filter_append]
  have e : (l.take k).filter (fun x => !p x) = l.take k := by
    refine df_none z p (fun j hj => ?_)
    have hj' : j < k := by rw [List.length_take] at hj; omega
    have : (l.take k).getD j z = l.getD j z := by rw [List.getD_eq_getElem?_getD, List.getD_eq_getElem?_getD, List.getElem?_take, if_pos hj']
    rw [this]; exact h j hj'
  rw [e, f1 p hp, List.append_nil]
theorem df_at {α : Type} (z : α) {L l : List α} {b : Nat} (h : L.drop b = l.drop b) : L.getD b z = l.getD b z := by
  have : (L.drop b)[0]? = (l.drop b)[0]? := by rw [h]
  rw [List.getElem?_drop, List.getElem?_drop] at this
  rw [List.getD_eq_getElem?_getD, List.getD_eq_getElem?_getD]
  simpa using congrArg (fun o : Option α => o.getD z) this
theorem df_drop {α : Type} {L l : List α} {b : Nat} (h : L.drop b = l.drop b) : L.drop (b + 1) = l.drop (b + 1) := by
  rw [← List.drop_drop, ← List.drop_drop, h]
theorem df_skip {α : Type} (z : α) (p : α → Bool) {L l : List α} {a b : Nat} (hb : b < l.length) (h : L.take a = (l.take b).filter fun x => !p x) (hp : p (l.getD b z) = true) : L.take a = (l.take (b + 1)).filter fun x => !p x := by
  rw [take_snoc z hb, List.filter_append, h, f1 p hp, List.append_nil]
theorem df_keep {α : Type} (z : α) (p : α → Bool) {L l : List α} {a b : Nat} (hL : L.length = l.length) (hab : a < b) (hb : b < l.length) (h : L.take a = (l.take b).filter fun x => !p x) (hd : L.drop b = l.drop b) (hp : p (l.getD b z) = false) : (L.set a (l.getD b z)).take (a + 1) = ((l.take (b + 1)).filter fun x => !p x) ∧ (L.set a (l.getD b z)).drop (b + 1) = l.drop (b + 1) := by
  constructor
  · rw [take_snoc z hb, List.filter_append, ← h, take_snoc z (by rw [List.length_set]; omega), List.take_set_of_le (Nat.le_refl a)]
    have : (L.set a (l.getD b z)).getD a z = l.getD b z := by simp [show a < L.length by omega]
    rw [this, f0 p hp]
  · rw [List.drop_set_of_lt (by omega)]
    exact df_drop hd

/-- Cells put into a row. -/
def lset : List Value → Nat → List Value → List Value
  | xs, _, [] => xs
  | xs, o, v :: vs => lset (xs.set o v) (o + 1) vs
theorem lset_pre (P : List Value) : ∀ (cs : List Value) (o : Nat) (xs : List Value), lset (P ++ xs) (P.length + o) cs = P ++ lset xs o cs
  | [], _, _ => rfl
  | v :: vs, o, xs => by
    rw [lset, lset, List.set_append_right _ _ (Nat.le_add_right _ _), Nat.add_sub_cancel_left]
    exact lset_pre P vs (o + 1) (xs.set o v)
theorem lset_head : ∀ (cs H P B : List Value), H.length = cs.length → lset (P ++ (H ++ B)) P.length cs = P ++ (cs ++ B)
  | [], H, P, B, h => by
    rw [List.eq_nil_of_length_eq_zero h]; rfl
  | v :: vs, [], P, B, h => by cases h
  | v :: vs, x :: H, P, B, h => by
    rw [lset, List.set_append_right _ _ (Nat.le_refl _), Nat.sub_self, List.cons_append, List.set_cons_zero]
    have := lset_head vs H (P ++ [v]) B (by simpa using h)
    rw [List.length_append, List.length_singleton, List.append_assoc, List.append_assoc] at this
    exact this
theorem flat_lset {α : Type} (f : α → List Value) (n : Nat) (hf : ∀ x, (f x).length = n) : ∀ (l : List α) (a : Nat) (m : α), a < l.length → lset (l.flatMap f) (a * n) (f m) = (l.set a m).flatMap f
  | [], _, _, h => by simp at h
  | y :: ys, 0, m, _ => by
    rw [List.set_cons_zero, List.flatMap_cons, List.flatMap_cons, Nat.zero_mul]
    exact lset_head (f m) (f y) [] _ (by rw [hf, hf])
  | y :: ys, a + 1, m, h => by
    rw [List.set_cons_succ, List.flatMap_cons, List.flatMap_cons, show (a + 1) * n = (f y).length + a * n by rw [hf, Nat.add_mul]; omega, lset_pre, flat_lset f n hf ys a m (by simpa using h)]
theorem owns_scs {lo g : Nat} {e : TypeId} {size n c : Nat} : ∀ (cs : List Value) (o : Nat) (w : World) (xs : List Value), w.ownsRow lo e size (.slice (some ⟨g, 0, none⟩) n c) n xs → (w.setCells g o cs).ownsRow lo e size (.slice (some ⟨g, 0, none⟩) n c) n (lset xs o cs)
  | [], _, _, _, h => h
  | v :: vs, o, w, xs, h => by
    rw [World.setCells, lset]
    exact owns_scs vs (o + 1) _ _ (owns_set h o v)
theorem owns_there {lo g : Nat} {e : TypeId} {size n c : Nat} {w : World} {xs : List Value} (h : w.ownsRow lo e size (.slice (some ⟨g, 0, none⟩) n c) n xs) (o m : Nat) (hm : o + m ≤ n * size) : w.there g o m := by
  rcases h.2 with ⟨hv, _⟩ | ⟨g', cap, cur, hv, _, hg, hc, _, hs, _⟩
  · cases hv
  · cases hv
    intro j hj
    have hsz : n * size ≤ c * size := Nat.mul_le_mul_right size hc
    have hlt : o + j < cur.size := by omega
    refine ⟨?_, by simp [World.frozen?, hg]⟩
    simp only [World.cell?, hg]
    simp [hlt]
theorem zc_one {z : Array Value} (h : ∀ v ∈ z.toList, v.oneCell' = true) (hz : 0 < z.size) (n : Nat) : ∀ v ∈ (Builtin.zeroCells z n).toList, v.oneCell' = true := by
  intro v hv
  simp only [Builtin.zeroCells, Array.toList_map, List.mem_map] at hv
  obtain ⟨i, _, rfl⟩ := hv
  have hlt := Nat.mod_lt i hz
  rw [getElem!_pos z _ hlt]
  exact h _ (by simp)
theorem BelO.of {p : Option Addr} {w W : World} (h : Below w.heap.size w W) : BelO p w W := ⟨h.os, h.tape, h.output, h.size, fun b hb _ => h.block b hb⟩
theorem BelO.ofX {g : Nat} {w W : World} (h : BelX g w W) : BelO (some ⟨g, 0, none⟩) w W := ⟨h.os, h.tape, h.output, h.size, fun b hb hn => h.block b hb (hn g rfl)⟩
theorem BelO.x {g : Nat} {w W : World} (h : BelO (some ⟨g, 0, none⟩) w W) : BelX g w W := ⟨h.os, h.tape, h.output, h.size, fun b hb hn => h.block b hb (fun g' e => by cases e; exact hn)⟩
theorem BelO.on {p : Option Addr} {w W W' : World} (h : BelO p w W) (hb : Below W.heap.size W W') : BelO p w W' :=
  ⟨hb.os.trans h.os, hb.tape.trans h.tape, hb.output.trans h.output, Nat.le_trans h.size hb.size, fun b hq hn => (hb.block b (Nat.lt_of_lt_of_le hq h.size)).trans (h.block b hq hn)⟩

end Go.Proofs.YtclagbakddkjcaaGreat
