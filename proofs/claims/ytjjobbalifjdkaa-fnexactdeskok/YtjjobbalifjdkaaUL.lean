/-
  What laws over data by cells share: answers, variables, a region that draws its order.
-/
import Derived.BigFrame
import Derived.Test.YtjjobbalifjdkaaUB
import Derived.Test.YtjjobbalifjdkaaRel
import Derived.Test.YtjjobbalifjdkaaLet
namespace Go.Proofs.Ytjjobbalifjdkaa
open Go.RowKit Go.Deep

/-- A function's answer: a struct in memory of its own. -/
def Ans (sh : List Sh) (A : List Dt) (W : World) (e : Ending) (w' : World) : Prop := ∃ c F, e = .returned (.agg c.toArray) ∧ Rep w' false sh F A c ∧ F.Nodup ∧ (∀ b ∈ F, W.heap.size ≤ b) ∧ Below W.heap.size W w'
/-- A function's answer: a list in memory of its own. -/
def AnsL (sh : List Sh) (A : Dt) (W : World) (e : Ending) (w' : World) : Prop := ∃ v F, e = .returned v ∧ Rep w' false sh F [A] [v] ∧ F.Nodup ∧ (∀ b ∈ F, W.heap.size ≤ b) ∧ Below W.heap.size W w'

/-- Elements of at most 32 cells. -/
def shB : List Sh → Bool
  | [] => true
  | .row _ sh :: ss => decide (sh.length ≤ 32) && shB sh && shB ss
  | .i :: ss => shB ss
  | .b :: ss => shB ss
  | .s :: ss => shB ss
theorem shB_app : ∀ (a b : List Sh), shB (a ++ b) = (shB a && shB b)
  | [], b => by simp [shB]
  | .row t sh :: ss, b => by rw [List.cons_append, shB, shB, shB_app ss b]; simp only [Bool.and_assoc]
  | .i :: ss, b => by rw [List.cons_append, shB, shB, shB_app ss b]
  | .b :: ss, b => by rw [List.cons_append, shB, shB, shB_app ss b]
  | .s :: ss, b => by rw [List.cons_append, shB, shB, shB_app ss b]
theorem shB_reps {sh : List Sh} (h : shB sh = true) : ∀ n, shB (reps n sh) = true
  | 0 => by rw [reps_zero, shB]
  | n + 1 => by rw [reps_succ, shB_app, h, shB_reps h n]; rfl
theorem cnt_wt {ss : List Sh} {ds : List Dt} (h : Typ ss ds) : shB ss = true → cntL ds ≤ ss.length + 32 * wtL ds := by
  induction h with
  | nil => intro _; rw [cntL]; omega
  | i n h ih => intro hs; rw [shB] at hs; have := ih hs; rw [cntL, wtL, List.length_cons]; omega
  | b n h ih => intro hs; rw [shB] at hs; have := ih hs; rw [cntL, wtL, List.length_cons]; omega
  | s n h ih => intro hs; rw [shB] at hs; have := ih hs; rw [cntL, wtL, List.length_cons]; omega
  | row t sh n es he h ih1 ih =>
    intro hs
    rw [shB, Bool.and_eq_true, Bool.and_eq_true, decide_eq_true_eq] at hs
    have h1 := ih1 (shB_reps hs.1.2 n)
    have h2 := ih hs.2
    rw [reps_len] at h1
    have h3 : n * sh.length ≤ n * 32 := Nat.mul_le_mul_left n hs.1.1
    rw [cntL, wtL, List.length_cons]; omega
theorem cntT_le : ∀ (ds : List Dt), cntT ds ≤ cntL ds
  | [] => by rw [cntT, cntL]; omega
  | .row n es :: ds => by have := cntT_le ds; rw [cntT, cntL]; omega
  | .i _ :: ds => by have := cntT_le ds; rw [cntT, cntL]; omega
  | .b _ :: ds => by have := cntT_le ds; rw [cntT, cntL]; omega
  | .s _ :: ds => by have := cntT_le ds; rw [cntT, cntL]; omega
theorem nv_there (x : World) (zs : Array Value) (t : TypeId) (c : List Value) (h : c.length = zs.size) : (x.alloc (.cells zs t)).there x.heap.size 0 c.toArray.size :=
  uthere (OwnBlk.alloc x zs t _ rfl) _ _ (by rw [List.size_toArray]; omega)
theorem nv_box (x : World) (zs : Array Value) (t : TypeId) (c : List Value) (h : c.length = zs.size) : LBox ((x.alloc (.cells zs t)).setCells x.heap.size 0 c) x.heap.size c :=
  ⟨(own_scs c 0 _ (OwnBlk.alloc x zs t _ rfl)).lt, World.rangeAt_setCells_same _ _ _ _ (by have := nv_there x zs t c h; rwa [List.size_toArray] at this)⟩
theorem nv_below (x : World) (zs : Array Value) (t : TypeId) (c : List Value) : Below x.heap.size x ((x.alloc (.cells zs t)).setCells x.heap.size 0 c) :=
  blw_scs (Nat.le_refl _) _ _ _ (blw_alloc (Below.refl _ _) _)

theorem uload_g {P : Program} {ops : Array Oper} {rest : List Oper} {op : Oper} {a : Act} {w : World} {Q : Exit → Act → World → Prop} (hw : Region.wanted op (yielded ops a.tmps) = true) (ty : TypeId) (x : Operand) (ho : op.op = .load ty x)
    (b o : Nat) (hx : a.eval x = .pointer (some ⟨b, o, none⟩)) (cs : List Value) (d : TypeDesc) (hc : w.rangeAt b o cs)
    (hu : P.underlying ty = some d) (hd : d.isRow = true) (hi : (P.info? ty).map (·.size) = some cs.length)
    (h : wpList P ops Q rest (a.put op.dst (.agg cs.toArray)) w) : wpList P ops Q (op :: rest) a w :=
  BigFrame.wpList_want hw fun _ hK => wp_load_mid ty x ho b o hx cs d hc hu hd hi (hK _ _ h)

/-- What the operations of 'eq(x, to(a))' yield. -/
def VEq (X Y : Value) (R : World → Array Value → Prop) (i : Nat) (u : Value) (W : World) : Prop :=
  match i with
  | 0 => u = Y
  | 1 => u = X
  | 2 => ∃ d, u = .agg d ∧ R W d
  | 3 => u = .bool true
  | _ => u = .bool false
theorem VEq_mono (X Y : Value) (R : World → Array Value → Prop) (h0 : ∀ W W' d, R W d → Below W.heap.size W W' → R W' d) : ∀ j u W W', Below W.heap.size W W' → VEq X Y R j u W → VEq X Y R j u W' := by
  intro j u W W' hb h
  match j, h with
  | 0, h => exact h
  | 1, h => exact h
  | 2, h =>
    obtain ⟨d, rfl, h2⟩ := h
    exact ⟨d, rfl, h0 _ _ _ h2 hb⟩
  | 3, h => exact h
  | n + 4, h => exact h
end Go.Proofs.Ytjjobbalifjdkaa
