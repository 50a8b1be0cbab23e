/-
  A recorder's disk in memory: sizes, copies, equality.
-/
import Derived.Deep.DeepCutAuto
import Derived.Test.YtnjomikieiocpaaMemRs
namespace Go.Proofs.Ytnjomikieiocpaa
open Go.RowKit Go.Deep

structure Box3 (W : World) (p : Nat) (v0 v1 v2 : Value) : Prop where
  lt : p < W.heap.size
  x0 : W.cell? ⟨p, 0, none⟩ = some v0
  x1 : W.cell? ⟨p, 1, none⟩ = some v1
  x2 : W.cell? ⟨p, 2, none⟩ = some v2

theorem Box3.later {W W' : World} {p : Nat} {v0 v1 v2 : Value} (h : Box3 W p v0 v1 v2) (hb : Below W.heap.size W W') : Box3 W' p v0 v1 v2 := by
  have c : ∀ j, W'.cell? ⟨p, j, none⟩ = W.cell? ⟨p, j, none⟩ := fun j => hb.cell (p := ⟨p, j, none⟩) h.lt
  exact ⟨Nat.lt_of_lt_of_le h.lt hb.size, (c 0).trans h.x0, (c 1).trans h.x1, (c 2).trans h.x2⟩
theorem Box3.new' (W : World) (p : Nat) (v0 v1 v2 : Value) (t : TypeId) (hp : p = W.heap.size) : Box3 (W.alloc (.cells #[v0, v1, v2] t)) p v0 v1 v2 := by
  subst hp
  have c : ∀ j, (W.alloc (.cells #[v0, v1, v2] t)).cell? ⟨W.heap.size, j, none⟩ = (#[v0, v1, v2])[j]? := fun j => World.cell?_alloc_at _ _ _ _ rfl
  exact ⟨by simp, c 0, c 1, c 2⟩
theorem Box3.past {W : World} {p : Nat} {v0 v1 v2 : Value} (h : Box3 W p v0 v1 v2) (o : Obj) : Box3 (W.alloc o) p v0 v1 v2 := h.later (blw_alloc (Below.refl _ _) o)

theorem OwnBlk.alloc_at2 (W : World) (cs : Array Value) (t : TypeId) (m n : Nat) (h : cs.size = m) (hn : n = W.heap.size) : OwnBlk (W.alloc (.cells cs t)) n t m := by
  subst hn
  exact OwnBlk.alloc W cs t m h

structure Rd where
  prom : Int
  known : Int
  slots : List Rs

structure RdAt (w : World) (v0 : Value) (K : Rd) : Prop where
  l0 : RssAt w v0 K.slots

structure RdIn (w : World) (b0 : Nat) (K : Rd) : Prop where
  l0 : RssIn w b0 K.slots

def Rd.small (K : Rd) : Prop := K.slots.length ≤ 1048576

theorem RdAt.later {w w' : World} {v0 : Value} {K : Rd} (h : RdAt w v0 K) (hb : Below w.heap.size w w') : RdAt w' v0 K := ⟨h.l0.later hb⟩
theorem RdIn.later {w w' : World} {b0 : Nat} {K : Rd} (h : RdIn w b0 K) (hb : Below w.heap.size w w') : RdIn w' b0 K := ⟨h.l0.later hb⟩

set_option maxHeartbeats 4000000 in
theorem eqRD (K : Rd) (b0 q0 : Nat) (w : World) (h : RdIn w b0 K) (h' : RdIn w q0 K) :
    Calls Try.prog 35 #[.agg #[.int .i64 K.prom, .int .i64 K.known, .slice (some ⟨b0, 0, none⟩) K.slots.length K.slots.length], .agg #[.int .i64 K.prom, .int .i64 K.known, .slice (some ⟨q0, 0, none⟩) K.slots.length K.slots.length]] w fun e w' => e = .returned (.bool true) ∧ Below w.heap.size w w' := by
  have HH : Hid (RdIn w b0 K ∧ RdIn w q0 K) := ⟨h, h'⟩
  clear h h'
  obtain ⟨wa, hwa⟩ : ∃ wa, wa = (w.alloc (.cells #[.int .i64 K.prom, .int .i64 K.known, .slice (some ⟨b0, 0, none⟩) K.slots.length K.slots.length] 34)).alloc (.cells #[.int .i64 K.prom, .int .i64 K.known, .slice (some ⟨q0, 0, none⟩) K.slots.length K.slots.length] 34) := ⟨_, rfl⟩
  have HBa : Hid (Below w.heap.size w wa) := by show Below _ _ _; rw [hwa]; exact blw_alloc (blw_alloc (Below.refl _ _) _) _
  have HXa : Hid (Box3 wa w.heap.size (.int .i64 K.prom) (.int .i64 K.known) (.slice (some ⟨b0, 0, none⟩) K.slots.length K.slots.length) ∧ Box3 wa (w.heap.size + 1) (.int .i64 K.prom) (.int .i64 K.known) (.slice (some ⟨q0, 0, none⟩) K.slots.length K.slots.length)) := by show _ ∧ _; rw [hwa]; exact ⟨(Box3.new' w _ _ _ _ _ rfl).past _, Box3.new' _ _ _ _ _ _ (by simp)⟩
  go_enter Try.func35, Try.ntmps35
  go_upto_region 1 with fail
  rw [← hwa]
  clear hwa
  obtain ⟨yz, y0, y1, y2⟩ := HXa.out.1
  obtain ⟨xz, x0, x1, x2⟩ := HXa.out.2
  go_wp2_with fail
  refine (eqRss b0 q0 K.slots wa (HH.out.1.later HBa.out).l0 (HH.out.2.later HBa.out).l0).mono ?_
  rintro e wb ⟨rfl, hb⟩
  have HBb : Hid (Below w.heap.size w wb) := blw_trans HBa.out hb
  have HXb : Hid (Box3 wb w.heap.size (.int .i64 K.prom) (.int .i64 K.known) (.slice (some ⟨b0, 0, none⟩) K.slots.length K.slots.length) ∧ Box3 wb (w.heap.size + 1) (.int .i64 K.prom) (.int .i64 K.known) (.slice (some ⟨q0, 0, none⟩) K.slots.length K.slots.length)) := ⟨HXa.out.1.later hb, HXa.out.2.later hb⟩
  clear hb yz y0 y1 y2 xz x0 x1 x2 HXa HBa
  go_wp2
  go_ret
  exact ⟨rfl, HBb.out⟩

end Go.Proofs.Ytnjomikieiocpaa
