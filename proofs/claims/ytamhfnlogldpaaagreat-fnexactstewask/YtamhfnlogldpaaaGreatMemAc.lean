/-
  An act of a steward in memory: sizes, copies, equality.
-/
import Derived.Test.YtamhfnlogldpaaaGreatMemSB
import Derived.Test.YtamhfnlogldpaaaGreatMemEn
namespace Go.Proofs.YtamhfnlogldpaaaGreat
open Go.RowKit Go.Deep

theorem hidA {p : Prop} (h : p) : Hid p := h

structure BoxA (W : World) (p : Nat) (v0 v1 v2 v3 v4 v5 v6 v7 : Value) : Prop where
  lt : p < W.heap.size
  x0 : W.cell? ⟨p, 0, none⟩ = some v0
  x1 : W.cell? ⟨p, 1, none⟩ = some v1
  x2 : W.cell? ⟨p, 2, none⟩ = some v2
  x3 : W.cell? ⟨p, 3, none⟩ = some v3
  x4 : W.cell? ⟨p, 4, none⟩ = some v4
  x5 : W.cell? ⟨p, 5, none⟩ = some v5
  x6 : W.cell? ⟨p, 6, none⟩ = some v6
  x7 : W.cell? ⟨p, 7, none⟩ = some v7
theorem BoxA.later {W W' : World} {p : Nat} {v0 v1 v2 v3 v4 v5 v6 v7 : Value} (h : BoxA W p v0 v1 v2 v3 v4 v5 v6 v7) (hb : Below W.heap.size W W') : BoxA W' p v0 v1 v2 v3 v4 v5 v6 v7 := by
  have c : ∀ j, W'.cell? ⟨p, j, none⟩ = W.cell? ⟨p, j, none⟩ := fun j => hb.cell (p := ⟨p, j, none⟩) h.lt
  exact ⟨Nat.lt_of_lt_of_le h.lt hb.size, (c 0).trans h.x0, (c 1).trans h.x1, (c 2).trans h.x2, (c 3).trans h.x3, (c 4).trans h.x4, (c 5).trans h.x5, (c 6).trans h.x6, (c 7).trans h.x7⟩
theorem BoxA.new' (W : World) (p : Nat) (v0 v1 v2 v3 v4 v5 v6 v7 : Value) (t : TypeId) (hp : p = W.heap.size) : BoxA (W.alloc (.cells #[v0, v1, v2, v3, v4, v5, v6, v7] t)) p v0 v1 v2 v3 v4 v5 v6 v7 := by
  subst hp
  have c : ∀ j, (W.alloc (.cells #[v0, v1, v2, v3, v4, v5, v6, v7] t)).cell? ⟨W.heap.size, j, none⟩ = (#[v0, v1, v2, v3, v4, v5, v6, v7])[j]? := fun j => World.cell?_alloc_at _ _ _ _ rfl
  exact ⟨by simp, c 0, c 1, c 2, c 3, c 4, c 5, c 6, c 7⟩
theorem BoxA.past {W : World} {p : Nat} {v0 v1 v2 v3 v4 v5 v6 v7 : Value} (h : BoxA W p v0 v1 v2 v3 v4 v5 v6 v7) (o : Obj) : BoxA (W.alloc o) p v0 v1 v2 v3 v4 v5 v6 v7 := h.later (blw_alloc (Below.refl _ _) o)

structure Ac where
  svc : ByteArray
  seen : Int
  create : Int
  want : Int
  cool : Int
  scale : Bool
  ends : List En
  drop : Bool
structure AcAt (w : World) (v : Value) (X : Ac) : Prop where
  sized : X.svc.size ≤ maxLen
  e : EnsAt w v X.ends
def Ac.small (X : Ac) : Prop := X.ends.length ≤ 1048576
theorem AcAt.later {w w' : World} {v : Value} {X : Ac} (h : AcAt w v X) (hb : Below w.heap.size w w') : AcAt w' v X := ⟨h.sized, h.e.later hb⟩

set_option maxHeartbeats 8000000 in
theorem eqAc (X : Ac) (b q : Nat) (w : World) (h : EnsIn w b X.ends) (h' : EnsIn w q X.ends) :
    Calls Tryz.prog 30 #[.agg #[.string X.svc, .int .i64 X.seen, .int .i64 X.create, .int .i64 X.want, .int .i64 X.cool, .bool X.scale, .slice (some ⟨b, 0, none⟩) X.ends.length X.ends.length, .bool X.drop], .agg #[.string X.svc, .int .i64 X.seen, .int .i64 X.create, .int .i64 X.want, .int .i64 X.cool, .bool X.scale, .slice (some ⟨q, 0, none⟩) X.ends.length X.ends.length, .bool X.drop]] w fun e w' => e = .returned (.bool true) ∧ Below w.heap.size w w' := by
  have HH := hidA h
  have HH' := hidA h'
  have hsc : (X.scale != X.scale) = false := by cases X.scale <;> rfl
  have hdr : (X.drop != X.drop) = false := by cases X.drop <;> rfl
  clear h h'
  obtain ⟨wa, hwa⟩ : ∃ wa, wa = (w.alloc (.cells #[.string X.svc, .int .i64 X.seen, .int .i64 X.create, .int .i64 X.want, .int .i64 X.cool, .bool X.scale, .slice (some ⟨b, 0, none⟩) X.ends.length X.ends.length, .bool X.drop] 47)).alloc (.cells #[.string X.svc, .int .i64 X.seen, .int .i64 X.create, .int .i64 X.want, .int .i64 X.cool, .bool X.scale, .slice (some ⟨q, 0, none⟩) X.ends.length X.ends.length, .bool X.drop] 47) := ⟨_, rfl⟩
  have HBa : Hid (Below w.heap.size w wa) := by show Below _ _ _; rw [hwa]; exact blw_alloc (blw_alloc (Below.refl _ _) _) _
  have HXa : Hid (BoxA wa w.heap.size (.string X.svc) (.int .i64 X.seen) (.int .i64 X.create) (.int .i64 X.want) (.int .i64 X.cool) (.bool X.scale) (.slice (some ⟨b, 0, none⟩) X.ends.length X.ends.length) (.bool X.drop)) := by show BoxA _ _ _ _ _ _ _ _ _ _ ; rw [hwa]; exact (BoxA.new' w _ _ _ _ _ _ _ _ _ _ rfl).past _
  have HYa : Hid (BoxA wa (w.heap.size + 1) (.string X.svc) (.int .i64 X.seen) (.int .i64 X.create) (.int .i64 X.want) (.int .i64 X.cool) (.bool X.scale) (.slice (some ⟨q, 0, none⟩) X.ends.length X.ends.length) (.bool X.drop)) := by show BoxA _ _ _ _ _ _ _ _ _ _ ; rw [hwa]; exact BoxA.new' _ _ _ _ _ _ _ _ _ _ _ (by simp)
  go_enter Tryz.func30, Tryz.ntmps30
  go_upto_region 1 with fail
  rw [← hwa]
  clear hwa
  obtain ⟨yz, y0, y1, y2, y3, y4, y5, y6, y7⟩ := HXa.out
  obtain ⟨xz, x0, x1, x2, x3, x4, x5, x6, x7⟩ := HYa.out
  go_wp2_with fail
  refine (eqEns b q X.ends wa (HH.out.later HBa.out) (HH'.out.later HBa.out)).mono ?_
  rintro e wb ⟨rfl, hb⟩
  have HBb := hidA (blw_trans HBa.out hb)
  have HXb := hidA (HXa.out.later hb)
  have HYb := hidA (HYa.out.later hb)
  clear hb yz y0 y1 y2 y3 y4 y5 y6 y7 xz x0 x1 x2 x3 x4 x5 x6 x7 HXa HYa HBa
  obtain ⟨yz, y0, y1, y2, y3, y4, y5, y6, y7⟩ := HXb.out
  obtain ⟨xz, x0, x1, x2, x3, x4, x5, x6, x7⟩ := HYb.out
  go_wp2
  go_ret
  exact ⟨rfl, HBb.out⟩

end Go.Proofs.YtamhfnlogldpaaaGreat
