/-
  Walks: GateFill: the program.
-/
import Derived.Test.YthilfmlfmnoikaaWalkAIB
import Derived.Deep.DeepCutAuto
namespace Go.Proofs.Ythilfmlfmnoikaa
open Go.RowKit Go.Deep

/-- The values of an object, filled by the fields of a shape. -/
def fillVals (fs : List Fld) (o : Ob) : List ByteArray := if o.values.length = fs.length then fillTo o.values fs fs.length else o.values

set_option maxHeartbeats 4000000 in
theorem fillObjI (kd : ByteArray) (b : Nat) (fs : List Fld) (o : Ob) (b1 c1 b2 c2 : Nat) (w : World) (hfl : fs.length ≤ 1048576) (hb : b < w.heap.size) (hf : ∀ i, i < fs.length → OwnFld w b (i * 11) (fs.getD i Fld.none)) (ho : ObArg w b1 b2 o) :
    Calls Try.prog 24 #[.agg #[.string kd, .slice (some ⟨b, 0, none⟩) fs.length fs.length], .agg #[.string o.kind, .string o.name, .string o.team, .slice (some ⟨b1, 0, none⟩) o.values.length c1, .bool o.ending, .slice (some ⟨b2, 0, none⟩) o.holds.length c2, .int .i64 o.version]] w fun e w' => (∃ a1 n1 d1 a2 n2 d2 mid, e = .returned (.agg #[.string o.kind, .string o.name, .string o.team, .slice a1 n1 d1, .bool o.ending, .slice a2 n2 d2, .int .i64 o.version]) ∧ CT w' w.heap.size mid (.slice a1 n1 d1) (fillVals fs o) ∧ CT w' mid w'.heap.size (.slice a2 n2 d2) o.holds ∧ w.heap.size ≤ mid ∧ mid ≤ w'.heap.size) ∧ Below w.heap.size w w' := by
  have HA : Hid (ObArg w b1 b2 o) := ho
  have HFl : Hid (b < w.heap.size ∧ ∀ i, i < fs.length → OwnFld w b (i * 11) (fs.getD i Fld.none)) := ⟨hb, hf⟩
  have hl1 := ho.len1
  clear ho hb hf
  obtain ⟨w0, hw0⟩ : ∃ w0, w0 = ((w.alloc (.cells #[.string kd, .slice (some ⟨b, 0, none⟩) fs.length fs.length] 47)).alloc (.cells #[.string o.kind, .string o.name, .string o.team, .slice (some ⟨b1, 0, none⟩) o.values.length c1, .bool o.ending, .slice (some ⟨b2, 0, none⟩) o.holds.length c2, .int .i64 o.version] 28)).alloc (.cells #[.string ⟨#[]⟩, .string ⟨#[]⟩, .string ⟨#[]⟩, .slice none 0 0, .bool false, .slice none 0 0, .int .i64 0] 28) := ⟨_, rfl⟩
  have HB0 : Hid (Below w.heap.size w w0) := by show Below _ _ _; rw [hw0]; exact blw_alloc (blw_alloc (blw_alloc (Below.refl _ _) _) _) _
  have HR0 : Hid (OwnBlk w0 (w.heap.size + 2) 28 7) := by show OwnBlk _ _ _ _; rw [hw0]; exact OwnBlk.alloc_at _ _ _ _ _ rfl (by simp)
  have HZ0 : Hid (w0.heap.size = w.heap.size + 3) := by show _ = _; rw [hw0]; simp
  have HX0 : Hid (w0.cell? ⟨w.heap.size, 0, none⟩ = some (.string kd) ∧ w0.cell? ⟨w.heap.size, 1, none⟩ = some (.slice (some ⟨b, 0, none⟩) fs.length fs.length) ∧ w0.cell? ⟨w.heap.size + 1, 0, none⟩ = some (.string o.kind) ∧ w0.cell? ⟨w.heap.size + 1, 1, none⟩ = some (.string o.name) ∧ w0.cell? ⟨w.heap.size + 1, 2, none⟩ = some (.string o.team) ∧ w0.cell? ⟨w.heap.size + 1, 3, none⟩ = some (.slice (some ⟨b1, 0, none⟩) o.values.length c1) ∧ w0.cell? ⟨w.heap.size + 1, 4, none⟩ = some (.bool o.ending) ∧ w0.cell? ⟨w.heap.size + 1, 5, none⟩ = some (.slice (some ⟨b2, 0, none⟩) o.holds.length c2) ∧ w0.cell? ⟨w.heap.size + 1, 6, none⟩ = some (.int .i64 o.version)) := by
    show _ ∧ _ ∧ _ ∧ _ ∧ _ ∧ _ ∧ _ ∧ _ ∧ _
    rw [hw0]
    have p0 : ∀ j, (((w.alloc (.cells #[.string kd, .slice (some ⟨b, 0, none⟩) fs.length fs.length] 47)).alloc (.cells #[.string o.kind, .string o.name, .string o.team, .slice (some ⟨b1, 0, none⟩) o.values.length c1, .bool o.ending, .slice (some ⟨b2, 0, none⟩) o.holds.length c2, .int .i64 o.version] 28)).alloc (.cells #[.string ⟨#[]⟩, .string ⟨#[]⟩, .string ⟨#[]⟩, .slice none 0 0, .bool false, .slice none 0 0, .int .i64 0] 28)).cell? ⟨w.heap.size, j, none⟩ = (#[.string kd, .slice (some ⟨b, 0, none⟩) fs.length fs.length] : Array Value)[j]? := fun j => ((World.cell?_alloc_past _ _ _ (by simp; omega)).trans (World.cell?_alloc_past _ _ _ (by simp))).trans (World.cell?_alloc_at _ _ _ _ rfl)
    have p1 : ∀ j, (((w.alloc (.cells #[.string kd, .slice (some ⟨b, 0, none⟩) fs.length fs.length] 47)).alloc (.cells #[.string o.kind, .string o.name, .string o.team, .slice (some ⟨b1, 0, none⟩) o.values.length c1, .bool o.ending, .slice (some ⟨b2, 0, none⟩) o.holds.length c2, .int .i64 o.version] 28)).alloc (.cells #[.string ⟨#[]⟩, .string ⟨#[]⟩, .string ⟨#[]⟩, .slice none 0 0, .bool false, .slice none 0 0, .int .i64 0] 28)).cell? ⟨w.heap.size + 1, j, none⟩ = (#[.string o.kind, .string o.name, .string o.team, .slice (some ⟨b1, 0, none⟩) o.values.length c1, .bool o.ending, .slice (some ⟨b2, 0, none⟩) o.holds.length c2, .int .i64 o.version] : Array Value)[j]? := fun j => (World.cell?_alloc_past _ _ _ (by simp)).trans (World.cell?_alloc_at _ _ _ _ (by simp))
    exact ⟨p0 0, p0 1, p1 0, p1 1, p1 2, p1 3, p1 4, p1 5, p1 6⟩
  obtain ⟨s0, s1, x0, x1, x2, x3, x4, x5, x6⟩ := HX0.out
  have hz0 : w.heap.size < w0.heap.size := by have := HZ0.out; omega
  have hz1 : w.heap.size + 1 < w0.heap.size := by have := HZ0.out; omega
  go_enter Try.func24, Try.ntmps24
  go_upto_region 1 with fail
  rw [← hw0]
  clear hw0
  go_wp2_with fail
  refine (copyObj o b1 c1 b2 c2 w0 (HA.out.later HB0.out)).mono ?_
  rintro e w1 ⟨⟨a1, n1, d1, a2, n2, d2, mid, rfl, hct1, hct2, hm1, hm2⟩, hb1⟩
  have hs1 : w.heap.size + 3 ≤ w1.heap.size := by have := hb1.size; rw [HZ0.out] at this; exact this
  rw [HZ0.out] at hct1 hm1
  have HB1 : Hid (Below w.heap.size w w1) := blw_trans HB0.out hb1
  have HR1 : Hid (OwnBlk w1 (w.heap.size + 2) 28 7) := HR0.out.later hb1
  have k3 : w1.cell? ⟨w.heap.size + 1, 3, none⟩ = some (.slice (some ⟨b1, 0, none⟩) o.values.length c1) := (hb1.cell (p := ⟨w.heap.size + 1, 3, none⟩) hz1).trans x3
  have k1 : w1.cell? ⟨w.heap.size, 1, none⟩ = some (.slice (some ⟨b, 0, none⟩) fs.length fs.length) := (hb1.cell (p := ⟨w.heap.size, 1, none⟩) hz0).trans s1
  obtain ⟨w2, hw2⟩ : ∃ w2, w2 = w1.alloc (.cells #[.string o.kind, .string o.name, .string o.team, .slice a1 n1 d1, .bool o.ending, .slice a2 n2 d2, .int .i64 o.version] 28) := ⟨_, rfl⟩
  obtain ⟨X, hX⟩ : ∃ X, X = w1.heap.size := ⟨_, rfl⟩
  have hb2 : Below w1.heap.size w1 w2 := by rw [hw2]; exact blw_alloc (Below.refl _ _) _
  have HI : Hid (FInvB w w2 X mid o o.values (.slice a1 n1 d1) (.slice a2 n2 d2)) := by
    show FInvB _ _ _ _ _ _ _ _
    rw [hX]
    have q : ∀ j, w2.cell? ⟨w1.heap.size, j, none⟩ = (#[.string o.kind, .string o.name, .string o.team, .slice a1 n1 d1, .bool o.ending, .slice a2 n2 d2, .int .i64 o.version] : Array Value)[j]? := fun j => by rw [hw2]; exact World.cell?_alloc_at _ _ _ _ rfl
    exact ⟨blw_trans HB1.out hb2, HR1.out.later hb2, by rw [hw2]; simp, q 0, q 1, q 2, q 3, q 4, q 5, q 6, hct1.later hb2, hct2.later hb2, hm1, hm2⟩
  have HK2 : Hid (w2.cell? ⟨w.heap.size + 1, 3, none⟩ = some (.slice (some ⟨b1, 0, none⟩) o.values.length c1) ∧ w2.cell? ⟨w.heap.size, 1, none⟩ = some (.slice (some ⟨b, 0, none⟩) fs.length fs.length) ∧ w.heap.size + 1 < w2.heap.size ∧ w.heap.size < w2.heap.size) := ⟨(hb2.cell (p := ⟨w.heap.size + 1, 3, none⟩) (by show w.heap.size + 1 < w1.heap.size; omega)).trans k3, (hb2.cell (p := ⟨w.heap.size, 1, none⟩) (by show w.heap.size < w1.heap.size; omega)).trans k1, by have := hb2.size; omega, by have := hb2.size; omega⟩
  go_upto_region 2 with fail
  rw [← hw2, ← hX]
  clear hw2 hX hb1 hb2 hct1 hct2 hm1 hm2 hs1 k1 k3 s0 s1 x0 x1 x2 x3 x4 x5 x6 hz0 hz1 HX0 HZ0 HR0 HB0 HB1 HR1
  obtain ⟨k3, k1, kz1, kz0⟩ := HK2.out
  obtain ⟨_, hR, z1, x0, x1, x2, x3, x4, x5, x6, _, _, _, _⟩ := HI.out
  have hfz := hR.frozen
  have z2 := hR.lt
  obtain ⟨y0, hy0⟩ := hR.cell 0 (by omega)
  obtain ⟨y1, hy1⟩ := hR.cell 1 (by omega)
  obtain ⟨y2, hy2⟩ := hR.cell 2 (by omega)
  obtain ⟨y3, hy3⟩ := hR.cell 3 (by omega)
  obtain ⟨y4, hy4⟩ := hR.cell 4 (by omega)
  obtain ⟨y5, hy5⟩ := hR.cell 5 (by omega)
  obtain ⟨y6, hy6⟩ := hR.cell 6 (by omega)
  clear hR
  by_cases heq : o.values.length = fs.length
  case neg =>
    have HF : Hid (fillVals fs o = o.values) := by show fillVals fs o = o.values; unfold fillVals; rw [if_neg heq]
    have hne : (((o.values.length : Int)) != (fs.length : Int)) = true := by simp; omega
    go_wp2
    obtain ⟨r, _, t1, t2, t3, t4, t5⟩ := HI.out.out [.string o.kind, .string o.name, .string o.team, .slice a1 n1 d1, .bool o.ending, .slice a2 n2 d2, .int .i64 o.version] rfl
    have r0 : (((((((w2.setCell ⟨w.heap.size + 2, 0, none⟩ (.string o.kind)).setCell ⟨w.heap.size + 2, 1, none⟩ (.string o.name)).setCell ⟨w.heap.size + 2, 2, none⟩ (.string o.team)).setCell ⟨w.heap.size + 2, 3, none⟩ (.slice a1 n1 d1)).setCell ⟨w.heap.size + 2, 4, none⟩ (.bool o.ending)).setCell ⟨w.heap.size + 2, 5, none⟩ (.slice a2 n2 d2)).setCell ⟨w.heap.size + 2, 6, none⟩ (.int .i64 o.version)).cell? ⟨w.heap.size + 2, 0, none⟩ = some (.string o.kind) := r 0 (by omega)
    have r1 : (((((((w2.setCell ⟨w.heap.size + 2, 0, none⟩ (.string o.kind)).setCell ⟨w.heap.size + 2, 1, none⟩ (.string o.name)).setCell ⟨w.heap.size + 2, 2, none⟩ (.string o.team)).setCell ⟨w.heap.size + 2, 3, none⟩ (.slice a1 n1 d1)).setCell ⟨w.heap.size + 2, 4, none⟩ (.bool o.ending)).setCell ⟨w.heap.size + 2, 5, none⟩ (.slice a2 n2 d2)).setCell ⟨w.heap.size + 2, 6, none⟩ (.int .i64 o.version)).cell? ⟨w.heap.size + 2, 1, none⟩ = some (.string o.name) := r 1 (by omega)
    have r2 : (((((((w2.setCell ⟨w.heap.size + 2, 0, none⟩ (.string o.kind)).setCell ⟨w.heap.size + 2, 1, none⟩ (.string o.name)).setCell ⟨w.heap.size + 2, 2, none⟩ (.string o.team)).setCell ⟨w.heap.size + 2, 3, none⟩ (.slice a1 n1 d1)).setCell ⟨w.heap.size + 2, 4, none⟩ (.bool o.ending)).setCell ⟨w.heap.size + 2, 5, none⟩ (.slice a2 n2 d2)).setCell ⟨w.heap.size + 2, 6, none⟩ (.int .i64 o.version)).cell? ⟨w.heap.size + 2, 2, none⟩ = some (.string o.team) := r 2 (by omega)
    have r3 : (((((((w2.setCell ⟨w.heap.size + 2, 0, none⟩ (.string o.kind)).setCell ⟨w.heap.size + 2, 1, none⟩ (.string o.name)).setCell ⟨w.heap.size + 2, 2, none⟩ (.string o.team)).setCell ⟨w.heap.size + 2, 3, none⟩ (.slice a1 n1 d1)).setCell ⟨w.heap.size + 2, 4, none⟩ (.bool o.ending)).setCell ⟨w.heap.size + 2, 5, none⟩ (.slice a2 n2 d2)).setCell ⟨w.heap.size + 2, 6, none⟩ (.int .i64 o.version)).cell? ⟨w.heap.size + 2, 3, none⟩ = some (.slice a1 n1 d1) := r 3 (by omega)
    have r4 : (((((((w2.setCell ⟨w.heap.size + 2, 0, none⟩ (.string o.kind)).setCell ⟨w.heap.size + 2, 1, none⟩ (.string o.name)).setCell ⟨w.heap.size + 2, 2, none⟩ (.string o.team)).setCell ⟨w.heap.size + 2, 3, none⟩ (.slice a1 n1 d1)).setCell ⟨w.heap.size + 2, 4, none⟩ (.bool o.ending)).setCell ⟨w.heap.size + 2, 5, none⟩ (.slice a2 n2 d2)).setCell ⟨w.heap.size + 2, 6, none⟩ (.int .i64 o.version)).cell? ⟨w.heap.size + 2, 4, none⟩ = some (.bool o.ending) := r 4 (by omega)
    have r5 : (((((((w2.setCell ⟨w.heap.size + 2, 0, none⟩ (.string o.kind)).setCell ⟨w.heap.size + 2, 1, none⟩ (.string o.name)).setCell ⟨w.heap.size + 2, 2, none⟩ (.string o.team)).setCell ⟨w.heap.size + 2, 3, none⟩ (.slice a1 n1 d1)).setCell ⟨w.heap.size + 2, 4, none⟩ (.bool o.ending)).setCell ⟨w.heap.size + 2, 5, none⟩ (.slice a2 n2 d2)).setCell ⟨w.heap.size + 2, 6, none⟩ (.int .i64 o.version)).cell? ⟨w.heap.size + 2, 5, none⟩ = some (.slice a2 n2 d2) := r 5 (by omega)
    have r6 : (((((((w2.setCell ⟨w.heap.size + 2, 0, none⟩ (.string o.kind)).setCell ⟨w.heap.size + 2, 1, none⟩ (.string o.name)).setCell ⟨w.heap.size + 2, 2, none⟩ (.string o.team)).setCell ⟨w.heap.size + 2, 3, none⟩ (.slice a1 n1 d1)).setCell ⟨w.heap.size + 2, 4, none⟩ (.bool o.ending)).setCell ⟨w.heap.size + 2, 5, none⟩ (.slice a2 n2 d2)).setCell ⟨w.heap.size + 2, 6, none⟩ (.int .i64 o.version)).cell? ⟨w.heap.size + 2, 6, none⟩ = some (.int .i64 o.version) := r 6 (by omega)
    refine bodyPost_ret (v := .agg #[.string o.kind, .string o.name, .string o.team, .slice a1 n1 d1, .bool o.ending, .slice a2 n2 d2, .int .i64 o.version]) (by simp only [results, Try.results24]; simp [go_sem, r0, r1, r2, r3, r4, r5, r6]) rfl ⟨⟨_, _, _, _, _, _, mid, rfl, ?_, t2, t3, t4⟩, t5⟩
    rw [HF.out]; exact t1
  have hne : (((o.values.length : Int)) != (fs.length : Int)) = false := by simp; omega
  have HF : Hid (fillVals fs o = fillTo o.values fs fs.length) := by show fillVals fs o = _; unfold fillVals; rw [if_pos heq]
  rcases HI.out.c1 with ⟨e1, e2⟩ | ⟨g, cap, e1, _, _, _, _, _⟩
  · injection e1 with e1 e3 e4
    subst e1 e3 e4
    have hfs0 : fs.length = 0 := by rw [← heq, e2]; rfl
    have HF' : Hid (fillVals fs o = o.values) := by show fillVals fs o = o.values; rw [HF.out, hfs0]; exact fillTo_zero _ _
    clear HF
    have HF := HF'
    clear HF' HFl
    go_wp2
    refine wp_loop_rounds 1 ?_
    rw [rounds_succ]
    go_wp2
    obtain ⟨r, _, t1, t2, t3, t4, t5⟩ := HI.out.out [.string o.kind, .string o.name, .string o.team, .slice none 0 0, .bool o.ending, .slice a2 n2 d2, .int .i64 o.version] rfl
    have r0 : (((((((w2.setCell ⟨w.heap.size + 2, 0, none⟩ (.string o.kind)).setCell ⟨w.heap.size + 2, 1, none⟩ (.string o.name)).setCell ⟨w.heap.size + 2, 2, none⟩ (.string o.team)).setCell ⟨w.heap.size + 2, 3, none⟩ (.slice none 0 0)).setCell ⟨w.heap.size + 2, 4, none⟩ (.bool o.ending)).setCell ⟨w.heap.size + 2, 5, none⟩ (.slice a2 n2 d2)).setCell ⟨w.heap.size + 2, 6, none⟩ (.int .i64 o.version)).cell? ⟨w.heap.size + 2, 0, none⟩ = some (.string o.kind) := r 0 (by omega)
    have r1 : (((((((w2.setCell ⟨w.heap.size + 2, 0, none⟩ (.string o.kind)).setCell ⟨w.heap.size + 2, 1, none⟩ (.string o.name)).setCell ⟨w.heap.size + 2, 2, none⟩ (.string o.team)).setCell ⟨w.heap.size + 2, 3, none⟩ (.slice none 0 0)).setCell ⟨w.heap.size + 2, 4, none⟩ (.bool o.ending)).setCell ⟨w.heap.size + 2, 5, none⟩ (.slice a2 n2 d2)).setCell ⟨w.heap.size + 2, 6, none⟩ (.int .i64 o.version)).cell? ⟨w.heap.size + 2, 1, none⟩ = some (.string o.name) := r 1 (by omega)
    have r2 : (((((((w2.setCell ⟨w.heap.size + 2, 0, none⟩ (.string o.kind)).setCell ⟨w.heap.size + 2, 1, none⟩ (.string o.name)).setCell ⟨w.heap.size + 2, 2, none⟩ (.string o.team)).setCell ⟨w.heap.size + 2, 3, none⟩ (.slice none 0 0)).setCell ⟨w.heap.size + 2, 4, none⟩ (.bool o.ending)).setCell ⟨w.heap.size + 2, 5, none⟩ (.slice a2 n2 d2)).setCell ⟨w.heap.size + 2, 6, none⟩ (.int .i64 o.version)).cell? ⟨w.heap.size + 2, 2, none⟩ = some (.string o.team) := r 2 (by omega)
    have r3 : (((((((w2.setCell ⟨w.heap.size + 2, 0, none⟩ (.string o.kind)).setCell ⟨w.heap.size + 2, 1, none⟩ (.string o.name)).setCell ⟨w.heap.size + 2, 2, none⟩ (.string o.team)).setCell ⟨w.heap.size + 2, 3, none⟩ (.slice none 0 0)).setCell ⟨w.heap.size + 2, 4, none⟩ (.bool o.ending)).setCell ⟨w.heap.size + 2, 5, none⟩ (.slice a2 n2 d2)).setCell ⟨w.heap.size + 2, 6, none⟩ (.int .i64 o.version)).cell? ⟨w.heap.size + 2, 3, none⟩ = some (.slice none 0 0) := r 3 (by omega)
    have r4 : (((((((w2.setCell ⟨w.heap.size + 2, 0, none⟩ (.string o.kind)).setCell ⟨w.heap.size + 2, 1, none⟩ (.string o.name)).setCell ⟨w.heap.size + 2, 2, none⟩ (.string o.team)).setCell ⟨w.heap.size + 2, 3, none⟩ (.slice none 0 0)).setCell ⟨w.heap.size + 2, 4, none⟩ (.bool o.ending)).setCell ⟨w.heap.size + 2, 5, none⟩ (.slice a2 n2 d2)).setCell ⟨w.heap.size + 2, 6, none⟩ (.int .i64 o.version)).cell? ⟨w.heap.size + 2, 4, none⟩ = some (.bool o.ending) := r 4 (by omega)
    have r5 : (((((((w2.setCell ⟨w.heap.size + 2, 0, none⟩ (.string o.kind)).setCell ⟨w.heap.size + 2, 1, none⟩ (.string o.name)).setCell ⟨w.heap.size + 2, 2, none⟩ (.string o.team)).setCell ⟨w.heap.size + 2, 3, none⟩ (.slice none 0 0)).setCell ⟨w.heap.size + 2, 4, none⟩ (.bool o.ending)).setCell ⟨w.heap.size + 2, 5, none⟩ (.slice a2 n2 d2)).setCell ⟨w.heap.size + 2, 6, none⟩ (.int .i64 o.version)).cell? ⟨w.heap.size + 2, 5, none⟩ = some (.slice a2 n2 d2) := r 5 (by omega)
    have r6 : (((((((w2.setCell ⟨w.heap.size + 2, 0, none⟩ (.string o.kind)).setCell ⟨w.heap.size + 2, 1, none⟩ (.string o.name)).setCell ⟨w.heap.size + 2, 2, none⟩ (.string o.team)).setCell ⟨w.heap.size + 2, 3, none⟩ (.slice none 0 0)).setCell ⟨w.heap.size + 2, 4, none⟩ (.bool o.ending)).setCell ⟨w.heap.size + 2, 5, none⟩ (.slice a2 n2 d2)).setCell ⟨w.heap.size + 2, 6, none⟩ (.int .i64 o.version)).cell? ⟨w.heap.size + 2, 6, none⟩ = some (.int .i64 o.version) := r 6 (by omega)
    refine bodyPost_ret (v := .agg #[.string o.kind, .string o.name, .string o.team, .slice none 0 0, .bool o.ending, .slice a2 n2 d2, .int .i64 o.version]) (by simp only [results, Try.results24]; simp [go_sem, r0, r1, r2, r3, r4, r5, r6]) rfl ⟨⟨_, _, _, _, _, _, mid, rfl, ?_, t2, t3, t4⟩, t5⟩
    rw [HF.out]; exact t1
  · injection e1 with e1 e3 e4
    subst e1 e3 e4
    have HI0 : Hid (FInvB w w2 X mid o (fillTo o.values fs 0) (.slice (some ⟨g, 0, none⟩) o.values.length d1) (.slice a2 n2 d2)) := by
      show FInvB _ _ _ _ _ _ _ _
      rw [fillTo_zero]; exact HI.out
    clear HI
    go_wp2
    clear x0 x1 x2 x3 x4 x5 x6 hfz hy0 hy1 hy2 hy3 hy4 hy5 hy6 k3 k1
    go_loopw [21] (fun i wr => ∃ q : Nat, q ≤ fs.length ∧ i = .int .i64 q ∧ FInvB w wr X mid o (fillTo o.values fs q) (.slice (some ⟨g, 0, none⟩) o.values.length d1) (.slice a2 n2 d2)) (fun i _ => fs.length - (intOf i).toNat)
    case atStart => exact ⟨0, Nat.zero_le _, rfl, HI0.out⟩
    case round =>
      obtain ⟨q, hq, rfl, hI⟩ := hrel
      have HI : Hid (FInvB w wr X mid o (fillTo o.values fs q) (.slice (some ⟨g, 0, none⟩) o.values.length d1) (.slice a2 n2 d2)) := hI
      have z1 := hI.lt
      have x0 := hI.x0
      have x1 := hI.x1
      have x2 := hI.x2
      have x3 := hI.x3
      have x4 := hI.x4
      have x5 := hI.x5
      have x6 := hI.x6
      clear hI
      by_cases hlt : q < fs.length
      · obtain ⟨f, hf⟩ : ∃ f, f = fs.getD q Fld.none := ⟨_, rfl⟩
        obtain ⟨bw, _, _, hfi⟩ := HFl.out.2 q hlt
        rw [← hf] at hfi
        have c := fun j => HI.out.bel.cell (p := ⟨b, j, none⟩) HFl.out.1
        have f0 := (c _).trans hfi.c0
        have f1 := (c _).trans hfi.c1
        have f2 := (c _).trans hfi.c2
        have f3 := (c _).trans hfi.c3
        have f4 := (c _).trans hfi.c4
        have f5 := (c _).trans hfi.c5
        have f6 := (c _).trans hfi.c6
        have f7 := (c _).trans hfi.c7
        have f8 := (c _).trans hfi.c8
        have f9 := (c _).trans hfi.c9
        have f10 := (c _).trans hfi.c10
        obtain ⟨g1, g2, g3, g4, g5, g6⟩ := HI.out.c1.row
        have hqv : q < o.values.length := by omega
        have u0 := g6 q (by rw [fillTo_len]; exact hqv)
        rw [fillTo_now _ _ _ hqv] at u0
        have hgz := g3.frozen
        have hgl := g3.lt
        obtain ⟨u, hu⟩ : ∃ u, u = o.values.getD q ByteArray.empty := ⟨_, rfl⟩
        rw [← hu] at u0
        have HU : Hid (u = o.values.getD q ByteArray.empty ∧ f = fs.getD q Fld.none) := ⟨hu, hf⟩
        clear hfi c hf hu g6 g5 g4 g3
        cases hem : u.toList.isEmpty
        · have HN : Hid (FInvB w wr X mid o (fillTo o.values fs (q + 1)) (.slice (some ⟨g, 0, none⟩) o.values.length d1) (.slice a2 n2 d2)) := HI.out.keep hqv (by rw [← HU.out.1]; exact hem)
          clear HI
          go_wp2
          go_roundw
          case rel => exact ⟨q + 1, by omega, by go_num, HN.out.later (blw_alloc (Below.refl _ _) _)⟩
          case measure => simp [intOf]; omega
        · have HN : Hid (FInvB w (wr.setCell ⟨g, q, none⟩ (.string f.de)) X mid o (fillTo o.values fs (q + 1)) (.slice (some ⟨g, 0, none⟩) o.values.length d1) (.slice a2 n2 d2)) := by
            show FInvB _ _ _ _ _ _ _ _
            rw [HU.out.2]; exact HI.out.put hqv (by rw [← HU.out.1]; exact hem)
          clear HI
          go_wp2
          go_roundw
          case rel => exact ⟨q + 1, by omega, by go_num, HN.out.later (blw_alloc (Below.refl _ _) _)⟩
          case measure => simp [intOf]; omega
      · obtain rfl : q = fs.length := by omega
        have hR := HI.out.own
        have hfz := hR.frozen
        have z2 := hR.lt
        obtain ⟨y0, hy0⟩ := hR.cell 0 (by omega)
        obtain ⟨y1, hy1⟩ := hR.cell 1 (by omega)
        obtain ⟨y2, hy2⟩ := hR.cell 2 (by omega)
        obtain ⟨y3, hy3⟩ := hR.cell 3 (by omega)
        obtain ⟨y4, hy4⟩ := hR.cell 4 (by omega)
        obtain ⟨y5, hy5⟩ := hR.cell 5 (by omega)
        obtain ⟨y6, hy6⟩ := hR.cell 6 (by omega)
        clear hR
        have HI' : Hid (FInvB w wr X mid o (fillTo o.values fs fs.length) (.slice (some ⟨g, 0, none⟩) fs.length d1) (.slice a2 n2 d2)) := by have := HI.out; rw [heq] at this; exact this
        clear HI
        have HI := HI'
        clear HI'
        go_wp2
        obtain ⟨r, _, t1, t2, t3, t4, t5⟩ := HI.out.out [.string o.kind, .string o.name, .string o.team, .slice (some ⟨g, 0, none⟩) fs.length d1, .bool o.ending, .slice a2 n2 d2, .int .i64 o.version] rfl
        have r0 : (((((((wr.setCell ⟨w.heap.size + 2, 0, none⟩ (.string o.kind)).setCell ⟨w.heap.size + 2, 1, none⟩ (.string o.name)).setCell ⟨w.heap.size + 2, 2, none⟩ (.string o.team)).setCell ⟨w.heap.size + 2, 3, none⟩ (.slice (some ⟨g, 0, none⟩) fs.length d1)).setCell ⟨w.heap.size + 2, 4, none⟩ (.bool o.ending)).setCell ⟨w.heap.size + 2, 5, none⟩ (.slice a2 n2 d2)).setCell ⟨w.heap.size + 2, 6, none⟩ (.int .i64 o.version)).cell? ⟨w.heap.size + 2, 0, none⟩ = some (.string o.kind) := r 0 (by omega)
        have r1 : (((((((wr.setCell ⟨w.heap.size + 2, 0, none⟩ (.string o.kind)).setCell ⟨w.heap.size + 2, 1, none⟩ (.string o.name)).setCell ⟨w.heap.size + 2, 2, none⟩ (.string o.team)).setCell ⟨w.heap.size + 2, 3, none⟩ (.slice (some ⟨g, 0, none⟩) fs.length d1)).setCell ⟨w.heap.size + 2, 4, none⟩ (.bool o.ending)).setCell ⟨w.heap.size + 2, 5, none⟩ (.slice a2 n2 d2)).setCell ⟨w.heap.size + 2, 6, none⟩ (.int .i64 o.version)).cell? ⟨w.heap.size + 2, 1, none⟩ = some (.string o.name) := r 1 (by omega)
        have r2 : (((((((wr.setCell ⟨w.heap.size + 2, 0, none⟩ (.string o.kind)).setCell ⟨w.heap.size + 2, 1, none⟩ (.string o.name)).setCell ⟨w.heap.size + 2, 2, none⟩ (.string o.team)).setCell ⟨w.heap.size + 2, 3, none⟩ (.slice (some ⟨g, 0, none⟩) fs.length d1)).setCell ⟨w.heap.size + 2, 4, none⟩ (.bool o.ending)).setCell ⟨w.heap.size + 2, 5, none⟩ (.slice a2 n2 d2)).setCell ⟨w.heap.size + 2, 6, none⟩ (.int .i64 o.version)).cell? ⟨w.heap.size + 2, 2, none⟩ = some (.string o.team) := r 2 (by omega)
        have r3 : (((((((wr.setCell ⟨w.heap.size + 2, 0, none⟩ (.string o.kind)).setCell ⟨w.heap.size + 2, 1, none⟩ (.string o.name)).setCell ⟨w.heap.size + 2, 2, none⟩ (.string o.team)).setCell ⟨w.heap.size + 2, 3, none⟩ (.slice (some ⟨g, 0, none⟩) fs.length d1)).setCell ⟨w.heap.size + 2, 4, none⟩ (.bool o.ending)).setCell ⟨w.heap.size + 2, 5, none⟩ (.slice a2 n2 d2)).setCell ⟨w.heap.size + 2, 6, none⟩ (.int .i64 o.version)).cell? ⟨w.heap.size + 2, 3, none⟩ = some (.slice (some ⟨g, 0, none⟩) fs.length d1) := r 3 (by omega)
        have r4 : (((((((wr.setCell ⟨w.heap.size + 2, 0, none⟩ (.string o.kind)).setCell ⟨w.heap.size + 2, 1, none⟩ (.string o.name)).setCell ⟨w.heap.size + 2, 2, none⟩ (.string o.team)).setCell ⟨w.heap.size + 2, 3, none⟩ (.slice (some ⟨g, 0, none⟩) fs.length d1)).setCell ⟨w.heap.size + 2, 4, none⟩ (.bool o.ending)).setCell ⟨w.heap.size + 2, 5, none⟩ (.slice a2 n2 d2)).setCell ⟨w.heap.size + 2, 6, none⟩ (.int .i64 o.version)).cell? ⟨w.heap.size + 2, 4, none⟩ = some (.bool o.ending) := r 4 (by omega)
        have r5 : (((((((wr.setCell ⟨w.heap.size + 2, 0, none⟩ (.string o.kind)).setCell ⟨w.heap.size + 2, 1, none⟩ (.string o.name)).setCell ⟨w.heap.size + 2, 2, none⟩ (.string o.team)).setCell ⟨w.heap.size + 2, 3, none⟩ (.slice (some ⟨g, 0, none⟩) fs.length d1)).setCell ⟨w.heap.size + 2, 4, none⟩ (.bool o.ending)).setCell ⟨w.heap.size + 2, 5, none⟩ (.slice a2 n2 d2)).setCell ⟨w.heap.size + 2, 6, none⟩ (.int .i64 o.version)).cell? ⟨w.heap.size + 2, 5, none⟩ = some (.slice a2 n2 d2) := r 5 (by omega)
        have r6 : (((((((wr.setCell ⟨w.heap.size + 2, 0, none⟩ (.string o.kind)).setCell ⟨w.heap.size + 2, 1, none⟩ (.string o.name)).setCell ⟨w.heap.size + 2, 2, none⟩ (.string o.team)).setCell ⟨w.heap.size + 2, 3, none⟩ (.slice (some ⟨g, 0, none⟩) fs.length d1)).setCell ⟨w.heap.size + 2, 4, none⟩ (.bool o.ending)).setCell ⟨w.heap.size + 2, 5, none⟩ (.slice a2 n2 d2)).setCell ⟨w.heap.size + 2, 6, none⟩ (.int .i64 o.version)).cell? ⟨w.heap.size + 2, 6, none⟩ = some (.int .i64 o.version) := r 6 (by omega)
        refine bodyPost_ret (v := .agg #[.string o.kind, .string o.name, .string o.team, .slice (some ⟨g, 0, none⟩) fs.length d1, .bool o.ending, .slice a2 n2 d2, .int .i64 o.version]) (by simp only [results, Try.results24]; simp [go_sem, r0, r1, r2, r3, r4, r5, r6]) rfl ⟨⟨_, _, _, _, _, _, mid, rfl, ?_, t2, t3, t4⟩, t5⟩
        rw [HF.out]; exact t1

set_option maxHeartbeats 4000000 in
theorem fillI (B : Nat) (ss : List Shp) (o : Ob) (b1 c1 b2 c2 : Nat) (w : World) (h : ShpsIn w B ss) (ho : ObArg w b1 b2 o) :
    Calls Try.prog 9 #[.slice (some ⟨B, 0, none⟩) ss.length ss.length, .agg #[.string o.kind, .string o.name, .string o.team, .slice (some ⟨b1, 0, none⟩) o.values.length c1, .bool o.ending, .slice (some ⟨b2, 0, none⟩) o.holds.length c2, .int .i64 o.version]] w fun e w' => (∃ a1 n1 d1 a2 n2 d2 mid, e = .returned (.agg #[.string o.kind, .string o.name, .string o.team, .slice a1 n1 d1, .bool o.ending, .slice a2 n2 d2, .int .i64 o.version]) ∧ CT w' w.heap.size mid (.slice a1 n1 d1) (fillOb ss o).values ∧ CT w' mid w'.heap.size (.slice a2 n2 d2) o.holds ∧ w.heap.size ≤ mid ∧ mid ≤ w'.heap.size) ∧ Below w.heap.size w w' := by
  have HA : Hid (ShpsIn w B ss ∧ ObArg w b1 b2 o) := ⟨h, ho⟩
  have hl := h.len
  have hl1 := ho.len1
  clear h ho
  obtain ⟨w0, hw0⟩ : ∃ w0, w0 = (w.alloc (.cells #[.string o.kind, .string o.name, .string o.team, .slice (some ⟨b1, 0, none⟩) o.values.length c1, .bool o.ending, .slice (some ⟨b2, 0, none⟩) o.holds.length c2, .int .i64 o.version] 28)).alloc (.cells #[.string ⟨#[]⟩, .string ⟨#[]⟩, .string ⟨#[]⟩, .slice none 0 0, .bool false, .slice none 0 0, .int .i64 0] 28) := ⟨_, rfl⟩
  have HB0 : Hid (Below w.heap.size w w0) := by show Below _ _ _; rw [hw0]; exact blw_alloc (blw_alloc (Below.refl _ _) _) _
  have HR0 : Hid (OwnBlk w0 (w.heap.size + 1) 28 7) := by show OwnBlk _ _ _ _; rw [hw0]; exact OwnBlk.alloc_at _ _ _ _ _ rfl (by simp)
  have HZ0 : Hid (w0.heap.size = w.heap.size + 2) := by show _ = _; rw [hw0]; simp
  have HX0 : Hid (∀ W, Below w0.heap.size w0 W → w.heap.size < W.heap.size ∧ ∀ j, W.cell? ⟨w.heap.size, j, none⟩ = (#[.string o.kind, .string o.name, .string o.team, .slice (some ⟨b1, 0, none⟩) o.values.length c1, .bool o.ending, .slice (some ⟨b2, 0, none⟩) o.holds.length c2, .int .i64 o.version] : Array Value)[j]?) := by
    intro W hW
    have q : w.heap.size < w0.heap.size := by have := HZ0.out; omega
    refine ⟨Nat.lt_of_lt_of_le q hW.size, fun j => (hW.cell (p := ⟨w.heap.size, j, none⟩) q).trans ?_⟩
    rw [hw0]
    exact (World.cell?_alloc_past _ _ _ (by simp)).trans (World.cell?_alloc_at _ _ _ _ rfl)
  obtain ⟨xz, xs⟩ := HX0.out w0 (Below.refl _ _)
  have x0 : w0.cell? ⟨w.heap.size, 0, none⟩ = some (.string o.kind) := xs 0
  clear xs
  go_enter Try.func9, Try.ntmps9
  go_upto_region 1 with fail
  rw [← hw0]
  clear hw0
  go_wp2_with fail
  refine (okShapeOf w B ss o.kind w0 HA.out.1 HB0.out).mono ?_
  rintro e w1 ⟨kd, a, n, c, rfl, hso, hb1⟩
  obtain ⟨R, hR⟩ : ∃ R, R = (shapesOk ss && hasKind ss o.kind) := ⟨_, rfl⟩
  rw [← hR] at hso ⊢
  have HSO : Hid (R = true → ShapeOf ss o.kind w kd (.slice a n c)) := hso
  have HRR : Hid (R = (shapesOk ss && hasKind ss o.kind)) := hR
  clear hR hso
  obtain ⟨w2, hw2⟩ : ∃ w2, w2 = w1.alloc (.cells #[.string kd, .slice a n c] 47) := ⟨_, rfl⟩
  obtain ⟨S, hS⟩ : ∃ S, S = w1.heap.size := ⟨_, rfl⟩
  have hb2 : Below w1.heap.size w1 w2 := by rw [hw2]; exact blw_alloc (Below.refl _ _) _
  have HK2 : Hid (Below w0.heap.size w0 w2 ∧ S < w2.heap.size ∧ w2.cell? ⟨S, 0, none⟩ = some (.string kd) ∧ w2.cell? ⟨S, 1, none⟩ = some (.slice a n c)) := by
    refine ⟨blw_trans hb1 hb2, ?_, ?_, ?_⟩ <;> rw [hw2, hS] <;> simp
  go_upto_region 2 with fail
  rw [← hw2, ← hS]
  clear hw2 hS hb1 hb2 x0 xz
  obtain ⟨xz, xs⟩ := HX0.out w2 HK2.out.1
  have x0 : w2.cell? ⟨w.heap.size, 0, none⟩ = some (.string o.kind) := xs 0
  have x1 : w2.cell? ⟨w.heap.size, 1, none⟩ = some (.string o.name) := xs 1
  have x2 : w2.cell? ⟨w.heap.size, 2, none⟩ = some (.string o.team) := xs 2
  have x3 : w2.cell? ⟨w.heap.size, 3, none⟩ = some (.slice (some ⟨b1, 0, none⟩) o.values.length c1) := xs 3
  have x4 : w2.cell? ⟨w.heap.size, 4, none⟩ = some (.bool o.ending) := xs 4
  have x5 : w2.cell? ⟨w.heap.size, 5, none⟩ = some (.slice (some ⟨b2, 0, none⟩) o.holds.length c2) := xs 5
  have x6 : w2.cell? ⟨w.heap.size, 6, none⟩ = some (.int .i64 o.version) := xs 6
  clear xs
  have HB2 : Hid (Below w.heap.size w w2) := blw_trans HB0.out HK2.out.1
  have HLO : Hid (w.heap.size + 2 ≤ w2.heap.size) := by have := HK2.out.1.size; rw [HZ0.out] at this; exact this
  have HR2 : Hid (OwnBlk w2 (w.heap.size + 1) 28 7) := HR0.out.later HK2.out.1
  have HEND : Hid (∀ (W : World) (a1 : Option Addr) (n1 d1 : Nat) (a2 : Option Addr) (n2 d2 mid : Nat) (vals : List ByteArray), Below w2.heap.size w2 W → CT W w2.heap.size mid (.slice a1 n1 d1) vals → CT W mid W.heap.size (.slice a2 n2 d2) o.holds → w2.heap.size ≤ mid → mid ≤ W.heap.size →
      OwnBlk W (w.heap.size + 1) 28 7 ∧ (∀ j, j < 7 → (puts W (w.heap.size + 1) 0 0 [.string o.kind, .string o.name, .string o.team, .slice a1 n1 d1, .bool o.ending, .slice a2 n2 d2, .int .i64 o.version]).cell? ⟨w.heap.size + 1, 0 + (0 + j), none⟩ = [.string o.kind, .string o.name, .string o.team, .slice a1 n1 d1, .bool o.ending, .slice a2 n2 d2, .int .i64 o.version][j]?) ∧ CT (puts W (w.heap.size + 1) 0 0 [.string o.kind, .string o.name, .string o.team, .slice a1 n1 d1, .bool o.ending, .slice a2 n2 d2, .int .i64 o.version]) w.heap.size mid (.slice a1 n1 d1) vals ∧ CT (puts W (w.heap.size + 1) 0 0 [.string o.kind, .string o.name, .string o.team, .slice a1 n1 d1, .bool o.ending, .slice a2 n2 d2, .int .i64 o.version]) mid (puts W (w.heap.size + 1) 0 0 [.string o.kind, .string o.name, .string o.team, .slice a1 n1 d1, .bool o.ending, .slice a2 n2 d2, .int .i64 o.version]).heap.size (.slice a2 n2 d2) o.holds ∧ w.heap.size ≤ mid ∧ mid ≤ (puts W (w.heap.size + 1) 0 0 [.string o.kind, .string o.name, .string o.team, .slice a1 n1 d1, .bool o.ending, .slice a2 n2 d2, .int .i64 o.version]).heap.size ∧ Below w.heap.size w (puts W (w.heap.size + 1) 0 0 [.string o.kind, .string o.name, .string o.team, .slice a1 n1 d1, .bool o.ending, .slice a2 n2 d2, .int .i64 o.version])) := by
    intro W a1 n1 d1 a2 n2 d2 mid vals hW q1 q2 q3 q4
    have l := HLO.out
    have hO := HR2.out.later hW
    refine ⟨hO, fun j hj => puts_at 0 _ W 0 hO (by simp) j (by simpa using hj), (CT.puts 0 (Or.inl (by omega)) _ W 0 q1).mono (by omega) (Nat.le_refl _), ?_, by omega, by rw [puts_size]; exact q4, puts_below (a := w) 0 (B := w.heap.size + 1) (by omega) _ W 0 (blw_trans HB2.out hW)⟩
    rw [puts_size]
    exact CT.puts 0 (Or.inl (by omega)) _ W 0 q2
  cases R
  · have HF : Hid ((fillOb ss o).values = o.values) := by show (fillOb ss o).values = o.values; unfold fillOb; rw [← HRR.out]; simp
    go_wp2_with fail
    refine (copyObj o b1 c1 b2 c2 w2 (HA.out.2.later HB2.out)).mono ?_
    rintro e w3 ⟨⟨a1, n1, d1, a2, n2, d2, mid, rfl, hct1, hct2, hm1, hm2⟩, hb3⟩
    obtain ⟨hO, r, t1, t2, t3, t4, t5⟩ := HEND.out w3 a1 n1 d1 a2 n2 d2 mid _ hb3 hct1 hct2 hm1 hm2
    clear hb3 hct1 hct2 hm1 hm2 x0 x1 x2 x3 x4 x5 x6 xz
    have hfz := hO.frozen
    have z2 := hO.lt
    obtain ⟨y0, hy0⟩ := hO.cell 0 (by omega)
    obtain ⟨y1, hy1⟩ := hO.cell 1 (by omega)
    obtain ⟨y2, hy2⟩ := hO.cell 2 (by omega)
    obtain ⟨y3, hy3⟩ := hO.cell 3 (by omega)
    obtain ⟨y4, hy4⟩ := hO.cell 4 (by omega)
    obtain ⟨y5, hy5⟩ := hO.cell 5 (by omega)
    obtain ⟨y6, hy6⟩ := hO.cell 6 (by omega)
    have HT : Hid (CT (puts w3 (w.heap.size + 1) 0 0 [.string o.kind, .string o.name, .string o.team, .slice a1 n1 d1, .bool o.ending, .slice a2 n2 d2, .int .i64 o.version]) w.heap.size mid (.slice a1 n1 d1) o.values) := t1
    clear hO t1
    go_wp2
    have r0 : (((((((w3.setCell ⟨w.heap.size + 1, 0, none⟩ (.string o.kind)).setCell ⟨w.heap.size + 1, 1, none⟩ (.string o.name)).setCell ⟨w.heap.size + 1, 2, none⟩ (.string o.team)).setCell ⟨w.heap.size + 1, 3, none⟩ (.slice a1 n1 d1)).setCell ⟨w.heap.size + 1, 4, none⟩ (.bool o.ending)).setCell ⟨w.heap.size + 1, 5, none⟩ (.slice a2 n2 d2)).setCell ⟨w.heap.size + 1, 6, none⟩ (.int .i64 o.version)).cell? ⟨w.heap.size + 1, 0, none⟩ = some (.string o.kind) := r 0 (by omega)
    have r1 : (((((((w3.setCell ⟨w.heap.size + 1, 0, none⟩ (.string o.kind)).setCell ⟨w.heap.size + 1, 1, none⟩ (.string o.name)).setCell ⟨w.heap.size + 1, 2, none⟩ (.string o.team)).setCell ⟨w.heap.size + 1, 3, none⟩ (.slice a1 n1 d1)).setCell ⟨w.heap.size + 1, 4, none⟩ (.bool o.ending)).setCell ⟨w.heap.size + 1, 5, none⟩ (.slice a2 n2 d2)).setCell ⟨w.heap.size + 1, 6, none⟩ (.int .i64 o.version)).cell? ⟨w.heap.size + 1, 1, none⟩ = some (.string o.name) := r 1 (by omega)
    have r2 : (((((((w3.setCell ⟨w.heap.size + 1, 0, none⟩ (.string o.kind)).setCell ⟨w.heap.size + 1, 1, none⟩ (.string o.name)).setCell ⟨w.heap.size + 1, 2, none⟩ (.string o.team)).setCell ⟨w.heap.size + 1, 3, none⟩ (.slice a1 n1 d1)).setCell ⟨w.heap.size + 1, 4, none⟩ (.bool o.ending)).setCell ⟨w.heap.size + 1, 5, none⟩ (.slice a2 n2 d2)).setCell ⟨w.heap.size + 1, 6, none⟩ (.int .i64 o.version)).cell? ⟨w.heap.size + 1, 2, none⟩ = some (.string o.team) := r 2 (by omega)
    have r3 : (((((((w3.setCell ⟨w.heap.size + 1, 0, none⟩ (.string o.kind)).setCell ⟨w.heap.size + 1, 1, none⟩ (.string o.name)).setCell ⟨w.heap.size + 1, 2, none⟩ (.string o.team)).setCell ⟨w.heap.size + 1, 3, none⟩ (.slice a1 n1 d1)).setCell ⟨w.heap.size + 1, 4, none⟩ (.bool o.ending)).setCell ⟨w.heap.size + 1, 5, none⟩ (.slice a2 n2 d2)).setCell ⟨w.heap.size + 1, 6, none⟩ (.int .i64 o.version)).cell? ⟨w.heap.size + 1, 3, none⟩ = some (.slice a1 n1 d1) := r 3 (by omega)
    have r4 : (((((((w3.setCell ⟨w.heap.size + 1, 0, none⟩ (.string o.kind)).setCell ⟨w.heap.size + 1, 1, none⟩ (.string o.name)).setCell ⟨w.heap.size + 1, 2, none⟩ (.string o.team)).setCell ⟨w.heap.size + 1, 3, none⟩ (.slice a1 n1 d1)).setCell ⟨w.heap.size + 1, 4, none⟩ (.bool o.ending)).setCell ⟨w.heap.size + 1, 5, none⟩ (.slice a2 n2 d2)).setCell ⟨w.heap.size + 1, 6, none⟩ (.int .i64 o.version)).cell? ⟨w.heap.size + 1, 4, none⟩ = some (.bool o.ending) := r 4 (by omega)
    have r5 : (((((((w3.setCell ⟨w.heap.size + 1, 0, none⟩ (.string o.kind)).setCell ⟨w.heap.size + 1, 1, none⟩ (.string o.name)).setCell ⟨w.heap.size + 1, 2, none⟩ (.string o.team)).setCell ⟨w.heap.size + 1, 3, none⟩ (.slice a1 n1 d1)).setCell ⟨w.heap.size + 1, 4, none⟩ (.bool o.ending)).setCell ⟨w.heap.size + 1, 5, none⟩ (.slice a2 n2 d2)).setCell ⟨w.heap.size + 1, 6, none⟩ (.int .i64 o.version)).cell? ⟨w.heap.size + 1, 5, none⟩ = some (.slice a2 n2 d2) := r 5 (by omega)
    have r6 : (((((((w3.setCell ⟨w.heap.size + 1, 0, none⟩ (.string o.kind)).setCell ⟨w.heap.size + 1, 1, none⟩ (.string o.name)).setCell ⟨w.heap.size + 1, 2, none⟩ (.string o.team)).setCell ⟨w.heap.size + 1, 3, none⟩ (.slice a1 n1 d1)).setCell ⟨w.heap.size + 1, 4, none⟩ (.bool o.ending)).setCell ⟨w.heap.size + 1, 5, none⟩ (.slice a2 n2 d2)).setCell ⟨w.heap.size + 1, 6, none⟩ (.int .i64 o.version)).cell? ⟨w.heap.size + 1, 6, none⟩ = some (.int .i64 o.version) := r 6 (by omega)
    refine bodyPost_ret (v := .agg #[.string o.kind, .string o.name, .string o.team, .slice a1 n1 d1, .bool o.ending, .slice a2 n2 d2, .int .i64 o.version]) (by simp only [results, Try.results9]; simp [go_sem, r0, r1, r2, r3, r4, r5, r6]) rfl ⟨⟨_, _, _, _, _, _, mid, rfl, ?_, t2, t3, t4⟩, t5⟩
    rw [HF.out]; exact HT.out
  · have hk : hasKind ss o.kind = true := by have := HRR.out; cases hh : hasKind ss o.kind <;> simp [hh] at this ⊢
    obtain ⟨hkd, b, hv, hbl, hf⟩ := HSO.out rfl hk
    obtain ⟨_, _, _, hfn, _⟩ := HA.out.1.at_ (kindAt ss o.kind) (by simpa [hasKind] using hk)
    obtain ⟨fs, hfs⟩ : ∃ fs, fs = (ss.getD (kindAt ss o.kind) Shp.none).fields := ⟨_, rfl⟩
    rw [← hfs] at hv hf hfn
    injection hv with hv1 hv2 hv3
    subst hv1 hv2 hv3
    have HF : Hid ((fillOb ss o).values = fillVals fs o) := by
      show (fillOb ss o).values = _
      unfold fillOb fillVals
      rw [← hfs]
      by_cases heq : o.values.length = fs.length
      · rw [if_pos ⟨HRR.out.symm, heq⟩, if_pos heq, heq]
      · rw [if_neg (fun hh => heq hh.2), if_neg heq]
    have HC : Hid (Calls Try.prog 24 #[.agg #[.string kd, .slice (some ⟨b, 0, none⟩) fs.length fs.length], .agg #[.string o.kind, .string o.name, .string o.team, .slice (some ⟨b1, 0, none⟩) o.values.length c1, .bool o.ending, .slice (some ⟨b2, 0, none⟩) o.holds.length c2, .int .i64 o.version]] w2 fun e w' => (∃ a1 n1 d1 a2 n2 d2 mid, e = .returned (.agg #[.string o.kind, .string o.name, .string o.team, .slice a1 n1 d1, .bool o.ending, .slice a2 n2 d2, .int .i64 o.version]) ∧ CT w' w2.heap.size mid (.slice a1 n1 d1) (fillVals fs o) ∧ CT w' mid w'.heap.size (.slice a2 n2 d2) o.holds ∧ w2.heap.size ≤ mid ∧ mid ≤ w'.heap.size) ∧ Below w2.heap.size w2 w') :=
      fillObjI kd b fs o b1 c1 b2 c2 w2 hfn (Nat.lt_of_lt_of_le hbl HB2.out.size) (fun i hi => (hf i hi).later HB2.out hbl) (HA.out.2.later HB2.out)
    clear hk hkd hbl hf hfs hfn
    obtain ⟨sz, g0, g1⟩ := HK2.out.2
    go_wp2_with fail
    refine HC.out.mono ?_
    rintro e w3 ⟨⟨a1, n1, d1, a2, n2, d2, mid, rfl, hct1, hct2, hm1, hm2⟩, hb3⟩
    obtain ⟨hO, r, t1, t2, t3, t4, t5⟩ := HEND.out w3 a1 n1 d1 a2 n2 d2 mid _ hb3 hct1 hct2 hm1 hm2
    clear hb3 hct1 hct2 hm1 hm2 x0 x1 x2 x3 x4 x5 x6 xz sz g0 g1
    have hfz := hO.frozen
    have z2 := hO.lt
    obtain ⟨y0, hy0⟩ := hO.cell 0 (by omega)
    obtain ⟨y1, hy1⟩ := hO.cell 1 (by omega)
    obtain ⟨y2, hy2⟩ := hO.cell 2 (by omega)
    obtain ⟨y3, hy3⟩ := hO.cell 3 (by omega)
    obtain ⟨y4, hy4⟩ := hO.cell 4 (by omega)
    obtain ⟨y5, hy5⟩ := hO.cell 5 (by omega)
    obtain ⟨y6, hy6⟩ := hO.cell 6 (by omega)
    have HT : Hid (CT (puts w3 (w.heap.size + 1) 0 0 [.string o.kind, .string o.name, .string o.team, .slice a1 n1 d1, .bool o.ending, .slice a2 n2 d2, .int .i64 o.version]) w.heap.size mid (.slice a1 n1 d1) (fillVals fs o)) := t1
    clear hO t1
    go_wp2
    have r0 : (((((((w3.setCell ⟨w.heap.size + 1, 0, none⟩ (.string o.kind)).setCell ⟨w.heap.size + 1, 1, none⟩ (.string o.name)).setCell ⟨w.heap.size + 1, 2, none⟩ (.string o.team)).setCell ⟨w.heap.size + 1, 3, none⟩ (.slice a1 n1 d1)).setCell ⟨w.heap.size + 1, 4, none⟩ (.bool o.ending)).setCell ⟨w.heap.size + 1, 5, none⟩ (.slice a2 n2 d2)).setCell ⟨w.heap.size + 1, 6, none⟩ (.int .i64 o.version)).cell? ⟨w.heap.size + 1, 0, none⟩ = some (.string o.kind) := r 0 (by omega)
    have r1 : (((((((w3.setCell ⟨w.heap.size + 1, 0, none⟩ (.string o.kind)).setCell ⟨w.heap.size + 1, 1, none⟩ (.string o.name)).setCell ⟨w.heap.size + 1, 2, none⟩ (.string o.team)).setCell ⟨w.heap.size + 1, 3, none⟩ (.slice a1 n1 d1)).setCell ⟨w.heap.size + 1, 4, none⟩ (.bool o.ending)).setCell ⟨w.heap.size + 1, 5, none⟩ (.slice a2 n2 d2)).setCell ⟨w.heap.size + 1, 6, none⟩ (.int .i64 o.version)).cell? ⟨w.heap.size + 1, 1, none⟩ = some (.string o.name) := r 1 (by omega)
    have r2 : (((((((w3.setCell ⟨w.heap.size + 1, 0, none⟩ (.string o.kind)).setCell ⟨w.heap.size + 1, 1, none⟩ (.string o.name)).setCell ⟨w.heap.size + 1, 2, none⟩ (.string o.team)).setCell ⟨w.heap.size + 1, 3, none⟩ (.slice a1 n1 d1)).setCell ⟨w.heap.size + 1, 4, none⟩ (.bool o.ending)).setCell ⟨w.heap.size + 1, 5, none⟩ (.slice a2 n2 d2)).setCell ⟨w.heap.size + 1, 6, none⟩ (.int .i64 o.version)).cell? ⟨w.heap.size + 1, 2, none⟩ = some (.string o.team) := r 2 (by omega)
    have r3 : (((((((w3.setCell ⟨w.heap.size + 1, 0, none⟩ (.string o.kind)).setCell ⟨w.heap.size + 1, 1, none⟩ (.string o.name)).setCell ⟨w.heap.size + 1, 2, none⟩ (.string o.team)).setCell ⟨w.heap.size + 1, 3, none⟩ (.slice a1 n1 d1)).setCell ⟨w.heap.size + 1, 4, none⟩ (.bool o.ending)).setCell ⟨w.heap.size + 1, 5, none⟩ (.slice a2 n2 d2)).setCell ⟨w.heap.size + 1, 6, none⟩ (.int .i64 o.version)).cell? ⟨w.heap.size + 1, 3, none⟩ = some (.slice a1 n1 d1) := r 3 (by omega)
    have r4 : (((((((w3.setCell ⟨w.heap.size + 1, 0, none⟩ (.string o.kind)).setCell ⟨w.heap.size + 1, 1, none⟩ (.string o.name)).setCell ⟨w.heap.size + 1, 2, none⟩ (.string o.team)).setCell ⟨w.heap.size + 1, 3, none⟩ (.slice a1 n1 d1)).setCell ⟨w.heap.size + 1, 4, none⟩ (.bool o.ending)).setCell ⟨w.heap.size + 1, 5, none⟩ (.slice a2 n2 d2)).setCell ⟨w.heap.size + 1, 6, none⟩ (.int .i64 o.version)).cell? ⟨w.heap.size + 1, 4, none⟩ = some (.bool o.ending) := r 4 (by omega)
    have r5 : (((((((w3.setCell ⟨w.heap.size + 1, 0, none⟩ (.string o.kind)).setCell ⟨w.heap.size + 1, 1, none⟩ (.string o.name)).setCell ⟨w.heap.size + 1, 2, none⟩ (.string o.team)).setCell ⟨w.heap.size + 1, 3, none⟩ (.slice a1 n1 d1)).setCell ⟨w.heap.size + 1, 4, none⟩ (.bool o.ending)).setCell ⟨w.heap.size + 1, 5, none⟩ (.slice a2 n2 d2)).setCell ⟨w.heap.size + 1, 6, none⟩ (.int .i64 o.version)).cell? ⟨w.heap.size + 1, 5, none⟩ = some (.slice a2 n2 d2) := r 5 (by omega)
    have r6 : (((((((w3.setCell ⟨w.heap.size + 1, 0, none⟩ (.string o.kind)).setCell ⟨w.heap.size + 1, 1, none⟩ (.string o.name)).setCell ⟨w.heap.size + 1, 2, none⟩ (.string o.team)).setCell ⟨w.heap.size + 1, 3, none⟩ (.slice a1 n1 d1)).setCell ⟨w.heap.size + 1, 4, none⟩ (.bool o.ending)).setCell ⟨w.heap.size + 1, 5, none⟩ (.slice a2 n2 d2)).setCell ⟨w.heap.size + 1, 6, none⟩ (.int .i64 o.version)).cell? ⟨w.heap.size + 1, 6, none⟩ = some (.int .i64 o.version) := r 6 (by omega)
    refine bodyPost_ret (v := .agg #[.string o.kind, .string o.name, .string o.team, .slice a1 n1 d1, .bool o.ending, .slice a2 n2 d2, .int .i64 o.version]) (by simp only [results, Try.results9]; simp [go_sem, r0, r1, r2, r3, r4, r5, r6]) rfl ⟨⟨_, _, _, _, _, _, mid, rfl, ?_, t2, t3, t4⟩, t5⟩
    rw [HF.out]; exact HT.out

end Go.Proofs.Ythilfmlfmnoikaa
