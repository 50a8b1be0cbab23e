/-
  Walks: GateFill: the specification.
-/
import Derived.Test.YthilfmlfmnoikaaWalkAL
namespace Go.Proofs.Ythilfmlfmnoikaa
open Go.RowKit Go.Deep

theorem fillOb_l2 (ss : List Shp) (o : Ob) (h : shapesOk ss = true) : (fillOb ss o).values = l2Vals ss o := by
  unfold fillOb l2Vals hasFields
  rw [h]
  by_cases h1 : hasKind ss o.kind = true
  · by_cases h2 : o.values.length = (ss.getD (kindAt ss o.kind) Shp.none).fields.length
    · rw [if_pos ⟨by rw [h1]; rfl, h2⟩, if_pos (by rw [h1, decide_eq_true h2]; rfl), ← h2]
    · rw [if_neg (fun e => h2 e.2), if_neg (by rw [decide_eq_false h2]; simp)]
  · rw [if_neg (fun e => h1 (by simpa using e.1)), if_neg (by simp [h1])]
theorem fillOb_no (ss : List Shp) (o : Ob) (h : shapesOk ss = false) : (fillOb ss o).values = o.values := by
  unfold fillOb; rw [h]; simp

structure OInv (w W : World) (mid : Nat) (vals holds : List ByteArray) (v1 v2 : Value) : Prop where
  own : OwnBlk W (w.heap.size + 1) 28 7
  bel : Below w.heap.size w W
  c1 : CT W (w.heap.size + 2) mid v1 vals
  c2 : CT W mid W.heap.size v2 holds
  m1 : w.heap.size + 2 ≤ mid
  m2 : mid ≤ W.heap.size

theorem OInv.ob_out {w W : World} {mid : Nat} {vals holds : List ByteArray} {v1 v2 : Value} (h : OInv w W mid vals holds v1 v2) (L : List Value) (hL : L.length = 7) :
    (∀ j, j < 7 → (puts W (w.heap.size + 1) 0 0 L).cell? ⟨w.heap.size + 1, 0 + (0 + j), none⟩ = L[j]?) ∧ CT (puts W (w.heap.size + 1) 0 0 L) w.heap.size mid v1 vals ∧ CT (puts W (w.heap.size + 1) 0 0 L) mid (puts W (w.heap.size + 1) 0 0 L).heap.size v2 holds ∧ w.heap.size ≤ mid ∧ mid ≤ (puts W (w.heap.size + 1) 0 0 L).heap.size ∧ Below w.heap.size w (puts W (w.heap.size + 1) 0 0 L) := by
  have m1 := h.m1
  have m2 := h.m2
  rw [puts_size]
  exact ⟨fun j hj => puts_at 0 L W 0 h.own (by omega) j (by omega), (CT.puts 0 (Or.inl (by omega)) L W 0 h.c1).mono (by omega) (Nat.le_refl _), CT.puts 0 (Or.inl (by omega)) L W 0 h.c2, by omega, by omega, puts_below (a := w) 0 (B := w.heap.size + 1) (by omega) L W 0 h.bel⟩

set_option maxHeartbeats 2000000 in
theorem fillS (B : Nat) (ss : List Shp) (o : Ob) (b1 c1 b2 c2 : Nat) (w : World) (h : ShpsIn w B ss) (ho : ObArg w b1 b2 o) :
    Calls Try.prog 6 #[.slice (some ⟨B, 0, none⟩) ss.length ss.length, .agg #[.string o.kind, .string o.name, .string o.team, .slice (some ⟨b1, 0, none⟩) o.values.length c1, .bool o.ending, .slice (some ⟨b2, 0, none⟩) o.holds.length c2, .int .i64 o.version]] w fun e w' => (∃ a1 n1 d1 a2 n2 d2 mid, e = .returned (.agg #[.string o.kind, .string o.name, .string o.team, .slice a1 n1 d1, .bool o.ending, .slice a2 n2 d2, .int .i64 o.version]) ∧ CT w' w.heap.size mid (.slice a1 n1 d1) (fillOb ss o).values ∧ CT w' mid w'.heap.size (.slice a2 n2 d2) o.holds ∧ w.heap.size ≤ mid ∧ mid ≤ w'.heap.size) ∧ Below w.heap.size w w' := by
  have HA : Hid (ShpsIn w B ss ∧ ObArg w b1 b2 o) := ⟨h, ho⟩
  have hl := h.len
  clear h ho
  have HB0 : Hid (Below w.heap.size w ((w.alloc (.cells #[.string o.kind, .string o.name, .string o.team, .slice (some ⟨b1, 0, none⟩) o.values.length c1, .bool o.ending, .slice (some ⟨b2, 0, none⟩) o.holds.length c2, .int .i64 o.version] 28)).alloc (.cells #[.string ⟨#[]⟩, .string ⟨#[]⟩, .string ⟨#[]⟩, .slice none 0 0, .bool false, .slice none 0 0, .int .i64 0] 28))) := blw_alloc (blw_alloc (Below.refl _ _) _) _
  have HR0 : Hid (OwnBlk ((w.alloc (.cells #[.string o.kind, .string o.name, .string o.team, .slice (some ⟨b1, 0, none⟩) o.values.length c1, .bool o.ending, .slice (some ⟨b2, 0, none⟩) o.holds.length c2, .int .i64 o.version] 28)).alloc (.cells #[.string ⟨#[]⟩, .string ⟨#[]⟩, .string ⟨#[]⟩, .slice none 0 0, .bool false, .slice none 0 0, .int .i64 0] 28)) (w.heap.size + 1) 28 7) := OwnBlk.alloc_at _ _ 28 7 _ rfl (by simp)
  go_enter Try.func6, Try.ntmps6
  go_wp2_with fail
  refine (shapesOkS B ss _ (HA.out.1.later HB0.out)).mono ?_
  rintro e w1 ⟨rfl, hb1⟩
  have hs0 : ((w.alloc (.cells #[.string o.kind, .string o.name, .string o.team, .slice (some ⟨b1, 0, none⟩) o.values.length c1, .bool o.ending, .slice (some ⟨b2, 0, none⟩) o.holds.length c2, .int .i64 o.version] 28)).alloc (.cells #[.string ⟨#[]⟩, .string ⟨#[]⟩, .string ⟨#[]⟩, .slice none 0 0, .bool false, .slice none 0 0, .int .i64 0] 28)).heap.size = w.heap.size + 2 := by simp
  have hs1 : w.heap.size + 2 ≤ w1.heap.size := by have := hb1.size; rw [hs0] at this; exact this
  have HB1 : Hid (Below w.heap.size w w1) := blw_trans HB0.out hb1
  have HR1 : Hid (OwnBlk w1 (w.heap.size + 1) 28 7) := HR0.out.later hb1
  have g0 : w1.cell? ⟨w.heap.size, 0, none⟩ = some (.string o.kind) := (hb1.cell (p := ⟨w.heap.size, 0, none⟩) (by rw [hs0]; show w.heap.size < w.heap.size + 2; omega)).trans (by simp)
  have g1 : w1.cell? ⟨w.heap.size, 1, none⟩ = some (.string o.name) := (hb1.cell (p := ⟨w.heap.size, 1, none⟩) (by rw [hs0]; show w.heap.size < w.heap.size + 2; omega)).trans (by simp)
  have g2 : w1.cell? ⟨w.heap.size, 2, none⟩ = some (.string o.team) := (hb1.cell (p := ⟨w.heap.size, 2, none⟩) (by rw [hs0]; show w.heap.size < w.heap.size + 2; omega)).trans (by simp)
  have g3 : w1.cell? ⟨w.heap.size, 3, none⟩ = some (.slice (some ⟨b1, 0, none⟩) o.values.length c1) := (hb1.cell (p := ⟨w.heap.size, 3, none⟩) (by rw [hs0]; show w.heap.size < w.heap.size + 2; omega)).trans (by simp)
  have g4 : w1.cell? ⟨w.heap.size, 4, none⟩ = some (.bool o.ending) := (hb1.cell (p := ⟨w.heap.size, 4, none⟩) (by rw [hs0]; show w.heap.size < w.heap.size + 2; omega)).trans (by simp)
  have g5 : w1.cell? ⟨w.heap.size, 5, none⟩ = some (.slice (some ⟨b2, 0, none⟩) o.holds.length c2) := (hb1.cell (p := ⟨w.heap.size, 5, none⟩) (by rw [hs0]; show w.heap.size < w.heap.size + 2; omega)).trans (by simp)
  have g6 : w1.cell? ⟨w.heap.size, 6, none⟩ = some (.int .i64 o.version) := (hb1.cell (p := ⟨w.heap.size, 6, none⟩) (by rw [hs0]; show w.heap.size < w.heap.size + 2; omega)).trans (by simp)
  have hx : w.heap.size < w1.heap.size := by omega
  clear hb1 hs0
  cases hok : shapesOk ss
  · have HF : Hid ((fillOb ss o).values = o.values) := fillOb_no ss o hok
    go_wp2_with fail
    refine (l2Copy o b1 c1 b2 c2 _ (HA.out.2.later HB1.out)).mono ?_
    rintro e w2 ⟨⟨a1, n1, d1, a2, n2, d2, mid, rfl, hct1, hct2, hm1, hm2⟩, hb2⟩
    have HI : Hid (OInv w w2 mid o.values o.holds (.slice a1 n1 d1) (.slice a2 n2 d2)) := ⟨HR1.out.later hb2, blw_trans HB1.out hb2, hct1.mono hs1 (Nat.le_refl _), hct2, by omega, hm2⟩
    have hR := HI.out.own
    have hfz := hR.frozen
    have z2 := hR.lt
    obtain ⟨y0, hy0⟩ := hR.cell 0 (by omega)
    obtain ⟨y1, hy1⟩ := hR.cell 1 (by omega)
    obtain ⟨y2, hy2⟩ := hR.cell 2 (by omega)
    obtain ⟨y3, hy3⟩ := hR.cell 3 (by omega)
    obtain ⟨y4, hy4⟩ := hR.cell 4 (by omega)
    obtain ⟨y5, hy5⟩ := hR.cell 5 (by omega)
    obtain ⟨y6, hy6⟩ := hR.cell 6 (by omega)
    clear hR hct1 hct2 hm1 hm2 hb2
    go_wp2
    obtain ⟨r, t1, t2, t3, t4, t5⟩ := HI.out.ob_out [.string o.kind, .string o.name, .string o.team, .slice a1 n1 d1, .bool o.ending, .slice a2 n2 d2, .int .i64 o.version] rfl
    have r0 : (((((((w2.setCell ⟨w.heap.size + 1, 0, none⟩ (.string o.kind)).setCell ⟨w.heap.size + 1, 1, none⟩ (.string o.name)).setCell ⟨w.heap.size + 1, 2, none⟩ (.string o.team)).setCell ⟨w.heap.size + 1, 3, none⟩ (.slice a1 n1 d1)).setCell ⟨w.heap.size + 1, 4, none⟩ (.bool o.ending)).setCell ⟨w.heap.size + 1, 5, none⟩ (.slice a2 n2 d2)).setCell ⟨w.heap.size + 1, 6, none⟩ (.int .i64 o.version)).cell? ⟨w.heap.size + 1, 0, none⟩ = some (.string o.kind) := r 0 (by omega)
    have r1 : (((((((w2.setCell ⟨w.heap.size + 1, 0, none⟩ (.string o.kind)).setCell ⟨w.heap.size + 1, 1, none⟩ (.string o.name)).setCell ⟨w.heap.size + 1, 2, none⟩ (.string o.team)).setCell ⟨w.heap.size + 1, 3, none⟩ (.slice a1 n1 d1)).setCell ⟨w.heap.size + 1, 4, none⟩ (.bool o.ending)).setCell ⟨w.heap.size + 1, 5, none⟩ (.slice a2 n2 d2)).setCell ⟨w.heap.size + 1, 6, none⟩ (.int .i64 o.version)).cell? ⟨w.heap.size + 1, 1, none⟩ = some (.string o.name) := r 1 (by omega)
    have r2 : (((((((w2.setCell ⟨w.heap.size + 1, 0, none⟩ (.string o.kind)).setCell ⟨w.heap.size + 1, 1, none⟩ (.string o.name)).setCell ⟨w.heap.size + 1, 2, none⟩ (.string o.team)).setCell ⟨w.heap.size + 1, 3, none⟩ (.slice a1 n1 d1)).setCell ⟨w.heap.size + 1, 4, none⟩ (.bool o.ending)).setCell ⟨w.heap.size + 1, 5, none⟩ (.slice a2 n2 d2)).setCell ⟨w.heap.size + 1, 6, none⟩ (.int .i64 o.version)).cell? ⟨w.heap.size + 1, 2, none⟩ = some (.string o.team) := r 2 (by omega)
    have r3 : (((((((w2.setCell ⟨w.heap.size + 1, 0, none⟩ (.string o.kind)).setCell ⟨w.heap.size + 1, 1, none⟩ (.string o.name)).setCell ⟨w.heap.size + 1, 2, none⟩ (.string o.team)).setCell ⟨w.heap.size + 1, 3, none⟩ (.slice a1 n1 d1)).setCell ⟨w.heap.size + 1, 4, none⟩ (.bool o.ending)).setCell ⟨w.heap.size + 1, 5, none⟩ (.slice a2 n2 d2)).setCell ⟨w.heap.size + 1, 6, none⟩ (.int .i64 o.version)).cell? ⟨w.heap.size + 1, 3, none⟩ = some (.slice a1 n1 d1) := r 3 (by omega)
    have r4 : (((((((w2.setCell ⟨w.heap.size + 1, 0, none⟩ (.string o.kind)).setCell ⟨w.heap.size + 1, 1, none⟩ (.string o.name)).setCell ⟨w.heap.size + 1, 2, none⟩ (.string o.team)).setCell ⟨w.heap.size + 1, 3, none⟩ (.slice a1 n1 d1)).setCell ⟨w.heap.size + 1, 4, none⟩ (.bool o.ending)).setCell ⟨w.heap.size + 1, 5, none⟩ (.slice a2 n2 d2)).setCell ⟨w.heap.size + 1, 6, none⟩ (.int .i64 o.version)).cell? ⟨w.heap.size + 1, 4, none⟩ = some (.bool o.ending) := r 4 (by omega)
    have r5 : (((((((w2.setCell ⟨w.heap.size + 1, 0, none⟩ (.string o.kind)).setCell ⟨w.heap.size + 1, 1, none⟩ (.string o.name)).setCell ⟨w.heap.size + 1, 2, none⟩ (.string o.team)).setCell ⟨w.heap.size + 1, 3, none⟩ (.slice a1 n1 d1)).setCell ⟨w.heap.size + 1, 4, none⟩ (.bool o.ending)).setCell ⟨w.heap.size + 1, 5, none⟩ (.slice a2 n2 d2)).setCell ⟨w.heap.size + 1, 6, none⟩ (.int .i64 o.version)).cell? ⟨w.heap.size + 1, 5, none⟩ = some (.slice a2 n2 d2) := r 5 (by omega)
    have r6 : (((((((w2.setCell ⟨w.heap.size + 1, 0, none⟩ (.string o.kind)).setCell ⟨w.heap.size + 1, 1, none⟩ (.string o.name)).setCell ⟨w.heap.size + 1, 2, none⟩ (.string o.team)).setCell ⟨w.heap.size + 1, 3, none⟩ (.slice a1 n1 d1)).setCell ⟨w.heap.size + 1, 4, none⟩ (.bool o.ending)).setCell ⟨w.heap.size + 1, 5, none⟩ (.slice a2 n2 d2)).setCell ⟨w.heap.size + 1, 6, none⟩ (.int .i64 o.version)).cell? ⟨w.heap.size + 1, 6, none⟩ = some (.int .i64 o.version) := r 6 (by omega)
    refine bodyPost_ret (v := .agg #[.string o.kind, .string o.name, .string o.team, .slice a1 n1 d1, .bool o.ending, .slice a2 n2 d2, .int .i64 o.version]) (by simp only [results, Try.results6]; simp [go_sem, r0, r1, r2, r3, r4, r5, r6]) rfl ⟨⟨_, _, _, _, _, _, mid, rfl, ?_, t2, t3, t4⟩, t5⟩
    rw [HF.out]; exact t1
  · have HF : Hid ((fillOb ss o).values = l2Vals ss o) := fillOb_l2 ss o hok
    go_wp2_with fail
    refine (l2Fill B ss o b1 c1 b2 c2 w _ HA.out.1 HB1.out (HA.out.2.later HB1.out)).mono ?_
    rintro e w2 ⟨⟨a1, n1, d1, a2, n2, d2, mid, rfl, hct1, hct2, hm1, hm2⟩, hb2⟩
    have HI : Hid (OInv w w2 mid (l2Vals ss o) o.holds (.slice a1 n1 d1) (.slice a2 n2 d2)) := ⟨HR1.out.later hb2, blw_trans HB1.out hb2, hct1.mono hs1 (Nat.le_refl _), hct2, by omega, hm2⟩
    have hR := HI.out.own
    have hfz := hR.frozen
    have z2 := hR.lt
    obtain ⟨y0, hy0⟩ := hR.cell 0 (by omega)
    obtain ⟨y1, hy1⟩ := hR.cell 1 (by omega)
    obtain ⟨y2, hy2⟩ := hR.cell 2 (by omega)
    obtain ⟨y3, hy3⟩ := hR.cell 3 (by omega)
    obtain ⟨y4, hy4⟩ := hR.cell 4 (by omega)
    obtain ⟨y5, hy5⟩ := hR.cell 5 (by omega)
    obtain ⟨y6, hy6⟩ := hR.cell 6 (by omega)
    clear hR hct1 hct2 hm1 hm2 hb2
    go_wp2
    obtain ⟨r, t1, t2, t3, t4, t5⟩ := HI.out.ob_out [.string o.kind, .string o.name, .string o.team, .slice a1 n1 d1, .bool o.ending, .slice a2 n2 d2, .int .i64 o.version] rfl
    have r0 : (((((((w2.setCell ⟨w.heap.size + 1, 0, none⟩ (.string o.kind)).setCell ⟨w.heap.size + 1, 1, none⟩ (.string o.name)).setCell ⟨w.heap.size + 1, 2, none⟩ (.string o.team)).setCell ⟨w.heap.size + 1, 3, none⟩ (.slice a1 n1 d1)).setCell ⟨w.heap.size + 1, 4, none⟩ (.bool o.ending)).setCell ⟨w.heap.size + 1, 5, none⟩ (.slice a2 n2 d2)).setCell ⟨w.heap.size + 1, 6, none⟩ (.int .i64 o.version)).cell? ⟨w.heap.size + 1, 0, none⟩ = some (.string o.kind) := r 0 (by omega)
    have r1 : (((((((w2.setCell ⟨w.heap.size + 1, 0, none⟩ (.string o.kind)).setCell ⟨w.heap.size + 1, 1, none⟩ (.string o.name)).setCell ⟨w.heap.size + 1, 2, none⟩ (.string o.team)).setCell ⟨w.heap.size + 1, 3, none⟩ (.slice a1 n1 d1)).setCell ⟨w.heap.size + 1, 4, none⟩ (.bool o.ending)).setCell ⟨w.heap.size + 1, 5, none⟩ (.slice a2 n2 d2)).setCell ⟨w.heap.size + 1, 6, none⟩ (.int .i64 o.version)).cell? ⟨w.heap.size + 1, 1, none⟩ = some (.string o.name) := r 1 (by omega)
    have r2 : (((((((w2.setCell ⟨w.heap.size + 1, 0, none⟩ (.string o.kind)).setCell ⟨w.heap.size + 1, 1, none⟩ (.string o.name)).setCell ⟨w.heap.size + 1, 2, none⟩ (.string o.team)).setCell ⟨w.heap.size + 1, 3, none⟩ (.slice a1 n1 d1)).setCell ⟨w.heap.size + 1, 4, none⟩ (.bool o.ending)).setCell ⟨w.heap.size + 1, 5, none⟩ (.slice a2 n2 d2)).setCell ⟨w.heap.size + 1, 6, none⟩ (.int .i64 o.version)).cell? ⟨w.heap.size + 1, 2, none⟩ = some (.string o.team) := r 2 (by omega)
    have r3 : (((((((w2.setCell ⟨w.heap.size + 1, 0, none⟩ (.string o.kind)).setCell ⟨w.heap.size + 1, 1, none⟩ (.string o.name)).setCell ⟨w.heap.size + 1, 2, none⟩ (.string o.team)).setCell ⟨w.heap.size + 1, 3, none⟩ (.slice a1 n1 d1)).setCell ⟨w.heap.size + 1, 4, none⟩ (.bool o.ending)).setCell ⟨w.heap.size + 1, 5, none⟩ (.slice a2 n2 d2)).setCell ⟨w.heap.size + 1, 6, none⟩ (.int .i64 o.version)).cell? ⟨w.heap.size + 1, 3, none⟩ = some (.slice a1 n1 d1) := r 3 (by omega)
    have r4 : (((((((w2.setCell ⟨w.heap.size + 1, 0, none⟩ (.string o.kind)).setCell ⟨w.heap.size + 1, 1, none⟩ (.string o.name)).setCell ⟨w.heap.size + 1, 2, none⟩ (.string o.team)).setCell ⟨w.heap.size + 1, 3, none⟩ (.slice a1 n1 d1)).setCell ⟨w.heap.size + 1, 4, none⟩ (.bool o.ending)).setCell ⟨w.heap.size + 1, 5, none⟩ (.slice a2 n2 d2)).setCell ⟨w.heap.size + 1, 6, none⟩ (.int .i64 o.version)).cell? ⟨w.heap.size + 1, 4, none⟩ = some (.bool o.ending) := r 4 (by omega)
    have r5 : (((((((w2.setCell ⟨w.heap.size + 1, 0, none⟩ (.string o.kind)).setCell ⟨w.heap.size + 1, 1, none⟩ (.string o.name)).setCell ⟨w.heap.size + 1, 2, none⟩ (.string o.team)).setCell ⟨w.heap.size + 1, 3, none⟩ (.slice a1 n1 d1)).setCell ⟨w.heap.size + 1, 4, none⟩ (.bool o.ending)).setCell ⟨w.heap.size + 1, 5, none⟩ (.slice a2 n2 d2)).setCell ⟨w.heap.size + 1, 6, none⟩ (.int .i64 o.version)).cell? ⟨w.heap.size + 1, 5, none⟩ = some (.slice a2 n2 d2) := r 5 (by omega)
    have r6 : (((((((w2.setCell ⟨w.heap.size + 1, 0, none⟩ (.string o.kind)).setCell ⟨w.heap.size + 1, 1, none⟩ (.string o.name)).setCell ⟨w.heap.size + 1, 2, none⟩ (.string o.team)).setCell ⟨w.heap.size + 1, 3, none⟩ (.slice a1 n1 d1)).setCell ⟨w.heap.size + 1, 4, none⟩ (.bool o.ending)).setCell ⟨w.heap.size + 1, 5, none⟩ (.slice a2 n2 d2)).setCell ⟨w.heap.size + 1, 6, none⟩ (.int .i64 o.version)).cell? ⟨w.heap.size + 1, 6, none⟩ = some (.int .i64 o.version) := r 6 (by omega)
    refine bodyPost_ret (v := .agg #[.string o.kind, .string o.name, .string o.team, .slice a1 n1 d1, .bool o.ending, .slice a2 n2 d2, .int .i64 o.version]) (by simp only [results, Try.results6]; simp [go_sem, r0, r1, r2, r3, r4, r5, r6]) rfl ⟨⟨_, _, _, _, _, _, mid, rfl, ?_, t2, t3, t4⟩, t5⟩
    rw [HF.out]; exact t1
end Go.Proofs.Ythilfmlfmnoikaa
