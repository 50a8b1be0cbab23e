/-
  Walks: GateFill: the specification.
-/
import Derived.Test.YtfdahoekjpobaaaGreatWalkAK
namespace Go.Proofs.YtfdahoekjpobaaaGreat
open Go.RowKit Go.Deep

def l2Vals (ss : List Shp) (o : Ob) : List ByteArray := if hasFields ss o = true then fillTo o.values (ss.getD (kindAt ss o.kind) Shp.none).fields (ss.getD (kindAt ss o.kind) Shp.none).fields.length else o.values

set_option maxHeartbeats 4000000 in
theorem l2Fill (B : Nat) (ss : List Shp) (o : Ob) (b1 : Option Addr) (c1 : Nat) (b2 : Option Addr) (c2 : Nat) (w0 w : World) (h : ShpsIn w0 B ss) (hb0 : Below w0.heap.size w0 w) (ho : ObG w b1 c1 b2 c2 o) :
    Calls Tryz.prog 43 #[.slice (some ⟨B, 0, none⟩) ss.length ss.length, .agg #[.string o.kind, .string o.name, .string o.team, .slice b1 o.values.length c1, .bool o.ending, .slice b2 o.holds.length c2, .int .i64 o.version]] w fun e w' => (∃ a1 n1 d1 a2 n2 d2 mid, e = .returned (.agg #[.string o.kind, .string o.name, .string o.team, .slice a1 n1 d1, .bool o.ending, .slice a2 n2 d2, .int .i64 o.version]) ∧ CT w' w.heap.size mid (.slice a1 n1 d1) (l2Vals ss o) ∧ CT w' mid w'.heap.size (.slice a2 n2 d2) o.holds ∧ w.heap.size ≤ mid ∧ mid ≤ w'.heap.size) ∧ Below w.heap.size w w' := by
  have HA : Hid ((ShpsIn w0 B ss ∧ Below w0.heap.size w0 w) ∧ ObG w b1 c1 b2 c2 o) := ⟨⟨h, hb0⟩, ho⟩
  have hl := h.len
  have hl1 := ho.len1
  clear h ho hb0
  have HB0 : Hid (Below w.heap.size w ((w.alloc (.cells #[.string o.kind, .string o.name, .string o.team, .slice b1 o.values.length c1, .bool o.ending, .slice b2 o.holds.length c2, .int .i64 o.version] 30)).alloc (.cells #[.string ⟨#[]⟩, .string ⟨#[]⟩, .string ⟨#[]⟩, .slice none 0 0, .bool false, .slice none 0 0, .int .i64 0] 30))) := blw_alloc (blw_alloc (Below.refl _ _) _) _
  have HR0 : Hid (OwnBlk ((w.alloc (.cells #[.string o.kind, .string o.name, .string o.team, .slice b1 o.values.length c1, .bool o.ending, .slice b2 o.holds.length c2, .int .i64 o.version] 30)).alloc (.cells #[.string ⟨#[]⟩, .string ⟨#[]⟩, .string ⟨#[]⟩, .slice none 0 0, .bool false, .slice none 0 0, .int .i64 0] 30)) (w.heap.size + 1) 30 7) := OwnBlk.alloc_at _ _ 30 7 _ rfl (by simp)
  go_enter Tryz.func43, Tryz.ntmps43
  go_wp2_with fail
  refine (l2Copy o b1 c1 b2 c2 _ (HA.out.2.later HB0.out)).mono ?_
  rintro e w1 ⟨⟨a1, n1, d1, a2, n2, d2, mid, rfl, hct1, hct2, hm1, hm2⟩, hb1⟩
  have hs0 : ((w.alloc (.cells #[.string o.kind, .string o.name, .string o.team, .slice b1 o.values.length c1, .bool o.ending, .slice b2 o.holds.length c2, .int .i64 o.version] 30)).alloc (.cells #[.string ⟨#[]⟩, .string ⟨#[]⟩, .string ⟨#[]⟩, .slice none 0 0, .bool false, .slice none 0 0, .int .i64 0] 30)).heap.size = w.heap.size + 2 := by simp
  have hs1 : w.heap.size + 2 ≤ w1.heap.size := by have := hb1.size; rw [hs0] at this; exact this
  have HC1 : Hid (CT w1 (w.heap.size + 2) mid (.slice a1 n1 d1) o.values ∧ CT w1 mid w1.heap.size (.slice a2 n2 d2) o.holds ∧ w.heap.size + 2 ≤ mid ∧ mid ≤ w1.heap.size) := by
    rw [hs0] at hct1 hm1
    exact ⟨hct1, hct2, hm1, hm2⟩
  have HB1 : Hid (Below w.heap.size w w1) := blw_trans HB0.out hb1
  have HR1 : Hid (OwnBlk w1 (w.heap.size + 1) 30 7) := HR0.out.later hb1
  have g0 : w1.cell? ⟨w.heap.size, 0, none⟩ = some (.string o.kind) := (hb1.cell (p := ⟨w.heap.size, 0, none⟩) (by rw [hs0]; show w.heap.size < w.heap.size + 2; omega)).trans (by simp)
  have g1 : w1.cell? ⟨w.heap.size, 1, none⟩ = some (.string o.name) := (hb1.cell (p := ⟨w.heap.size, 1, none⟩) (by rw [hs0]; show w.heap.size < w.heap.size + 2; omega)).trans (by simp)
  have g2 : w1.cell? ⟨w.heap.size, 2, none⟩ = some (.string o.team) := (hb1.cell (p := ⟨w.heap.size, 2, none⟩) (by rw [hs0]; show w.heap.size < w.heap.size + 2; omega)).trans (by simp)
  have g3 : w1.cell? ⟨w.heap.size, 3, none⟩ = some (.slice b1 o.values.length c1) := (hb1.cell (p := ⟨w.heap.size, 3, none⟩) (by rw [hs0]; show w.heap.size < w.heap.size + 2; omega)).trans (by simp)
  have g4 : w1.cell? ⟨w.heap.size, 4, none⟩ = some (.bool o.ending) := (hb1.cell (p := ⟨w.heap.size, 4, none⟩) (by rw [hs0]; show w.heap.size < w.heap.size + 2; omega)).trans (by simp)
  have g5 : w1.cell? ⟨w.heap.size, 5, none⟩ = some (.slice b2 o.holds.length c2) := (hb1.cell (p := ⟨w.heap.size, 5, none⟩) (by rw [hs0]; show w.heap.size < w.heap.size + 2; omega)).trans (by simp)
  have g6 : w1.cell? ⟨w.heap.size, 6, none⟩ = some (.int .i64 o.version) := (hb1.cell (p := ⟨w.heap.size, 6, none⟩) (by rw [hs0]; show w.heap.size < w.heap.size + 2; omega)).trans (by simp)
  have hx : w.heap.size < w1.heap.size := by omega
  clear hct1 hct2 hm1 hm2 hb1 hs0
  have HB1' : Hid (Below w.heap.size w (w1.alloc (.cells #[.string o.kind, .string o.name, .string o.team, .slice a1 n1 d1, .bool o.ending, .slice a2 n2 d2, .int .i64 o.version] 30))) := blw_alloc HB1.out _
  go_wp2_with fail
  refine (l2Fields w0 B ss o b1 c1 b2 c2 _ HA.out.1.1 (blw_trans HA.out.1.2 HB1'.out)).mono ?_
  rintro e w2 ⟨a, n, c, rfl, hso, hb2⟩
  have hs1' : (w1.alloc (.cells #[.string o.kind, .string o.name, .string o.team, .slice a1 n1 d1, .bool o.ending, .slice a2 n2 d2, .int .i64 o.version] 30)).heap.size = w1.heap.size + 1 := by simp
  have hs2 : w1.heap.size + 1 ≤ w2.heap.size := by have := hb2.size; rw [hs1'] at this; exact this
  have hx2 : w1.heap.size < w2.heap.size := by omega
  have hx3 : w.heap.size < w2.heap.size := by omega
  have hx4 : w.heap.size + 1 < w2.heap.size := by omega
  have HC2 : Hid (CT w2 (w.heap.size + 2) mid (.slice a1 n1 d1) o.values ∧ CT w2 mid w1.heap.size (.slice a2 n2 d2) o.holds ∧ w.heap.size + 2 ≤ mid ∧ mid ≤ w1.heap.size) :=
    ⟨(HC1.out.1.later (blw_alloc (Below.refl _ _) _)).later hb2, (HC1.out.2.1.later (blw_alloc (Below.refl _ _) _)).later hb2, HC1.out.2.2⟩
  have HB2 : Hid (Below w.heap.size w w2) := blw_trans HB1'.out hb2
  have HR2 : Hid (OwnBlk w2 (w.heap.size + 1) 30 7) := (HR1.out.past _).later hb2
  have x0 : w2.cell? ⟨w1.heap.size, 0, none⟩ = some (.string o.kind) := (hb2.cell (p := ⟨w1.heap.size, 0, none⟩) (by rw [hs1']; exact Nat.lt_succ_self _)).trans (by simp)
  have x1 : w2.cell? ⟨w1.heap.size, 1, none⟩ = some (.string o.name) := (hb2.cell (p := ⟨w1.heap.size, 1, none⟩) (by rw [hs1']; exact Nat.lt_succ_self _)).trans (by simp)
  have x2 : w2.cell? ⟨w1.heap.size, 2, none⟩ = some (.string o.team) := (hb2.cell (p := ⟨w1.heap.size, 2, none⟩) (by rw [hs1']; exact Nat.lt_succ_self _)).trans (by simp)
  have x3 : w2.cell? ⟨w1.heap.size, 3, none⟩ = some (.slice a1 n1 d1) := (hb2.cell (p := ⟨w1.heap.size, 3, none⟩) (by rw [hs1']; exact Nat.lt_succ_self _)).trans (by simp)
  have x4 : w2.cell? ⟨w1.heap.size, 4, none⟩ = some (.bool o.ending) := (hb2.cell (p := ⟨w1.heap.size, 4, none⟩) (by rw [hs1']; exact Nat.lt_succ_self _)).trans (by simp)
  have x5 : w2.cell? ⟨w1.heap.size, 5, none⟩ = some (.slice a2 n2 d2) := (hb2.cell (p := ⟨w1.heap.size, 5, none⟩) (by rw [hs1']; exact Nat.lt_succ_self _)).trans (by simp)
  have x6 : w2.cell? ⟨w1.heap.size, 6, none⟩ = some (.int .i64 o.version) := (hb2.cell (p := ⟨w1.heap.size, 6, none⟩) (by rw [hs1']; exact Nat.lt_succ_self _)).trans (by simp)
  have hfz := HR2.out.frozen
  obtain ⟨y0, hy0⟩ := HR2.out.cell 0 (by omega)
  obtain ⟨y1, hy1⟩ := HR2.out.cell 1 (by omega)
  obtain ⟨y2, hy2⟩ := HR2.out.cell 2 (by omega)
  obtain ⟨y3, hy3⟩ := HR2.out.cell 3 (by omega)
  obtain ⟨y4, hy4⟩ := HR2.out.cell 4 (by omega)
  obtain ⟨y5, hy5⟩ := HR2.out.cell 5 (by omega)
  obtain ⟨y6, hy6⟩ := HR2.out.cell 6 (by omega)
  obtain ⟨R, hR⟩ : ∃ R, R = hasFields ss o := ⟨_, rfl⟩
  rw [← hR] at hso ⊢
  have HRR : Hid (R = hasFields ss o) := hR
  have HI : Hid (FInv w w2 w1.heap.size mid o o.values (.slice a1 n1 d1) (.slice a2 n2 d2)) := ⟨HB2.out, HR2.out, hx2, x0, x1, x2, x3, x4, x5, x6, HC2.out.1, HC2.out.2.1, HC2.out.2.2.1, HC2.out.2.2.2⟩
  clear hR hb2 hs1' g0 g1 g2 g3 g4 g5 g6 hx HB1' HB1 HC1 HR1 HR0 HB0 HC2 HB2 HR2
  cases R
  · have HF : Hid (l2Vals ss o = o.values) := by show l2Vals ss o = o.values; unfold l2Vals; rw [← HRR.out]; simp
    clear hso
    go_wp2
    obtain ⟨r, _, t1, t2, t3, t4, t5⟩ := HI.out.out [.string o.kind, .string o.name, .string o.team, .slice a1 n1 d1, .bool o.ending, .slice a2 n2 d2, .int .i64 o.version] rfl
    have r0 : (((((((w2.setCell ⟨w.heap.size + 1, 0, none⟩ (.string o.kind)).setCell ⟨w.heap.size + 1, 1, none⟩ (.string o.name)).setCell ⟨w.heap.size + 1, 2, none⟩ (.string o.team)).setCell ⟨w.heap.size + 1, 3, none⟩ (.slice a1 n1 d1)).setCell ⟨w.heap.size + 1, 4, none⟩ (.bool o.ending)).setCell ⟨w.heap.size + 1, 5, none⟩ (.slice a2 n2 d2)).setCell ⟨w.heap.size + 1, 6, none⟩ (.int .i64 o.version)).cell? ⟨w.heap.size + 1, 0, none⟩ = some (.string o.kind) := r 0 (by omega)
    have r1 : (((((((w2.setCell ⟨w.heap.size + 1, 0, none⟩ (.string o.kind)).setCell ⟨w.heap.size + 1, 1, none⟩ (.string o.name)).setCell ⟨w.heap.size + 1, 2, none⟩ (.string o.team)).setCell ⟨w.heap.size + 1, 3, none⟩ (.slice a1 n1 d1)).setCell ⟨w.heap.size + 1, 4, none⟩ (.bool o.ending)).setCell ⟨w.heap.size + 1, 5, none⟩ (.slice a2 n2 d2)).setCell ⟨w.heap.size + 1, 6, none⟩ (.int .i64 o.version)).cell? ⟨w.heap.size + 1, 1, none⟩ = some (.string o.name) := r 1 (by omega)
    have r2 : (((((((w2.setCell ⟨w.heap.size + 1, 0, none⟩ (.string o.kind)).setCell ⟨w.heap.size + 1, 1, none⟩ (.string o.name)).setCell ⟨w.heap.size + 1, 2, none⟩ (.string o.team)).setCell ⟨w.heap.size + 1, 3, none⟩ (.slice a1 n1 d1)).setCell ⟨w.heap.size + 1, 4, none⟩ (.bool o.ending)).setCell ⟨w.heap.size + 1, 5, none⟩ (.slice a2 n2 d2)).setCell ⟨w.heap.size + 1, 6, none⟩ (.int .i64 o.version)).cell? ⟨w.heap.size + 1, 2, none⟩ = some (.string o.team) := r 2 (by omega)
    have r3 : (((((((w2.setCell ⟨w.heap.size + 1, 0, none⟩ (.string o.kind)).setCell ⟨w.heap.size + 1, 1, none⟩ (.string o.name)).setCell ⟨w.heap.size + 1, 2, none⟩ (.string o.team)).setCell ⟨w.heap.size + 1, 3, none⟩ (.slice a1 n1 d1)).setCell ⟨w.heap.size + 1, 4, none⟩ (.bool o.ending)).setCell ⟨w.heap.size + 1, 5, none⟩ (.slice a2 n2 d2)).setCell ⟨w.heap.size + 1, 6, none⟩ (.int .i64 o.version)).cell? ⟨w.heap.size + 1, 3, none⟩ = some (.slice a1 n1 d1) := r 3 (by omega)
    have r4 : (((((((w2.setCell ⟨w.heap.size + 1, 0, none⟩ (.string o.kind)).setCell ⟨w.heap.size + 1, 1, none⟩ (.string o.name)).setCell ⟨w.heap.size + 1, 2, none⟩ (.string o.team)).setCell ⟨w.heap.size + 1, 3, none⟩ (.slice a1 n1 d1)).setCell ⟨w.heap.size + 1, 4, none⟩ (.bool o.ending)).setCell ⟨w.heap.size + 1, 5, none⟩ (.slice a2 n2 d2)).setCell ⟨w.heap.size + 1, 6, none⟩ (.int .i64 o.version)).cell? ⟨w.heap.size + 1, 4, none⟩ = some (.bool o.ending) := r 4 (by omega)
    have r5 : (((((((w2.setCell ⟨w.heap.size + 1, 0, none⟩ (.string o.kind)).setCell ⟨w.heap.size + 1, 1, none⟩ (.string o.name)).setCell ⟨w.heap.size + 1, 2, none⟩ (.string o.team)).setCell ⟨w.heap.size + 1, 3, none⟩ (.slice a1 n1 d1)).setCell ⟨w.heap.size + 1, 4, none⟩ (.bool o.ending)).setCell ⟨w.heap.size + 1, 5, none⟩ (.slice a2 n2 d2)).setCell ⟨w.heap.size + 1, 6, none⟩ (.int .i64 o.version)).cell? ⟨w.heap.size + 1, 5, none⟩ = some (.slice a2 n2 d2) := r 5 (by omega)
    have r6 : (((((((w2.setCell ⟨w.heap.size + 1, 0, none⟩ (.string o.kind)).setCell ⟨w.heap.size + 1, 1, none⟩ (.string o.name)).setCell ⟨w.heap.size + 1, 2, none⟩ (.string o.team)).setCell ⟨w.heap.size + 1, 3, none⟩ (.slice a1 n1 d1)).setCell ⟨w.heap.size + 1, 4, none⟩ (.bool o.ending)).setCell ⟨w.heap.size + 1, 5, none⟩ (.slice a2 n2 d2)).setCell ⟨w.heap.size + 1, 6, none⟩ (.int .i64 o.version)).cell? ⟨w.heap.size + 1, 6, none⟩ = some (.int .i64 o.version) := r 6 (by omega)
    refine bodyPost_ret (v := .agg #[.string o.kind, .string o.name, .string o.team, .slice a1 n1 d1, .bool o.ending, .slice a2 n2 d2, .int .i64 o.version]) (by simp only [results, Tryz.results43]; simp [go_sem, r0, r1, r2, r3, r4, r5, r6]) rfl ⟨⟨_, _, _, _, _, _, mid, rfl, ?_, t2, t3, t4⟩, t5⟩
    rw [HF.out]; exact t1
  · obtain ⟨b, hv, hbl, hf⟩ := hso rfl
    have heq : o.values.length = (ss.getD (kindAt ss o.kind) Shp.none).fields.length := by have := HRR.out; unfold hasFields at this; have := (Bool.and_eq_true _ _).mp this.symm; exact of_decide_eq_true this.2
    obtain ⟨fs, hfs⟩ : ∃ fs, fs = (ss.getD (kindAt ss o.kind) Shp.none).fields := ⟨_, rfl⟩
    have HF : Hid (l2Vals ss o = fillTo o.values fs fs.length) := by show l2Vals ss o = _; unfold l2Vals; rw [← HRR.out, if_pos rfl, ← hfs]
    rw [← hfs] at hv hf heq
    injection hv with hv1 hv2 hv3
    subst hv1 hv2 hv3
    have HFl : Hid (b < w.heap.size ∧ ∀ i, i < fs.length → OwnFld w b (i * 11) (fs.getD i Fld.none)) := ⟨Nat.lt_of_lt_of_le hbl HA.out.1.2.size, fun i hi => (hf i hi).later HA.out.1.2 hbl⟩
    have hbw : b < w.heap.size := HFl.out.1
    have hfl : fs.length ≤ 1048576 := by omega
    clear hbl hf hfs hso HRR
    rcases HI.out.c1 with ⟨e1, e2⟩ | ⟨g, cap, e1, _, _, _, _, _⟩
    · injection e1 with e1 e3 e4
      subst e1 e3 e4
      have hfs0 : fs.length = 0 := by rw [← heq, e2]; rfl
      have HF' : Hid (l2Vals ss o = o.values) := by show l2Vals ss o = o.values; rw [HF.out, hfs0]; exact fillTo_zero _ _
      clear HF
      have HF := HF'
      clear HF' HFl
      go_wp2
      refine wp_loop_rounds 1 ?_
      rw [rounds_succ]
      go_wp2
      obtain ⟨r, _, t1, t2, t3, t4, t5⟩ := HI.out.out [.string o.kind, .string o.name, .string o.team, .slice none 0 0, .bool o.ending, .slice a2 n2 d2, .int .i64 o.version] rfl
      have r0 : (((((((w2.setCell ⟨w.heap.size + 1, 0, none⟩ (.string o.kind)).setCell ⟨w.heap.size + 1, 1, none⟩ (.string o.name)).setCell ⟨w.heap.size + 1, 2, none⟩ (.string o.team)).setCell ⟨w.heap.size + 1, 3, none⟩ (.slice none 0 0)).setCell ⟨w.heap.size + 1, 4, none⟩ (.bool o.ending)).setCell ⟨w.heap.size + 1, 5, none⟩ (.slice a2 n2 d2)).setCell ⟨w.heap.size + 1, 6, none⟩ (.int .i64 o.version)).cell? ⟨w.heap.size + 1, 0, none⟩ = some (.string o.kind) := r 0 (by omega)
      have r1 : (((((((w2.setCell ⟨w.heap.size + 1, 0, none⟩ (.string o.kind)).setCell ⟨w.heap.size + 1, 1, none⟩ (.string o.name)).setCell ⟨w.heap.size + 1, 2, none⟩ (.string o.team)).setCell ⟨w.heap.size + 1, 3, none⟩ (.slice none 0 0)).setCell ⟨w.heap.size + 1, 4, none⟩ (.bool o.ending)).setCell ⟨w.heap.size + 1, 5, none⟩ (.slice a2 n2 d2)).setCell ⟨w.heap.size + 1, 6, none⟩ (.int .i64 o.version)).cell? ⟨w.heap.size + 1, 1, none⟩ = some (.string o.name) := r 1 (by omega)
      have r2 : (((((((w2.setCell ⟨w.heap.size + 1, 0, none⟩ (.string o.kind)).setCell ⟨w.heap.size + 1, 1, none⟩ (.string o.name)).setCell ⟨w.heap.size + 1, 2, none⟩ (.string o.team)).setCell ⟨w.heap.size + 1, 3, none⟩ (.slice none 0 0)).setCell ⟨w.heap.size + 1, 4, none⟩ (.bool o.ending)).setCell ⟨w.heap.size + 1, 5, none⟩ (.slice a2 n2 d2)).setCell ⟨w.heap.size + 1, 6, none⟩ (.int .i64 o.version)).cell? ⟨w.heap.size + 1, 2, none⟩ = some (.string o.team) := r 2 (by omega)
      have r3 : (((((((w2.setCell ⟨w.heap.size + 1, 0, none⟩ (.string o.kind)).setCell ⟨w.heap.size + 1, 1, none⟩ (.string o.name)).setCell ⟨w.heap.size + 1, 2, none⟩ (.string o.team)).setCell ⟨w.heap.size + 1, 3, none⟩ (.slice none 0 0)).setCell ⟨w.heap.size + 1, 4, none⟩ (.bool o.ending)).setCell ⟨w.heap.size + 1, 5, none⟩ (.slice a2 n2 d2)).setCell ⟨w.heap.size + 1, 6, none⟩ (.int .i64 o.version)).cell? ⟨w.heap.size + 1, 3, none⟩ = some (.slice none 0 0) := r 3 (by omega)
      have r4 : (((((((w2.setCell ⟨w.heap.size + 1, 0, none⟩ (.string o.kind)).setCell ⟨w.heap.size + 1, 1, none⟩ (.string o.name)).setCell ⟨w.heap.size + 1, 2, none⟩ (.string o.team)).setCell ⟨w.heap.size + 1, 3, none⟩ (.slice none 0 0)).setCell ⟨w.heap.size + 1, 4, none⟩ (.bool o.ending)).setCell ⟨w.heap.size + 1, 5, none⟩ (.slice a2 n2 d2)).setCell ⟨w.heap.size + 1, 6, none⟩ (.int .i64 o.version)).cell? ⟨w.heap.size + 1, 4, none⟩ = some (.bool o.ending) := r 4 (by omega)
      have r5 : (((((((w2.setCell ⟨w.heap.size + 1, 0, none⟩ (.string o.kind)).setCell ⟨w.heap.size + 1, 1, none⟩ (.string o.name)).setCell ⟨w.heap.size + 1, 2, none⟩ (.string o.team)).setCell ⟨w.heap.size + 1, 3, none⟩ (.slice none 0 0)).setCell ⟨w.heap.size + 1, 4, none⟩ (.bool o.ending)).setCell ⟨w.heap.size + 1, 5, none⟩ (.slice a2 n2 d2)).setCell ⟨w.heap.size + 1, 6, none⟩ (.int .i64 o.version)).cell? ⟨w.heap.size + 1, 5, none⟩ = some (.slice a2 n2 d2) := r 5 (by omega)
      have r6 : (((((((w2.setCell ⟨w.heap.size + 1, 0, none⟩ (.string o.kind)).setCell ⟨w.heap.size + 1, 1, none⟩ (.string o.name)).setCell ⟨w.heap.size + 1, 2, none⟩ (.string o.team)).setCell ⟨w.heap.size + 1, 3, none⟩ (.slice none 0 0)).setCell ⟨w.heap.size + 1, 4, none⟩ (.bool o.ending)).setCell ⟨w.heap.size + 1, 5, none⟩ (.slice a2 n2 d2)).setCell ⟨w.heap.size + 1, 6, none⟩ (.int .i64 o.version)).cell? ⟨w.heap.size + 1, 6, none⟩ = some (.int .i64 o.version) := r 6 (by omega)
      refine bodyPost_ret (v := .agg #[.string o.kind, .string o.name, .string o.team, .slice none 0 0, .bool o.ending, .slice a2 n2 d2, .int .i64 o.version]) (by simp only [results, Tryz.results43]; simp [go_sem, r0, r1, r2, r3, r4, r5, r6]) rfl ⟨⟨_, _, _, _, _, _, mid, rfl, ?_, t2, t3, t4⟩, t5⟩
      rw [HF.out]; exact t1
    · injection e1 with e1 e3 e4
      subst e1 e3 e4
      have HI0 : Hid (FInv w w2 w1.heap.size mid o (fillTo o.values fs 0) (.slice (some ⟨g, 0, none⟩) fs.length d1) (.slice a2 n2 d2)) := by
        show FInv _ _ _ _ _ _ _ _
        rw [fillTo_zero, ← heq]; exact HI.out
      have HQ : Hid (o.values.length = fs.length) := heq
      clear HI heq
      go_wp2
      clear x0 x1 x2 x3 x4 x5 x6 hfz hy0 hy1 hy2 hy3 hy4 hy5 hy6
      go_loopw [8] (fun i wr => ∃ q : Nat, q ≤ fs.length ∧ i = .int .i64 q ∧ FInv w wr w1.heap.size mid o (fillTo o.values fs q) (.slice (some ⟨g, 0, none⟩) fs.length d1) (.slice a2 n2 d2)) (fun i _ => fs.length - (intOf i).toNat)
      case atStart => exact ⟨0, Nat.zero_le _, rfl, HI0.out⟩
      case round =>
        obtain ⟨q, hq, rfl, hI⟩ := hrel
        have HI : Hid (FInv w wr w1.heap.size mid o (fillTo o.values fs q) (.slice (some ⟨g, 0, none⟩) fs.length d1) (.slice a2 n2 d2)) := hI
        have z1 := hI.lt
        have x0 := hI.x0
        have x1 := hI.x1
        have x2 := hI.x2
        have x3 := hI.x3
        have x4 := hI.x4
        have x5 := hI.x5
        have x6 := hI.x6
        clear hI
        by_cases hlt : q < fs.length
        · obtain ⟨f, hf⟩ : ∃ f, f = fs.getD q Fld.none := ⟨_, rfl⟩
          obtain ⟨bw, _, _, hfi⟩ := HFl.out.2 q hlt
          rw [← hf] at hfi
          have f9 := (HI.out.bel.cell (p := ⟨b, q * 11 + 9, none⟩) HFl.out.1).trans hfi.c9
          have hbr : b < wr.heap.size := Nat.lt_of_lt_of_le HFl.out.1 HI.out.bel.size
          obtain ⟨g1, g2, g3, g4, g5, g6⟩ := HI.out.c1.row
          have hqv : q < o.values.length := by have := HQ.out; omega
          have u0 := g6 q (by rw [fillTo_len]; exact hqv)
          rw [fillTo_now _ _ _ hqv] at u0
          have hgz := g3.frozen
          have hgl := g3.lt
          obtain ⟨u, hu⟩ : ∃ u, u = o.values.getD q ByteArray.empty := ⟨_, rfl⟩
          rw [← hu] at u0
          have HU : Hid (u = o.values.getD q ByteArray.empty ∧ f = fs.getD q Fld.none) := ⟨hu, hf⟩
          have HV : Hid (q < o.values.length) := hqv
          have HI2 : Hid (FInv w wr w1.heap.size mid o (fillTo o.values fs q) (.slice (some ⟨g, 0, none⟩) o.values.length d1) (.slice a2 n2 d2)) := by show FInv _ _ _ _ _ _ _ _; rw [HQ.out]; exact HI.out
          clear hfi hf hu g6 g5 g4 g3 hqv HI
          cases hem : u.toList.isEmpty
          · have HN : Hid (FInv w wr w1.heap.size mid o (fillTo o.values fs (q + 1)) (.slice (some ⟨g, 0, none⟩) fs.length d1) (.slice a2 n2 d2)) := by have := HI2.out.keep HV.out (by rw [← HU.out.1]; exact hem); rw [HQ.out] at this; exact this
            clear HI2
            go_wp2
            go_roundw
            case rel => exact ⟨q + 1, by omega, by go_num, HN.out⟩
            case measure => simp [intOf]; omega
          · have HN : Hid (FInv w (wr.setCell ⟨g, q, none⟩ (.string f.de)) w1.heap.size mid o (fillTo o.values fs (q + 1)) (.slice (some ⟨g, 0, none⟩) fs.length d1) (.slice a2 n2 d2)) := by
              have := HI2.out.put HV.out (by rw [← HU.out.1]; exact hem); rw [HQ.out, ← HU.out.2] at this; exact this
            clear HI2
            go_wp2_with fail
            go_region
            all_goals
              go_wp2
              go_roundw
              case measure => simp [intOf]; omega
              case rel => exact ⟨q + 1, by omega, by go_num, HN.out.later (Below.refl _ _).drew⟩
        · obtain rfl : q = fs.length := by omega
          have hR := HI.out.own
          have hfz := hR.frozen
          have z2 := hR.lt
          obtain ⟨y0, hy0⟩ := hR.cell 0 (by omega)
          obtain ⟨y1, hy1⟩ := hR.cell 1 (by omega)
          obtain ⟨y2, hy2⟩ := hR.cell 2 (by omega)
          obtain ⟨y3, hy3⟩ := hR.cell 3 (by omega)
          obtain ⟨y4, hy4⟩ := hR.cell 4 (by omega)
          obtain ⟨y5, hy5⟩ := hR.cell 5 (by omega)
          obtain ⟨y6, hy6⟩ := hR.cell 6 (by omega)
          clear hR
          go_wp2
          obtain ⟨r, _, t1, t2, t3, t4, t5⟩ := HI.out.out [.string o.kind, .string o.name, .string o.team, .slice (some ⟨g, 0, none⟩) fs.length d1, .bool o.ending, .slice a2 n2 d2, .int .i64 o.version] rfl
          have r0 : (((((((wr.setCell ⟨w.heap.size + 1, 0, none⟩ (.string o.kind)).setCell ⟨w.heap.size + 1, 1, none⟩ (.string o.name)).setCell ⟨w.heap.size + 1, 2, none⟩ (.string o.team)).setCell ⟨w.heap.size + 1, 3, none⟩ (.slice (some ⟨g, 0, none⟩) fs.length d1)).setCell ⟨w.heap.size + 1, 4, none⟩ (.bool o.ending)).setCell ⟨w.heap.size + 1, 5, none⟩ (.slice a2 n2 d2)).setCell ⟨w.heap.size + 1, 6, none⟩ (.int .i64 o.version)).cell? ⟨w.heap.size + 1, 0, none⟩ = some (.string o.kind) := r 0 (by omega)
          have r1 : (((((((wr.setCell ⟨w.heap.size + 1, 0, none⟩ (.string o.kind)).setCell ⟨w.heap.size + 1, 1, none⟩ (.string o.name)).setCell ⟨w.heap.size + 1, 2, none⟩ (.string o.team)).setCell ⟨w.heap.size + 1, 3, none⟩ (.slice (some ⟨g, 0, none⟩) fs.length d1)).setCell ⟨w.heap.size + 1, 4, none⟩ (.bool o.ending)).setCell ⟨w.heap.size + 1, 5, none⟩ (.slice a2 n2 d2)).setCell ⟨w.heap.size + 1, 6, none⟩ (.int .i64 o.version)).cell? ⟨w.heap.size + 1, 1, none⟩ = some (.string o.name) := r 1 (by omega)
          have r2 : (((((((wr.setCell ⟨w.heap.size + 1, 0, none⟩ (.string o.kind)).setCell ⟨w.heap.size + 1, 1, none⟩ (.string o.name)).setCell ⟨w.heap.size + 1, 2, none⟩ (.string o.team)).setCell ⟨w.heap.size + 1, 3, none⟩ (.slice (some ⟨g, 0, none⟩) fs.length d1)).setCell ⟨w.heap.size + 1, 4, none⟩ (.bool o.ending)).setCell ⟨w.heap.size + 1, 5, none⟩ (.slice a2 n2 d2)).setCell ⟨w.heap.size + 1, 6, none⟩ (.int .i64 o.version)).cell? ⟨w.heap.size + 1, 2, none⟩ = some (.string o.team) := r 2 (by omega)
          have r3 : (((((((wr.setCell ⟨w.heap.size + 1, 0, none⟩ (.string o.kind)).setCell ⟨w.heap.size + 1, 1, none⟩ (.string o.name)).setCell ⟨w.heap.size + 1, 2, none⟩ (.string o.team)).setCell ⟨w.heap.size + 1, 3, none⟩ (.slice (some ⟨g, 0, none⟩) fs.length d1)).setCell ⟨w.heap.size + 1, 4, none⟩ (.bool o.ending)).setCell ⟨w.heap.size + 1, 5, none⟩ (.slice a2 n2 d2)).setCell ⟨w.heap.size + 1, 6, none⟩ (.int .i64 o.version)).cell? ⟨w.heap.size + 1, 3, none⟩ = some (.slice (some ⟨g, 0, none⟩) fs.length d1) := r 3 (by omega)
          have r4 : (((((((wr.setCell ⟨w.heap.size + 1, 0, none⟩ (.string o.kind)).setCell ⟨w.heap.size + 1, 1, none⟩ (.string o.name)).setCell ⟨w.heap.size + 1, 2, none⟩ (.string o.team)).setCell ⟨w.heap.size + 1, 3, none⟩ (.slice (some ⟨g, 0, none⟩) fs.length d1)).setCell ⟨w.heap.size + 1, 4, none⟩ (.bool o.ending)).setCell ⟨w.heap.size + 1, 5, none⟩ (.slice a2 n2 d2)).setCell ⟨w.heap.size + 1, 6, none⟩ (.int .i64 o.version)).cell? ⟨w.heap.size + 1, 4, none⟩ = some (.bool o.ending) := r 4 (by omega)
          have r5 : (((((((wr.setCell ⟨w.heap.size + 1, 0, none⟩ (.string o.kind)).setCell ⟨w.heap.size + 1, 1, none⟩ (.string o.name)).setCell ⟨w.heap.size + 1, 2, none⟩ (.string o.team)).setCell ⟨w.heap.size + 1, 3, none⟩ (.slice (some ⟨g, 0, none⟩) fs.length d1)).setCell ⟨w.heap.size + 1, 4, none⟩ (.bool o.ending)).setCell ⟨w.heap.size + 1, 5, none⟩ (.slice a2 n2 d2)).setCell ⟨w.heap.size + 1, 6, none⟩ (.int .i64 o.version)).cell? ⟨w.heap.size + 1, 5, none⟩ = some (.slice a2 n2 d2) := r 5 (by omega)
          have r6 : (((((((wr.setCell ⟨w.heap.size + 1, 0, none⟩ (.string o.kind)).setCell ⟨w.heap.size + 1, 1, none⟩ (.string o.name)).setCell ⟨w.heap.size + 1, 2, none⟩ (.string o.team)).setCell ⟨w.heap.size + 1, 3, none⟩ (.slice (some ⟨g, 0, none⟩) fs.length d1)).setCell ⟨w.heap.size + 1, 4, none⟩ (.bool o.ending)).setCell ⟨w.heap.size + 1, 5, none⟩ (.slice a2 n2 d2)).setCell ⟨w.heap.size + 1, 6, none⟩ (.int .i64 o.version)).cell? ⟨w.heap.size + 1, 6, none⟩ = some (.int .i64 o.version) := r 6 (by omega)
          refine bodyPost_ret (v := .agg #[.string o.kind, .string o.name, .string o.team, .slice (some ⟨g, 0, none⟩) fs.length d1, .bool o.ending, .slice a2 n2 d2, .int .i64 o.version]) (by simp only [results, Tryz.results43]; simp [go_sem, r0, r1, r2, r3, r4, r5, r6]) rfl ⟨⟨_, _, _, _, _, _, mid, rfl, ?_, t2, t3, t4⟩, t5⟩
          rw [HF.out]; exact t1
end Go.Proofs.YtfdahoekjpobaaaGreat
