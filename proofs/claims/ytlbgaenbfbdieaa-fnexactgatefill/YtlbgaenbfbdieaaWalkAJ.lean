/-
  Walks: GateFill: the program.
-/
import Derived.Test.YtlbgaenbfbdieaaWalkAI
namespace Go.Proofs.Ytlbgaenbfbdieaa
open Go.RowKit Go.Deep

set_option maxHeartbeats 4000000 in
theorem fillI (B : Nat) (ss : List Shp) (o : Ob) (b1 c1 b2 c2 : Nat) (w : World) (h : ShpsIn w B ss) (ho : ObArg w b1 b2 o) :
    Calls Try.prog 19 #[.slice (some ⟨B, 0, none⟩) ss.length ss.length, .agg #[.string o.kind, .string o.name, .string o.team, .slice (some ⟨b1, 0, none⟩) o.values.length c1, .bool o.ending, .slice (some ⟨b2, 0, none⟩) o.holds.length c2, .int .i64 o.version]] w fun e w' => (∃ a1 n1 d1 a2 n2 d2 mid, e = .returned (.agg #[.string o.kind, .string o.name, .string o.team, .slice a1 n1 d1, .bool o.ending, .slice a2 n2 d2, .int .i64 o.version]) ∧ CT w' w.heap.size mid (.slice a1 n1 d1) (fillOb ss o).values ∧ CT w' mid w'.heap.size (.slice a2 n2 d2) o.holds ∧ w.heap.size ≤ mid ∧ mid ≤ w'.heap.size) ∧ Below w.heap.size w w' := by
  have HA : Hid (ShpsIn w B ss ∧ ObArg w b1 b2 o) := ⟨h, ho⟩
  have hl := h.len
  have hl1 := ho.len1
  clear h ho
  have HB0 : Hid (Below w.heap.size w ((w.alloc (.cells #[.string o.kind, .string o.name, .string o.team, .slice (some ⟨b1, 0, none⟩) o.values.length c1, .bool o.ending, .slice (some ⟨b2, 0, none⟩) o.holds.length c2, .int .i64 o.version] 41)).alloc (.cells #[.string ⟨#[]⟩, .string ⟨#[]⟩, .string ⟨#[]⟩, .slice none 0 0, .bool false, .slice none 0 0, .int .i64 0] 41))) := blw_alloc (blw_alloc (Below.refl _ _) _) _
  have HR0 : Hid (OwnBlk ((w.alloc (.cells #[.string o.kind, .string o.name, .string o.team, .slice (some ⟨b1, 0, none⟩) o.values.length c1, .bool o.ending, .slice (some ⟨b2, 0, none⟩) o.holds.length c2, .int .i64 o.version] 41)).alloc (.cells #[.string ⟨#[]⟩, .string ⟨#[]⟩, .string ⟨#[]⟩, .slice none 0 0, .bool false, .slice none 0 0, .int .i64 0] 41)) (w.heap.size + 1) 41 7) := OwnBlk.alloc_at _ _ 41 7 _ rfl (by simp)
  go_enter Try.func19, Try.ntmps19
  go_wp2_with fail
  refine (copyObj o b1 c1 b2 c2 _ (HA.out.2.later HB0.out)).mono ?_
  rintro e w1 ⟨⟨a1, n1, d1, a2, n2, d2, mid, rfl, hct1, hct2, hm1, hm2⟩, hb1⟩
  have hs0 : ((w.alloc (.cells #[.string o.kind, .string o.name, .string o.team, .slice (some ⟨b1, 0, none⟩) o.values.length c1, .bool o.ending, .slice (some ⟨b2, 0, none⟩) o.holds.length c2, .int .i64 o.version] 41)).alloc (.cells #[.string ⟨#[]⟩, .string ⟨#[]⟩, .string ⟨#[]⟩, .slice none 0 0, .bool false, .slice none 0 0, .int .i64 0] 41)).heap.size = w.heap.size + 2 := by simp
  have hs1 : w.heap.size + 2 ≤ w1.heap.size := by have := hb1.size; rw [hs0] at this; exact this
  have HC1 : Hid (CT w1 (w.heap.size + 2) mid (.slice a1 n1 d1) o.values ∧ CT w1 mid w1.heap.size (.slice a2 n2 d2) o.holds ∧ w.heap.size + 2 ≤ mid ∧ mid ≤ w1.heap.size) := by
    rw [hs0] at hct1 hm1
    exact ⟨hct1, hct2, hm1, hm2⟩
  have HB1 : Hid (Below w.heap.size w w1) := blw_trans HB0.out hb1
  have HR1 : Hid (OwnBlk w1 (w.heap.size + 1) 41 7) := HR0.out.later hb1
  have g0 : w1.cell? ⟨w.heap.size, 0, none⟩ = some (.string o.kind) := (hb1.cell (p := ⟨w.heap.size, 0, none⟩) (by rw [hs0]; show w.heap.size < w.heap.size + 2; omega)).trans (by simp)
  have g3 : w1.cell? ⟨w.heap.size, 3, none⟩ = some (.slice (some ⟨b1, 0, none⟩) o.values.length c1) := (hb1.cell (p := ⟨w.heap.size, 3, none⟩) (by rw [hs0]; show w.heap.size < w.heap.size + 2; omega)).trans (by simp)
  have hx : w.heap.size < w1.heap.size := by omega
  clear hct1 hct2 hm1 hm2 hb1 hs0
  have HB1' : Hid (Below w.heap.size w (w1.alloc (.cells #[.string o.kind, .string o.name, .string o.team, .slice a1 n1 d1, .bool o.ending, .slice a2 n2 d2, .int .i64 o.version] 41))) := blw_alloc HB1.out _
  go_wp2_with fail
  refine (okShapeOf w B ss o.kind _ HA.out.1 HB1'.out).mono ?_
  rintro e w2 ⟨kd, a, n, c, rfl, hso, hb2⟩
  have hs1' : (w1.alloc (.cells #[.string o.kind, .string o.name, .string o.team, .slice a1 n1 d1, .bool o.ending, .slice a2 n2 d2, .int .i64 o.version] 41)).heap.size = w1.heap.size + 1 := by simp
  have hs2 : w1.heap.size + 1 ≤ w2.heap.size := by have := hb2.size; rw [hs1'] at this; exact this
  have hx2 : w1.heap.size < w2.heap.size := by omega
  have hx3 : w.heap.size < w2.heap.size := by omega
  have hx4 : w.heap.size + 1 < w2.heap.size := by omega
  have HC2 : Hid (CT w2 (w.heap.size + 2) mid (.slice a1 n1 d1) o.values ∧ CT w2 mid w1.heap.size (.slice a2 n2 d2) o.holds ∧ w.heap.size + 2 ≤ mid ∧ mid ≤ w1.heap.size) :=
    ⟨(HC1.out.1.later (blw_alloc (Below.refl _ _) _)).later hb2, (HC1.out.2.1.later (blw_alloc (Below.refl _ _) _)).later hb2, HC1.out.2.2⟩
  have HB2 : Hid (Below w.heap.size w w2) := blw_trans HB1'.out hb2
  have HR2 : Hid (OwnBlk w2 (w.heap.size + 1) 41 7) := (HR1.out.past _).later hb2
  have k3 : w2.cell? ⟨w.heap.size, 3, none⟩ = some (.slice (some ⟨b1, 0, none⟩) o.values.length c1) := ((hb2.cell (p := ⟨w.heap.size, 3, none⟩) (by rw [hs1']; show w.heap.size < w1.heap.size + 1; omega)).trans (World.cell?_alloc_past _ _ _ hx)).trans g3
  have x0 : w2.cell? ⟨w1.heap.size, 0, none⟩ = some (.string o.kind) := (hb2.cell (p := ⟨w1.heap.size, 0, none⟩) (by rw [hs1']; exact Nat.lt_succ_self _)).trans (by simp)
  have x1 : w2.cell? ⟨w1.heap.size, 1, none⟩ = some (.string o.name) := (hb2.cell (p := ⟨w1.heap.size, 1, none⟩) (by rw [hs1']; exact Nat.lt_succ_self _)).trans (by simp)
  have x2 : w2.cell? ⟨w1.heap.size, 2, none⟩ = some (.string o.team) := (hb2.cell (p := ⟨w1.heap.size, 2, none⟩) (by rw [hs1']; exact Nat.lt_succ_self _)).trans (by simp)
  have x3 : w2.cell? ⟨w1.heap.size, 3, none⟩ = some (.slice a1 n1 d1) := (hb2.cell (p := ⟨w1.heap.size, 3, none⟩) (by rw [hs1']; exact Nat.lt_succ_self _)).trans (by simp)
  have x4 : w2.cell? ⟨w1.heap.size, 4, none⟩ = some (.bool o.ending) := (hb2.cell (p := ⟨w1.heap.size, 4, none⟩) (by rw [hs1']; exact Nat.lt_succ_self _)).trans (by simp)
  have x5 : w2.cell? ⟨w1.heap.size, 5, none⟩ = some (.slice a2 n2 d2) := (hb2.cell (p := ⟨w1.heap.size, 5, none⟩) (by rw [hs1']; exact Nat.lt_succ_self _)).trans (by simp)
  have x6 : w2.cell? ⟨w1.heap.size, 6, none⟩ = some (.int .i64 o.version) := (hb2.cell (p := ⟨w1.heap.size, 6, none⟩) (by rw [hs1']; exact Nat.lt_succ_self _)).trans (by simp)
  have hfz := HR2.out.frozen
  obtain ⟨y0, hy0⟩ := HR2.out.cell 0 (by omega)
  obtain ⟨y1, hy1⟩ := HR2.out.cell 1 (by omega)
  obtain ⟨y2, hy2⟩ := HR2.out.cell 2 (by omega)
  obtain ⟨y3, hy3⟩ := HR2.out.cell 3 (by omega)
  obtain ⟨y4, hy4⟩ := HR2.out.cell 4 (by omega)
  obtain ⟨y5, hy5⟩ := HR2.out.cell 5 (by omega)
  obtain ⟨y6, hy6⟩ := HR2.out.cell 6 (by omega)
  obtain ⟨R, hR⟩ : ∃ R, R = (shapesOk ss && hasKind ss o.kind) := ⟨_, rfl⟩
  rw [← hR] at hso ⊢
  have HSO : Hid (R = true → ShapeOf ss o.kind w kd (.slice a n c)) := hso
  have HRR : Hid (R = (shapesOk ss && hasKind ss o.kind)) := hR
  clear hso hR hb2 hs1' g0 g3 hx HB1' HB1 HC1 HR1 HR0 HB0
  have HI : Hid (FInv w w2 w1.heap.size mid o o.values (.slice a1 n1 d1) (.slice a2 n2 d2)) := ⟨HB2.out, HR2.out, hx2, x0, x1, x2, x3, x4, x5, x6, HC2.out.1, HC2.out.2.1, HC2.out.2.2.1, HC2.out.2.2.2⟩
  clear HC2 HB2 HR2
  cases R
  · have HF : Hid ((fillOb ss o).values = o.values) := by show (fillOb ss o).values = o.values; unfold fillOb; rw [← HRR.out]; simp
    go_wp2
    obtain ⟨r, t1, t2, t3, t4, t5⟩ := HI.out.outA [.string o.kind, .string o.name, .string o.team, .slice a1 n1 d1, .bool o.ending, .slice a2 n2 d2, .int .i64 o.version] rfl (.cells #[.string kd, .slice a n c] 66)
    have r0 : ((((((((w2.setCell ⟨w.heap.size + 1, 0, none⟩ (.string o.kind)).setCell ⟨w.heap.size + 1, 1, none⟩ (.string o.name)).setCell ⟨w.heap.size + 1, 2, none⟩ (.string o.team)).setCell ⟨w.heap.size + 1, 3, none⟩ (.slice a1 n1 d1)).setCell ⟨w.heap.size + 1, 4, none⟩ (.bool o.ending)).setCell ⟨w.heap.size + 1, 5, none⟩ (.slice a2 n2 d2)).setCell ⟨w.heap.size + 1, 6, none⟩ (.int .i64 o.version)).alloc (.cells #[.string kd, .slice a n c] 66)).cell? ⟨w.heap.size + 1, 0, none⟩ = some (.string o.kind) := r 0 (by omega)
    have r1 : ((((((((w2.setCell ⟨w.heap.size + 1, 0, none⟩ (.string o.kind)).setCell ⟨w.heap.size + 1, 1, none⟩ (.string o.name)).setCell ⟨w.heap.size + 1, 2, none⟩ (.string o.team)).setCell ⟨w.heap.size + 1, 3, none⟩ (.slice a1 n1 d1)).setCell ⟨w.heap.size + 1, 4, none⟩ (.bool o.ending)).setCell ⟨w.heap.size + 1, 5, none⟩ (.slice a2 n2 d2)).setCell ⟨w.heap.size + 1, 6, none⟩ (.int .i64 o.version)).alloc (.cells #[.string kd, .slice a n c] 66)).cell? ⟨w.heap.size + 1, 1, none⟩ = some (.string o.name) := r 1 (by omega)
    have r2 : ((((((((w2.setCell ⟨w.heap.size + 1, 0, none⟩ (.string o.kind)).setCell ⟨w.heap.size + 1, 1, none⟩ (.string o.name)).setCell ⟨w.heap.size + 1, 2, none⟩ (.string o.team)).setCell ⟨w.heap.size + 1, 3, none⟩ (.slice a1 n1 d1)).setCell ⟨w.heap.size + 1, 4, none⟩ (.bool o.ending)).setCell ⟨w.heap.size + 1, 5, none⟩ (.slice a2 n2 d2)).setCell ⟨w.heap.size + 1, 6, none⟩ (.int .i64 o.version)).alloc (.cells #[.string kd, .slice a n c] 66)).cell? ⟨w.heap.size + 1, 2, none⟩ = some (.string o.team) := r 2 (by omega)
    have r3 : ((((((((w2.setCell ⟨w.heap.size + 1, 0, none⟩ (.string o.kind)).setCell ⟨w.heap.size + 1, 1, none⟩ (.string o.name)).setCell ⟨w.heap.size + 1, 2, none⟩ (.string o.team)).setCell ⟨w.heap.size + 1, 3, none⟩ (.slice a1 n1 d1)).setCell ⟨w.heap.size + 1, 4, none⟩ (.bool o.ending)).setCell ⟨w.heap.size + 1, 5, none⟩ (.slice a2 n2 d2)).setCell ⟨w.heap.size + 1, 6, none⟩ (.int .i64 o.version)).alloc (.cells #[.string kd, .slice a n c] 66)).cell? ⟨w.heap.size + 1, 3, none⟩ = some (.slice a1 n1 d1) := r 3 (by omega)
    have r4 : ((((((((w2.setCell ⟨w.heap.size + 1, 0, none⟩ (.string o.kind)).setCell ⟨w.heap.size + 1, 1, none⟩ (.string o.name)).setCell ⟨w.heap.size + 1, 2, none⟩ (.string o.team)).setCell ⟨w.heap.size + 1, 3, none⟩ (.slice a1 n1 d1)).setCell ⟨w.heap.size + 1, 4, none⟩ (.bool o.ending)).setCell ⟨w.heap.size + 1, 5, none⟩ (.slice a2 n2 d2)).setCell ⟨w.heap.size + 1, 6, none⟩ (.int .i64 o.version)).alloc (.cells #[.string kd, .slice a n c] 66)).cell? ⟨w.heap.size + 1, 4, none⟩ = some (.bool o.ending) := r 4 (by omega)
    have r5 : ((((((((w2.setCell ⟨w.heap.size + 1, 0, none⟩ (.string o.kind)).setCell ⟨w.heap.size + 1, 1, none⟩ (.string o.name)).setCell ⟨w.heap.size + 1, 2, none⟩ (.string o.team)).setCell ⟨w.heap.size + 1, 3, none⟩ (.slice a1 n1 d1)).setCell ⟨w.heap.size + 1, 4, none⟩ (.bool o.ending)).setCell ⟨w.heap.size + 1, 5, none⟩ (.slice a2 n2 d2)).setCell ⟨w.heap.size + 1, 6, none⟩ (.int .i64 o.version)).alloc (.cells #[.string kd, .slice a n c] 66)).cell? ⟨w.heap.size + 1, 5, none⟩ = some (.slice a2 n2 d2) := r 5 (by omega)
    have r6 : ((((((((w2.setCell ⟨w.heap.size + 1, 0, none⟩ (.string o.kind)).setCell ⟨w.heap.size + 1, 1, none⟩ (.string o.name)).setCell ⟨w.heap.size + 1, 2, none⟩ (.string o.team)).setCell ⟨w.heap.size + 1, 3, none⟩ (.slice a1 n1 d1)).setCell ⟨w.heap.size + 1, 4, none⟩ (.bool o.ending)).setCell ⟨w.heap.size + 1, 5, none⟩ (.slice a2 n2 d2)).setCell ⟨w.heap.size + 1, 6, none⟩ (.int .i64 o.version)).alloc (.cells #[.string kd, .slice a n c] 66)).cell? ⟨w.heap.size + 1, 6, none⟩ = some (.int .i64 o.version) := r 6 (by omega)
    refine bodyPost_ret (v := .agg #[.string o.kind, .string o.name, .string o.team, .slice a1 n1 d1, .bool o.ending, .slice a2 n2 d2, .int .i64 o.version]) (by simp only [results, Try.results19]; simp [go_sem, r0, r1, r2, r3, r4, r5, r6]) rfl ⟨⟨_, _, _, _, _, _, mid, rfl, ?_, t2, t3, t4⟩, t5⟩
    rw [HF.out]; exact t1
  · have hk : hasKind ss o.kind = true := by have := HRR.out; cases hh : hasKind ss o.kind <;> simp [hh] at this ⊢
    obtain ⟨hkd, b, hv, hbl, hf⟩ := HSO.out rfl hk
    have HRT : Hid ((shapesOk ss && hasKind ss o.kind) = true) := HRR.out.symm
    obtain ⟨fs, hfs⟩ : ∃ fs, fs = (ss.getD (kindAt ss o.kind) Shp.none).fields := ⟨_, rfl⟩
    rw [← hfs] at hv hf
    injection hv with hv1 hv2 hv3
    subst hv1 hv2 hv3
    have HFl : Hid (b < w.heap.size ∧ ∀ i, i < fs.length → OwnFld w b (i * 11) (fs.getD i Fld.none)) := ⟨hbl, hf⟩
    have HFs : Hid (fs = (ss.getD (kindAt ss o.kind) Shp.none).fields) := hfs
    clear hbl hf hkd hfs HSO HRR hk
    by_cases heq : o.values.length = fs.length
    case neg =>
      have HF : Hid ((fillOb ss o).values = o.values) := by show (fillOb ss o).values = o.values; unfold fillOb; rw [← HFs.out, if_neg (by intro hh; exact heq hh.2)]
      have hne : decide ((o.values.length : Int) = (fs.length : Int)) = false := by simp; omega
      go_wp2
      obtain ⟨r, t1, t2, t3, t4, t5⟩ := HI.out.outA [.string o.kind, .string o.name, .string o.team, .slice a1 n1 d1, .bool o.ending, .slice a2 n2 d2, .int .i64 o.version] rfl (.cells #[.string kd, .slice (some ⟨b, 0, none⟩) fs.length fs.length] 66)
      have r0 : ((((((((w2.setCell ⟨w.heap.size + 1, 0, none⟩ (.string o.kind)).setCell ⟨w.heap.size + 1, 1, none⟩ (.string o.name)).setCell ⟨w.heap.size + 1, 2, none⟩ (.string o.team)).setCell ⟨w.heap.size + 1, 3, none⟩ (.slice a1 n1 d1)).setCell ⟨w.heap.size + 1, 4, none⟩ (.bool o.ending)).setCell ⟨w.heap.size + 1, 5, none⟩ (.slice a2 n2 d2)).setCell ⟨w.heap.size + 1, 6, none⟩ (.int .i64 o.version)).alloc (.cells #[.string kd, .slice (some ⟨b, 0, none⟩) fs.length fs.length] 66)).cell? ⟨w.heap.size + 1, 0, none⟩ = some (.string o.kind) := r 0 (by omega)
      have r1 : ((((((((w2.setCell ⟨w.heap.size + 1, 0, none⟩ (.string o.kind)).setCell ⟨w.heap.size + 1, 1, none⟩ (.string o.name)).setCell ⟨w.heap.size + 1, 2, none⟩ (.string o.team)).setCell ⟨w.heap.size + 1, 3, none⟩ (.slice a1 n1 d1)).setCell ⟨w.heap.size + 1, 4, none⟩ (.bool o.ending)).setCell ⟨w.heap.size + 1, 5, none⟩ (.slice a2 n2 d2)).setCell ⟨w.heap.size + 1, 6, none⟩ (.int .i64 o.version)).alloc (.cells #[.string kd, .slice (some ⟨b, 0, none⟩) fs.length fs.length] 66)).cell? ⟨w.heap.size + 1, 1, none⟩ = some (.string o.name) := r 1 (by omega)
      have r2 : ((((((((w2.setCell ⟨w.heap.size + 1, 0, none⟩ (.string o.kind)).setCell ⟨w.heap.size + 1, 1, none⟩ (.string o.name)).setCell ⟨w.heap.size + 1, 2, none⟩ (.string o.team)).setCell ⟨w.heap.size + 1, 3, none⟩ (.slice a1 n1 d1)).setCell ⟨w.heap.size + 1, 4, none⟩ (.bool o.ending)).setCell ⟨w.heap.size + 1, 5, none⟩ (.slice a2 n2 d2)).setCell ⟨w.heap.size + 1, 6, none⟩ (.int .i64 o.version)).alloc (.cells #[.string kd, .slice (some ⟨b, 0, none⟩) fs.length fs.length] 66)).cell? ⟨w.heap.size + 1, 2, none⟩ = some (.string o.team) := r 2 (by omega)
      have r3 : ((((((((w2.setCell ⟨w.heap.size + 1, 0, none⟩ (.string o.kind)).setCell ⟨w.heap.size + 1, 1, none⟩ (.string o.name)).setCell ⟨w.heap.size + 1, 2, none⟩ (.string o.team)).setCell ⟨w.heap.size + 1, 3, none⟩ (.slice a1 n1 d1)).setCell ⟨w.heap.size + 1, 4, none⟩ (.bool o.ending)).setCell ⟨w.heap.size + 1, 5, none⟩ (.slice a2 n2 d2)).setCell ⟨w.heap.size + 1, 6, none⟩ (.int .i64 o.version)).alloc (.cells #[.string kd, .slice (some ⟨b, 0, none⟩) fs.length fs.length] 66)).cell? ⟨w.heap.size + 1, 3, none⟩ = some (.slice a1 n1 d1) := r 3 (by omega)
      have r4 : ((((((((w2.setCell ⟨w.heap.size + 1, 0, none⟩ (.string o.kind)).setCell ⟨w.heap.size + 1, 1, none⟩ (.string o.name)).setCell ⟨w.heap.size + 1, 2, none⟩ (.string o.team)).setCell ⟨w.heap.size + 1, 3, none⟩ (.slice a1 n1 d1)).setCell ⟨w.heap.size + 1, 4, none⟩ (.bool o.ending)).setCell ⟨w.heap.size + 1, 5, none⟩ (.slice a2 n2 d2)).setCell ⟨w.heap.size + 1, 6, none⟩ (.int .i64 o.version)).alloc (.cells #[.string kd, .slice (some ⟨b, 0, none⟩) fs.length fs.length] 66)).cell? ⟨w.heap.size + 1, 4, none⟩ = some (.bool o.ending) := r 4 (by omega)
      have r5 : ((((((((w2.setCell ⟨w.heap.size + 1, 0, none⟩ (.string o.kind)).setCell ⟨w.heap.size + 1, 1, none⟩ (.string o.name)).setCell ⟨w.heap.size + 1, 2, none⟩ (.string o.team)).setCell ⟨w.heap.size + 1, 3, none⟩ (.slice a1 n1 d1)).setCell ⟨w.heap.size + 1, 4, none⟩ (.bool o.ending)).setCell ⟨w.heap.size + 1, 5, none⟩ (.slice a2 n2 d2)).setCell ⟨w.heap.size + 1, 6, none⟩ (.int .i64 o.version)).alloc (.cells #[.string kd, .slice (some ⟨b, 0, none⟩) fs.length fs.length] 66)).cell? ⟨w.heap.size + 1, 5, none⟩ = some (.slice a2 n2 d2) := r 5 (by omega)
      have r6 : ((((((((w2.setCell ⟨w.heap.size + 1, 0, none⟩ (.string o.kind)).setCell ⟨w.heap.size + 1, 1, none⟩ (.string o.name)).setCell ⟨w.heap.size + 1, 2, none⟩ (.string o.team)).setCell ⟨w.heap.size + 1, 3, none⟩ (.slice a1 n1 d1)).setCell ⟨w.heap.size + 1, 4, none⟩ (.bool o.ending)).setCell ⟨w.heap.size + 1, 5, none⟩ (.slice a2 n2 d2)).setCell ⟨w.heap.size + 1, 6, none⟩ (.int .i64 o.version)).alloc (.cells #[.string kd, .slice (some ⟨b, 0, none⟩) fs.length fs.length] 66)).cell? ⟨w.heap.size + 1, 6, none⟩ = some (.int .i64 o.version) := r 6 (by omega)
      refine bodyPost_ret (v := .agg #[.string o.kind, .string o.name, .string o.team, .slice a1 n1 d1, .bool o.ending, .slice a2 n2 d2, .int .i64 o.version]) (by simp only [results, Try.results19]; simp [go_sem, r0, r1, r2, r3, r4, r5, r6]) rfl ⟨⟨_, _, _, _, _, _, mid, rfl, ?_, t2, t3, t4⟩, t5⟩
      rw [HF.out]; exact t1
    have HF : Hid ((fillOb ss o).values = fillTo o.values fs fs.length) := by show (fillOb ss o).values = _; unfold fillOb; rw [← HFs.out, if_pos ⟨HRT.out, heq⟩, heq]
    rcases HI.out.c1 with ⟨e1, e2⟩ | ⟨g, cap, e1, _, _, _, _, _⟩
    · injection e1 with e1 e3 e4
      subst e1 e3 e4
      have hfs0 : fs.length = 0 := by rw [← heq, e2]; rfl
      have HF' : Hid ((fillOb ss o).values = o.values) := by show (fillOb ss o).values = o.values; rw [HF.out, hfs0]; exact fillTo_zero _ _
      clear HF
      have HF := HF'
      clear HF' HFl
      go_wp2
      refine wp_loop_rounds 1 ?_
      rw [rounds_succ]
      go_wp2
      obtain ⟨r, t1, t2, t3, t4, t5⟩ := HI.out.outA [.string o.kind, .string o.name, .string o.team, .slice none 0 0, .bool o.ending, .slice a2 n2 d2, .int .i64 o.version] rfl (.cells #[.string kd, .slice (some ⟨b, 0, none⟩) 0 0] 66)
      have r0 : ((((((((w2.setCell ⟨w.heap.size + 1, 0, none⟩ (.string o.kind)).setCell ⟨w.heap.size + 1, 1, none⟩ (.string o.name)).setCell ⟨w.heap.size + 1, 2, none⟩ (.string o.team)).setCell ⟨w.heap.size + 1, 3, none⟩ (.slice none 0 0)).setCell ⟨w.heap.size + 1, 4, none⟩ (.bool o.ending)).setCell ⟨w.heap.size + 1, 5, none⟩ (.slice a2 n2 d2)).setCell ⟨w.heap.size + 1, 6, none⟩ (.int .i64 o.version)).alloc (.cells #[.string kd, .slice (some ⟨b, 0, none⟩) 0 0] 66)).cell? ⟨w.heap.size + 1, 0, none⟩ = some (.string o.kind) := r 0 (by omega)
      have r1 : ((((((((w2.setCell ⟨w.heap.size + 1, 0, none⟩ (.string o.kind)).setCell ⟨w.heap.size + 1, 1, none⟩ (.string o.name)).setCell ⟨w.heap.size + 1, 2, none⟩ (.string o.team)).setCell ⟨w.heap.size + 1, 3, none⟩ (.slice none 0 0)).setCell ⟨w.heap.size + 1, 4, none⟩ (.bool o.ending)).setCell ⟨w.heap.size + 1, 5, none⟩ (.slice a2 n2 d2)).setCell ⟨w.heap.size + 1, 6, none⟩ (.int .i64 o.version)).alloc (.cells #[.string kd, .slice (some ⟨b, 0, none⟩) 0 0] 66)).cell? ⟨w.heap.size + 1, 1, none⟩ = some (.string o.name) := r 1 (by omega)
      have r2 : ((((((((w2.setCell ⟨w.heap.size + 1, 0, none⟩ (.string o.kind)).setCell ⟨w.heap.size + 1, 1, none⟩ (.string o.name)).setCell ⟨w.heap.size + 1, 2, none⟩ (.string o.team)).setCell ⟨w.heap.size + 1, 3, none⟩ (.slice none 0 0)).setCell ⟨w.heap.size + 1, 4, none⟩ (.bool o.ending)).setCell ⟨w.heap.size + 1, 5, none⟩ (.slice a2 n2 d2)).setCell ⟨w.heap.size + 1, 6, none⟩ (.int .i64 o.version)).alloc (.cells #[.string kd, .slice (some ⟨b, 0, none⟩) 0 0] 66)).cell? ⟨w.heap.size + 1, 2, none⟩ = some (.string o.team) := r 2 (by omega)
      have r3 : ((((((((w2.setCell ⟨w.heap.size + 1, 0, none⟩ (.string o.kind)).setCell ⟨w.heap.size + 1, 1, none⟩ (.string o.name)).setCell ⟨w.heap.size + 1, 2, none⟩ (.string o.team)).setCell ⟨w.heap.size + 1, 3, none⟩ (.slice none 0 0)).setCell ⟨w.heap.size + 1, 4, none⟩ (.bool o.ending)).setCell ⟨w.heap.size + 1, 5, none⟩ (.slice a2 n2 d2)).setCell ⟨w.heap.size + 1, 6, none⟩ (.int .i64 o.version)).alloc (.cells #[.string kd, .slice (some ⟨b, 0, none⟩) 0 0] 66)).cell? ⟨w.heap.size + 1, 3, none⟩ = some (.slice none 0 0) := r 3 (by omega)
      have r4 : ((((((((w2.setCell ⟨w.heap.size + 1, 0, none⟩ (.string o.kind)).setCell ⟨w.heap.size + 1, 1, none⟩ (.string o.name)).setCell ⟨w.heap.size + 1, 2, none⟩ (.string o.team)).setCell ⟨w.heap.size + 1, 3, none⟩ (.slice none 0 0)).setCell ⟨w.heap.size + 1, 4, none⟩ (.bool o.ending)).setCell ⟨w.heap.size + 1, 5, none⟩ (.slice a2 n2 d2)).setCell ⟨w.heap.size + 1, 6, none⟩ (.int .i64 o.version)).alloc (.cells #[.string kd, .slice (some ⟨b, 0, none⟩) 0 0] 66)).cell? ⟨w.heap.size + 1, 4, none⟩ = some (.bool o.ending) := r 4 (by omega)
      have r5 : ((((((((w2.setCell ⟨w.heap.size + 1, 0, none⟩ (.string o.kind)).setCell ⟨w.heap.size + 1, 1, none⟩ (.string o.name)).setCell ⟨w.heap.size + 1, 2, none⟩ (.string o.team)).setCell ⟨w.heap.size + 1, 3, none⟩ (.slice none 0 0)).setCell ⟨w.heap.size + 1, 4, none⟩ (.bool o.ending)).setCell ⟨w.heap.size + 1, 5, none⟩ (.slice a2 n2 d2)).setCell ⟨w.heap.size + 1, 6, none⟩ (.int .i64 o.version)).alloc (.cells #[.string kd, .slice (some ⟨b, 0, none⟩) 0 0] 66)).cell? ⟨w.heap.size + 1, 5, none⟩ = some (.slice a2 n2 d2) := r 5 (by omega)
      have r6 : ((((((((w2.setCell ⟨w.heap.size + 1, 0, none⟩ (.string o.kind)).setCell ⟨w.heap.size + 1, 1, none⟩ (.string o.name)).setCell ⟨w.heap.size + 1, 2, none⟩ (.string o.team)).setCell ⟨w.heap.size + 1, 3, none⟩ (.slice none 0 0)).setCell ⟨w.heap.size + 1, 4, none⟩ (.bool o.ending)).setCell ⟨w.heap.size + 1, 5, none⟩ (.slice a2 n2 d2)).setCell ⟨w.heap.size + 1, 6, none⟩ (.int .i64 o.version)).alloc (.cells #[.string kd, .slice (some ⟨b, 0, none⟩) 0 0] 66)).cell? ⟨w.heap.size + 1, 6, none⟩ = some (.int .i64 o.version) := r 6 (by omega)
      refine bodyPost_ret (v := .agg #[.string o.kind, .string o.name, .string o.team, .slice none 0 0, .bool o.ending, .slice a2 n2 d2, .int .i64 o.version]) (by simp only [results, Try.results19]; simp [go_sem, r0, r1, r2, r3, r4, r5, r6]) rfl ⟨⟨_, _, _, _, _, _, mid, rfl, ?_, t2, t3, t4⟩, t5⟩
      rw [HF.out]; exact t1
    · injection e1 with e1 e3 e4
      subst e1 e3 e4
      have hi1 : (o.values.length : Int) = (fs.length : Int) := by omega
      have HI0 : Hid (FInv w (w2.alloc (.cells #[.string kd, .slice (some ⟨b, 0, none⟩) fs.length fs.length] 66)) w1.heap.size mid o (fillTo o.values fs 0) (.slice (some ⟨g, 0, none⟩) o.values.length d1) (.slice a2 n2 d2)) := by
        show FInv _ _ _ _ _ _ _ _
        rw [fillTo_zero]; exact HI.out.later (blw_alloc (Below.refl _ _) _)
      clear HI
      go_wp2
      clear x0 x1 x2 x3 x4 x5 x6 hfz hy0 hy1 hy2 hy3 hy4 hy5 hy6 k3
      go_loopw [34] (fun i wr => ∃ q : Nat, q ≤ fs.length ∧ i = .int .i64 q ∧ FInv w wr w1.heap.size mid o (fillTo o.values fs q) (.slice (some ⟨g, 0, none⟩) o.values.length d1) (.slice a2 n2 d2)) (fun i _ => fs.length - (intOf i).toNat)
      case atStart => exact ⟨0, Nat.zero_le _, rfl, HI0.out⟩
      case round =>
        obtain ⟨q, hq, rfl, hI⟩ := hrel
        have HI : Hid (FInv w wr w1.heap.size mid o (fillTo o.values fs q) (.slice (some ⟨g, 0, none⟩) o.values.length d1) (.slice a2 n2 d2)) := hI
        have z1 := hI.lt
        have x0 := hI.x0
        have x1 := hI.x1
        have x2 := hI.x2
        have x3 := hI.x3
        have x4 := hI.x4
        have x5 := hI.x5
        have x6 := hI.x6
        clear hI
        by_cases hlt : q < fs.length
        · obtain ⟨f, hf⟩ : ∃ f, f = fs.getD q Fld.none := ⟨_, rfl⟩
          obtain ⟨bw, _, _, hfi⟩ := HFl.out.2 q hlt
          rw [← hf] at hfi
          have c := fun j => HI.out.bel.cell (p := ⟨b, j, none⟩) HFl.out.1
          have f0 := (c _).trans hfi.c0
          have f1 := (c _).trans hfi.c1
          have f2 := (c _).trans hfi.c2
          have f3 := (c _).trans hfi.c3
          have f4 := (c _).trans hfi.c4
          have f5 := (c _).trans hfi.c5
          have f6 := (c _).trans hfi.c6
          have f7 := (c _).trans hfi.c7
          have f8 := (c _).trans hfi.c8
          have f9 := (c _).trans hfi.c9
          have f10 := (c _).trans hfi.c10
          obtain ⟨g1, g2, g3, g4, g5, g6⟩ := HI.out.c1.row
          have hqv : q < o.values.length := by omega
          have u0 := g6 q (by rw [fillTo_len]; exact hqv)
          rw [fillTo_now _ _ _ hqv] at u0
          have hgz := g3.frozen
          have hgl := g3.lt
          obtain ⟨u, hu⟩ : ∃ u, u = o.values.getD q ByteArray.empty := ⟨_, rfl⟩
          rw [← hu] at u0
          have HU : Hid (u = o.values.getD q ByteArray.empty ∧ f = fs.getD q Fld.none) := ⟨hu, hf⟩
          clear hfi c hf hu g6 g5 g4 g3
          cases hem : u.toList.isEmpty
          · have HN : Hid (FInv w wr w1.heap.size mid o (fillTo o.values fs (q + 1)) (.slice (some ⟨g, 0, none⟩) o.values.length d1) (.slice a2 n2 d2)) := HI.out.keep hqv (by rw [← HU.out.1]; exact hem)
            clear HI
            go_wp2
            go_roundw
            case rel => exact ⟨q + 1, by omega, by go_num, HN.out.later (blw_alloc (Below.refl _ _) _)⟩
            case measure => simp [intOf]; omega
          · have HN : Hid (FInv w (wr.setCell ⟨g, q, none⟩ (.string f.de)) w1.heap.size mid o (fillTo o.values fs (q + 1)) (.slice (some ⟨g, 0, none⟩) o.values.length d1) (.slice a2 n2 d2)) := by
              show FInv _ _ _ _ _ _ _ _
              rw [HU.out.2]; exact HI.out.put hqv (by rw [← HU.out.1]; exact hem)
            clear HI
            go_wp2
            go_roundw
            case rel => exact ⟨q + 1, by omega, by go_num, HN.out.later (blw_alloc (Below.refl _ _) _)⟩
            case measure => simp [intOf]; omega
        · obtain rfl : q = fs.length := by omega
          have hR := HI.out.own
          have hfz := hR.frozen
          have z2 := hR.lt
          obtain ⟨y0, hy0⟩ := hR.cell 0 (by omega)
          obtain ⟨y1, hy1⟩ := hR.cell 1 (by omega)
          obtain ⟨y2, hy2⟩ := hR.cell 2 (by omega)
          obtain ⟨y3, hy3⟩ := hR.cell 3 (by omega)
          obtain ⟨y4, hy4⟩ := hR.cell 4 (by omega)
          obtain ⟨y5, hy5⟩ := hR.cell 5 (by omega)
          obtain ⟨y6, hy6⟩ := hR.cell 6 (by omega)
          clear hR
          have HI' : Hid (FInv w wr w1.heap.size mid o (fillTo o.values fs fs.length) (.slice (some ⟨g, 0, none⟩) fs.length d1) (.slice a2 n2 d2)) := by have := HI.out; rw [heq] at this; exact this
          clear HI
          have HI := HI'
          clear HI'
          go_wp2
          obtain ⟨r, _, t1, t2, t3, t4, t5⟩ := HI.out.out [.string o.kind, .string o.name, .string o.team, .slice (some ⟨g, 0, none⟩) fs.length d1, .bool o.ending, .slice a2 n2 d2, .int .i64 o.version] rfl
          have r0 : (((((((wr.setCell ⟨w.heap.size + 1, 0, none⟩ (.string o.kind)).setCell ⟨w.heap.size + 1, 1, none⟩ (.string o.name)).setCell ⟨w.heap.size + 1, 2, none⟩ (.string o.team)).setCell ⟨w.heap.size + 1, 3, none⟩ (.slice (some ⟨g, 0, none⟩) fs.length d1)).setCell ⟨w.heap.size + 1, 4, none⟩ (.bool o.ending)).setCell ⟨w.heap.size + 1, 5, none⟩ (.slice a2 n2 d2)).setCell ⟨w.heap.size + 1, 6, none⟩ (.int .i64 o.version)).cell? ⟨w.heap.size + 1, 0, none⟩ = some (.string o.kind) := r 0 (by omega)
          have r1 : (((((((wr.setCell ⟨w.heap.size + 1, 0, none⟩ (.string o.kind)).setCell ⟨w.heap.size + 1, 1, none⟩ (.string o.name)).setCell ⟨w.heap.size + 1, 2, none⟩ (.string o.team)).setCell ⟨w.heap.size + 1, 3, none⟩ (.slice (some ⟨g, 0, none⟩) fs.length d1)).setCell ⟨w.heap.size + 1, 4, none⟩ (.bool o.ending)).setCell ⟨w.heap.size + 1, 5, none⟩ (.slice a2 n2 d2)).setCell ⟨w.heap.size + 1, 6, none⟩ (.int .i64 o.version)).cell? ⟨w.heap.size + 1, 1, none⟩ = some (.string o.name) := r 1 (by omega)
          have r2 : (((((((wr.setCell ⟨w.heap.size + 1, 0, none⟩ (.string o.kind)).setCell ⟨w.heap.size + 1, 1, none⟩ (.string o.name)).setCell ⟨w.heap.size + 1, 2, none⟩ (.string o.team)).setCell ⟨w.heap.size + 1, 3, none⟩ (.slice (some ⟨g, 0, none⟩) fs.length d1)).setCell ⟨w.heap.size + 1, 4, none⟩ (.bool o.ending)).setCell ⟨w.heap.size + 1, 5, none⟩ (.slice a2 n2 d2)).setCell ⟨w.heap.size + 1, 6, none⟩ (.int .i64 o.version)).cell? ⟨w.heap.size + 1, 2, none⟩ = some (.string o.team) := r 2 (by omega)
          have r3 : (((((((wr.setCell ⟨w.heap.size + 1, 0, none⟩ (.string o.kind)).setCell ⟨w.heap.size + 1, 1, none⟩ (.string o.name)).setCell ⟨w.heap.size + 1, 2, none⟩ (.string o.team)).setCell ⟨w.heap.size + 1, 3, none⟩ (.slice (some ⟨g, 0, none⟩) fs.length d1)).setCell ⟨w.heap.size + 1, 4, none⟩ (.bool o.ending)).setCell ⟨w.heap.size + 1, 5, none⟩ (.slice a2 n2 d2)).setCell ⟨w.heap.size + 1, 6, none⟩ (.int .i64 o.version)).cell? ⟨w.heap.size + 1, 3, none⟩ = some (.slice (some ⟨g, 0, none⟩) fs.length d1) := r 3 (by omega)
          have r4 : (((((((wr.setCell ⟨w.heap.size + 1, 0, none⟩ (.string o.kind)).setCell ⟨w.heap.size + 1, 1, none⟩ (.string o.name)).setCell ⟨w.heap.size + 1, 2, none⟩ (.string o.team)).setCell ⟨w.heap.size + 1, 3, none⟩ (.slice (some ⟨g, 0, none⟩) fs.length d1)).setCell ⟨w.heap.size + 1, 4, none⟩ (.bool o.ending)).setCell ⟨w.heap.size + 1, 5, none⟩ (.slice a2 n2 d2)).setCell ⟨w.heap.size + 1, 6, none⟩ (.int .i64 o.version)).cell? ⟨w.heap.size + 1, 4, none⟩ = some (.bool o.ending) := r 4 (by omega)
          have r5 : (((((((wr.setCell ⟨w.heap.size + 1, 0, none⟩ (.string o.kind)).setCell ⟨w.heap.size + 1, 1, none⟩ (.string o.name)).setCell ⟨w.heap.size + 1, 2, none⟩ (.string o.team)).setCell ⟨w.heap.size + 1, 3, none⟩ (.slice (some ⟨g, 0, none⟩) fs.length d1)).setCell ⟨w.heap.size + 1, 4, none⟩ (.bool o.ending)).setCell ⟨w.heap.size + 1, 5, none⟩ (.slice a2 n2 d2)).setCell ⟨w.heap.size + 1, 6, none⟩ (.int .i64 o.version)).cell? ⟨w.heap.size + 1, 5, none⟩ = some (.slice a2 n2 d2) := r 5 (by omega)
          have r6 : (((((((wr.setCell ⟨w.heap.size + 1, 0, none⟩ (.string o.kind)).setCell ⟨w.heap.size + 1, 1, none⟩ (.string o.name)).setCell ⟨w.heap.size + 1, 2, none⟩ (.string o.team)).setCell ⟨w.heap.size + 1, 3, none⟩ (.slice (some ⟨g, 0, none⟩) fs.length d1)).setCell ⟨w.heap.size + 1, 4, none⟩ (.bool o.ending)).setCell ⟨w.heap.size + 1, 5, none⟩ (.slice a2 n2 d2)).setCell ⟨w.heap.size + 1, 6, none⟩ (.int .i64 o.version)).cell? ⟨w.heap.size + 1, 6, none⟩ = some (.int .i64 o.version) := r 6 (by omega)
          refine bodyPost_ret (v := .agg #[.string o.kind, .string o.name, .string o.team, .slice (some ⟨g, 0, none⟩) fs.length d1, .bool o.ending, .slice a2 n2 d2, .int .i64 o.version]) (by simp only [results, Try.results19]; simp [go_sem, r0, r1, r2, r3, r4, r5, r6]) rfl ⟨⟨_, _, _, _, _, _, mid, rfl, ?_, t2, t3, t4⟩, t5⟩
          rw [HF.out]; exact t1
end Go.Proofs.Ytlbgaenbfbdieaa
