/-
  Walks: GateShaped: the program, the specification.
-/
import Derived.Test.YtfdahoekjpobaaaGreatWalkDR
namespace Go.Proofs.YtfdahoekjpobaaaGreat
open Go.RowKit Go.Deep

def shapedVals (ss : List Shp) (ms : List Mnd) (o : Ob) : List ByteArray := if mendsOk ss ms then shapeVals ss ms o else o.values

theorem shaped_len (ss : List Shp) (ms : List Mnd) (o : Ob) : (shapedVals ss ms o).length = o.values.length := by
  unfold shapedVals; split
  · exact shapeVals_len _ _ _
  · rfl

set_option maxHeartbeats 4000000 in
theorem shapedI (B mb : Nat) (ss : List Shp) (ms : List Mnd) (o : Ob) (b1 : Option Addr) (c1 : Nat) (b2 : Option Addr) (c2 : Nat) (w : World) (h : ShpsIn w B ss) (hm : MndsIn w mb ms) (ho : ObG w b1 c1 b2 c2 o) :
    Calls Tryz.prog 11 #[.slice (some ⟨B, 0, none⟩) ss.length ss.length, .slice (some ⟨mb, 0, none⟩) ms.length ms.length, .agg #[.string o.kind, .string o.name, .string o.team, .slice b1 o.values.length c1, .bool o.ending, .slice b2 o.holds.length c2, .int .i64 o.version]] w fun e w' => (∃ a1 n1 d1 a2 n2 d2 mid, e = .returned (.agg #[.string o.kind, .string o.name, .string o.team, .slice a1 n1 d1, .bool o.ending, .slice a2 n2 d2, .int .i64 o.version]) ∧ CT w' w.heap.size mid (.slice a1 n1 d1) (shapedVals ss ms o) ∧ CT w' mid w'.heap.size (.slice a2 n2 d2) o.holds ∧ w.heap.size ≤ mid ∧ mid ≤ w'.heap.size) ∧ Below w.heap.size w w' := by
  have HA : Hid (ShpsIn w B ss ∧ MndsIn w mb ms ∧ ObG w b1 c1 b2 c2 o) := ⟨h, hm, ho⟩
  have hl := h.len
  have hlm := hm.len
  have hl1 := ho.len1
  clear h hm ho
  obtain ⟨w0, hw0⟩ : ∃ w0, w0 = (w.alloc (.cells #[.string o.kind, .string o.name, .string o.team, .slice b1 o.values.length c1, .bool o.ending, .slice b2 o.holds.length c2, .int .i64 o.version] 30)).alloc (.cells #[.string ⟨#[]⟩, .string ⟨#[]⟩, .string ⟨#[]⟩, .slice none 0 0, .bool false, .slice none 0 0, .int .i64 0] 30) := ⟨_, rfl⟩
  have HB0 : Hid (Below w.heap.size w w0) := by show Below _ _ _; rw [hw0]; exact blw_alloc (blw_alloc (Below.refl _ _) _) _
  have HR0 : Hid (OwnBlk w0 (w.heap.size + 1) 30 7) := by show OwnBlk _ _ _ _; rw [hw0]; exact OwnBlk.alloc_at _ _ _ _ _ rfl (by simp)
  have HZ0 : Hid (w0.heap.size = w.heap.size + 2) := by show _ = _; rw [hw0]; simp
  have HX0 : Hid (∀ W, Below w0.heap.size w0 W → w.heap.size < W.heap.size ∧ ∀ j, W.cell? ⟨w.heap.size, j, none⟩ = (#[.string o.kind, .string o.name, .string o.team, .slice b1 o.values.length c1, .bool o.ending, .slice b2 o.holds.length c2, .int .i64 o.version] : Array Value)[j]?) := by
    intro W hW
    have q : w.heap.size < w0.heap.size := by have := HZ0.out; omega
    refine ⟨Nat.lt_of_lt_of_le q hW.size, fun j => (hW.cell (p := ⟨w.heap.size, j, none⟩) q).trans ?_⟩
    rw [hw0]
    exact (World.cell?_alloc_past _ _ _ (by simp)).trans (World.cell?_alloc_at _ _ _ _ rfl)
  go_enter Tryz.func11, Tryz.ntmps11
  go_upto_region 1 with fail
  rw [← hw0]
  clear hw0
  go_wp2_with fail
  refine (mendsOkI B mb ss ms w0 (HA.out.1.later HB0.out) (HA.out.2.1.later HB0.out)).mono ?_
  rintro e w2 ⟨rfl, hb2⟩
  have HK2 : Hid (Below w0.heap.size w0 w2) := hb2
  have HB2 : Hid (Below w.heap.size w w2) := blw_trans HB0.out hb2
  have HLO : Hid (w.heap.size + 2 ≤ w2.heap.size) := by have := hb2.size; rw [HZ0.out] at this; exact this
  have HR2 : Hid (OwnBlk w2 (w.heap.size + 1) 30 7) := HR0.out.later hb2
  clear hb2
  obtain ⟨xz, xs⟩ := HX0.out w2 HK2.out
  have x0 : w2.cell? ⟨w.heap.size, 0, none⟩ = some (.string o.kind) := xs 0
  have x1 : w2.cell? ⟨w.heap.size, 1, none⟩ = some (.string o.name) := xs 1
  have x2 : w2.cell? ⟨w.heap.size, 2, none⟩ = some (.string o.team) := xs 2
  have x3 : w2.cell? ⟨w.heap.size, 3, none⟩ = some (.slice b1 o.values.length c1) := xs 3
  have x4 : w2.cell? ⟨w.heap.size, 4, none⟩ = some (.bool o.ending) := xs 4
  have x5 : w2.cell? ⟨w.heap.size, 5, none⟩ = some (.slice b2 o.holds.length c2) := xs 5
  have x6 : w2.cell? ⟨w.heap.size, 6, none⟩ = some (.int .i64 o.version) := xs 6
  clear xs
  have HEND : Hid (∀ (W : World) (a1 : Option Addr) (n1 d1 : Nat) (a2 : Option Addr) (n2 d2 mid : Nat) (vals : List ByteArray), Below w2.heap.size w2 W → CT W w2.heap.size mid (.slice a1 n1 d1) vals → CT W mid W.heap.size (.slice a2 n2 d2) o.holds → w2.heap.size ≤ mid → mid ≤ W.heap.size →
      OwnBlk W (w.heap.size + 1) 30 7 ∧ (∀ j, j < 7 → (puts W (w.heap.size + 1) 0 0 [.string o.kind, .string o.name, .string o.team, .slice a1 n1 d1, .bool o.ending, .slice a2 n2 d2, .int .i64 o.version]).cell? ⟨w.heap.size + 1, 0 + (0 + j), none⟩ = [.string o.kind, .string o.name, .string o.team, .slice a1 n1 d1, .bool o.ending, .slice a2 n2 d2, .int .i64 o.version][j]?) ∧ CT (puts W (w.heap.size + 1) 0 0 [.string o.kind, .string o.name, .string o.team, .slice a1 n1 d1, .bool o.ending, .slice a2 n2 d2, .int .i64 o.version]) w.heap.size mid (.slice a1 n1 d1) vals ∧ CT (puts W (w.heap.size + 1) 0 0 [.string o.kind, .string o.name, .string o.team, .slice a1 n1 d1, .bool o.ending, .slice a2 n2 d2, .int .i64 o.version]) mid (puts W (w.heap.size + 1) 0 0 [.string o.kind, .string o.name, .string o.team, .slice a1 n1 d1, .bool o.ending, .slice a2 n2 d2, .int .i64 o.version]).heap.size (.slice a2 n2 d2) o.holds ∧ w.heap.size ≤ mid ∧ mid ≤ (puts W (w.heap.size + 1) 0 0 [.string o.kind, .string o.name, .string o.team, .slice a1 n1 d1, .bool o.ending, .slice a2 n2 d2, .int .i64 o.version]).heap.size ∧ Below w.heap.size w (puts W (w.heap.size + 1) 0 0 [.string o.kind, .string o.name, .string o.team, .slice a1 n1 d1, .bool o.ending, .slice a2 n2 d2, .int .i64 o.version])) := by
    intro W a1 n1 d1 a2 n2 d2 mid vals hW q1 q2 q3 q4
    have l := HLO.out
    have hO := HR2.out.later hW
    refine ⟨hO, fun j hj => puts_at 0 _ W 0 hO (by simp) j (by simpa using hj), (CT.puts 0 (Or.inl (by omega)) _ W 0 q1).mono (by omega) (Nat.le_refl _), ?_, by omega, by rw [puts_size]; exact q4, puts_below (a := w) 0 (B := w.heap.size + 1) (by omega) _ W 0 (blw_trans HB2.out hW)⟩
    rw [puts_size]
    exact CT.puts 0 (Or.inl (by omega)) _ W 0 q2
  obtain ⟨R, hR⟩ : ∃ R, R = mendsOk ss ms := ⟨_, rfl⟩
  rw [← hR]
  have HRR : Hid (R = mendsOk ss ms) := hR
  clear hR
  cases R
  · have HF : Hid (shapedVals ss ms o = o.values) := by show shapedVals _ _ _ = _; unfold shapedVals; rw [← HRR.out]; rfl
    go_wp2_with fail
    refine (copyObj o b1 c1 b2 c2 w2 (HA.out.2.2.later HB2.out)).mono ?_
    rintro e w3 ⟨⟨a1, n1, d1, a2, n2, d2, mid, rfl, hct1, hct2, hm1, hm2⟩, hb3⟩
    obtain ⟨hO, r, t1, t2, t3, t4, t5⟩ := HEND.out w3 a1 n1 d1 a2 n2 d2 mid _ hb3 hct1 hct2 hm1 hm2
    clear hb3 hct1 hct2 hm1 hm2 x0 x1 x2 x3 x4 x5 x6 xz
    have hfz := hO.frozen
    have z2 := hO.lt
    obtain ⟨y0, hy0⟩ := hO.cell 0 (by omega)
    obtain ⟨y1, hy1⟩ := hO.cell 1 (by omega)
    obtain ⟨y2, hy2⟩ := hO.cell 2 (by omega)
    obtain ⟨y3, hy3⟩ := hO.cell 3 (by omega)
    obtain ⟨y4, hy4⟩ := hO.cell 4 (by omega)
    obtain ⟨y5, hy5⟩ := hO.cell 5 (by omega)
    obtain ⟨y6, hy6⟩ := hO.cell 6 (by omega)
    have HT : Hid (CT (puts w3 (w.heap.size + 1) 0 0 [.string o.kind, .string o.name, .string o.team, .slice a1 n1 d1, .bool o.ending, .slice a2 n2 d2, .int .i64 o.version]) w.heap.size mid (.slice a1 n1 d1) (o.values)) := t1
    clear hO t1
    go_wp2
    have r0 : (((((((w3.setCell ⟨w.heap.size + 1, 0, none⟩ (.string o.kind)).setCell ⟨w.heap.size + 1, 1, none⟩ (.string o.name)).setCell ⟨w.heap.size + 1, 2, none⟩ (.string o.team)).setCell ⟨w.heap.size + 1, 3, none⟩ (.slice a1 n1 d1)).setCell ⟨w.heap.size + 1, 4, none⟩ (.bool o.ending)).setCell ⟨w.heap.size + 1, 5, none⟩ (.slice a2 n2 d2)).setCell ⟨w.heap.size + 1, 6, none⟩ (.int .i64 o.version)).cell? ⟨w.heap.size + 1, 0, none⟩ = some (.string o.kind) := r 0 (by omega)
    have r1 : (((((((w3.setCell ⟨w.heap.size + 1, 0, none⟩ (.string o.kind)).setCell ⟨w.heap.size + 1, 1, none⟩ (.string o.name)).setCell ⟨w.heap.size + 1, 2, none⟩ (.string o.team)).setCell ⟨w.heap.size + 1, 3, none⟩ (.slice a1 n1 d1)).setCell ⟨w.heap.size + 1, 4, none⟩ (.bool o.ending)).setCell ⟨w.heap.size + 1, 5, none⟩ (.slice a2 n2 d2)).setCell ⟨w.heap.size + 1, 6, none⟩ (.int .i64 o.version)).cell? ⟨w.heap.size + 1, 1, none⟩ = some (.string o.name) := r 1 (by omega)
    have r2 : (((((((w3.setCell ⟨w.heap.size + 1, 0, none⟩ (.string o.kind)).setCell ⟨w.heap.size + 1, 1, none⟩ (.string o.name)).setCell ⟨w.heap.size + 1, 2, none⟩ (.string o.team)).setCell ⟨w.heap.size + 1, 3, none⟩ (.slice a1 n1 d1)).setCell ⟨w.heap.size + 1, 4, none⟩ (.bool o.ending)).setCell ⟨w.heap.size + 1, 5, none⟩ (.slice a2 n2 d2)).setCell ⟨w.heap.size + 1, 6, none⟩ (.int .i64 o.version)).cell? ⟨w.heap.size + 1, 2, none⟩ = some (.string o.team) := r 2 (by omega)
    have r3 : (((((((w3.setCell ⟨w.heap.size + 1, 0, none⟩ (.string o.kind)).setCell ⟨w.heap.size + 1, 1, none⟩ (.string o.name)).setCell ⟨w.heap.size + 1, 2, none⟩ (.string o.team)).setCell ⟨w.heap.size + 1, 3, none⟩ (.slice a1 n1 d1)).setCell ⟨w.heap.size + 1, 4, none⟩ (.bool o.ending)).setCell ⟨w.heap.size + 1, 5, none⟩ (.slice a2 n2 d2)).setCell ⟨w.heap.size + 1, 6, none⟩ (.int .i64 o.version)).cell? ⟨w.heap.size + 1, 3, none⟩ = some (.slice a1 n1 d1) := r 3 (by omega)
    have r4 : (((((((w3.setCell ⟨w.heap.size + 1, 0, none⟩ (.string o.kind)).setCell ⟨w.heap.size + 1, 1, none⟩ (.string o.name)).setCell ⟨w.heap.size + 1, 2, none⟩ (.string o.team)).setCell ⟨w.heap.size + 1, 3, none⟩ (.slice a1 n1 d1)).setCell ⟨w.heap.size + 1, 4, none⟩ (.bool o.ending)).setCell ⟨w.heap.size + 1, 5, none⟩ (.slice a2 n2 d2)).setCell ⟨w.heap.size + 1, 6, none⟩ (.int .i64 o.version)).cell? ⟨w.heap.size + 1, 4, none⟩ = some (.bool o.ending) := r 4 (by omega)
    have r5 : (((((((w3.setCell ⟨w.heap.size + 1, 0, none⟩ (.string o.kind)).setCell ⟨w.heap.size + 1, 1, none⟩ (.string o.name)).setCell ⟨w.heap.size + 1, 2, none⟩ (.string o.team)).setCell ⟨w.heap.size + 1, 3, none⟩ (.slice a1 n1 d1)).setCell ⟨w.heap.size + 1, 4, none⟩ (.bool o.ending)).setCell ⟨w.heap.size + 1, 5, none⟩ (.slice a2 n2 d2)).setCell ⟨w.heap.size + 1, 6, none⟩ (.int .i64 o.version)).cell? ⟨w.heap.size + 1, 5, none⟩ = some (.slice a2 n2 d2) := r 5 (by omega)
    have r6 : (((((((w3.setCell ⟨w.heap.size + 1, 0, none⟩ (.string o.kind)).setCell ⟨w.heap.size + 1, 1, none⟩ (.string o.name)).setCell ⟨w.heap.size + 1, 2, none⟩ (.string o.team)).setCell ⟨w.heap.size + 1, 3, none⟩ (.slice a1 n1 d1)).setCell ⟨w.heap.size + 1, 4, none⟩ (.bool o.ending)).setCell ⟨w.heap.size + 1, 5, none⟩ (.slice a2 n2 d2)).setCell ⟨w.heap.size + 1, 6, none⟩ (.int .i64 o.version)).cell? ⟨w.heap.size + 1, 6, none⟩ = some (.int .i64 o.version) := r 6 (by omega)
    refine bodyPost_ret (v := .agg #[.string o.kind, .string o.name, .string o.team, .slice a1 n1 d1, .bool o.ending, .slice a2 n2 d2, .int .i64 o.version]) (by simp only [results, Tryz.results11]; simp [go_sem, r0, r1, r2, r3, r4, r5, r6]) rfl ⟨⟨_, _, _, _, _, _, mid, rfl, ?_, t2, t3, t4⟩, t5⟩
    rw [HF.out]; exact HT.out
  · have HF : Hid (shapedVals ss ms o = shapeVals ss ms o) := by show shapedVals _ _ _ = _; unfold shapedVals; rw [← HRR.out]; rfl
    go_wp2_with fail
    refine (shapeObjI B mb ss ms o b1 c1 b2 c2 w2 (HA.out.1.later HB2.out) (HA.out.2.1.later HB2.out) HRR.out.symm (HA.out.2.2.later HB2.out)).mono ?_
    rintro e w3 ⟨⟨a1, n1, d1, a2, n2, d2, mid, rfl, hct1, hct2, hm1, hm2⟩, hb3⟩
    obtain ⟨hO, r, t1, t2, t3, t4, t5⟩ := HEND.out w3 a1 n1 d1 a2 n2 d2 mid _ hb3 hct1 hct2 hm1 hm2
    clear hb3 hct1 hct2 hm1 hm2 x0 x1 x2 x3 x4 x5 x6 xz
    have hfz := hO.frozen
    have z2 := hO.lt
    obtain ⟨y0, hy0⟩ := hO.cell 0 (by omega)
    obtain ⟨y1, hy1⟩ := hO.cell 1 (by omega)
    obtain ⟨y2, hy2⟩ := hO.cell 2 (by omega)
    obtain ⟨y3, hy3⟩ := hO.cell 3 (by omega)
    obtain ⟨y4, hy4⟩ := hO.cell 4 (by omega)
    obtain ⟨y5, hy5⟩ := hO.cell 5 (by omega)
    obtain ⟨y6, hy6⟩ := hO.cell 6 (by omega)
    have HT : Hid (CT (puts w3 (w.heap.size + 1) 0 0 [.string o.kind, .string o.name, .string o.team, .slice a1 n1 d1, .bool o.ending, .slice a2 n2 d2, .int .i64 o.version]) w.heap.size mid (.slice a1 n1 d1) (shapeVals ss ms o)) := t1
    clear hO t1
    go_wp2
    have r0 : (((((((w3.setCell ⟨w.heap.size + 1, 0, none⟩ (.string o.kind)).setCell ⟨w.heap.size + 1, 1, none⟩ (.string o.name)).setCell ⟨w.heap.size + 1, 2, none⟩ (.string o.team)).setCell ⟨w.heap.size + 1, 3, none⟩ (.slice a1 n1 d1)).setCell ⟨w.heap.size + 1, 4, none⟩ (.bool o.ending)).setCell ⟨w.heap.size + 1, 5, none⟩ (.slice a2 n2 d2)).setCell ⟨w.heap.size + 1, 6, none⟩ (.int .i64 o.version)).cell? ⟨w.heap.size + 1, 0, none⟩ = some (.string o.kind) := r 0 (by omega)
    have r1 : (((((((w3.setCell ⟨w.heap.size + 1, 0, none⟩ (.string o.kind)).setCell ⟨w.heap.size + 1, 1, none⟩ (.string o.name)).setCell ⟨w.heap.size + 1, 2, none⟩ (.string o.team)).setCell ⟨w.heap.size + 1, 3, none⟩ (.slice a1 n1 d1)).setCell ⟨w.heap.size + 1, 4, none⟩ (.bool o.ending)).setCell ⟨w.heap.size + 1, 5, none⟩ (.slice a2 n2 d2)).setCell ⟨w.heap.size + 1, 6, none⟩ (.int .i64 o.version)).cell? ⟨w.heap.size + 1, 1, none⟩ = some (.string o.name) := r 1 (by omega)
    have r2 : (((((((w3.setCell ⟨w.heap.size + 1, 0, none⟩ (.string o.kind)).setCell ⟨w.heap.size + 1, 1, none⟩ (.string o.name)).setCell ⟨w.heap.size + 1, 2, none⟩ (.string o.team)).setCell ⟨w.heap.size + 1, 3, none⟩ (.slice a1 n1 d1)).setCell ⟨w.heap.size + 1, 4, none⟩ (.bool o.ending)).setCell ⟨w.heap.size + 1, 5, none⟩ (.slice a2 n2 d2)).setCell ⟨w.heap.size + 1, 6, none⟩ (.int .i64 o.version)).cell? ⟨w.heap.size + 1, 2, none⟩ = some (.string o.team) := r 2 (by omega)
    have r3 : (((((((w3.setCell ⟨w.heap.size + 1, 0, none⟩ (.string o.kind)).setCell ⟨w.heap.size + 1, 1, none⟩ (.string o.name)).setCell ⟨w.heap.size + 1, 2, none⟩ (.string o.team)).setCell ⟨w.heap.size + 1, 3, none⟩ (.slice a1 n1 d1)).setCell ⟨w.heap.size + 1, 4, none⟩ (.bool o.ending)).setCell ⟨w.heap.size + 1, 5, none⟩ (.slice a2 n2 d2)).setCell ⟨w.heap.size + 1, 6, none⟩ (.int .i64 o.version)).cell? ⟨w.heap.size + 1, 3, none⟩ = some (.slice a1 n1 d1) := r 3 (by omega)
    have r4 : (((((((w3.setCell ⟨w.heap.size + 1, 0, none⟩ (.string o.kind)).setCell ⟨w.heap.size + 1, 1, none⟩ (.string o.name)).setCell ⟨w.heap.size + 1, 2, none⟩ (.string o.team)).setCell ⟨w.heap.size + 1, 3, none⟩ (.slice a1 n1 d1)).setCell ⟨w.heap.size + 1, 4, none⟩ (.bool o.ending)).setCell ⟨w.heap.size + 1, 5, none⟩ (.slice a2 n2 d2)).setCell ⟨w.heap.size + 1, 6, none⟩ (.int .i64 o.version)).cell? ⟨w.heap.size + 1, 4, none⟩ = some (.bool o.ending) := r 4 (by omega)
    have r5 : (((((((w3.setCell ⟨w.heap.size + 1, 0, none⟩ (.string o.kind)).setCell ⟨w.heap.size + 1, 1, none⟩ (.string o.name)).setCell ⟨w.heap.size + 1, 2, none⟩ (.string o.team)).setCell ⟨w.heap.size + 1, 3, none⟩ (.slice a1 n1 d1)).setCell ⟨w.heap.size + 1, 4, none⟩ (.bool o.ending)).setCell ⟨w.heap.size + 1, 5, none⟩ (.slice a2 n2 d2)).setCell ⟨w.heap.size + 1, 6, none⟩ (.int .i64 o.version)).cell? ⟨w.heap.size + 1, 5, none⟩ = some (.slice a2 n2 d2) := r 5 (by omega)
    have r6 : (((((((w3.setCell ⟨w.heap.size + 1, 0, none⟩ (.string o.kind)).setCell ⟨w.heap.size + 1, 1, none⟩ (.string o.name)).setCell ⟨w.heap.size + 1, 2, none⟩ (.string o.team)).setCell ⟨w.heap.size + 1, 3, none⟩ (.slice a1 n1 d1)).setCell ⟨w.heap.size + 1, 4, none⟩ (.bool o.ending)).setCell ⟨w.heap.size + 1, 5, none⟩ (.slice a2 n2 d2)).setCell ⟨w.heap.size + 1, 6, none⟩ (.int .i64 o.version)).cell? ⟨w.heap.size + 1, 6, none⟩ = some (.int .i64 o.version) := r 6 (by omega)
    refine bodyPost_ret (v := .agg #[.string o.kind, .string o.name, .string o.team, .slice a1 n1 d1, .bool o.ending, .slice a2 n2 d2, .int .i64 o.version]) (by simp only [results, Tryz.results11]; simp [go_sem, r0, r1, r2, r3, r4, r5, r6]) rfl ⟨⟨_, _, _, _, _, _, mid, rfl, ?_, t2, t3, t4⟩, t5⟩
    rw [HF.out]; exact HT.out

set_option maxHeartbeats 4000000 in
theorem shapedS (B mb : Nat) (ss : List Shp) (ms : List Mnd) (o : Ob) (b1 : Option Addr) (c1 : Nat) (b2 : Option Addr) (c2 : Nat) (w : World) (h : ShpsIn w B ss) (hm : MndsIn w mb ms) (ho : ObG w b1 c1 b2 c2 o) :
    Calls Tryz.prog 7 #[.slice (some ⟨B, 0, none⟩) ss.length ss.length, .slice (some ⟨mb, 0, none⟩) ms.length ms.length, .agg #[.string o.kind, .string o.name, .string o.team, .slice b1 o.values.length c1, .bool o.ending, .slice b2 o.holds.length c2, .int .i64 o.version]] w fun e w' => (∃ a1 n1 d1 a2 n2 d2 mid, e = .returned (.agg #[.string o.kind, .string o.name, .string o.team, .slice a1 n1 d1, .bool o.ending, .slice a2 n2 d2, .int .i64 o.version]) ∧ CT w' w.heap.size mid (.slice a1 n1 d1) (shapedVals ss ms o) ∧ CT w' mid w'.heap.size (.slice a2 n2 d2) o.holds ∧ w.heap.size ≤ mid ∧ mid ≤ w'.heap.size) ∧ Below w.heap.size w w' := by
  have HA : Hid (ShpsIn w B ss ∧ MndsIn w mb ms ∧ ObG w b1 c1 b2 c2 o) := ⟨h, hm, ho⟩
  have hl := h.len
  have hlm := hm.len
  have hl1 := ho.len1
  clear h hm ho
  obtain ⟨w0, hw0⟩ : ∃ w0, w0 = (w.alloc (.cells #[.string o.kind, .string o.name, .string o.team, .slice b1 o.values.length c1, .bool o.ending, .slice b2 o.holds.length c2, .int .i64 o.version] 30)).alloc (.cells #[.string ⟨#[]⟩, .string ⟨#[]⟩, .string ⟨#[]⟩, .slice none 0 0, .bool false, .slice none 0 0, .int .i64 0] 30) := ⟨_, rfl⟩
  have HB0 : Hid (Below w.heap.size w w0) := by show Below _ _ _; rw [hw0]; exact blw_alloc (blw_alloc (Below.refl _ _) _) _
  have HR0 : Hid (OwnBlk w0 (w.heap.size + 1) 30 7) := by show OwnBlk _ _ _ _; rw [hw0]; exact OwnBlk.alloc_at _ _ _ _ _ rfl (by simp)
  have HZ0 : Hid (w0.heap.size = w.heap.size + 2) := by show _ = _; rw [hw0]; simp
  have HX0 : Hid (∀ W, Below w0.heap.size w0 W → w.heap.size < W.heap.size ∧ ∀ j, W.cell? ⟨w.heap.size, j, none⟩ = (#[.string o.kind, .string o.name, .string o.team, .slice b1 o.values.length c1, .bool o.ending, .slice b2 o.holds.length c2, .int .i64 o.version] : Array Value)[j]?) := by
    intro W hW
    have q : w.heap.size < w0.heap.size := by have := HZ0.out; omega
    refine ⟨Nat.lt_of_lt_of_le q hW.size, fun j => (hW.cell (p := ⟨w.heap.size, j, none⟩) q).trans ?_⟩
    rw [hw0]
    exact (World.cell?_alloc_past _ _ _ (by simp)).trans (World.cell?_alloc_at _ _ _ _ rfl)
  go_enter Tryz.func7, Tryz.ntmps7
  go_upto_region 1 with fail
  rw [← hw0]
  clear hw0
  go_wp2_with fail
  refine (mendsOkS B mb ss ms w0 (HA.out.1.later HB0.out) (HA.out.2.1.later HB0.out)).mono ?_
  rintro e w2 ⟨rfl, hb2⟩
  have HK2 : Hid (Below w0.heap.size w0 w2) := hb2
  have HB2 : Hid (Below w.heap.size w w2) := blw_trans HB0.out hb2
  have HLO : Hid (w.heap.size + 2 ≤ w2.heap.size) := by have := hb2.size; rw [HZ0.out] at this; exact this
  have HR2 : Hid (OwnBlk w2 (w.heap.size + 1) 30 7) := HR0.out.later hb2
  clear hb2
  obtain ⟨xz, xs⟩ := HX0.out w2 HK2.out
  have x0 : w2.cell? ⟨w.heap.size, 0, none⟩ = some (.string o.kind) := xs 0
  have x1 : w2.cell? ⟨w.heap.size, 1, none⟩ = some (.string o.name) := xs 1
  have x2 : w2.cell? ⟨w.heap.size, 2, none⟩ = some (.string o.team) := xs 2
  have x3 : w2.cell? ⟨w.heap.size, 3, none⟩ = some (.slice b1 o.values.length c1) := xs 3
  have x4 : w2.cell? ⟨w.heap.size, 4, none⟩ = some (.bool o.ending) := xs 4
  have x5 : w2.cell? ⟨w.heap.size, 5, none⟩ = some (.slice b2 o.holds.length c2) := xs 5
  have x6 : w2.cell? ⟨w.heap.size, 6, none⟩ = some (.int .i64 o.version) := xs 6
  clear xs
  have HEND : Hid (∀ (W : World) (a1 : Option Addr) (n1 d1 : Nat) (a2 : Option Addr) (n2 d2 mid : Nat) (vals : List ByteArray), Below w2.heap.size w2 W → CT W w2.heap.size mid (.slice a1 n1 d1) vals → CT W mid W.heap.size (.slice a2 n2 d2) o.holds → w2.heap.size ≤ mid → mid ≤ W.heap.size →
      OwnBlk W (w.heap.size + 1) 30 7 ∧ (∀ j, j < 7 → (puts W (w.heap.size + 1) 0 0 [.string o.kind, .string o.name, .string o.team, .slice a1 n1 d1, .bool o.ending, .slice a2 n2 d2, .int .i64 o.version]).cell? ⟨w.heap.size + 1, 0 + (0 + j), none⟩ = [.string o.kind, .string o.name, .string o.team, .slice a1 n1 d1, .bool o.ending, .slice a2 n2 d2, .int .i64 o.version][j]?) ∧ CT (puts W (w.heap.size + 1) 0 0 [.string o.kind, .string o.name, .string o.team, .slice a1 n1 d1, .bool o.ending, .slice a2 n2 d2, .int .i64 o.version]) w.heap.size mid (.slice a1 n1 d1) vals ∧ CT (puts W (w.heap.size + 1) 0 0 [.string o.kind, .string o.name, .string o.team, .slice a1 n1 d1, .bool o.ending, .slice a2 n2 d2, .int .i64 o.version]) mid (puts W (w.heap.size + 1) 0 0 [.string o.kind, .string o.name, .string o.team, .slice a1 n1 d1, .bool o.ending, .slice a2 n2 d2, .int .i64 o.version]).heap.size (.slice a2 n2 d2) o.holds ∧ w.heap.size ≤ mid ∧ mid ≤ (puts W (w.heap.size + 1) 0 0 [.string o.kind, .string o.name, .string o.team, .slice a1 n1 d1, .bool o.ending, .slice a2 n2 d2, .int .i64 o.version]).heap.size ∧ Below w.heap.size w (puts W (w.heap.size + 1) 0 0 [.string o.kind, .string o.name, .string o.team, .slice a1 n1 d1, .bool o.ending, .slice a2 n2 d2, .int .i64 o.version])) := by
    intro W a1 n1 d1 a2 n2 d2 mid vals hW q1 q2 q3 q4
    have l := HLO.out
    have hO := HR2.out.later hW
    refine ⟨hO, fun j hj => puts_at 0 _ W 0 hO (by simp) j (by simpa using hj), (CT.puts 0 (Or.inl (by omega)) _ W 0 q1).mono (by omega) (Nat.le_refl _), ?_, by omega, by rw [puts_size]; exact q4, puts_below (a := w) 0 (B := w.heap.size + 1) (by omega) _ W 0 (blw_trans HB2.out hW)⟩
    rw [puts_size]
    exact CT.puts 0 (Or.inl (by omega)) _ W 0 q2
  obtain ⟨R, hR⟩ : ∃ R, R = mendsOk ss ms := ⟨_, rfl⟩
  rw [← hR]
  have HRR : Hid (R = mendsOk ss ms) := hR
  clear hR
  cases R
  · have HF : Hid (shapedVals ss ms o = o.values) := by show shapedVals _ _ _ = _; unfold shapedVals; rw [← HRR.out]; rfl
    go_wp2_with fail
    refine (l2Copy o b1 c1 b2 c2 w2 (HA.out.2.2.later HB2.out)).mono ?_
    rintro e w3 ⟨⟨a1, n1, d1, a2, n2, d2, mid, rfl, hct1, hct2, hm1, hm2⟩, hb3⟩
    obtain ⟨hO, r, t1, t2, t3, t4, t5⟩ := HEND.out w3 a1 n1 d1 a2 n2 d2 mid _ hb3 hct1 hct2 hm1 hm2
    clear hb3 hct1 hct2 hm1 hm2 x0 x1 x2 x3 x4 x5 x6 xz
    have hfz := hO.frozen
    have z2 := hO.lt
    obtain ⟨y0, hy0⟩ := hO.cell 0 (by omega)
    obtain ⟨y1, hy1⟩ := hO.cell 1 (by omega)
    obtain ⟨y2, hy2⟩ := hO.cell 2 (by omega)
    obtain ⟨y3, hy3⟩ := hO.cell 3 (by omega)
    obtain ⟨y4, hy4⟩ := hO.cell 4 (by omega)
    obtain ⟨y5, hy5⟩ := hO.cell 5 (by omega)
    obtain ⟨y6, hy6⟩ := hO.cell 6 (by omega)
    have HT : Hid (CT (puts w3 (w.heap.size + 1) 0 0 [.string o.kind, .string o.name, .string o.team, .slice a1 n1 d1, .bool o.ending, .slice a2 n2 d2, .int .i64 o.version]) w.heap.size mid (.slice a1 n1 d1) (o.values)) := t1
    clear hO t1
    go_wp2
    have r0 : (((((((w3.setCell ⟨w.heap.size + 1, 0, none⟩ (.string o.kind)).setCell ⟨w.heap.size + 1, 1, none⟩ (.string o.name)).setCell ⟨w.heap.size + 1, 2, none⟩ (.string o.team)).setCell ⟨w.heap.size + 1, 3, none⟩ (.slice a1 n1 d1)).setCell ⟨w.heap.size + 1, 4, none⟩ (.bool o.ending)).setCell ⟨w.heap.size + 1, 5, none⟩ (.slice a2 n2 d2)).setCell ⟨w.heap.size + 1, 6, none⟩ (.int .i64 o.version)).cell? ⟨w.heap.size + 1, 0, none⟩ = some (.string o.kind) := r 0 (by omega)
    have r1 : (((((((w3.setCell ⟨w.heap.size + 1, 0, none⟩ (.string o.kind)).setCell ⟨w.heap.size + 1, 1, none⟩ (.string o.name)).setCell ⟨w.heap.size + 1, 2, none⟩ (.string o.team)).setCell ⟨w.heap.size + 1, 3, none⟩ (.slice a1 n1 d1)).setCell ⟨w.heap.size + 1, 4, none⟩ (.bool o.ending)).setCell ⟨w.heap.size + 1, 5, none⟩ (.slice a2 n2 d2)).setCell ⟨w.heap.size + 1, 6, none⟩ (.int .i64 o.version)).cell? ⟨w.heap.size + 1, 1, none⟩ = some (.string o.name) := r 1 (by omega)
    have r2 : (((((((w3.setCell ⟨w.heap.size + 1, 0, none⟩ (.string o.kind)).setCell ⟨w.heap.size + 1, 1, none⟩ (.string o.name)).setCell ⟨w.heap.size + 1, 2, none⟩ (.string o.team)).setCell ⟨w.heap.size + 1, 3, none⟩ (.slice a1 n1 d1)).setCell ⟨w.heap.size + 1, 4, none⟩ (.bool o.ending)).setCell ⟨w.heap.size + 1, 5, none⟩ (.slice a2 n2 d2)).setCell ⟨w.heap.size + 1, 6, none⟩ (.int .i64 o.version)).cell? ⟨w.heap.size + 1, 2, none⟩ = some (.string o.team) := r 2 (by omega)
    have r3 : (((((((w3.setCell ⟨w.heap.size + 1, 0, none⟩ (.string o.kind)).setCell ⟨w.heap.size + 1, 1, none⟩ (.string o.name)).setCell ⟨w.heap.size + 1, 2, none⟩ (.string o.team)).setCell ⟨w.heap.size + 1, 3, none⟩ (.slice a1 n1 d1)).setCell ⟨w.heap.size + 1, 4, none⟩ (.bool o.ending)).setCell ⟨w.heap.size + 1, 5, none⟩ (.slice a2 n2 d2)).setCell ⟨w.heap.size + 1, 6, none⟩ (.int .i64 o.version)).cell? ⟨w.heap.size + 1, 3, none⟩ = some (.slice a1 n1 d1) := r 3 (by omega)
    have r4 : (((((((w3.setCell ⟨w.heap.size + 1, 0, none⟩ (.string o.kind)).setCell ⟨w.heap.size + 1, 1, none⟩ (.string o.name)).setCell ⟨w.heap.size + 1, 2, none⟩ (.string o.team)).setCell ⟨w.heap.size + 1, 3, none⟩ (.slice a1 n1 d1)).setCell ⟨w.heap.size + 1, 4, none⟩ (.bool o.ending)).setCell ⟨w.heap.size + 1, 5, none⟩ (.slice a2 n2 d2)).setCell ⟨w.heap.size + 1, 6, none⟩ (.int .i64 o.version)).cell? ⟨w.heap.size + 1, 4, none⟩ = some (.bool o.ending) := r 4 (by omega)
    have r5 : (((((((w3.setCell ⟨w.heap.size + 1, 0, none⟩ (.string o.kind)).setCell ⟨w.heap.size + 1, 1, none⟩ (.string o.name)).setCell ⟨w.heap.size + 1, 2, none⟩ (.string o.team)).setCell ⟨w.heap.size + 1, 3, none⟩ (.slice a1 n1 d1)).setCell ⟨w.heap.size + 1, 4, none⟩ (.bool o.ending)).setCell ⟨w.heap.size + 1, 5, none⟩ (.slice a2 n2 d2)).setCell ⟨w.heap.size + 1, 6, none⟩ (.int .i64 o.version)).cell? ⟨w.heap.size + 1, 5, none⟩ = some (.slice a2 n2 d2) := r 5 (by omega)
    have r6 : (((((((w3.setCell ⟨w.heap.size + 1, 0, none⟩ (.string o.kind)).setCell ⟨w.heap.size + 1, 1, none⟩ (.string o.name)).setCell ⟨w.heap.size + 1, 2, none⟩ (.string o.team)).setCell ⟨w.heap.size + 1, 3, none⟩ (.slice a1 n1 d1)).setCell ⟨w.heap.size + 1, 4, none⟩ (.bool o.ending)).setCell ⟨w.heap.size + 1, 5, none⟩ (.slice a2 n2 d2)).setCell ⟨w.heap.size + 1, 6, none⟩ (.int .i64 o.version)).cell? ⟨w.heap.size + 1, 6, none⟩ = some (.int .i64 o.version) := r 6 (by omega)
    refine bodyPost_ret (v := .agg #[.string o.kind, .string o.name, .string o.team, .slice a1 n1 d1, .bool o.ending, .slice a2 n2 d2, .int .i64 o.version]) (by simp only [results, Tryz.results7]; simp [go_sem, r0, r1, r2, r3, r4, r5, r6]) rfl ⟨⟨_, _, _, _, _, _, mid, rfl, ?_, t2, t3, t4⟩, t5⟩
    rw [HF.out]; exact HT.out
  · have HF : Hid (shapedVals ss ms o = shapeVals ss ms o) := by show shapedVals _ _ _ = _; unfold shapedVals; rw [← HRR.out]; rfl
    go_wp2_with fail
    refine (l3ShapedS B mb ss ms o b1 c1 b2 c2 w2 (HA.out.1.later HB2.out) (HA.out.2.1.later HB2.out) HRR.out.symm (HA.out.2.2.later HB2.out)).mono ?_
    rintro e w3 ⟨⟨a1, n1, d1, a2, n2, d2, mid, rfl, hct1, hct2, hm1, hm2⟩, hb3⟩
    obtain ⟨hO, r, t1, t2, t3, t4, t5⟩ := HEND.out w3 a1 n1 d1 a2 n2 d2 mid _ hb3 hct1 hct2 hm1 hm2
    clear hb3 hct1 hct2 hm1 hm2 x0 x1 x2 x3 x4 x5 x6 xz
    have hfz := hO.frozen
    have z2 := hO.lt
    obtain ⟨y0, hy0⟩ := hO.cell 0 (by omega)
    obtain ⟨y1, hy1⟩ := hO.cell 1 (by omega)
    obtain ⟨y2, hy2⟩ := hO.cell 2 (by omega)
    obtain ⟨y3, hy3⟩ := hO.cell 3 (by omega)
    obtain ⟨y4, hy4⟩ := hO.cell 4 (by omega)
    obtain ⟨y5, hy5⟩ := hO.cell 5 (by omega)
    obtain ⟨y6, hy6⟩ := hO.cell 6 (by omega)
    have HT : Hid (CT (puts w3 (w.heap.size + 1) 0 0 [.string o.kind, .string o.name, .string o.team, .slice a1 n1 d1, .bool o.ending, .slice a2 n2 d2, .int .i64 o.version]) w.heap.size mid (.slice a1 n1 d1) (shapeVals ss ms o)) := t1
    clear hO t1
    go_wp2
    have r0 : (((((((w3.setCell ⟨w.heap.size + 1, 0, none⟩ (.string o.kind)).setCell ⟨w.heap.size + 1, 1, none⟩ (.string o.name)).setCell ⟨w.heap.size + 1, 2, none⟩ (.string o.team)).setCell ⟨w.heap.size + 1, 3, none⟩ (.slice a1 n1 d1)).setCell ⟨w.heap.size + 1, 4, none⟩ (.bool o.ending)).setCell ⟨w.heap.size + 1, 5, none⟩ (.slice a2 n2 d2)).setCell ⟨w.heap.size + 1, 6, none⟩ (.int .i64 o.version)).cell? ⟨w.heap.size + 1, 0, none⟩ = some (.string o.kind) := r 0 (by omega)
    have r1 : (((((((w3.setCell ⟨w.heap.size + 1, 0, none⟩ (.string o.kind)).setCell ⟨w.heap.size + 1, 1, none⟩ (.string o.name)).setCell ⟨w.heap.size + 1, 2, none⟩ (.string o.team)).setCell ⟨w.heap.size + 1, 3, none⟩ (.slice a1 n1 d1)).setCell ⟨w.heap.size + 1, 4, none⟩ (.bool o.ending)).setCell ⟨w.heap.size + 1, 5, none⟩ (.slice a2 n2 d2)).setCell ⟨w.heap.size + 1, 6, none⟩ (.int .i64 o.version)).cell? ⟨w.heap.size + 1, 1, none⟩ = some (.string o.name) := r 1 (by omega)
    have r2 : (((((((w3.setCell ⟨w.heap.size + 1, 0, none⟩ (.string o.kind)).setCell ⟨w.heap.size + 1, 1, none⟩ (.string o.name)).setCell ⟨w.heap.size + 1, 2, none⟩ (.string o.team)).setCell ⟨w.heap.size + 1, 3, none⟩ (.slice a1 n1 d1)).setCell ⟨w.heap.size + 1, 4, none⟩ (.bool o.ending)).setCell ⟨w.heap.size + 1, 5, none⟩ (.slice a2 n2 d2)).setCell ⟨w.heap.size + 1, 6, none⟩ (.int .i64 o.version)).cell? ⟨w.heap.size + 1, 2, none⟩ = some (.string o.team) := r 2 (by omega)
    have r3 : (((((((w3.setCell ⟨w.heap.size + 1, 0, none⟩ (.string o.kind)).setCell ⟨w.heap.size + 1, 1, none⟩ (.string o.name)).setCell ⟨w.heap.size + 1, 2, none⟩ (.string o.team)).setCell ⟨w.heap.size + 1, 3, none⟩ (.slice a1 n1 d1)).setCell ⟨w.heap.size + 1, 4, none⟩ (.bool o.ending)).setCell ⟨w.heap.size + 1, 5, none⟩ (.slice a2 n2 d2)).setCell ⟨w.heap.size + 1, 6, none⟩ (.int .i64 o.version)).cell? ⟨w.heap.size + 1, 3, none⟩ = some (.slice a1 n1 d1) := r 3 (by omega)
    have r4 : (((((((w3.setCell ⟨w.heap.size + 1, 0, none⟩ (.string o.kind)).setCell ⟨w.heap.size + 1, 1, none⟩ (.string o.name)).setCell ⟨w.heap.size + 1, 2, none⟩ (.string o.team)).setCell ⟨w.heap.size + 1, 3, none⟩ (.slice a1 n1 d1)).setCell ⟨w.heap.size + 1, 4, none⟩ (.bool o.ending)).setCell ⟨w.heap.size + 1, 5, none⟩ (.slice a2 n2 d2)).setCell ⟨w.heap.size + 1, 6, none⟩ (.int .i64 o.version)).cell? ⟨w.heap.size + 1, 4, none⟩ = some (.bool o.ending) := r 4 (by omega)
    have r5 : (((((((w3.setCell ⟨w.heap.size + 1, 0, none⟩ (.string o.kind)).setCell ⟨w.heap.size + 1, 1, none⟩ (.string o.name)).setCell ⟨w.heap.size + 1, 2, none⟩ (.string o.team)).setCell ⟨w.heap.size + 1, 3, none⟩ (.slice a1 n1 d1)).setCell ⟨w.heap.size + 1, 4, none⟩ (.bool o.ending)).setCell ⟨w.heap.size + 1, 5, none⟩ (.slice a2 n2 d2)).setCell ⟨w.heap.size + 1, 6, none⟩ (.int .i64 o.version)).cell? ⟨w.heap.size + 1, 5, none⟩ = some (.slice a2 n2 d2) := r 5 (by omega)
    have r6 : (((((((w3.setCell ⟨w.heap.size + 1, 0, none⟩ (.string o.kind)).setCell ⟨w.heap.size + 1, 1, none⟩ (.string o.name)).setCell ⟨w.heap.size + 1, 2, none⟩ (.string o.team)).setCell ⟨w.heap.size + 1, 3, none⟩ (.slice a1 n1 d1)).setCell ⟨w.heap.size + 1, 4, none⟩ (.bool o.ending)).setCell ⟨w.heap.size + 1, 5, none⟩ (.slice a2 n2 d2)).setCell ⟨w.heap.size + 1, 6, none⟩ (.int .i64 o.version)).cell? ⟨w.heap.size + 1, 6, none⟩ = some (.int .i64 o.version) := r 6 (by omega)
    refine bodyPost_ret (v := .agg #[.string o.kind, .string o.name, .string o.team, .slice a1 n1 d1, .bool o.ending, .slice a2 n2 d2, .int .i64 o.version]) (by simp only [results, Tryz.results7]; simp [go_sem, r0, r1, r2, r3, r4, r5, r6]) rfl ⟨⟨_, _, _, _, _, _, mid, rfl, ?_, t2, t3, t4⟩, t5⟩
    rw [HF.out]; exact HT.out

end Go.Proofs.YtfdahoekjpobaaaGreat
