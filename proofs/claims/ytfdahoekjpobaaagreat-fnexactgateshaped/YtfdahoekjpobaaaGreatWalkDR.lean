/-
  Walks: an object is shaped (filled, then mended): the program, the specification.
-/
import Derived.Test.YtfdahoekjpobaaaGreatWalkDE
import Derived.Test.YtfdahoekjpobaaaGreatWalkAJ
import Derived.Test.YtfdahoekjpobaaaGreatWalkAL
namespace Go.Proofs.YtfdahoekjpobaaaGreat
open Go.RowKit Go.Deep

def shapeVals (ss : List Shp) (ms : List Mnd) (o : Ob) : List ByteArray := mendVals ss ms o.kind (l2Vals ss o)

theorem l2Vals_len (ss : List Shp) (o : Ob) : (l2Vals ss o).length = o.values.length := by
  unfold l2Vals; split
  · exact fillTo_len _ _ _
  · rfl
theorem shapeVals_len (ss : List Shp) (ms : List Mnd) (o : Ob) : (shapeVals ss ms o).length = o.values.length := by
  unfold shapeVals; rw [mendVals_len, l2Vals_len]

set_option maxRecDepth 8000 in
set_option maxHeartbeats 4000000 in
theorem shapeObjI (B mb : Nat) (ss : List Shp) (ms : List Mnd) (o : Ob) (b1 : Option Addr) (c1 : Nat) (b2 : Option Addr) (c2 : Nat) (w : World) (h : ShpsIn w B ss) (hm : MndsIn w mb ms) (hok : mendsOk ss ms = true) (ho : ObG w b1 c1 b2 c2 o) :
    Calls Tryz.prog 30 #[.slice (some ⟨B, 0, none⟩) ss.length ss.length, .slice (some ⟨mb, 0, none⟩) ms.length ms.length, .agg #[.string o.kind, .string o.name, .string o.team, .slice b1 o.values.length c1, .bool o.ending, .slice b2 o.holds.length c2, .int .i64 o.version]] w fun e w' => (∃ a1 n1 d1 a2 n2 d2 mid, e = .returned (.agg #[.string o.kind, .string o.name, .string o.team, .slice a1 n1 d1, .bool o.ending, .slice a2 n2 d2, .int .i64 o.version]) ∧ CT w' w.heap.size mid (.slice a1 n1 d1) (shapeVals ss ms o) ∧ CT w' mid w'.heap.size (.slice a2 n2 d2) o.holds ∧ w.heap.size ≤ mid ∧ mid ≤ w'.heap.size) ∧ Below w.heap.size w w' := by
  have HA : Hid (ShpsIn w B ss ∧ MndsIn w mb ms ∧ ObG w b1 c1 b2 c2 o ∧ mendsOk ss ms = true) := ⟨h, hm, ho, hok⟩
  have hl := h.len
  have hlm := hm.len
  have hl1 := ho.len1
  clear h hm ho hok
  obtain ⟨w0, hw0⟩ : ∃ w0, w0 = (w.alloc (.cells #[.string o.kind, .string o.name, .string o.team, .slice b1 o.values.length c1, .bool o.ending, .slice b2 o.holds.length c2, .int .i64 o.version] 30)).alloc (.cells #[.string ⟨#[]⟩, .string ⟨#[]⟩, .string ⟨#[]⟩, .slice none 0 0, .bool false, .slice none 0 0, .int .i64 0] 30) := ⟨_, rfl⟩
  have HB0 : Hid (Below w.heap.size w w0) := by show Below _ _ _; rw [hw0]; exact blw_alloc (blw_alloc (Below.refl _ _) _) _
  have HR0 : Hid (OwnBlk w0 (w.heap.size + 1) 30 7) := by show OwnBlk _ _ _ _; rw [hw0]; exact OwnBlk.alloc_at _ _ _ _ _ rfl (by simp)
  have HQ0 : Hid (OwnBlk w0 w.heap.size 30 7) := by
    show OwnBlk _ _ _ _
    rw [hw0]
    exact (OwnBlk.alloc w _ 30 7 rfl).later (blw_alloc (Below.refl _ _) _)
  have HZ0 : Hid (w0.heap.size = w.heap.size + 2) := by show _ = _; rw [hw0]; simp
  have HX0 : Hid (∀ W, Below w0.heap.size w0 W → w.heap.size < W.heap.size ∧ ∀ j, W.cell? ⟨w.heap.size, j, none⟩ = (#[.string o.kind, .string o.name, .string o.team, .slice b1 o.values.length c1, .bool o.ending, .slice b2 o.holds.length c2, .int .i64 o.version] : Array Value)[j]?) := by
    intro W hW
    have q : w.heap.size < w0.heap.size := by have := HZ0.out; omega
    refine ⟨Nat.lt_of_lt_of_le q hW.size, fun j => (hW.cell (p := ⟨w.heap.size, j, none⟩) q).trans ?_⟩
    rw [hw0]
    exact (World.cell?_alloc_past _ _ _ (by simp)).trans (World.cell?_alloc_at _ _ _ _ rfl)
  have HEND : Hid (∀ (V W : World) (a1 : Option Addr) (n1 d1 : Nat) (a2 : Option Addr) (n2 d2 mid : Nat) (vals : List ByteArray), Below w.heap.size w V → w.heap.size + 2 ≤ V.heap.size → OwnBlk V (w.heap.size + 1) 30 7 → Below V.heap.size V W → CT W V.heap.size mid (.slice a1 n1 d1) vals → CT W mid W.heap.size (.slice a2 n2 d2) o.holds → V.heap.size ≤ mid → mid ≤ W.heap.size →
      OwnBlk W (w.heap.size + 1) 30 7 ∧ (∀ j, j < 7 → (puts W (w.heap.size + 1) 0 0 [.string o.kind, .string o.name, .string o.team, .slice a1 n1 d1, .bool o.ending, .slice a2 n2 d2, .int .i64 o.version]).cell? ⟨w.heap.size + 1, 0 + (0 + j), none⟩ = [.string o.kind, .string o.name, .string o.team, .slice a1 n1 d1, .bool o.ending, .slice a2 n2 d2, .int .i64 o.version][j]?) ∧ CT (puts W (w.heap.size + 1) 0 0 [.string o.kind, .string o.name, .string o.team, .slice a1 n1 d1, .bool o.ending, .slice a2 n2 d2, .int .i64 o.version]) w.heap.size mid (.slice a1 n1 d1) vals ∧ CT (puts W (w.heap.size + 1) 0 0 [.string o.kind, .string o.name, .string o.team, .slice a1 n1 d1, .bool o.ending, .slice a2 n2 d2, .int .i64 o.version]) mid (puts W (w.heap.size + 1) 0 0 [.string o.kind, .string o.name, .string o.team, .slice a1 n1 d1, .bool o.ending, .slice a2 n2 d2, .int .i64 o.version]).heap.size (.slice a2 n2 d2) o.holds ∧ w.heap.size ≤ mid ∧ mid ≤ (puts W (w.heap.size + 1) 0 0 [.string o.kind, .string o.name, .string o.team, .slice a1 n1 d1, .bool o.ending, .slice a2 n2 d2, .int .i64 o.version]).heap.size ∧ Below w.heap.size w (puts W (w.heap.size + 1) 0 0 [.string o.kind, .string o.name, .string o.team, .slice a1 n1 d1, .bool o.ending, .slice a2 n2 d2, .int .i64 o.version])) := by
    intro V W a1 n1 d1 a2 n2 d2 mid vals hV l hOV hW q1 q2 q3 q4
    have hO := hOV.later hW
    refine ⟨hO, fun j hj => puts_at 0 _ W 0 hO (by simp) j (by simpa using hj), (CT.puts 0 (Or.inl (by omega)) _ W 0 q1).mono (by omega) (Nat.le_refl _), ?_, by omega, by rw [puts_size]; exact q4, puts_below (a := w) 0 (B := w.heap.size + 1) (by omega) _ W 0 (blw_trans hV hW)⟩
    rw [puts_size]
    exact CT.puts 0 (Or.inl (by omega)) _ W 0 q2
  go_enter Tryz.func30, Tryz.ntmps30
  go_upto_region 1 with fail
  rw [← hw0]
  clear hw0
  obtain ⟨xz, xs⟩ := HX0.out w0 (Below.refl _ _)
  have x0 : w0.cell? ⟨w.heap.size, 0, none⟩ = some (.string o.kind) := xs 0
  clear xs
  go_wp2_with fail
  refine (shapeOf_in w B ss o.kind w0 HA.out.1 HB0.out).mono ?_
  rintro e w3 ⟨kd, a, n, c, rfl, hso, hb3⟩
  obtain ⟨R, hR⟩ : ∃ R, R = hasKind ss o.kind := ⟨_, rfl⟩
  rw [← hR]
  have HSO : Hid (ShapeOf ss o.kind w kd (.slice a n c)) := hso
  have HRR : Hid (R = hasKind ss o.kind) := hR
  clear hR hso x0 xz
  obtain ⟨w4, hw4⟩ : ∃ w4, w4 = w3.alloc (.cells #[.string kd, .slice a n c] 56) := ⟨_, rfl⟩
  obtain ⟨S, hS⟩ : ∃ S, S = w3.heap.size := ⟨_, rfl⟩
  have hb4 : Below w3.heap.size w3 w4 := by rw [hw4]; exact blw_alloc (Below.refl _ _) _
  have HK4 : Hid (Below w0.heap.size w0 w4) := blw_trans hb3 hb4
  have HB4 : Hid (Below w.heap.size w w4) := blw_trans HB0.out (blw_trans hb3 hb4)
  have HR4 : Hid (OwnBlk w4 (w.heap.size + 1) 30 7) := HR0.out.later (blw_trans hb3 hb4)
  have HQ4 : Hid (OwnBlk w4 w.heap.size 30 7) := HQ0.out.later (blw_trans hb3 hb4)
  have HL4 : Hid (w.heap.size + 2 ≤ w4.heap.size) := by have := (blw_trans hb3 hb4).size; rw [HZ0.out] at this; exact this
  have HS4 : Hid (S < w4.heap.size ∧ w4.cell? ⟨S, 0, none⟩ = some (.string kd) ∧ w4.cell? ⟨S, 1, none⟩ = some (.slice a n c)) := by
    refine ⟨?_, ?_, ?_⟩ <;> rw [hw4, hS] <;> simp
  go_upto_region 2 with fail
  rw [← hw4, ← hS]
  clear hw4 hS hb3 hb4
  obtain ⟨xz, xs⟩ := HX0.out w4 HK4.out
  have x0 : w4.cell? ⟨w.heap.size, 0, none⟩ = some (.string o.kind) := xs 0
  have x1 : w4.cell? ⟨w.heap.size, 1, none⟩ = some (.string o.name) := xs 1
  have x2 : w4.cell? ⟨w.heap.size, 2, none⟩ = some (.string o.team) := xs 2
  have x3 : w4.cell? ⟨w.heap.size, 3, none⟩ = some (.slice b1 o.values.length c1) := xs 3
  have x4 : w4.cell? ⟨w.heap.size, 4, none⟩ = some (.bool o.ending) := xs 4
  have x5 : w4.cell? ⟨w.heap.size, 5, none⟩ = some (.slice b2 o.holds.length c2) := xs 5
  have x6 : w4.cell? ⟨w.heap.size, 6, none⟩ = some (.int .i64 o.version) := xs 6
  clear xs
  cases R
  · have HF : Hid (shapeVals ss ms o = mendVals ss ms o.kind o.values) := by
      show shapeVals ss ms o = _
      unfold shapeVals l2Vals hasFields
      rw [if_neg]
      rw [← HRR.out]; simp
    have HBV : Hid (Below w.heap.size w w4) := HB4.out
    have HLV : Hid (w.heap.size + 2 ≤ w4.heap.size) := HL4.out
    have HRV : Hid (OwnBlk w4 (w.heap.size + 1) 30 7) := HR4.out
    go_wp2_with fail
    refine (mendObjI B mb ss ms o b1 c1 b2 c2 w4 (HA.out.1.later HB4.out) (HA.out.2.1.later HB4.out) HA.out.2.2.2 (HA.out.2.2.1.later HB4.out)).mono ?_
    rintro e w9 ⟨⟨a1, n1, d1, a2, n2, d2, mid, rfl, hct1, hct2, hm1, hm2⟩, hb9⟩
    obtain ⟨hO, r, t1, t2, t3, t4, t5⟩ := HEND.out w4 w9 a1 n1 d1 a2 n2 d2 mid _ HBV.out HLV.out HRV.out hb9 hct1 hct2 hm1 hm2
    clear hb9 hct1 hct2 hm1 hm2 x0 x1 x2 x3 x4 x5 x6 xz
    have hfz := hO.frozen
    have z2 := hO.lt
    obtain ⟨y0, hy0⟩ := hO.cell 0 (by omega)
    obtain ⟨y1, hy1⟩ := hO.cell 1 (by omega)
    obtain ⟨y2, hy2⟩ := hO.cell 2 (by omega)
    obtain ⟨y3, hy3⟩ := hO.cell 3 (by omega)
    obtain ⟨y4, hy4⟩ := hO.cell 4 (by omega)
    obtain ⟨y5, hy5⟩ := hO.cell 5 (by omega)
    obtain ⟨y6, hy6⟩ := hO.cell 6 (by omega)
    have HT : Hid (CT (puts w9 (w.heap.size + 1) 0 0 [.string o.kind, .string o.name, .string o.team, .slice a1 n1 d1, .bool o.ending, .slice a2 n2 d2, .int .i64 o.version]) w.heap.size mid (.slice a1 n1 d1) (mendVals ss ms o.kind o.values)) := t1
    clear hO t1
    go_wp2
    have r0 : (((((((w9.setCell ⟨w.heap.size + 1, 0, none⟩ (.string o.kind)).setCell ⟨w.heap.size + 1, 1, none⟩ (.string o.name)).setCell ⟨w.heap.size + 1, 2, none⟩ (.string o.team)).setCell ⟨w.heap.size + 1, 3, none⟩ (.slice a1 n1 d1)).setCell ⟨w.heap.size + 1, 4, none⟩ (.bool o.ending)).setCell ⟨w.heap.size + 1, 5, none⟩ (.slice a2 n2 d2)).setCell ⟨w.heap.size + 1, 6, none⟩ (.int .i64 o.version)).cell? ⟨w.heap.size + 1, 0, none⟩ = some (.string o.kind) := r 0 (by omega)
    have r1 : (((((((w9.setCell ⟨w.heap.size + 1, 0, none⟩ (.string o.kind)).setCell ⟨w.heap.size + 1, 1, none⟩ (.string o.name)).setCell ⟨w.heap.size + 1, 2, none⟩ (.string o.team)).setCell ⟨w.heap.size + 1, 3, none⟩ (.slice a1 n1 d1)).setCell ⟨w.heap.size + 1, 4, none⟩ (.bool o.ending)).setCell ⟨w.heap.size + 1, 5, none⟩ (.slice a2 n2 d2)).setCell ⟨w.heap.size + 1, 6, none⟩ (.int .i64 o.version)).cell? ⟨w.heap.size + 1, 1, none⟩ = some (.string o.name) := r 1 (by omega)
    have r2 : (((((((w9.setCell ⟨w.heap.size + 1, 0, none⟩ (.string o.kind)).setCell ⟨w.heap.size + 1, 1, none⟩ (.string o.name)).setCell ⟨w.heap.size + 1, 2, none⟩ (.string o.team)).setCell ⟨w.heap.size + 1, 3, none⟩ (.slice a1 n1 d1)).setCell ⟨w.heap.size + 1, 4, none⟩ (.bool o.ending)).setCell ⟨w.heap.size + 1, 5, none⟩ (.slice a2 n2 d2)).setCell ⟨w.heap.size + 1, 6, none⟩ (.int .i64 o.version)).cell? ⟨w.heap.size + 1, 2, none⟩ = some (.string o.team) := r 2 (by omega)
    have r3 : (((((((w9.setCell ⟨w.heap.size + 1, 0, none⟩ (.string o.kind)).setCell ⟨w.heap.size + 1, 1, none⟩ (.string o.name)).setCell ⟨w.heap.size + 1, 2, none⟩ (.string o.team)).setCell ⟨w.heap.size + 1, 3, none⟩ (.slice a1 n1 d1)).setCell ⟨w.heap.size + 1, 4, none⟩ (.bool o.ending)).setCell ⟨w.heap.size + 1, 5, none⟩ (.slice a2 n2 d2)).setCell ⟨w.heap.size + 1, 6, none⟩ (.int .i64 o.version)).cell? ⟨w.heap.size + 1, 3, none⟩ = some (.slice a1 n1 d1) := r 3 (by omega)
    have r4 : (((((((w9.setCell ⟨w.heap.size + 1, 0, none⟩ (.string o.kind)).setCell ⟨w.heap.size + 1, 1, none⟩ (.string o.name)).setCell ⟨w.heap.size + 1, 2, none⟩ (.string o.team)).setCell ⟨w.heap.size + 1, 3, none⟩ (.slice a1 n1 d1)).setCell ⟨w.heap.size + 1, 4, none⟩ (.bool o.ending)).setCell ⟨w.heap.size + 1, 5, none⟩ (.slice a2 n2 d2)).setCell ⟨w.heap.size + 1, 6, none⟩ (.int .i64 o.version)).cell? ⟨w.heap.size + 1, 4, none⟩ = some (.bool o.ending) := r 4 (by omega)
    have r5 : (((((((w9.setCell ⟨w.heap.size + 1, 0, none⟩ (.string o.kind)).setCell ⟨w.heap.size + 1, 1, none⟩ (.string o.name)).setCell ⟨w.heap.size + 1, 2, none⟩ (.string o.team)).setCell ⟨w.heap.size + 1, 3, none⟩ (.slice a1 n1 d1)).setCell ⟨w.heap.size + 1, 4, none⟩ (.bool o.ending)).setCell ⟨w.heap.size + 1, 5, none⟩ (.slice a2 n2 d2)).setCell ⟨w.heap.size + 1, 6, none⟩ (.int .i64 o.version)).cell? ⟨w.heap.size + 1, 5, none⟩ = some (.slice a2 n2 d2) := r 5 (by omega)
    have r6 : (((((((w9.setCell ⟨w.heap.size + 1, 0, none⟩ (.string o.kind)).setCell ⟨w.heap.size + 1, 1, none⟩ (.string o.name)).setCell ⟨w.heap.size + 1, 2, none⟩ (.string o.team)).setCell ⟨w.heap.size + 1, 3, none⟩ (.slice a1 n1 d1)).setCell ⟨w.heap.size + 1, 4, none⟩ (.bool o.ending)).setCell ⟨w.heap.size + 1, 5, none⟩ (.slice a2 n2 d2)).setCell ⟨w.heap.size + 1, 6, none⟩ (.int .i64 o.version)).cell? ⟨w.heap.size + 1, 6, none⟩ = some (.int .i64 o.version) := r 6 (by omega)
    refine bodyPost_ret (v := .agg #[.string o.kind, .string o.name, .string o.team, .slice a1 n1 d1, .bool o.ending, .slice a2 n2 d2, .int .i64 o.version]) (by simp only [results, Tryz.results30]; simp [go_sem, r0, r1, r2, r3, r4, r5, r6]) rfl ⟨⟨_, _, _, _, _, _, mid, rfl, ?_, t2, t3, t4⟩, t5⟩
    rw [HF.out]; exact HT.out
  · have hk : hasKind ss o.kind = true := HRR.out.symm
    obtain ⟨hkd, b, hv, hbl, hf⟩ := HSO.out hk
    obtain ⟨_, _, _, hfn, _⟩ := HA.out.1.at_ (kindAt ss o.kind) (by simpa [hasKind] using hk)
    obtain ⟨fs, hfs⟩ : ∃ fs, fs = (ss.getD (kindAt ss o.kind) Shp.none).fields := ⟨_, rfl⟩
    rw [← hfs] at hv hf hfn
    injection hv with hv1 hv2 hv3
    subst hv1 hv2 hv3
    obtain ⟨L, hL⟩ : ∃ L, L = fillVals fs o := ⟨_, rfl⟩
    have HF : Hid (shapeVals ss ms o = mendVals ss ms o.kind L) := by
      show shapeVals ss ms o = _
      have e : l2Vals ss o = L := by
        rw [hL]
        unfold l2Vals fillVals hasFields
        rw [← hfs, ← HRR.out]
        by_cases heq : o.values.length = fs.length
        · rw [if_pos heq, if_pos (by simp [heq])]
        · rw [if_neg heq, if_neg (by simp; omega)]
      unfold shapeVals; rw [e]
    have HLL : Hid (L.length ≤ 1048576) := by
      show L.length ≤ 1048576
      rw [hL]; unfold fillVals; split
      · rw [fillTo_len]; exact hl1
      · exact hl1
    have HC := fillObjI kd b fs o b1 c1 b2 c2 w4 hfn (Nat.lt_of_lt_of_le hbl HB4.out.size) (fun i hi => (hf i hi).later HB4.out hbl) (HA.out.2.2.1.later HB4.out)
    rw [← hL] at HC
    have HC' : Hid (Calls Tryz.prog 51 #[.agg #[.string kd, .slice (some ⟨b, 0, none⟩) fs.length fs.length], .agg #[.string o.kind, .string o.name, .string o.team, .slice b1 o.values.length c1, .bool o.ending, .slice b2 o.holds.length c2, .int .i64 o.version]] w4 fun e w' => (∃ a1 n1 d1 a2 n2 d2 mid, e = .returned (.agg #[.string o.kind, .string o.name, .string o.team, .slice a1 n1 d1, .bool o.ending, .slice a2 n2 d2, .int .i64 o.version]) ∧ CT w' w4.heap.size mid (.slice a1 n1 d1) (L) ∧ CT w' mid w'.heap.size (.slice a2 n2 d2) o.holds ∧ w4.heap.size ≤ mid ∧ mid ≤ w'.heap.size) ∧ Below w4.heap.size w4 w') := HC
    clear HC hk hkd hbl hf hfs hfn hL
    obtain ⟨sz, g0, g1⟩ := HS4.out
    go_wp2_with fail
    refine HC'.out.mono ?_
    rintro e w5 ⟨⟨a1, n1, d1, a2, n2, d2, mid, rfl, hct1, hct2, hm1, hm2⟩, hb5⟩
    clear x0 x1 x2 x3 x4 x5 x6 xz sz g0 g1
    obtain ⟨w6, hw6⟩ : ∃ w6, w6 = ((((((w5.setCell ⟨w.heap.size, 0, none⟩ (.string o.kind)).setCell ⟨w.heap.size, 1, none⟩ (.string o.name)).setCell ⟨w.heap.size, 2, none⟩ (.string o.team)).setCell ⟨w.heap.size, 3, none⟩ (.slice a1 n1 d1)).setCell ⟨w.heap.size, 4, none⟩ (.bool o.ending)).setCell ⟨w.heap.size, 5, none⟩ (.slice a2 n2 d2)).setCell ⟨w.heap.size, 6, none⟩ (.int .i64 o.version) := ⟨_, rfl⟩
    have hp6 : w6 = puts w5 w.heap.size 0 0 [.string o.kind, .string o.name, .string o.team, .slice a1 n1 d1, .bool o.ending, .slice a2 n2 d2, .int .i64 o.version] := hw6
    have hQ5 := HQ4.out.later hb5
    have l4 := HL4.out
    have hs5 := hb5.size
    have HBV : Hid (Below w.heap.size w w6) := by
      show Below _ _ _
      rw [hp6]; exact puts_below (a := w) 0 (B := w.heap.size) (Nat.le_refl _) _ w5 0 (blw_trans HB4.out hb5)
    have HLV : Hid (w.heap.size + 2 ≤ w6.heap.size) := by show _ ≤ _; rw [hp6, puts_size]; omega
    have HRV : Hid (OwnBlk w6 (w.heap.size + 1) 30 7) := by show OwnBlk _ _ _ _; rw [hp6]; exact own_puts_other 0 (by omega) _ w5 0 (HR4.out.later hb5)
    have k1 : CT w6 w4.heap.size mid (.slice a1 n1 d1) L := by rw [hp6]; exact CT.puts 0 (Or.inl (by omega)) _ w5 0 hct1
    have k2 : CT w6 mid w5.heap.size (.slice a2 n2 d2) o.holds := by rw [hp6]; exact CT.puts 0 (Or.inl (by omega)) _ w5 0 hct2
    obtain ⟨rfl, k1'⟩ := k1.g
    obtain ⟨rfl, k2'⟩ := k2.g
    have HO6 : Hid (ObG w6 a1 d1 a2 d2 ⟨o.kind, o.name, o.team, L, o.ending, o.holds, o.version⟩) := ⟨HLL.out, HA.out.2.2.1.len2, k1', k2'⟩
    have xs : ∀ j, j < 7 → w6.cell? ⟨w.heap.size, 0 + (0 + j), none⟩ = [.string o.kind, .string o.name, .string o.team, .slice a1 L.length d1, .bool o.ending, .slice a2 o.holds.length d2, .int .i64 o.version][j]? := fun j hj => by rw [hp6]; exact puts_at 0 _ w5 0 hQ5 (by simp) j (by simpa using hj)
    have xz : w.heap.size < w6.heap.size := by have := HLV.out; omega
    have hfz := hQ5.frozen
    have z2 := hQ5.lt
    obtain ⟨y0, hy0⟩ := hQ5.cell 0 (by omega)
    obtain ⟨y1, hy1⟩ := hQ5.cell 1 (by omega)
    obtain ⟨y2, hy2⟩ := hQ5.cell 2 (by omega)
    obtain ⟨y3, hy3⟩ := hQ5.cell 3 (by omega)
    obtain ⟨y4, hy4⟩ := hQ5.cell 4 (by omega)
    obtain ⟨y5, hy5⟩ := hQ5.cell 5 (by omega)
    obtain ⟨y6, hy6⟩ := hQ5.cell 6 (by omega)
    clear hp6 hQ5 hct1 hct2 hm1 hm2 k1 k2 k1' k2' hb5 hs5 l4
    go_upto_region 4 with fail
    rw [← hw6]
    clear hw6 hfz z2 y0 hy0 y1 hy1 y2 hy2 y3 hy3 y4 hy4 y5 hy5 y6 hy6
    have x0 : w6.cell? ⟨w.heap.size, 0, none⟩ = some (.string o.kind) := xs 0 (by omega)
    have x1 : w6.cell? ⟨w.heap.size, 1, none⟩ = some (.string o.name) := xs 1 (by omega)
    have x2 : w6.cell? ⟨w.heap.size, 2, none⟩ = some (.string o.team) := xs 2 (by omega)
    have x3 : w6.cell? ⟨w.heap.size, 3, none⟩ = some (.slice a1 L.length d1) := xs 3 (by omega)
    have x4 : w6.cell? ⟨w.heap.size, 4, none⟩ = some (.bool o.ending) := xs 4 (by omega)
    have x5 : w6.cell? ⟨w.heap.size, 5, none⟩ = some (.slice a2 o.holds.length d2) := xs 5 (by omega)
    have x6 : w6.cell? ⟨w.heap.size, 6, none⟩ = some (.int .i64 o.version) := xs 6 (by omega)
    clear xs
    go_wp2_with fail
    refine (mendObjI B mb ss ms ⟨o.kind, o.name, o.team, L, o.ending, o.holds, o.version⟩ a1 d1 a2 d2 w6 (HA.out.1.later HBV.out) (HA.out.2.1.later HBV.out) HA.out.2.2.2 HO6.out).mono ?_
    clear HO6
    rintro e w9 ⟨⟨a1, n1, d1, a2, n2, d2, mid, rfl, hct1, hct2, hm1, hm2⟩, hb9⟩
    obtain ⟨hO, r, t1, t2, t3, t4, t5⟩ := HEND.out w6 w9 a1 n1 d1 a2 n2 d2 mid _ HBV.out HLV.out HRV.out hb9 hct1 hct2 hm1 hm2
    clear hb9 hct1 hct2 hm1 hm2 x0 x1 x2 x3 x4 x5 x6 xz
    have hfz := hO.frozen
    have z2 := hO.lt
    obtain ⟨y0, hy0⟩ := hO.cell 0 (by omega)
    obtain ⟨y1, hy1⟩ := hO.cell 1 (by omega)
    obtain ⟨y2, hy2⟩ := hO.cell 2 (by omega)
    obtain ⟨y3, hy3⟩ := hO.cell 3 (by omega)
    obtain ⟨y4, hy4⟩ := hO.cell 4 (by omega)
    obtain ⟨y5, hy5⟩ := hO.cell 5 (by omega)
    obtain ⟨y6, hy6⟩ := hO.cell 6 (by omega)
    have HT : Hid (CT (puts w9 (w.heap.size + 1) 0 0 [.string o.kind, .string o.name, .string o.team, .slice a1 n1 d1, .bool o.ending, .slice a2 n2 d2, .int .i64 o.version]) w.heap.size mid (.slice a1 n1 d1) (mendVals ss ms o.kind L)) := t1
    clear hO t1
    go_wp2
    have r0 : (((((((w9.setCell ⟨w.heap.size + 1, 0, none⟩ (.string o.kind)).setCell ⟨w.heap.size + 1, 1, none⟩ (.string o.name)).setCell ⟨w.heap.size + 1, 2, none⟩ (.string o.team)).setCell ⟨w.heap.size + 1, 3, none⟩ (.slice a1 n1 d1)).setCell ⟨w.heap.size + 1, 4, none⟩ (.bool o.ending)).setCell ⟨w.heap.size + 1, 5, none⟩ (.slice a2 n2 d2)).setCell ⟨w.heap.size + 1, 6, none⟩ (.int .i64 o.version)).cell? ⟨w.heap.size + 1, 0, none⟩ = some (.string o.kind) := r 0 (by omega)
    have r1 : (((((((w9.setCell ⟨w.heap.size + 1, 0, none⟩ (.string o.kind)).setCell ⟨w.heap.size + 1, 1, none⟩ (.string o.name)).setCell ⟨w.heap.size + 1, 2, none⟩ (.string o.team)).setCell ⟨w.heap.size + 1, 3, none⟩ (.slice a1 n1 d1)).setCell ⟨w.heap.size + 1, 4, none⟩ (.bool o.ending)).setCell ⟨w.heap.size + 1, 5, none⟩ (.slice a2 n2 d2)).setCell ⟨w.heap.size + 1, 6, none⟩ (.int .i64 o.version)).cell? ⟨w.heap.size + 1, 1, none⟩ = some (.string o.name) := r 1 (by omega)
    have r2 : (((((((w9.setCell ⟨w.heap.size + 1, 0, none⟩ (.string o.kind)).setCell ⟨w.heap.size + 1, 1, none⟩ (.string o.name)).setCell ⟨w.heap.size + 1, 2, none⟩ (.string o.team)).setCell ⟨w.heap.size + 1, 3, none⟩ (.slice a1 n1 d1)).setCell ⟨w.heap.size + 1, 4, none⟩ (.bool o.ending)).setCell ⟨w.heap.size + 1, 5, none⟩ (.slice a2 n2 d2)).setCell ⟨w.heap.size + 1, 6, none⟩ (.int .i64 o.version)).cell? ⟨w.heap.size + 1, 2, none⟩ = some (.string o.team) := r 2 (by omega)
    have r3 : (((((((w9.setCell ⟨w.heap.size + 1, 0, none⟩ (.string o.kind)).setCell ⟨w.heap.size + 1, 1, none⟩ (.string o.name)).setCell ⟨w.heap.size + 1, 2, none⟩ (.string o.team)).setCell ⟨w.heap.size + 1, 3, none⟩ (.slice a1 n1 d1)).setCell ⟨w.heap.size + 1, 4, none⟩ (.bool o.ending)).setCell ⟨w.heap.size + 1, 5, none⟩ (.slice a2 n2 d2)).setCell ⟨w.heap.size + 1, 6, none⟩ (.int .i64 o.version)).cell? ⟨w.heap.size + 1, 3, none⟩ = some (.slice a1 n1 d1) := r 3 (by omega)
    have r4 : (((((((w9.setCell ⟨w.heap.size + 1, 0, none⟩ (.string o.kind)).setCell ⟨w.heap.size + 1, 1, none⟩ (.string o.name)).setCell ⟨w.heap.size + 1, 2, none⟩ (.string o.team)).setCell ⟨w.heap.size + 1, 3, none⟩ (.slice a1 n1 d1)).setCell ⟨w.heap.size + 1, 4, none⟩ (.bool o.ending)).setCell ⟨w.heap.size + 1, 5, none⟩ (.slice a2 n2 d2)).setCell ⟨w.heap.size + 1, 6, none⟩ (.int .i64 o.version)).cell? ⟨w.heap.size + 1, 4, none⟩ = some (.bool o.ending) := r 4 (by omega)
    have r5 : (((((((w9.setCell ⟨w.heap.size + 1, 0, none⟩ (.string o.kind)).setCell ⟨w.heap.size + 1, 1, none⟩ (.string o.name)).setCell ⟨w.heap.size + 1, 2, none⟩ (.string o.team)).setCell ⟨w.heap.size + 1, 3, none⟩ (.slice a1 n1 d1)).setCell ⟨w.heap.size + 1, 4, none⟩ (.bool o.ending)).setCell ⟨w.heap.size + 1, 5, none⟩ (.slice a2 n2 d2)).setCell ⟨w.heap.size + 1, 6, none⟩ (.int .i64 o.version)).cell? ⟨w.heap.size + 1, 5, none⟩ = some (.slice a2 n2 d2) := r 5 (by omega)
    have r6 : (((((((w9.setCell ⟨w.heap.size + 1, 0, none⟩ (.string o.kind)).setCell ⟨w.heap.size + 1, 1, none⟩ (.string o.name)).setCell ⟨w.heap.size + 1, 2, none⟩ (.string o.team)).setCell ⟨w.heap.size + 1, 3, none⟩ (.slice a1 n1 d1)).setCell ⟨w.heap.size + 1, 4, none⟩ (.bool o.ending)).setCell ⟨w.heap.size + 1, 5, none⟩ (.slice a2 n2 d2)).setCell ⟨w.heap.size + 1, 6, none⟩ (.int .i64 o.version)).cell? ⟨w.heap.size + 1, 6, none⟩ = some (.int .i64 o.version) := r 6 (by omega)
    refine bodyPost_ret (v := .agg #[.string o.kind, .string o.name, .string o.team, .slice a1 n1 d1, .bool o.ending, .slice a2 n2 d2, .int .i64 o.version]) (by simp only [results, Tryz.results30]; simp [go_sem, r0, r1, r2, r3, r4, r5, r6]) rfl ⟨⟨_, _, _, _, _, _, mid, rfl, ?_, t2, t3, t4⟩, t5⟩
    rw [HF.out]; exact HT.out

set_option maxRecDepth 8000 in
set_option maxHeartbeats 4000000 in
theorem l3ShapedS (B mb : Nat) (ss : List Shp) (ms : List Mnd) (o : Ob) (b1 : Option Addr) (c1 : Nat) (b2 : Option Addr) (c2 : Nat) (w : World) (h : ShpsIn w B ss) (hm : MndsIn w mb ms) (hok : mendsOk ss ms = true) (ho : ObG w b1 c1 b2 c2 o) :
    Calls Tryz.prog 24 #[.slice (some ⟨B, 0, none⟩) ss.length ss.length, .slice (some ⟨mb, 0, none⟩) ms.length ms.length, .agg #[.string o.kind, .string o.name, .string o.team, .slice b1 o.values.length c1, .bool o.ending, .slice b2 o.holds.length c2, .int .i64 o.version]] w fun e w' => (∃ a1 n1 d1 a2 n2 d2 mid, e = .returned (.agg #[.string o.kind, .string o.name, .string o.team, .slice a1 n1 d1, .bool o.ending, .slice a2 n2 d2, .int .i64 o.version]) ∧ CT w' w.heap.size mid (.slice a1 n1 d1) (shapeVals ss ms o) ∧ CT w' mid w'.heap.size (.slice a2 n2 d2) o.holds ∧ w.heap.size ≤ mid ∧ mid ≤ w'.heap.size) ∧ Below w.heap.size w w' := by
  have HA : Hid (ShpsIn w B ss ∧ MndsIn w mb ms ∧ ObG w b1 c1 b2 c2 o ∧ mendsOk ss ms = true) := ⟨h, hm, ho, hok⟩
  have hl := h.len
  have hlm := hm.len
  have hl1 := ho.len1
  clear h hm ho hok
  obtain ⟨w0, hw0⟩ : ∃ w0, w0 = (w.alloc (.cells #[.string o.kind, .string o.name, .string o.team, .slice b1 o.values.length c1, .bool o.ending, .slice b2 o.holds.length c2, .int .i64 o.version] 30)).alloc (.cells #[.string ⟨#[]⟩, .string ⟨#[]⟩, .string ⟨#[]⟩, .slice none 0 0, .bool false, .slice none 0 0, .int .i64 0] 30) := ⟨_, rfl⟩
  have HB0 : Hid (Below w.heap.size w w0) := by show Below _ _ _; rw [hw0]; exact blw_alloc (blw_alloc (Below.refl _ _) _) _
  have HR0 : Hid (OwnBlk w0 (w.heap.size + 1) 30 7) := by show OwnBlk _ _ _ _; rw [hw0]; exact OwnBlk.alloc_at _ _ _ _ _ rfl (by simp)
  have HQ0 : Hid (OwnBlk w0 w.heap.size 30 7) := by
    show OwnBlk _ _ _ _
    rw [hw0]
    exact (OwnBlk.alloc w _ 30 7 rfl).later (blw_alloc (Below.refl _ _) _)
  have HZ0 : Hid (w0.heap.size = w.heap.size + 2) := by show _ = _; rw [hw0]; simp
  have HX0 : Hid (∀ W, Below w0.heap.size w0 W → w.heap.size < W.heap.size ∧ ∀ j, W.cell? ⟨w.heap.size, j, none⟩ = (#[.string o.kind, .string o.name, .string o.team, .slice b1 o.values.length c1, .bool o.ending, .slice b2 o.holds.length c2, .int .i64 o.version] : Array Value)[j]?) := by
    intro W hW
    have q : w.heap.size < w0.heap.size := by have := HZ0.out; omega
    refine ⟨Nat.lt_of_lt_of_le q hW.size, fun j => (hW.cell (p := ⟨w.heap.size, j, none⟩) q).trans ?_⟩
    rw [hw0]
    exact (World.cell?_alloc_past _ _ _ (by simp)).trans (World.cell?_alloc_at _ _ _ _ rfl)
  have HEND : Hid (∀ (V W : World) (a1 : Option Addr) (n1 d1 : Nat) (a2 : Option Addr) (n2 d2 mid : Nat) (vals : List ByteArray), Below w.heap.size w V → w.heap.size + 2 ≤ V.heap.size → OwnBlk V (w.heap.size + 1) 30 7 → Below V.heap.size V W → CT W V.heap.size mid (.slice a1 n1 d1) vals → CT W mid W.heap.size (.slice a2 n2 d2) o.holds → V.heap.size ≤ mid → mid ≤ W.heap.size →
      OwnBlk W (w.heap.size + 1) 30 7 ∧ (∀ j, j < 7 → (puts W (w.heap.size + 1) 0 0 [.string o.kind, .string o.name, .string o.team, .slice a1 n1 d1, .bool o.ending, .slice a2 n2 d2, .int .i64 o.version]).cell? ⟨w.heap.size + 1, 0 + (0 + j), none⟩ = [.string o.kind, .string o.name, .string o.team, .slice a1 n1 d1, .bool o.ending, .slice a2 n2 d2, .int .i64 o.version][j]?) ∧ CT (puts W (w.heap.size + 1) 0 0 [.string o.kind, .string o.name, .string o.team, .slice a1 n1 d1, .bool o.ending, .slice a2 n2 d2, .int .i64 o.version]) w.heap.size mid (.slice a1 n1 d1) vals ∧ CT (puts W (w.heap.size + 1) 0 0 [.string o.kind, .string o.name, .string o.team, .slice a1 n1 d1, .bool o.ending, .slice a2 n2 d2, .int .i64 o.version]) mid (puts W (w.heap.size + 1) 0 0 [.string o.kind, .string o.name, .string o.team, .slice a1 n1 d1, .bool o.ending, .slice a2 n2 d2, .int .i64 o.version]).heap.size (.slice a2 n2 d2) o.holds ∧ w.heap.size ≤ mid ∧ mid ≤ (puts W (w.heap.size + 1) 0 0 [.string o.kind, .string o.name, .string o.team, .slice a1 n1 d1, .bool o.ending, .slice a2 n2 d2, .int .i64 o.version]).heap.size ∧ Below w.heap.size w (puts W (w.heap.size + 1) 0 0 [.string o.kind, .string o.name, .string o.team, .slice a1 n1 d1, .bool o.ending, .slice a2 n2 d2, .int .i64 o.version])) := by
    intro V W a1 n1 d1 a2 n2 d2 mid vals hV l hOV hW q1 q2 q3 q4
    have hO := hOV.later hW
    refine ⟨hO, fun j hj => puts_at 0 _ W 0 hO (by simp) j (by simpa using hj), (CT.puts 0 (Or.inl (by omega)) _ W 0 q1).mono (by omega) (Nat.le_refl _), ?_, by omega, by rw [puts_size]; exact q4, puts_below (a := w) 0 (B := w.heap.size + 1) (by omega) _ W 0 (blw_trans hV hW)⟩
    rw [puts_size]
    exact CT.puts 0 (Or.inl (by omega)) _ W 0 q2
  go_enter Tryz.func24, Tryz.ntmps24
  go_upto_region 1 with fail
  rw [← hw0]
  clear hw0
  obtain ⟨xz, xs⟩ := HX0.out w0 (Below.refl _ _)
  have x0 : w0.cell? ⟨w.heap.size, 0, none⟩ = some (.string o.kind) := xs 0
  have x1 : w0.cell? ⟨w.heap.size, 1, none⟩ = some (.string o.name) := xs 1
  have x2 : w0.cell? ⟨w.heap.size, 2, none⟩ = some (.string o.team) := xs 2
  have x3 : w0.cell? ⟨w.heap.size, 3, none⟩ = some (.slice b1 o.values.length c1) := xs 3
  have x4 : w0.cell? ⟨w.heap.size, 4, none⟩ = some (.bool o.ending) := xs 4
  have x5 : w0.cell? ⟨w.heap.size, 5, none⟩ = some (.slice b2 o.holds.length c2) := xs 5
  have x6 : w0.cell? ⟨w.heap.size, 6, none⟩ = some (.int .i64 o.version) := xs 6
  clear xs
  go_wp2_with fail
  refine (l2Fill B ss o b1 c1 b2 c2 w w0 HA.out.1 HB0.out (HA.out.2.2.1.later HB0.out)).mono ?_
  rintro e w5 ⟨⟨a1, n1, d1, a2, n2, d2, mid, rfl, hct1, hct2, hm1, hm2⟩, hb5⟩
  obtain ⟨L, hL⟩ : ∃ L, L = l2Vals ss o := ⟨_, rfl⟩
  rw [← hL] at hct1
  have HF : Hid (shapeVals ss ms o = mendVals ss ms o.kind L) := by
    show shapeVals ss ms o = _
    unfold shapeVals; rw [hL]
  have HLL : Hid (L.length ≤ 1048576) := by show _ ≤ _; rw [hL, l2Vals_len]; exact hl1
  have HBV : Hid (Below w.heap.size w w5) := blw_trans HB0.out hb5
  have HLV : Hid (w.heap.size + 2 ≤ w5.heap.size) := by have := hb5.size; rw [HZ0.out] at this; exact this
  have HRV : Hid (OwnBlk w5 (w.heap.size + 1) 30 7) := HR0.out.later hb5
  obtain ⟨rfl, k1'⟩ := hct1.g
  obtain ⟨rfl, k2'⟩ := hct2.g
  have HO6 : Hid (ObG w5 a1 d1 a2 d2 ⟨o.kind, o.name, o.team, L, o.ending, o.holds, o.version⟩) := ⟨HLL.out, HA.out.2.2.1.len2, k1', k2'⟩
  clear hL hct1 hct2 hm1 hm2 k1' k2' hb5 x0 x1 x2 x3 x4 x5 x6
  go_wp2_with fail
  refine (l3MendedS B mb ss ms ⟨o.kind, o.name, o.team, L, o.ending, o.holds, o.version⟩ a1 d1 a2 d2 w5 (HA.out.1.later HBV.out) (HA.out.2.1.later HBV.out) HA.out.2.2.2 HO6.out).mono ?_
  clear HO6
  rintro e w9 ⟨⟨a1, n1, d1, a2, n2, d2, mid, rfl, hct1, hct2, hm1, hm2⟩, hb9⟩
  obtain ⟨hO, r, t1, t2, t3, t4, t5⟩ := HEND.out w5 w9 a1 n1 d1 a2 n2 d2 mid _ HBV.out HLV.out HRV.out hb9 hct1 hct2 hm1 hm2
  clear hb9 hct1 hct2 hm1 hm2 xz
  have hfz := hO.frozen
  have z2 := hO.lt
  obtain ⟨y0, hy0⟩ := hO.cell 0 (by omega)
  obtain ⟨y1, hy1⟩ := hO.cell 1 (by omega)
  obtain ⟨y2, hy2⟩ := hO.cell 2 (by omega)
  obtain ⟨y3, hy3⟩ := hO.cell 3 (by omega)
  obtain ⟨y4, hy4⟩ := hO.cell 4 (by omega)
  obtain ⟨y5, hy5⟩ := hO.cell 5 (by omega)
  obtain ⟨y6, hy6⟩ := hO.cell 6 (by omega)
  have HT : Hid (CT (puts w9 (w.heap.size + 1) 0 0 [.string o.kind, .string o.name, .string o.team, .slice a1 n1 d1, .bool o.ending, .slice a2 n2 d2, .int .i64 o.version]) w.heap.size mid (.slice a1 n1 d1) (mendVals ss ms o.kind L)) := t1
  clear hO t1
  go_wp2
  have r0 : (((((((w9.setCell ⟨w.heap.size + 1, 0, none⟩ (.string o.kind)).setCell ⟨w.heap.size + 1, 1, none⟩ (.string o.name)).setCell ⟨w.heap.size + 1, 2, none⟩ (.string o.team)).setCell ⟨w.heap.size + 1, 3, none⟩ (.slice a1 n1 d1)).setCell ⟨w.heap.size + 1, 4, none⟩ (.bool o.ending)).setCell ⟨w.heap.size + 1, 5, none⟩ (.slice a2 n2 d2)).setCell ⟨w.heap.size + 1, 6, none⟩ (.int .i64 o.version)).cell? ⟨w.heap.size + 1, 0, none⟩ = some (.string o.kind) := r 0 (by omega)
  have r1 : (((((((w9.setCell ⟨w.heap.size + 1, 0, none⟩ (.string o.kind)).setCell ⟨w.heap.size + 1, 1, none⟩ (.string o.name)).setCell ⟨w.heap.size + 1, 2, none⟩ (.string o.team)).setCell ⟨w.heap.size + 1, 3, none⟩ (.slice a1 n1 d1)).setCell ⟨w.heap.size + 1, 4, none⟩ (.bool o.ending)).setCell ⟨w.heap.size + 1, 5, none⟩ (.slice a2 n2 d2)).setCell ⟨w.heap.size + 1, 6, none⟩ (.int .i64 o.version)).cell? ⟨w.heap.size + 1, 1, none⟩ = some (.string o.name) := r 1 (by omega)
  have r2 : (((((((w9.setCell ⟨w.heap.size + 1, 0, none⟩ (.string o.kind)).setCell ⟨w.heap.size + 1, 1, none⟩ (.string o.name)).setCell ⟨w.heap.size + 1, 2, none⟩ (.string o.team)).setCell ⟨w.heap.size + 1, 3, none⟩ (.slice a1 n1 d1)).setCell ⟨w.heap.size + 1, 4, none⟩ (.bool o.ending)).setCell ⟨w.heap.size + 1, 5, none⟩ (.slice a2 n2 d2)).setCell ⟨w.heap.size + 1, 6, none⟩ (.int .i64 o.version)).cell? ⟨w.heap.size + 1, 2, none⟩ = some (.string o.team) := r 2 (by omega)
  have r3 : (((((((w9.setCell ⟨w.heap.size + 1, 0, none⟩ (.string o.kind)).setCell ⟨w.heap.size + 1, 1, none⟩ (.string o.name)).setCell ⟨w.heap.size + 1, 2, none⟩ (.string o.team)).setCell ⟨w.heap.size + 1, 3, none⟩ (.slice a1 n1 d1)).setCell ⟨w.heap.size + 1, 4, none⟩ (.bool o.ending)).setCell ⟨w.heap.size + 1, 5, none⟩ (.slice a2 n2 d2)).setCell ⟨w.heap.size + 1, 6, none⟩ (.int .i64 o.version)).cell? ⟨w.heap.size + 1, 3, none⟩ = some (.slice a1 n1 d1) := r 3 (by omega)
  have r4 : (((((((w9.setCell ⟨w.heap.size + 1, 0, none⟩ (.string o.kind)).setCell ⟨w.heap.size + 1, 1, none⟩ (.string o.name)).setCell ⟨w.heap.size + 1, 2, none⟩ (.string o.team)).setCell ⟨w.heap.size + 1, 3, none⟩ (.slice a1 n1 d1)).setCell ⟨w.heap.size + 1, 4, none⟩ (.bool o.ending)).setCell ⟨w.heap.size + 1, 5, none⟩ (.slice a2 n2 d2)).setCell ⟨w.heap.size + 1, 6, none⟩ (.int .i64 o.version)).cell? ⟨w.heap.size + 1, 4, none⟩ = some (.bool o.ending) := r 4 (by omega)
  have r5 : (((((((w9.setCell ⟨w.heap.size + 1, 0, none⟩ (.string o.kind)).setCell ⟨w.heap.size + 1, 1, none⟩ (.string o.name)).setCell ⟨w.heap.size + 1, 2, none⟩ (.string o.team)).setCell ⟨w.heap.size + 1, 3, none⟩ (.slice a1 n1 d1)).setCell ⟨w.heap.size + 1, 4, none⟩ (.bool o.ending)).setCell ⟨w.heap.size + 1, 5, none⟩ (.slice a2 n2 d2)).setCell ⟨w.heap.size + 1, 6, none⟩ (.int .i64 o.version)).cell? ⟨w.heap.size + 1, 5, none⟩ = some (.slice a2 n2 d2) := r 5 (by omega)
  have r6 : (((((((w9.setCell ⟨w.heap.size + 1, 0, none⟩ (.string o.kind)).setCell ⟨w.heap.size + 1, 1, none⟩ (.string o.name)).setCell ⟨w.heap.size + 1, 2, none⟩ (.string o.team)).setCell ⟨w.heap.size + 1, 3, none⟩ (.slice a1 n1 d1)).setCell ⟨w.heap.size + 1, 4, none⟩ (.bool o.ending)).setCell ⟨w.heap.size + 1, 5, none⟩ (.slice a2 n2 d2)).setCell ⟨w.heap.size + 1, 6, none⟩ (.int .i64 o.version)).cell? ⟨w.heap.size + 1, 6, none⟩ = some (.int .i64 o.version) := r 6 (by omega)
  refine bodyPost_ret (v := .agg #[.string o.kind, .string o.name, .string o.team, .slice a1 n1 d1, .bool o.ending, .slice a2 n2 d2, .int .i64 o.version]) (by simp only [results, Tryz.results24]; simp [go_sem, r0, r1, r2, r3, r4, r5, r6]) rfl ⟨⟨_, _, _, _, _, _, mid, rfl, ?_, t2, t3, t4⟩, t5⟩
  rw [HF.out]; exact HT.out

end Go.Proofs.YtfdahoekjpobaaaGreat
