/-
  Walks: an object is mended: the program.
-/
import Derived.Test.YtfdahoekjpobaaaGreatPlainMd
namespace Go.Proofs.YtfdahoekjpobaaaGreat
open Go.RowKit Go.Deep

theorem str_ne {w : World} {g b : Nat} {z : ByteArray} {k : Int} (h : w.cell? ⟨g, 0, none⟩ = some (.string z)) (h' : w.cell? ⟨b, 0, none⟩ = some (.int .i64 k)) : b ≠ g := by
  intro e; subst e; rw [h] at h'; cases h'

theorem IntsAt.sc {w : World} {v : Value} {l : List Nat} (h : IntsAt w v l) {g : Nat} {z : ByteArray} (hz : w.cell? ⟨g, 0, none⟩ = some (.string z)) (p : Nat) (x : Value) : IntsAt (w.setCell ⟨g, p, none⟩ x) v l := by
  rcases h with h | ⟨b, c, rfl, h1, h2, h3⟩
  · exact Or.inl h
  · refine Or.inr ⟨b, c, rfl, by rw [sc_size]; exact h1, h2, fun i hi => ?_⟩
    have hne := str_ne hz (h3 0 (by omega))
    rw [sc_ne _ _ _ _ _ _ (Or.inl hne)]
    exact h3 i hi

theorem NeedsAt.sc {w : World} {v : Value} {ns : List Need} (h : NeedsAt w v ns) {g : Nat} {z : ByteArray} (hz : w.cell? ⟨g, 0, none⟩ = some (.string z)) (p : Nat) (x : Value) : NeedsAt (w.setCell ⟨g, p, none⟩ x) v ns := by
  rcases h with h | ⟨b, c, rfl, h1, h2⟩
  · exact Or.inl h
  · refine Or.inr ⟨b, c, rfl, by rw [sc_size]; exact h1, fun i hi => ?_⟩
    have hne := str_ne hz (h2 0 (by omega)).1
    exact ⟨(sc_ne _ _ _ _ _ _ (Or.inl hne)).trans (h2 i hi).1, (sc_ne _ _ _ _ _ _ (Or.inl hne)).trans (h2 i hi).2.1, (sc_ne _ _ _ _ _ _ (Or.inl hne)).trans (h2 i hi).2.2⟩

theorem MngsAt.sc {w : World} {v : Value} {L : List Mng} (h : MngsAt w v L) {g : Nat} {z : ByteArray} (hz : w.cell? ⟨g, 0, none⟩ = some (.string z)) (p : Nat) (x : Value) : MngsAt (w.setCell ⟨g, p, none⟩ x) v L := by
  rcases h with h | ⟨b, c, rfl, h1, h2⟩
  · exact Or.inl h
  · refine Or.inr ⟨b, c, rfl, by rw [sc_size]; exact h1, fun i hi => ?_⟩
    obtain ⟨a0, e0, h0⟩ := h2 0 (by omega)
    have hne : b ≠ g := str_ne hz (by simpa using h0.c0)
    obtain ⟨a, d, hm⟩ := h2 i hi
    exact ⟨a, d, (sc_ne _ _ _ _ _ _ (Or.inl hne)).trans hm.c0, (sc_ne _ _ _ _ _ _ (Or.inl hne)).trans hm.c1, (sc_ne _ _ _ _ _ _ (Or.inl hne)).trans hm.c2, (sc_ne _ _ _ _ _ _ (Or.inl hne)).trans hm.c3, hm.needs.sc hz p x⟩

theorem MngsAt.len {w : World} {a : Option Addr} {n c : Nat} {L : List Mng} (h : MngsAt w (.slice a n c) L) : n = L.length := by
  rcases h with ⟨rfl, a', c', e⟩ | ⟨g, c', e, _⟩
  · injection e
  · injection e
theorem IntsAt.leng {w : World} {a : Option Addr} {n c : Nat} {l : List Nat} (h : IntsAt w (.slice a n c) l) : n = l.length := by
  rcases h with ⟨rfl, a', c', e⟩ | ⟨g, c', e, _⟩
  · injection e
  · injection e

set_option maxRecDepth 8000 in
set_option maxHeartbeats 16000000 in
theorem mendObjI (B mb : Nat) (ss : List Shp) (ms : List Mnd) (o : Ob) (b1 : Option Addr) (c1 : Nat) (b2 : Option Addr) (c2 : Nat) (w : World) (h : ShpsIn w B ss) (hm : MndsIn w mb ms) (hok : mendsOk ss ms = true) (ho : ObG w b1 c1 b2 c2 o) :
    Calls Tryz.prog 52 #[.slice (some ⟨B, 0, none⟩) ss.length ss.length, .slice (some ⟨mb, 0, none⟩) ms.length ms.length, .agg #[.string o.kind, .string o.name, .string o.team, .slice b1 o.values.length c1, .bool o.ending, .slice b2 o.holds.length c2, .int .i64 o.version]] w fun e w' => (∃ a1 n1 d1 a2 n2 d2 mid, e = .returned (.agg #[.string o.kind, .string o.name, .string o.team, .slice a1 n1 d1, .bool o.ending, .slice a2 n2 d2, .int .i64 o.version]) ∧ CT w' w.heap.size mid (.slice a1 n1 d1) (mendVals ss ms o.kind o.values) ∧ CT w' mid w'.heap.size (.slice a2 n2 d2) o.holds ∧ w.heap.size ≤ mid ∧ mid ≤ w'.heap.size) ∧ Below w.heap.size w w' := by
  have HA : Hid (ShpsIn w B ss ∧ MndsIn w mb ms ∧ ObG w b1 c1 b2 c2 o) := ⟨h, hm, ho⟩
  have HOK : Hid (mendsOk ss ms = true) := hok
  have hl := h.len
  have hlm := hm.len
  have hl1 := ho.len1
  clear h hm ho hok
  obtain ⟨w0, hw0⟩ : ∃ w0, w0 = (w.alloc (.cells #[.string o.kind, .string o.name, .string o.team, .slice b1 o.values.length c1, .bool o.ending, .slice b2 o.holds.length c2, .int .i64 o.version] 30)).alloc (.cells #[.string ⟨#[]⟩, .string ⟨#[]⟩, .string ⟨#[]⟩, .slice none 0 0, .bool false, .slice none 0 0, .int .i64 0] 30) := ⟨_, rfl⟩
  have HB0 : Hid (Below w.heap.size w w0) := by show Below _ _ _; rw [hw0]; exact blw_alloc (blw_alloc (Below.refl _ _) _) _
  have HR0 : Hid (OwnBlk w0 (w.heap.size + 1) 30 7) := by show OwnBlk _ _ _ _; rw [hw0]; exact OwnBlk.alloc_at _ _ _ _ _ rfl (by simp)
  have HZ0 : Hid (w0.heap.size = w.heap.size + 2) := by show _ = _; rw [hw0]; simp
  have HX0 : Hid (∀ W, Below w0.heap.size w0 W → w.heap.size < W.heap.size ∧ ∀ j, W.cell? ⟨w.heap.size, j, none⟩ = (#[.string o.kind, .string o.name, .string o.team, .slice b1 o.values.length c1, .bool o.ending, .slice b2 o.holds.length c2, .int .i64 o.version] : Array Value)[j]?) := by
    intro W hW
    have q : w.heap.size < w0.heap.size := by have := HZ0.out; omega
    refine ⟨Nat.lt_of_lt_of_le q hW.size, fun j => (hW.cell (p := ⟨w.heap.size, j, none⟩) q).trans ?_⟩
    rw [hw0]
    exact (World.cell?_alloc_past _ _ _ (by simp)).trans (World.cell?_alloc_at _ _ _ _ rfl)
  obtain ⟨xz, xs⟩ := HX0.out w0 (Below.refl _ _)
  have x0 : w0.cell? ⟨w.heap.size, 0, none⟩ = some (.string o.kind) := xs 0
  have x1 : w0.cell? ⟨w.heap.size, 1, none⟩ = some (.string o.name) := xs 1
  have x2 : w0.cell? ⟨w.heap.size, 2, none⟩ = some (.string o.team) := xs 2
  have x3 : w0.cell? ⟨w.heap.size, 3, none⟩ = some (.slice b1 o.values.length c1) := xs 3
  have x4 : w0.cell? ⟨w.heap.size, 4, none⟩ = some (.bool o.ending) := xs 4
  have x5 : w0.cell? ⟨w.heap.size, 5, none⟩ = some (.slice b2 o.holds.length c2) := xs 5
  have x6 : w0.cell? ⟨w.heap.size, 6, none⟩ = some (.int .i64 o.version) := xs 6
  clear xs
  go_enter Tryz.func52, Tryz.ntmps52
  go_upto_region 1 with fail
  rw [← hw0]
  clear hw0
  go_wp2_with fail
  refine (copyObj o b1 c1 b2 c2 w0 (HA.out.2.2.later HB0.out)).mono ?_
  rintro e w1 ⟨⟨a1, n1, d1, a2, n2, d2, mid, rfl, hct1, hct2, hm1, hm2⟩, hb1⟩
  rw [HZ0.out] at hct1 hm1
  have hs1 : w.heap.size + 2 ≤ w1.heap.size := by have := hb1.size; rw [HZ0.out] at this; exact this
  have HB1 : Hid (Below w.heap.size w w1) := blw_trans HB0.out hb1
  obtain ⟨w2, hw2⟩ : ∃ w2, w2 = w1.alloc (.cells #[.string o.kind, .string o.name, .string o.team, .slice a1 n1 d1, .bool o.ending, .slice a2 n2 d2, .int .i64 o.version] 30) := ⟨_, rfl⟩
  obtain ⟨X, hX⟩ : ∃ X, X = w1.heap.size := ⟨_, rfl⟩
  have hb2 : Below w1.heap.size w1 w2 := by rw [hw2]; exact blw_alloc (Below.refl _ _) _
  have HI2 : Hid (FInv w w2 X mid o o.values (.slice a1 n1 d1) (.slice a2 n2 d2)) := by
    show FInv _ _ _ _ _ _ _ _
    rw [hX]
    have q : ∀ j, w2.cell? ⟨w1.heap.size, j, none⟩ = (#[.string o.kind, .string o.name, .string o.team, .slice a1 n1 d1, .bool o.ending, .slice a2 n2 d2, .int .i64 o.version] : Array Value)[j]? := fun j => by rw [hw2]; exact World.cell?_alloc_at _ _ _ _ rfl
    exact ⟨blw_trans HB1.out hb2, (HR0.out.later hb1).later hb2, by rw [hw2]; simp, q 0, q 1, q 2, q 3, q 4, q 5, q 6, hct1.later hb2, hct2.later hb2, hm1, hm2⟩
  have HK2 : Hid (Below w0.heap.size w0 w2) := blw_trans hb1 hb2
  go_upto_region 2 with fail
  rw [← hw2, ← hX]
  clear hw2 hX hb1 hb2 hct1 hct2 hm1 hm2 hs1 x0 x1 x2 x3 x4 x5 x6 xz
  obtain ⟨xz, xs⟩ := HX0.out w2 HK2.out
  have x0 : w2.cell? ⟨w.heap.size, 0, none⟩ = some (.string o.kind) := xs 0
  clear xs
  go_wp2_with fail
  refine (shapeOf_in w B ss o.kind w2 HA.out.1 HI2.out.bel).mono ?_
  rintro e w3 ⟨kd, a, n, c, rfl, hso, hb3⟩
  obtain ⟨R, hR⟩ : ∃ R, R = hasKind ss o.kind := ⟨_, rfl⟩
  rw [← hR]
  have HSO : Hid (ShapeOf ss o.kind w kd (.slice a n c)) := hso
  have HRR : Hid (R = hasKind ss o.kind) := hR
  clear hR hso x0 xz
  obtain ⟨w4, hw4⟩ : ∃ w4, w4 = w3.alloc (.cells #[.string kd, .slice a n c] 56) := ⟨_, rfl⟩
  obtain ⟨S, hS⟩ : ∃ S, S = w3.heap.size := ⟨_, rfl⟩
  have hb4 : Below w3.heap.size w3 w4 := by rw [hw4]; exact blw_alloc (Below.refl _ _) _
  have HI4 : Hid (FInv w w4 X mid o o.values (.slice a1 n1 d1) (.slice a2 n2 d2)) := (HI2.out.later hb3).later hb4
  have HK4 : Hid (Below w0.heap.size w0 w4) := blw_trans (blw_trans HK2.out hb3) hb4
  have HS4 : Hid (S < w4.heap.size ∧ w4.cell? ⟨S, 0, none⟩ = some (.string kd) ∧ w4.cell? ⟨S, 1, none⟩ = some (.slice a n c)) := by
    refine ⟨?_, ?_, ?_⟩ <;> rw [hw4, hS] <;> simp
  go_upto_region 3 with fail
  rw [← hw4, ← hS]
  clear hw4 hS hb3 hb4 HI2 HK2
  obtain ⟨xz, xs⟩ := HX0.out w4 HK4.out
  have x3 : w4.cell? ⟨w.heap.size, 3, none⟩ = some (.slice b1 o.values.length c1) := xs 3
  clear xs
  obtain ⟨sz, g0, g1⟩ := HS4.out
  obtain ⟨_, _, z1, X0, X1, X2, X3, X4, X5, X6, _, _, _, _⟩ := HI4.out
  cases R
  · have HF : Hid (mendVals ss ms o.kind o.values = o.values) := by show mendVals _ _ _ _ = _; unfold mendVals; rw [if_neg]; rw [← HRR.out]; simp
    have hR := HI4.out.own
    have hfz := hR.frozen
    have z2 := hR.lt
    obtain ⟨y0, hy0⟩ := hR.cell 0 (by omega)
    obtain ⟨y1, hy1⟩ := hR.cell 1 (by omega)
    obtain ⟨y2, hy2⟩ := hR.cell 2 (by omega)
    obtain ⟨y3, hy3⟩ := hR.cell 3 (by omega)
    obtain ⟨y4, hy4⟩ := hR.cell 4 (by omega)
    obtain ⟨y5, hy5⟩ := hR.cell 5 (by omega)
    obtain ⟨y6, hy6⟩ := hR.cell 6 (by omega)
    clear hR
    go_wp2
    obtain ⟨r, _, t1, t2, t3, t4, t5⟩ := HI4.out.out [.string o.kind, .string o.name, .string o.team, .slice a1 n1 d1, .bool o.ending, .slice a2 n2 d2, .int .i64 o.version] rfl
    have r0 : (((((((w4.setCell ⟨w.heap.size + 1, 0, none⟩ (.string o.kind)).setCell ⟨w.heap.size + 1, 1, none⟩ (.string o.name)).setCell ⟨w.heap.size + 1, 2, none⟩ (.string o.team)).setCell ⟨w.heap.size + 1, 3, none⟩ (.slice a1 n1 d1)).setCell ⟨w.heap.size + 1, 4, none⟩ (.bool o.ending)).setCell ⟨w.heap.size + 1, 5, none⟩ (.slice a2 n2 d2)).setCell ⟨w.heap.size + 1, 6, none⟩ (.int .i64 o.version)).cell? ⟨w.heap.size + 1, 0, none⟩ = some (.string o.kind) := r 0 (by omega)
    have r1 : (((((((w4.setCell ⟨w.heap.size + 1, 0, none⟩ (.string o.kind)).setCell ⟨w.heap.size + 1, 1, none⟩ (.string o.name)).setCell ⟨w.heap.size + 1, 2, none⟩ (.string o.team)).setCell ⟨w.heap.size + 1, 3, none⟩ (.slice a1 n1 d1)).setCell ⟨w.heap.size + 1, 4, none⟩ (.bool o.ending)).setCell ⟨w.heap.size + 1, 5, none⟩ (.slice a2 n2 d2)).setCell ⟨w.heap.size + 1, 6, none⟩ (.int .i64 o.version)).cell? ⟨w.heap.size + 1, 1, none⟩ = some (.string o.name) := r 1 (by omega)
    have r2 : (((((((w4.setCell ⟨w.heap.size + 1, 0, none⟩ (.string o.kind)).setCell ⟨w.heap.size + 1, 1, none⟩ (.string o.name)).setCell ⟨w.heap.size + 1, 2, none⟩ (.string o.team)).setCell ⟨w.heap.size + 1, 3, none⟩ (.slice a1 n1 d1)).setCell ⟨w.heap.size + 1, 4, none⟩ (.bool o.ending)).setCell ⟨w.heap.size + 1, 5, none⟩ (.slice a2 n2 d2)).setCell ⟨w.heap.size + 1, 6, none⟩ (.int .i64 o.version)).cell? ⟨w.heap.size + 1, 2, none⟩ = some (.string o.team) := r 2 (by omega)
    have r3 : (((((((w4.setCell ⟨w.heap.size + 1, 0, none⟩ (.string o.kind)).setCell ⟨w.heap.size + 1, 1, none⟩ (.string o.name)).setCell ⟨w.heap.size + 1, 2, none⟩ (.string o.team)).setCell ⟨w.heap.size + 1, 3, none⟩ (.slice a1 n1 d1)).setCell ⟨w.heap.size + 1, 4, none⟩ (.bool o.ending)).setCell ⟨w.heap.size + 1, 5, none⟩ (.slice a2 n2 d2)).setCell ⟨w.heap.size + 1, 6, none⟩ (.int .i64 o.version)).cell? ⟨w.heap.size + 1, 3, none⟩ = some (.slice a1 n1 d1) := r 3 (by omega)
    have r4 : (((((((w4.setCell ⟨w.heap.size + 1, 0, none⟩ (.string o.kind)).setCell ⟨w.heap.size + 1, 1, none⟩ (.string o.name)).setCell ⟨w.heap.size + 1, 2, none⟩ (.string o.team)).setCell ⟨w.heap.size + 1, 3, none⟩ (.slice a1 n1 d1)).setCell ⟨w.heap.size + 1, 4, none⟩ (.bool o.ending)).setCell ⟨w.heap.size + 1, 5, none⟩ (.slice a2 n2 d2)).setCell ⟨w.heap.size + 1, 6, none⟩ (.int .i64 o.version)).cell? ⟨w.heap.size + 1, 4, none⟩ = some (.bool o.ending) := r 4 (by omega)
    have r5 : (((((((w4.setCell ⟨w.heap.size + 1, 0, none⟩ (.string o.kind)).setCell ⟨w.heap.size + 1, 1, none⟩ (.string o.name)).setCell ⟨w.heap.size + 1, 2, none⟩ (.string o.team)).setCell ⟨w.heap.size + 1, 3, none⟩ (.slice a1 n1 d1)).setCell ⟨w.heap.size + 1, 4, none⟩ (.bool o.ending)).setCell ⟨w.heap.size + 1, 5, none⟩ (.slice a2 n2 d2)).setCell ⟨w.heap.size + 1, 6, none⟩ (.int .i64 o.version)).cell? ⟨w.heap.size + 1, 5, none⟩ = some (.slice a2 n2 d2) := r 5 (by omega)
    have r6 : (((((((w4.setCell ⟨w.heap.size + 1, 0, none⟩ (.string o.kind)).setCell ⟨w.heap.size + 1, 1, none⟩ (.string o.name)).setCell ⟨w.heap.size + 1, 2, none⟩ (.string o.team)).setCell ⟨w.heap.size + 1, 3, none⟩ (.slice a1 n1 d1)).setCell ⟨w.heap.size + 1, 4, none⟩ (.bool o.ending)).setCell ⟨w.heap.size + 1, 5, none⟩ (.slice a2 n2 d2)).setCell ⟨w.heap.size + 1, 6, none⟩ (.int .i64 o.version)).cell? ⟨w.heap.size + 1, 6, none⟩ = some (.int .i64 o.version) := r 6 (by omega)
    refine bodyPost_ret (v := .agg #[.string o.kind, .string o.name, .string o.team, .slice a1 n1 d1, .bool o.ending, .slice a2 n2 d2, .int .i64 o.version]) (by simp only [results, Tryz.results52]; simp [go_sem, r0, r1, r2, r3, r4, r5, r6]) rfl ⟨⟨_, _, _, _, _, _, mid, rfl, ?_, t2, t3, t4⟩, t5⟩
    rw [HF.out]; exact t1
  obtain ⟨hkd, b, hv, hbl, hf⟩ := HSO.out HRR.out.symm
  obtain ⟨s, hs⟩ : ∃ s, s = ss.getD (kindAt ss o.kind) Shp.none := ⟨_, rfl⟩
  rw [← hs] at hkd hv hf
  injection hv with hv1 hv2 hv3
  subst hv1 hv2 hv3 hkd
  have hki : kindAt ss o.kind < ss.length := by have := HRR.out.symm; simpa [hasKind] using this
  have hparts := HOK.out
  unfold mendsOk at hparts
  simp only [Bool.and_eq_true] at hparts
  obtain ⟨⟨⟨hp1, hp2⟩, hp3⟩, hp4⟩ := hparts
  have HFI : Hid (FldsIn w b s.fields) := by
    have hsm := HA.out.1.small s (by rw [hs]; simp [hki])
    exact ⟨hbl, hsm.1, hsm.2, hf⟩
  have HFD : Hid (∀ m ∈ ms, ofKind s.kind m = true → found s.fields m) := by rw [hs]; exact found_of hp1 hp3 hki
  have HMO : Hid (∀ m ∈ ms, ofKind s.kind m = true → mendOkF s.fields m = true) := by rw [hs]; exact mendOkF_of hp1 hp3 hki
  have HRO : Hid (rowOk (rdOf (mngsOf s.fields ms s.kind)) s.fields.length = true) := by
    unfold rowsTo at hp4
    rw [List.all_eq_true] at hp4
    have := hp4 (kindAt ss o.kind) (List.mem_range.2 hki)
    rw [← hs] at this
    exact this
  have h12 : ms.length ≤ 12 := of_decide_eq_true hp2
  have HS : Hid (s = ss.getD (kindAt ss o.kind) Shp.none) := hs
  have hfl : s.fields.length ≤ 1048576 := HFI.out.len
  clear hbl hf hs hki hp1 hp2 hp3 hp4 HSO
  by_cases heq : o.values.length = s.fields.length
  case neg =>
    have HF : Hid (mendVals ss ms o.kind o.values = o.values) := by show mendVals _ _ _ _ = _; unfold mendVals; rw [if_neg]; rw [← HS.out]; exact fun hh => heq hh.2
    have hne : (((o.values.length : Int)) != (s.fields.length : Int)) = true := by simp; omega
    have hR := HI4.out.own
    have hfz := hR.frozen
    have z2 := hR.lt
    obtain ⟨y0, hy0⟩ := hR.cell 0 (by omega)
    obtain ⟨y1, hy1⟩ := hR.cell 1 (by omega)
    obtain ⟨y2, hy2⟩ := hR.cell 2 (by omega)
    obtain ⟨y3, hy3⟩ := hR.cell 3 (by omega)
    obtain ⟨y4, hy4⟩ := hR.cell 4 (by omega)
    obtain ⟨y5, hy5⟩ := hR.cell 5 (by omega)
    obtain ⟨y6, hy6⟩ := hR.cell 6 (by omega)
    clear hR
    go_wp2
    obtain ⟨r, _, t1, t2, t3, t4, t5⟩ := HI4.out.out [.string o.kind, .string o.name, .string o.team, .slice a1 n1 d1, .bool o.ending, .slice a2 n2 d2, .int .i64 o.version] rfl
    have r0 : (((((((w4.setCell ⟨w.heap.size + 1, 0, none⟩ (.string o.kind)).setCell ⟨w.heap.size + 1, 1, none⟩ (.string o.name)).setCell ⟨w.heap.size + 1, 2, none⟩ (.string o.team)).setCell ⟨w.heap.size + 1, 3, none⟩ (.slice a1 n1 d1)).setCell ⟨w.heap.size + 1, 4, none⟩ (.bool o.ending)).setCell ⟨w.heap.size + 1, 5, none⟩ (.slice a2 n2 d2)).setCell ⟨w.heap.size + 1, 6, none⟩ (.int .i64 o.version)).cell? ⟨w.heap.size + 1, 0, none⟩ = some (.string o.kind) := r 0 (by omega)
    have r1 : (((((((w4.setCell ⟨w.heap.size + 1, 0, none⟩ (.string o.kind)).setCell ⟨w.heap.size + 1, 1, none⟩ (.string o.name)).setCell ⟨w.heap.size + 1, 2, none⟩ (.string o.team)).setCell ⟨w.heap.size + 1, 3, none⟩ (.slice a1 n1 d1)).setCell ⟨w.heap.size + 1, 4, none⟩ (.bool o.ending)).setCell ⟨w.heap.size + 1, 5, none⟩ (.slice a2 n2 d2)).setCell ⟨w.heap.size + 1, 6, none⟩ (.int .i64 o.version)).cell? ⟨w.heap.size + 1, 1, none⟩ = some (.string o.name) := r 1 (by omega)
    have r2 : (((((((w4.setCell ⟨w.heap.size + 1, 0, none⟩ (.string o.kind)).setCell ⟨w.heap.size + 1, 1, none⟩ (.string o.name)).setCell ⟨w.heap.size + 1, 2, none⟩ (.string o.team)).setCell ⟨w.heap.size + 1, 3, none⟩ (.slice a1 n1 d1)).setCell ⟨w.heap.size + 1, 4, none⟩ (.bool o.ending)).setCell ⟨w.heap.size + 1, 5, none⟩ (.slice a2 n2 d2)).setCell ⟨w.heap.size + 1, 6, none⟩ (.int .i64 o.version)).cell? ⟨w.heap.size + 1, 2, none⟩ = some (.string o.team) := r 2 (by omega)
    have r3 : (((((((w4.setCell ⟨w.heap.size + 1, 0, none⟩ (.string o.kind)).setCell ⟨w.heap.size + 1, 1, none⟩ (.string o.name)).setCell ⟨w.heap.size + 1, 2, none⟩ (.string o.team)).setCell ⟨w.heap.size + 1, 3, none⟩ (.slice a1 n1 d1)).setCell ⟨w.heap.size + 1, 4, none⟩ (.bool o.ending)).setCell ⟨w.heap.size + 1, 5, none⟩ (.slice a2 n2 d2)).setCell ⟨w.heap.size + 1, 6, none⟩ (.int .i64 o.version)).cell? ⟨w.heap.size + 1, 3, none⟩ = some (.slice a1 n1 d1) := r 3 (by omega)
    have r4 : (((((((w4.setCell ⟨w.heap.size + 1, 0, none⟩ (.string o.kind)).setCell ⟨w.heap.size + 1, 1, none⟩ (.string o.name)).setCell ⟨w.heap.size + 1, 2, none⟩ (.string o.team)).setCell ⟨w.heap.size + 1, 3, none⟩ (.slice a1 n1 d1)).setCell ⟨w.heap.size + 1, 4, none⟩ (.bool o.ending)).setCell ⟨w.heap.size + 1, 5, none⟩ (.slice a2 n2 d2)).setCell ⟨w.heap.size + 1, 6, none⟩ (.int .i64 o.version)).cell? ⟨w.heap.size + 1, 4, none⟩ = some (.bool o.ending) := r 4 (by omega)
    have r5 : (((((((w4.setCell ⟨w.heap.size + 1, 0, none⟩ (.string o.kind)).setCell ⟨w.heap.size + 1, 1, none⟩ (.string o.name)).setCell ⟨w.heap.size + 1, 2, none⟩ (.string o.team)).setCell ⟨w.heap.size + 1, 3, none⟩ (.slice a1 n1 d1)).setCell ⟨w.heap.size + 1, 4, none⟩ (.bool o.ending)).setCell ⟨w.heap.size + 1, 5, none⟩ (.slice a2 n2 d2)).setCell ⟨w.heap.size + 1, 6, none⟩ (.int .i64 o.version)).cell? ⟨w.heap.size + 1, 5, none⟩ = some (.slice a2 n2 d2) := r 5 (by omega)
    have r6 : (((((((w4.setCell ⟨w.heap.size + 1, 0, none⟩ (.string o.kind)).setCell ⟨w.heap.size + 1, 1, none⟩ (.string o.name)).setCell ⟨w.heap.size + 1, 2, none⟩ (.string o.team)).setCell ⟨w.heap.size + 1, 3, none⟩ (.slice a1 n1 d1)).setCell ⟨w.heap.size + 1, 4, none⟩ (.bool o.ending)).setCell ⟨w.heap.size + 1, 5, none⟩ (.slice a2 n2 d2)).setCell ⟨w.heap.size + 1, 6, none⟩ (.int .i64 o.version)).cell? ⟨w.heap.size + 1, 6, none⟩ = some (.int .i64 o.version) := r 6 (by omega)
    refine bodyPost_ret (v := .agg #[.string o.kind, .string o.name, .string o.team, .slice a1 n1 d1, .bool o.ending, .slice a2 n2 d2, .int .i64 o.version]) (by simp only [results, Tryz.results52]; simp [go_sem, r0, r1, r2, r3, r4, r5, r6]) rfl ⟨⟨_, _, _, _, _, _, mid, rfl, ?_, t2, t3, t4⟩, t5⟩
    rw [HF.out]; exact t1
  have hne : (((o.values.length : Int)) != (s.fields.length : Int)) = false := by simp; omega
  obtain ⟨L, hLL⟩ : ∃ L, L = mngsOf s.fields ms s.kind := ⟨_, rfl⟩
  obtain ⟨row, hrow⟩ : ∃ row, row = rowG (rdOf L) s.fields.length s.fields.length := ⟨_, rfl⟩
  have HF : Hid (mendVals ss ms o.kind o.values = mendBy L o.values row) := by
    show mendVals _ _ _ _ = _
    unfold mendVals mngsAt rowAt mngsAt
    rw [← HS.out, if_pos ⟨HRR.out.symm, heq⟩, hrow, hLL]
  have HLL : Hid (L = mngsOf s.fields ms s.kind) := hLL
  have HRW : Hid (row = rowG (rdOf L) s.fields.length s.fields.length) := hrow
  have HEQ : Hid (o.values.length = s.fields.length) := heq
  have HL12 : Hid (L.length ≤ 12 ∧ ∀ x ∈ L, x.needs.length ≤ 2) := by rw [hLL]; exact ⟨Nat.le_trans (mngs_len _ _ _) h12, needs_two _ _ _⟩
  clear hLL hrow heq
  go_wp2_with fail
  refine (mendingsOf s b mb ms w4 (HFI.out.later HI4.out.bel) (HA.out.2.1.later HI4.out.bel) HFD.out).mono ?_
  rintro e w5 ⟨⟨am, nm, cm, rfl, hmg⟩, hb5⟩
  rw [← HLL.out] at hmg
  have hMA := hmg.at_
  obtain rfl : nm = L.length := hMA.len
  have HM5 : Hid (MngsAt w5 (.slice am L.length cm) L) := hMA
  have HI5 : Hid (FInv w w5 X mid o o.values (.slice a1 n1 d1) (.slice a2 n2 d2)) := HI4.out.later hb5
  have g0' : w5.cell? ⟨S, 0, none⟩ = some (.string s.kind) := (hb5.cell (p := ⟨S, 0, none⟩) sz).trans g0
  have g1' : w5.cell? ⟨S, 1, none⟩ = some (.slice (some ⟨b, 0, none⟩) s.fields.length s.fields.length) := (hb5.cell (p := ⟨S, 1, none⟩) sz).trans g1
  have sz' : S < w5.heap.size := Nat.lt_of_lt_of_le sz hb5.size
  clear hMA hmg hb5 sz g0 g1 x3 xz z1 X0 X1 X2 X3 X4 X5 X6 HI4 HK4 HS4
  go_wp2_with fail
  refine (mendRowI s.kind s.fields.length _ _ am L.length cm L w5 hfl HM5.out HL12.out.1 HL12.out.2).mono ?_
  rintro e w6 ⟨⟨ar, kr, dr, rfl, hrw⟩, hb6⟩
  have hro : rowOk (rdOf L) s.fields.length = true := by rw [HLL.out]; exact HRO.out
  have hrw := hrw hro
  rw [← HRW.out] at hrw
  obtain rfl : kr = row.length := hrw.leng
  have HI6 : Hid (FInv w w6 X mid o (mendBy L o.values (row.take 0)) (.slice a1 n1 d1) (.slice a2 n2 d2) ∧ MngsAt w6 (.slice am L.length cm) L ∧ IntsAt w6 (.slice ar row.length dr) row) := ⟨HI5.out.later hb6, HM5.out.later hb6, hrw⟩
  have HRL : Hid (row.length ≤ 1048576 ∧ ∀ i, i < row.length → row.getD i 0 < o.values.length) := by
    refine ⟨?_, fun i hi => ?_⟩
    · have := rowG_le (rdOf L) s.fields.length s.fields.length; rw [← HRW.out] at this; omega
    · rw [HEQ.out]
      have e : row.getD i 0 = row[i] := by simp [hi]
      have := rowG_lt (rdOf L) s.fields.length s.fields.length row[i] (by rw [← HRW.out]; exact List.getElem_mem hi)
      rw [e]; exact this
  have hrl := HRL.out.1
  clear hb6 hrw hro g0' g1' sz' HI5 HM5 HRO
  go_wp2
  go_loopw [14, 15, 16, 49] (fun s14 s15 s16 s49 wr => ∃ q : Nat, q ≤ row.length ∧ s49 = .int .i64 q ∧ FInv w wr X mid o (mendBy L o.values (row.take q)) (.slice a1 n1 d1) (.slice a2 n2 d2) ∧ MngsAt wr (.slice am L.length cm) L ∧ IntsAt wr (.slice ar row.length dr) row) (fun _ _ _ s49 _ => row.length - (intOf s49).toNat)
  case atStart => exact ⟨0, Nat.zero_le _, rfl, HI6.out⟩
  case round =>
    obtain ⟨q, hq, rfl, hI, hMg, hIn⟩ := hrel
    obtain ⟨vs, hvs⟩ : ∃ vs, vs = mendBy L o.values (row.take q) := ⟨_, rfl⟩
    have HVS : Hid (vs = mendBy L o.values (row.take q)) := hvs
    rw [← hvs] at hI
    clear hvs
    have HI : Hid (FInv w wr X mid o vs (.slice a1 n1 d1) (.slice a2 n2 d2)) := hI
    have HMI : Hid (MngsAt wr (.slice am L.length cm) L ∧ IntsAt wr (.slice ar row.length dr) row) := ⟨hMg, hIn⟩
    have hvl : vs.length = o.values.length := by rw [HVS.out]; exact mendBy_len _ _ _
    have HVL : Hid (vs.length = o.values.length) := hvl
    obtain ⟨_, _, z1, X0, X1, X2, X3, X4, X5, X6, hc1, _, _, _⟩ := hI
    clear hMg
    by_cases hlt : q < row.length
    · obtain ⟨p, hp⟩ : ∃ p, p = row.getD q 0 := ⟨_, rfl⟩
      have hpl : p < vs.length := by rw [hvl, hp]; exact HRL.out.2 q hlt
      have HST : Hid (mendBy L o.values (row.take (q + 1)) = mendStep L vs p) := by show mendBy _ _ _ = _; rw [mendBy_take L o.values row q hlt, ← HVS.out, hp]
      rcases hIn with ⟨e0, _⟩ | ⟨gr, cr, e0, hgr, _, hcr⟩
      · rw [e0] at hlt; exact absurd hlt (Nat.not_lt_zero q)
      injection e0 with e1 _ e3
      subst e1 e3
      have i0 := hcr q hlt
      rw [← hp] at i0
      rcases hc1 with ⟨_, e2⟩ | ⟨g, cap, e1, hg1, hg2, hg3, hg4, hg5⟩
      · rw [e2] at hpl; exact absurd hpl (Nat.not_lt_zero p)
      injection e1 with e1 e3 e4
      subst e1 e3 e4
      have HVA : Hid (VAt wr g vs) := ⟨hg3.lt, by omega, hg5⟩
      have HG : Hid (OwnBlk wr g 9 d1 ∧ vs.length ≤ d1 ∧ wr.cell? ⟨g, 0, none⟩ = some (.string (vs.getD 0 ByteArray.empty))) := ⟨hg3, hg4, hg5 0 (by omega)⟩
      have HDC : Hid (Calls Tryz.prog 73 #[.slice am L.length cm, .int .i64 (p : Nat), .slice (some ⟨g, 0, none⟩) vs.length d1] wr fun e w' => (∃ (f : Nat) (a : Option Addr) (k c : Nat) (pt : ByteArray) (fr : Nat), e = .returned (.tuple #[.agg #[.int .i64 (f : Nat), .slice a k c, .string pt, .int .i64 (fr : Nat)], .bool (decide (decAt L p vs < L.length))]) ∧ (decAt L p vs < L.length → pt = (L.getD (decAt L p vs) Mng.none).put ∧ fr = (L.getD (decAt L p vs) Mng.none).frm)) ∧ Below wr.heap.size wr w') :=
        decidingI am cm p g d1 L vs wr HMI.out.1 HL12.out.1 HL12.out.2 (by rw [HVL.out, HEQ.out, HLL.out]; exact need_lt HFD.out) HVA.out
      have HFR : Hid (decAt L p vs < L.length → (L.getD (decAt L p vs) Mng.none).put.toList.isEmpty = true → (L.getD (decAt L p vs) Mng.none).frm < vs.length) := by
        intro hd he
        have hmem : L.getD (decAt L p vs) Mng.none ∈ L := by simp [hd]
        rw [HVL.out, HEQ.out]
        have := frm_lt HFD.out HMO.out
        rw [← HLL.out] at this
        exact this _ hmem he
      clear hcr hp hg1 hg2 hg3 hg4 hg5 hvl
      go_wp2_with fail
      refine HDC.out.mono ?_
      rintro e w7 ⟨⟨f, a', k', c', pt, fr, rfl, hdec⟩, hb7⟩
      obtain ⟨db, hdb⟩ : ∃ db, db = decide (decAt L p vs < L.length) := ⟨_, rfl⟩
      rw [← hdb]
      have HDB : Hid (db = decide (decAt L p vs < L.length)) := hdb
      have HDE : Hid (decAt L p vs < L.length → pt = (L.getD (decAt L p vs) Mng.none).put ∧ fr = (L.getD (decAt L p vs) Mng.none).frm) := hdec
      clear hdb hdec HDC
      obtain ⟨w8, hw8⟩ : ∃ w8, w8 = w7.alloc (.cells #[.int .i64 (f : Nat), .slice a' k' c', .string pt, .int .i64 (fr : Nat)] 103) := ⟨_, rfl⟩
      obtain ⟨M, hM⟩ : ∃ M, M = w7.heap.size := ⟨_, rfl⟩
      have hb8 : Below w7.heap.size w7 w8 := by rw [hw8]; exact blw_alloc (Below.refl _ _) _
      have HK8 : Hid (Below wr.heap.size wr w8) := blw_trans hb7 hb8
      have HM8 : Hid (M < w8.heap.size ∧ w8.cell? ⟨M, 0, none⟩ = some (.int .i64 (f : Nat)) ∧ w8.cell? ⟨M, 1, none⟩ = some (.slice a' k' c') ∧ w8.cell? ⟨M, 2, none⟩ = some (.string pt) ∧ w8.cell? ⟨M, 3, none⟩ = some (.int .i64 (fr : Nat))) := by
        refine ⟨?_, ?_, ?_, ?_, ?_⟩ <;> rw [hw8, hM]
        · simp
        all_goals exact World.cell?_alloc_at _ _ _ _ rfl
      go_upto_region 11 with fail
      rw [← hw8, ← hM]
      clear hw8 hM hb7 hb8 z1 X0 X1 X2 X3 X4 X5 X6 i0 hgr
      cases db
      · have HN : Hid (mendStep L vs p = vs) := by show mendStep _ _ _ = _; unfold mendStep; rw [if_neg]; exact of_decide_eq_false HDB.out.symm
        go_wp2
        go_roundw
        case rel => exact ⟨q + 1, by omega, by go_num, by rw [HST.out, HN.out]; exact HI.out.later HK8.out, HMI.out.1.later HK8.out, HMI.out.2.later HK8.out⟩
        case measure => simp [intOf]; omega
      · have hd : decAt L p vs < L.length := of_decide_eq_true HDB.out.symm
        obtain ⟨ept, efr⟩ := HDE.out hd
        have HN : Hid (mendStep L vs p = vs.set p (if pt.toList.isEmpty then vs.getD fr ByteArray.empty else pt)) := by show mendStep _ _ _ = _; unfold mendStep givesB; rw [if_pos hd, ept, efr]
        have HGV : Hid (∀ W, Below w8.heap.size w8 W → Calls Tryz.prog 74 #[.agg #[.int .i64 (f : Nat), .slice a' k' c', .string pt, .int .i64 (fr : Nat)], .slice (some ⟨g, 0, none⟩) vs.length d1] W fun e w' => e = .returned (.string (if pt.toList.isEmpty then vs.getD fr ByteArray.empty else pt)) ∧ Below W.heap.size W w') := fun W hW => givesI f a' k' c' pt fr g d1 vs W ((HVA.out.later HK8.out).later hW) (fun he => by rw [efr]; exact HFR.out hd (by rw [← ept]; exact he))
        obtain ⟨zz, hzz⟩ : ∃ zz, zz = (if pt.toList.isEmpty then vs.getD fr ByteArray.empty else pt) := ⟨_, rfl⟩
        rw [← hzz] at HN HGV
        clear hzz hd ept efr
        have HFX : Hid (∀ W, Below w8.heap.size w8 W → X < W.heap.size ∧ W.cell? ⟨X, 3, none⟩ = some (.slice (some ⟨g, 0, none⟩) vs.length d1) ∧ W.frozen? ⟨g, p, none⟩ = false ∧ g < W.heap.size ∧ ∃ u, W.cell? ⟨g, p, none⟩ = some u) := by
          intro W hW
          have q1 := (HI.out.later HK8.out).later hW
          have q2 := (HG.out.1.later HK8.out).later hW
          have q3 := HG.out.2.1
          exact ⟨q1.lt, q1.x3, q2.frozen p, q2.lt, q2.cell p (by omega)⟩
        have HNX : Hid (∀ W, Below w8.heap.size w8 W → FInv w (W.setCell ⟨g, p, none⟩ (.string zz)) X mid o (mendBy L o.values (row.take (q + 1))) (.slice (some ⟨g, 0, none⟩) vs.length d1) (.slice a2 n2 d2) ∧ MngsAt (W.setCell ⟨g, p, none⟩ (.string zz)) (.slice am L.length cm) L ∧ IntsAt (W.setCell ⟨g, p, none⟩ (.string zz)) (.slice (some ⟨gr, 0, none⟩) row.length dr) row) := by
          intro W hW
          have hz := (hW.cell (p := ⟨g, 0, none⟩) (HG.out.1.later HK8.out).lt).trans ((HK8.out.cell (p := ⟨g, 0, none⟩) HG.out.1.lt).trans HG.out.2.2)
          refine ⟨?_, ((HMI.out.1.later HK8.out).later hW).sc hz _ _, ((HMI.out.2.later HK8.out).later hW).sc hz _ _⟩
          rw [HST.out, HN.out]
          exact ((HI.out.later HK8.out).later hW).setv p hpl zz
        obtain ⟨mz, m0, m1, m2, m3⟩ := HM8.out
        obtain ⟨z1, X3, hfz, hgz, u, hu⟩ := HFX.out w8 (Below.refl _ _)
        go_wp2_with fail
        go_region_with (go_at_call 74; refine (HGV.out _ ?_).mono ?_; (repeat (first | exact Below.refl _ _ | refine Below.drew ?_)); rintro e w9 ⟨rfl, hb9⟩; have k9 : Below w8.heap.size w8 w9 := blw_trans (by repeat (first | exact Below.refl _ _ | refine Below.drew ?_)) hb9; clear hb9; obtain ⟨z9, X9, hfz9, hgz9, u9, hu9⟩ := HFX.out w9 k9)
        all_goals
          go_wp2
          go_roundw
          case rel =>
            first
              | exact ⟨q + 1, by omega, by go_num, HNX.out _ (by repeat (first | exact k9 | refine Below.drew ?_))⟩
              | (have hh := HNX.out _ k9; exact ⟨q + 1, by omega, by go_num, hh.1.later (by repeat (first | exact Below.refl _ _ | refine Below.drew ?_)), hh.2.1.later (by repeat (first | exact Below.refl _ _ | refine Below.drew ?_)), hh.2.2.later (by repeat (first | exact Below.refl _ _ | refine Below.drew ?_))⟩)
          case measure => simp [intOf]; omega
    · obtain rfl : q = row.length := by omega
      have HF2 : Hid (mendVals ss ms o.kind o.values = vs) := by show mendVals _ _ _ _ = _; rw [HF.out, HVS.out, List.take_length]
      clear hIn hc1 hvl
      have hR := HI.out.own
      have hfz := hR.frozen
      have z2 := hR.lt
      obtain ⟨y0, hy0⟩ := hR.cell 0 (by omega)
      obtain ⟨y1, hy1⟩ := hR.cell 1 (by omega)
      obtain ⟨y2, hy2⟩ := hR.cell 2 (by omega)
      obtain ⟨y3, hy3⟩ := hR.cell 3 (by omega)
      obtain ⟨y4, hy4⟩ := hR.cell 4 (by omega)
      obtain ⟨y5, hy5⟩ := hR.cell 5 (by omega)
      obtain ⟨y6, hy6⟩ := hR.cell 6 (by omega)
      clear hR
      go_wp2
      obtain ⟨r, _, t1, t2, t3, t4, t5⟩ := HI.out.out [.string o.kind, .string o.name, .string o.team, .slice a1 n1 d1, .bool o.ending, .slice a2 n2 d2, .int .i64 o.version] rfl
      have r0 : (((((((wr.setCell ⟨w.heap.size + 1, 0, none⟩ (.string o.kind)).setCell ⟨w.heap.size + 1, 1, none⟩ (.string o.name)).setCell ⟨w.heap.size + 1, 2, none⟩ (.string o.team)).setCell ⟨w.heap.size + 1, 3, none⟩ (.slice a1 n1 d1)).setCell ⟨w.heap.size + 1, 4, none⟩ (.bool o.ending)).setCell ⟨w.heap.size + 1, 5, none⟩ (.slice a2 n2 d2)).setCell ⟨w.heap.size + 1, 6, none⟩ (.int .i64 o.version)).cell? ⟨w.heap.size + 1, 0, none⟩ = some (.string o.kind) := r 0 (by omega)
      have r1 : (((((((wr.setCell ⟨w.heap.size + 1, 0, none⟩ (.string o.kind)).setCell ⟨w.heap.size + 1, 1, none⟩ (.string o.name)).setCell ⟨w.heap.size + 1, 2, none⟩ (.string o.team)).setCell ⟨w.heap.size + 1, 3, none⟩ (.slice a1 n1 d1)).setCell ⟨w.heap.size + 1, 4, none⟩ (.bool o.ending)).setCell ⟨w.heap.size + 1, 5, none⟩ (.slice a2 n2 d2)).setCell ⟨w.heap.size + 1, 6, none⟩ (.int .i64 o.version)).cell? ⟨w.heap.size + 1, 1, none⟩ = some (.string o.name) := r 1 (by omega)
      have r2 : (((((((wr.setCell ⟨w.heap.size + 1, 0, none⟩ (.string o.kind)).setCell ⟨w.heap.size + 1, 1, none⟩ (.string o.name)).setCell ⟨w.heap.size + 1, 2, none⟩ (.string o.team)).setCell ⟨w.heap.size + 1, 3, none⟩ (.slice a1 n1 d1)).setCell ⟨w.heap.size + 1, 4, none⟩ (.bool o.ending)).setCell ⟨w.heap.size + 1, 5, none⟩ (.slice a2 n2 d2)).setCell ⟨w.heap.size + 1, 6, none⟩ (.int .i64 o.version)).cell? ⟨w.heap.size + 1, 2, none⟩ = some (.string o.team) := r 2 (by omega)
      have r3 : (((((((wr.setCell ⟨w.heap.size + 1, 0, none⟩ (.string o.kind)).setCell ⟨w.heap.size + 1, 1, none⟩ (.string o.name)).setCell ⟨w.heap.size + 1, 2, none⟩ (.string o.team)).setCell ⟨w.heap.size + 1, 3, none⟩ (.slice a1 n1 d1)).setCell ⟨w.heap.size + 1, 4, none⟩ (.bool o.ending)).setCell ⟨w.heap.size + 1, 5, none⟩ (.slice a2 n2 d2)).setCell ⟨w.heap.size + 1, 6, none⟩ (.int .i64 o.version)).cell? ⟨w.heap.size + 1, 3, none⟩ = some (.slice a1 n1 d1) := r 3 (by omega)
      have r4 : (((((((wr.setCell ⟨w.heap.size + 1, 0, none⟩ (.string o.kind)).setCell ⟨w.heap.size + 1, 1, none⟩ (.string o.name)).setCell ⟨w.heap.size + 1, 2, none⟩ (.string o.team)).setCell ⟨w.heap.size + 1, 3, none⟩ (.slice a1 n1 d1)).setCell ⟨w.heap.size + 1, 4, none⟩ (.bool o.ending)).setCell ⟨w.heap.size + 1, 5, none⟩ (.slice a2 n2 d2)).setCell ⟨w.heap.size + 1, 6, none⟩ (.int .i64 o.version)).cell? ⟨w.heap.size + 1, 4, none⟩ = some (.bool o.ending) := r 4 (by omega)
      have r5 : (((((((wr.setCell ⟨w.heap.size + 1, 0, none⟩ (.string o.kind)).setCell ⟨w.heap.size + 1, 1, none⟩ (.string o.name)).setCell ⟨w.heap.size + 1, 2, none⟩ (.string o.team)).setCell ⟨w.heap.size + 1, 3, none⟩ (.slice a1 n1 d1)).setCell ⟨w.heap.size + 1, 4, none⟩ (.bool o.ending)).setCell ⟨w.heap.size + 1, 5, none⟩ (.slice a2 n2 d2)).setCell ⟨w.heap.size + 1, 6, none⟩ (.int .i64 o.version)).cell? ⟨w.heap.size + 1, 5, none⟩ = some (.slice a2 n2 d2) := r 5 (by omega)
      have r6 : (((((((wr.setCell ⟨w.heap.size + 1, 0, none⟩ (.string o.kind)).setCell ⟨w.heap.size + 1, 1, none⟩ (.string o.name)).setCell ⟨w.heap.size + 1, 2, none⟩ (.string o.team)).setCell ⟨w.heap.size + 1, 3, none⟩ (.slice a1 n1 d1)).setCell ⟨w.heap.size + 1, 4, none⟩ (.bool o.ending)).setCell ⟨w.heap.size + 1, 5, none⟩ (.slice a2 n2 d2)).setCell ⟨w.heap.size + 1, 6, none⟩ (.int .i64 o.version)).cell? ⟨w.heap.size + 1, 6, none⟩ = some (.int .i64 o.version) := r 6 (by omega)
      refine bodyPost_ret (v := .agg #[.string o.kind, .string o.name, .string o.team, .slice a1 n1 d1, .bool o.ending, .slice a2 n2 d2, .int .i64 o.version]) (by simp only [results, Tryz.results52]; simp [go_sem, r0, r1, r2, r3, r4, r5, r6]) rfl ⟨⟨_, _, _, _, _, _, mid, rfl, ?_, t2, t3, t4⟩, t5⟩
      rw [HF2.out]; exact t1

end Go.Proofs.YtfdahoekjpobaaaGreat
