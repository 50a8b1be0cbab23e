/-
  Walks: an object is mended: the specification.
-/
import Derived.Test.YtfdahoekjpobaaaGreatWalkDB
import Derived.Test.YtfdahoekjpobaaaGreatWalkDD
import Derived.Test.YtfdahoekjpobaaaGreatWalkAK
import Derived.Test.YtfdahoekjpobaaaGreatWalkDN
import Derived.Test.YtfdahoekjpobaaaGreatFr
import Derived.Test.YtfdahoekjpobaaaGreatWalkAF
namespace Go.Proofs.YtfdahoekjpobaaaGreat
open Go.RowKit Go.Deep

theorem NamesAt.sc {w : World} {v : Value} {l : List ByteArray} (h : NamesAt w v l) {gz : Nat} {lo : Nat} (hlo : ∀ g c, v = .slice (some ⟨g, 0, none⟩) l.length c → lo ≤ g) (hg : gz < lo) (p : Nat) (x : Value) : NamesAt (w.setCell ⟨gz, p, none⟩ x) v l := by
  obtain ⟨g, c, rfl, h1, h2, h3⟩ := h
  have := hlo g c rfl
  exact ⟨g, c, rfl, by rw [sc_size]; exact h1, h2, fun i hi => (sc_ne _ _ _ _ _ _ (Or.inl (by omega))).trans (h3 i hi)⟩

theorem decideV_kind (fs : List Fld) {K K' : ByteArray} (h : K.toList = K'.toList) {p : Nat} {vs : List ByteArray} : ∀ ms : List Mnd, decideV fs K p vs ms = decideV fs K' p vs ms
  | [] => rfl
  | m :: ms => by
    have ih := decideV_kind fs h (p := p) (vs := vs) ms
    have hm : mDec fs K p vs m = mDec fs K' p vs m := by unfold mDec ofKind; rw [h]
    unfold decideV
    rw [hm, ih]

set_option maxRecDepth 40000 in
set_option maxHeartbeats 16000000 in
theorem l3MendedS (B mb : Nat) (ss : List Shp) (ms : List Mnd) (o : Ob) (b1 : Option Addr) (c1 : Nat) (b2 : Option Addr) (c2 : Nat) (w : World) (h : ShpsIn w B ss) (hm : MndsIn w mb ms) (hok : mendsOk ss ms = true) (ho : ObG w b1 c1 b2 c2 o) :
    Calls Tryz.prog 42 #[.slice (some ⟨B, 0, none⟩) ss.length ss.length, .slice (some ⟨mb, 0, none⟩) ms.length ms.length, .agg #[.string o.kind, .string o.name, .string o.team, .slice b1 o.values.length c1, .bool o.ending, .slice b2 o.holds.length c2, .int .i64 o.version]] w fun e w' => (∃ a1 n1 d1 a2 n2 d2 mid, e = .returned (.agg #[.string o.kind, .string o.name, .string o.team, .slice a1 n1 d1, .bool o.ending, .slice a2 n2 d2, .int .i64 o.version]) ∧ CT w' w.heap.size mid (.slice a1 n1 d1) (mendVals ss ms o.kind o.values) ∧ CT w' mid w'.heap.size (.slice a2 n2 d2) o.holds ∧ w.heap.size ≤ mid ∧ mid ≤ w'.heap.size) ∧ Below w.heap.size w w' := by
  have HA : Hid (ShpsIn w B ss ∧ MndsIn w mb ms ∧ ObG w b1 c1 b2 c2 o) := ⟨h, hm, ho⟩
  have HOK : Hid (mendsOk ss ms = true) := hok
  have hl := h.len
  have hlm := hm.len
  have hl1 := ho.len1
  clear h hm ho hok
  obtain ⟨w0, hw0⟩ : ∃ w0, w0 = (w.alloc (.cells #[.string o.kind, .string o.name, .string o.team, .slice b1 o.values.length c1, .bool o.ending, .slice b2 o.holds.length c2, .int .i64 o.version] 30)).alloc (.cells #[.string ⟨#[]⟩, .string ⟨#[]⟩, .string ⟨#[]⟩, .slice none 0 0, .bool false, .slice none 0 0, .int .i64 0] 30) := ⟨_, rfl⟩
  have HB0 : Hid (Below w.heap.size w w0) := by show Below _ _ _; rw [hw0]; exact blw_alloc (blw_alloc (Below.refl _ _) _) _
  have HR0 : Hid (OwnBlk w0 (w.heap.size + 1) 30 7) := by show OwnBlk _ _ _ _; rw [hw0]; exact OwnBlk.alloc_at _ _ _ _ _ rfl (by simp)
  have HZ0 : Hid (w0.heap.size = w.heap.size + 2) := by show _ = _; rw [hw0]; simp
  have HX0 : Hid (∀ W, Below w0.heap.size w0 W → w.heap.size < W.heap.size ∧ ∀ j, W.cell? ⟨w.heap.size, j, none⟩ = (#[.string o.kind, .string o.name, .string o.team, .slice b1 o.values.length c1, .bool o.ending, .slice b2 o.holds.length c2, .int .i64 o.version] : Array Value)[j]?) := by
    intro W hW
    have q : w.heap.size < w0.heap.size := by have := HZ0.out; omega
    refine ⟨Nat.lt_of_lt_of_le q hW.size, fun j => (hW.cell (p := ⟨w.heap.size, j, none⟩) q).trans ?_⟩
    rw [hw0]
    exact (World.cell?_alloc_past _ _ _ (by simp)).trans (World.cell?_alloc_at _ _ _ _ rfl)
  obtain ⟨xz, xs⟩ := HX0.out w0 (Below.refl _ _)
  have x0 : w0.cell? ⟨w.heap.size, 0, none⟩ = some (.string o.kind) := xs 0
  have x1 : w0.cell? ⟨w.heap.size, 1, none⟩ = some (.string o.name) := xs 1
  have x2 : w0.cell? ⟨w.heap.size, 2, none⟩ = some (.string o.team) := xs 2
  have x3 : w0.cell? ⟨w.heap.size, 3, none⟩ = some (.slice b1 o.values.length c1) := xs 3
  have x4 : w0.cell? ⟨w.heap.size, 4, none⟩ = some (.bool o.ending) := xs 4
  have x5 : w0.cell? ⟨w.heap.size, 5, none⟩ = some (.slice b2 o.holds.length c2) := xs 5
  have x6 : w0.cell? ⟨w.heap.size, 6, none⟩ = some (.int .i64 o.version) := xs 6
  clear xs
  go_enter Tryz.func42, Tryz.ntmps42
  go_upto_region 1 with fail
  rw [← hw0]
  clear hw0
  go_wp2_with fail
  refine (l2Copy o b1 c1 b2 c2 w0 (HA.out.2.2.later HB0.out)).mono ?_
  rintro e w1 ⟨⟨a1, n1, d1, a2, n2, d2, mid, rfl, hct1, hct2, hm1, hm2⟩, hb1⟩
  rw [HZ0.out] at hct1 hm1
  have hs1 : w.heap.size + 2 ≤ w1.heap.size := by have := hb1.size; rw [HZ0.out] at this; exact this
  have HB1 : Hid (Below w.heap.size w w1) := blw_trans HB0.out hb1
  obtain ⟨w2, hw2⟩ : ∃ w2, w2 = w1.alloc (.cells #[.string o.kind, .string o.name, .string o.team, .slice a1 n1 d1, .bool o.ending, .slice a2 n2 d2, .int .i64 o.version] 30) := ⟨_, rfl⟩
  obtain ⟨X, hX⟩ : ∃ X, X = w1.heap.size := ⟨_, rfl⟩
  have hb2 : Below w1.heap.size w1 w2 := by rw [hw2]; exact blw_alloc (Below.refl _ _) _
  have HI2 : Hid (FInv w w2 X mid o o.values (.slice a1 n1 d1) (.slice a2 n2 d2)) := by
    show FInv _ _ _ _ _ _ _ _
    rw [hX]
    have q : ∀ j, w2.cell? ⟨w1.heap.size, j, none⟩ = (#[.string o.kind, .string o.name, .string o.team, .slice a1 n1 d1, .bool o.ending, .slice a2 n2 d2, .int .i64 o.version] : Array Value)[j]? := fun j => by rw [hw2]; exact World.cell?_alloc_at _ _ _ _ rfl
    exact ⟨blw_trans HB1.out hb2, (HR0.out.later hb1).later hb2, by rw [hw2]; simp, q 0, q 1, q 2, q 3, q 4, q 5, q 6, hct1.later hb2, hct2.later hb2, hm1, hm2⟩
  have HK2 : Hid (Below w0.heap.size w0 w2) := blw_trans hb1 hb2
  go_upto_region 2 with fail
  rw [← hw2, ← hX]
  clear hw2 hX hb1 hb2 hct1 hct2 hm1 hm2 hs1 x0 x1 x2 x3 x4 x5 x6 xz
  obtain ⟨xz, xs⟩ := HX0.out w2 HK2.out
  have x0 : w2.cell? ⟨w.heap.size, 0, none⟩ = some (.string o.kind) := xs 0
  have x1 : w2.cell? ⟨w.heap.size, 1, none⟩ = some (.string o.name) := xs 1
  have x2 : w2.cell? ⟨w.heap.size, 2, none⟩ = some (.string o.team) := xs 2
  have x3 : w2.cell? ⟨w.heap.size, 3, none⟩ = some (.slice b1 o.values.length c1) := xs 3
  have x4 : w2.cell? ⟨w.heap.size, 4, none⟩ = some (.bool o.ending) := xs 4
  have x5 : w2.cell? ⟨w.heap.size, 5, none⟩ = some (.slice b2 o.holds.length c2) := xs 5
  have x6 : w2.cell? ⟨w.heap.size, 6, none⟩ = some (.int .i64 o.version) := xs 6
  clear xs
  go_wp2_with fail
  refine (l2Fields w B ss o b1 c1 b2 c2 w2 HA.out.1 HI2.out.bel).mono ?_
  rintro e w3 ⟨a, n, c, rfl, hso, hb3⟩
  obtain ⟨R, hR⟩ : ∃ R, R = hasFields ss o := ⟨_, rfl⟩
  rw [← hR] at hso ⊢
  have HSO : Hid (R = true → ∃ b, Value.slice a n c = .slice (some ⟨b, 0, none⟩) (ss.getD (kindAt ss o.kind) Shp.none).fields.length (ss.getD (kindAt ss o.kind) Shp.none).fields.length ∧ b < w.heap.size ∧ ∀ i, i < (ss.getD (kindAt ss o.kind) Shp.none).fields.length → OwnFld w b (i * 11) ((ss.getD (kindAt ss o.kind) Shp.none).fields.getD i Fld.none)) := hso
  have HRR : Hid (R = hasFields ss o) := hR
  have HI4 : Hid (FInv w w3 X mid o o.values (.slice a1 n1 d1) (.slice a2 n2 d2)) := HI2.out.later hb3
  have HK4 : Hid (Below w0.heap.size w0 w3) := blw_trans HK2.out hb3
  clear hR hso hb3 x0 x1 x2 x3 x4 x5 x6 xz HI2 HK2
  obtain ⟨xz, xs⟩ := HX0.out w3 HK4.out
  have x0 : w3.cell? ⟨w.heap.size, 0, none⟩ = some (.string o.kind) := xs 0
  clear xs
  obtain ⟨_, _, z1, X0, X1, X2, X3, X4, X5, X6, _, _, _, _⟩ := HI4.out
  cases R
  · have HF : Hid (mendVals ss ms o.kind o.values = o.values) := by
      show mendVals _ _ _ _ = _
      unfold mendVals
      rw [if_neg]
      intro hh
      have := HRR.out
      unfold hasFields at this
      rw [hh.1, decide_eq_true hh.2] at this
      cases this
    have hR := HI4.out.own
    have hfz := hR.frozen
    have z2 := hR.lt
    obtain ⟨y0, hy0⟩ := hR.cell 0 (by omega)
    obtain ⟨y1, hy1⟩ := hR.cell 1 (by omega)
    obtain ⟨y2, hy2⟩ := hR.cell 2 (by omega)
    obtain ⟨y3, hy3⟩ := hR.cell 3 (by omega)
    obtain ⟨y4, hy4⟩ := hR.cell 4 (by omega)
    obtain ⟨y5, hy5⟩ := hR.cell 5 (by omega)
    obtain ⟨y6, hy6⟩ := hR.cell 6 (by omega)
    clear hR
    go_wp2
    obtain ⟨r, _, t1, t2, t3, t4, t5⟩ := HI4.out.out [.string o.kind, .string o.name, .string o.team, .slice a1 n1 d1, .bool o.ending, .slice a2 n2 d2, .int .i64 o.version] rfl
    have r0 : (((((((w3.setCell ⟨w.heap.size + 1, 0, none⟩ (.string o.kind)).setCell ⟨w.heap.size + 1, 1, none⟩ (.string o.name)).setCell ⟨w.heap.size + 1, 2, none⟩ (.string o.team)).setCell ⟨w.heap.size + 1, 3, none⟩ (.slice a1 n1 d1)).setCell ⟨w.heap.size + 1, 4, none⟩ (.bool o.ending)).setCell ⟨w.heap.size + 1, 5, none⟩ (.slice a2 n2 d2)).setCell ⟨w.heap.size + 1, 6, none⟩ (.int .i64 o.version)).cell? ⟨w.heap.size + 1, 0, none⟩ = some (.string o.kind) := r 0 (by omega)
    have r1 : (((((((w3.setCell ⟨w.heap.size + 1, 0, none⟩ (.string o.kind)).setCell ⟨w.heap.size + 1, 1, none⟩ (.string o.name)).setCell ⟨w.heap.size + 1, 2, none⟩ (.string o.team)).setCell ⟨w.heap.size + 1, 3, none⟩ (.slice a1 n1 d1)).setCell ⟨w.heap.size + 1, 4, none⟩ (.bool o.ending)).setCell ⟨w.heap.size + 1, 5, none⟩ (.slice a2 n2 d2)).setCell ⟨w.heap.size + 1, 6, none⟩ (.int .i64 o.version)).cell? ⟨w.heap.size + 1, 1, none⟩ = some (.string o.name) := r 1 (by omega)
    have r2 : (((((((w3.setCell ⟨w.heap.size + 1, 0, none⟩ (.string o.kind)).setCell ⟨w.heap.size + 1, 1, none⟩ (.string o.name)).setCell ⟨w.heap.size + 1, 2, none⟩ (.string o.team)).setCell ⟨w.heap.size + 1, 3, none⟩ (.slice a1 n1 d1)).setCell ⟨w.heap.size + 1, 4, none⟩ (.bool o.ending)).setCell ⟨w.heap.size + 1, 5, none⟩ (.slice a2 n2 d2)).setCell ⟨w.heap.size + 1, 6, none⟩ (.int .i64 o.version)).cell? ⟨w.heap.size + 1, 2, none⟩ = some (.string o.team) := r 2 (by omega)
    have r3 : (((((((w3.setCell ⟨w.heap.size + 1, 0, none⟩ (.string o.kind)).setCell ⟨w.heap.size + 1, 1, none⟩ (.string o.name)).setCell ⟨w.heap.size + 1, 2, none⟩ (.string o.team)).setCell ⟨w.heap.size + 1, 3, none⟩ (.slice a1 n1 d1)).setCell ⟨w.heap.size + 1, 4, none⟩ (.bool o.ending)).setCell ⟨w.heap.size + 1, 5, none⟩ (.slice a2 n2 d2)).setCell ⟨w.heap.size + 1, 6, none⟩ (.int .i64 o.version)).cell? ⟨w.heap.size + 1, 3, none⟩ = some (.slice a1 n1 d1) := r 3 (by omega)
    have r4 : (((((((w3.setCell ⟨w.heap.size + 1, 0, none⟩ (.string o.kind)).setCell ⟨w.heap.size + 1, 1, none⟩ (.string o.name)).setCell ⟨w.heap.size + 1, 2, none⟩ (.string o.team)).setCell ⟨w.heap.size + 1, 3, none⟩ (.slice a1 n1 d1)).setCell ⟨w.heap.size + 1, 4, none⟩ (.bool o.ending)).setCell ⟨w.heap.size + 1, 5, none⟩ (.slice a2 n2 d2)).setCell ⟨w.heap.size + 1, 6, none⟩ (.int .i64 o.version)).cell? ⟨w.heap.size + 1, 4, none⟩ = some (.bool o.ending) := r 4 (by omega)
    have r5 : (((((((w3.setCell ⟨w.heap.size + 1, 0, none⟩ (.string o.kind)).setCell ⟨w.heap.size + 1, 1, none⟩ (.string o.name)).setCell ⟨w.heap.size + 1, 2, none⟩ (.string o.team)).setCell ⟨w.heap.size + 1, 3, none⟩ (.slice a1 n1 d1)).setCell ⟨w.heap.size + 1, 4, none⟩ (.bool o.ending)).setCell ⟨w.heap.size + 1, 5, none⟩ (.slice a2 n2 d2)).setCell ⟨w.heap.size + 1, 6, none⟩ (.int .i64 o.version)).cell? ⟨w.heap.size + 1, 5, none⟩ = some (.slice a2 n2 d2) := r 5 (by omega)
    have r6 : (((((((w3.setCell ⟨w.heap.size + 1, 0, none⟩ (.string o.kind)).setCell ⟨w.heap.size + 1, 1, none⟩ (.string o.name)).setCell ⟨w.heap.size + 1, 2, none⟩ (.string o.team)).setCell ⟨w.heap.size + 1, 3, none⟩ (.slice a1 n1 d1)).setCell ⟨w.heap.size + 1, 4, none⟩ (.bool o.ending)).setCell ⟨w.heap.size + 1, 5, none⟩ (.slice a2 n2 d2)).setCell ⟨w.heap.size + 1, 6, none⟩ (.int .i64 o.version)).cell? ⟨w.heap.size + 1, 6, none⟩ = some (.int .i64 o.version) := r 6 (by omega)
    refine bodyPost_ret (v := .agg #[.string o.kind, .string o.name, .string o.team, .slice a1 n1 d1, .bool o.ending, .slice a2 n2 d2, .int .i64 o.version]) (by simp only [results, Tryz.results42]; simp [go_sem, r0, r1, r2, r3, r4, r5, r6]) rfl ⟨⟨_, _, _, _, _, _, mid, rfl, ?_, t2, t3, t4⟩, t5⟩
    rw [HF.out]; exact t1
  obtain ⟨b, hv, hbl, hf⟩ := HSO.out rfl
  obtain ⟨s, hs⟩ : ∃ s, s = ss.getD (kindAt ss o.kind) Shp.none := ⟨_, rfl⟩
  rw [← hs] at hv hf
  injection hv with hv1 hv2 hv3
  subst hv1 hv2 hv3
  have hhf := HRR.out.symm
  unfold hasFields at hhf
  rw [← hs] at hhf
  simp only [Bool.and_eq_true, decide_eq_true_eq] at hhf
  obtain ⟨hhk, heq⟩ := hhf
  have hki : kindAt ss o.kind < ss.length := by simpa [hasKind] using hhk
  have hparts := HOK.out
  unfold mendsOk at hparts
  simp only [Bool.and_eq_true] at hparts
  obtain ⟨⟨⟨hp1, hp2⟩, hp3⟩, hp4⟩ := hparts
  have HFI : Hid (FldsIn w b s.fields) := by
    have hsm := HA.out.1.small s (by rw [hs]; simp [hki])
    exact ⟨hbl, hsm.1, hsm.2, hf⟩
  have HFD : Hid (∀ m ∈ ms, ofKind s.kind m = true → found s.fields m) := by rw [hs]; exact found_of hp1 hp3 hki
  have HMO : Hid (∀ m ∈ ms, ofKind s.kind m = true → mendOkF s.fields m = true) := by rw [hs]; exact mendOkF_of hp1 hp3 hki
  have HFO : Hid (fieldsOk ss s.fields = true) := by rw [hs]; exact fieldsOk_of hp1 hki
  have h12 : ms.length ≤ 12 := of_decide_eq_true hp2
  have HS : Hid (s = ss.getD (kindAt ss o.kind) Shp.none ∧ hasKind ss o.kind = true) := ⟨hs, hhk⟩
  have HKK : Hid (s.kind.toList = o.kind.toList) := by
    have e : ss.getD (kindAt ss o.kind) Shp.none = ss[kindAt ss o.kind] := by simp [hki]
    have := List.findIdx_getElem (xs := ss) (p := fun x : Shp => x.kind.toList == o.kind.toList) (w := hki)
    rw [hs, e]
    exact beq_iff_eq.1 this
  obtain ⟨b', _, hb'l, _, _, q0, q1, hf'⟩ := HA.out.1.at_ (kindAt ss o.kind) hki
  rw [← hs] at q0 q1 hf'
  have HFJ : Hid (FldsIn w b' s.fields) := ⟨hb'l, HFI.out.len, HFI.out.small, hf'⟩
  have HC1 : Hid (Calls Tryz.prog 57 #[.slice (some ⟨B, 0, none⟩) ss.length ss.length, .string o.kind] w3 fun e w' => e = .returned (.int .i64 (kindAt ss o.kind : Nat)) ∧ w3 = w') := by
    have := l1Shape_any B ss o.kind w3 (HA.out.1.later HI4.out.bel)
    rw [if_pos hki] at this
    exact this
  obtain ⟨ki, hkie⟩ : ∃ ki, ki = kindAt ss o.kind := ⟨_, rfl⟩
  have q0' : w3.cell? ⟨B, ki * 2, none⟩ = some (.string s.kind) := by rw [hkie]; exact (HI4.out.bel.cell (p := ⟨B, _, none⟩) HA.out.1.lt).trans q0
  have q1' : w3.cell? ⟨B, ki * 2 + 1, none⟩ = some (.slice (some ⟨b', 0, none⟩) s.fields.length s.fields.length) := by rw [hkie]; exact (HI4.out.bel.cell (p := ⟨B, _, none⟩) HA.out.1.lt).trans q1
  have hBz : B < w3.heap.size := Nat.lt_of_lt_of_le HA.out.1.lt HI4.out.bel.size
  rw [← hkie] at HC1 hki
  have hfl : s.fields.length ≤ 1048576 := HFI.out.len
  have HEQ : Hid (o.values.length = s.fields.length) := heq
  have HLO : Hid (X < w3.heap.size) := HI4.out.lt
  clear hbl hf hs hhk hkie hp1 hp2 hp3 hp4 HSO q0 q1 hf' hb'l heq
  obtain ⟨L, hLL⟩ : ∃ L, L = mngsOf s.fields ms s.kind := ⟨_, rfl⟩
  obtain ⟨row, hrow⟩ : ∃ row, row = rowG (rdM s.fields ms s.kind) s.fields.length s.fields.length := ⟨_, rfl⟩
  have HF : Hid (mendVals ss ms o.kind o.values = mendBy L o.values row) := by
    show mendVals _ _ _ _ = _
    unfold mendVals mngsAt rowAt mngsAt
    rw [← HS.out.1, if_pos ⟨HS.out.2, HEQ.out⟩, hrow, hLL]
    rfl
  have HLL : Hid (L = mngsOf s.fields ms s.kind) := hLL
  have HRW : Hid (row = rowG (rdM s.fields ms s.kind) s.fields.length s.fields.length) := hrow
  have HRC : Hid (Calls Tryz.prog 41 #[.agg #[.string s.kind, .slice (some ⟨b', 0, none⟩) s.fields.length s.fields.length], .slice (some ⟨mb, 0, none⟩) ms.length ms.length] w3 fun e w' => (∃ g c, e = .returned (.slice (some ⟨g, 0, none⟩) row.length c) ∧ w3.heap.size ≤ g ∧ NamesAt w' (.slice (some ⟨g, 0, none⟩) row.length c) (row.map (nmAt s.fields))) ∧ Below w3.heap.size w3 w') := by
    rw [hrow]
    exact l3RowO ss s b' mb ms w3 (HFJ.out.later HI4.out.bel) (HA.out.2.1.later HI4.out.bel) HFO.out HFD.out
  clear hLL hrow
  go_wp2_with fail
  refine HC1.out.mono ?_
  rintro e w3' ⟨rfl, rfl⟩
  go_wp2_with fail
  refine HRC.out.mono ?_
  rintro e w5 ⟨⟨gr, cr, rfl, hgl, hna⟩, hb5⟩
  have HI6 : Hid (FInv w w5 X mid o (mendBy L o.values (row.take 0)) (.slice a1 n1 d1) (.slice a2 n2 d2) ∧ NamesAt w5 (.slice (some ⟨gr, 0, none⟩) row.length cr) (row.map (nmAt s.fields))) := ⟨HI4.out.later hb5, hna⟩
  have HGL : Hid (X < gr) := Nat.lt_of_lt_of_le HLO.out hgl
  have HRL : Hid (row.length ≤ 1048576 ∧ ∀ i, i < row.length → row.getD i 0 < s.fields.length) := by
    refine ⟨?_, fun i hi => ?_⟩
    · have := rowG_le (rdM s.fields ms s.kind) s.fields.length s.fields.length; rw [← HRW.out] at this; omega
    · have e : row.getD i 0 = row[i] := by simp [hi]
      have := rowG_lt (rdM s.fields ms s.kind) s.fields.length s.fields.length row[i] (by rw [← HRW.out]; exact List.getElem_mem hi)
      rw [e]; exact this
  have hrl := HRL.out.1
  clear hb5 hna hgl q0' q1' hBz x0 xz z1 X0 X1 X2 X3 X4 X5 X6 HI4 HK4 HRC HC1
  go_wp2
  go_loopw [11] (fun s11 wr => ∃ q : Nat, q ≤ row.length ∧ s11 = .int .i64 q ∧ FInv w wr X mid o (mendBy L o.values (row.take q)) (.slice a1 n1 d1) (.slice a2 n2 d2) ∧ NamesAt wr (.slice (some ⟨gr, 0, none⟩) row.length cr) (row.map (nmAt s.fields))) (fun s11 _ => row.length - (intOf s11).toNat)
  case atStart => exact ⟨0, Nat.zero_le _, rfl, HI6.out⟩
  case round =>
    obtain ⟨q, hq, rfl, hI, hNa⟩ := hrel
    obtain ⟨vs, hvs⟩ : ∃ vs, vs = mendBy L o.values (row.take q) := ⟨_, rfl⟩
    have HVS : Hid (vs = mendBy L o.values (row.take q)) := hvs
    rw [← hvs] at hI
    clear hvs
    have HI : Hid (FInv w wr X mid o vs (.slice a1 n1 d1) (.slice a2 n2 d2)) := hI
    have HNA : Hid (NamesAt wr (.slice (some ⟨gr, 0, none⟩) row.length cr) (row.map (nmAt s.fields))) := hNa
    have hvl : vs.length = o.values.length := by rw [HVS.out]; exact mendBy_len _ _ _
    have HVL : Hid (vs.length = s.fields.length) := by show _ = _; rw [hvl, HEQ.out]
    obtain ⟨_, _, z1, X0, X1, X2, X3, X4, X5, X6, hc1, _, hm1, hm2⟩ := hI
    by_cases hlt : q < row.length
    · obtain ⟨p, hp⟩ : ∃ p, p = row.getD q 0 := ⟨_, rfl⟩
      have hpf : p < s.fields.length := by rw [hp]; exact HRL.out.2 q hlt
      have hpl : p < vs.length := by rw [HVL.out]; exact hpf
      have HST : Hid (mendBy L o.values (row.take (q + 1)) = mendStep L vs p) := by show mendBy _ _ _ = _; rw [mendBy_take L o.values row q hlt, ← HVS.out, hp]
      obtain ⟨gr', cr', e0, hgr, _, hcr⟩ := hNa
      injection e0 with e1 e2' e3
      clear e2'
      injection e1 with e1
      injection e1 with e1
      subst e1 e3
      have i0 := hcr q (by rw [List.length_map]; exact hlt)
      have en0 : (row.map (nmAt s.fields)).getD q ByteArray.empty = nmAt s.fields p := by rw [hp]; simp [hlt]
      rw [en0] at i0
      rcases hc1 with ⟨_, e2⟩ | ⟨g, cap, e1, hg1, hg2, hg3, hg4, hg5⟩
      · rw [e2] at hpl; exact absurd hpl (Nat.not_lt_zero p)
      injection e1 with e1 e3 e4
      subst e1 e3 e4
      have HVA : Hid (VAt wr g vs) := ⟨hg3.lt, by rw [HVL.out]; exact hfl, hg5⟩
      have HG : Hid (OwnBlk wr g 9 d1 ∧ vs.length ≤ d1 ∧ g < mid) := ⟨hg3, hg4, hg2⟩
      have HMD : Hid (mid ≤ X) := hm2
      have HLF : Hid (∀ W, Below wr.heap.size wr W → Calls Tryz.prog 60 #[.slice (some ⟨b, 0, none⟩) s.fields.length s.fields.length, .string (nmAt s.fields p)] W fun e w' => e = .returned (.int .i64 (p : Nat)) ∧ w' = W) := by
        intro W hW
        have e := nameAt_self HFO.out hpf
        have := l3Field_at b s.fields (nmAt s.fields p) W ((HFI.out.later HI.out.bel).later hW) (by unfold nmAt; rw [e]; exact hpf)
        have e' : nameAt s.fields (nmAt s.fields p) = p := e
        rw [e'] at this
        exact this
      have HLD : Hid (∀ W, Below wr.heap.size wr W → Calls Tryz.prog 64 #[.slice (some ⟨b, 0, none⟩) s.fields.length s.fields.length, .slice (some ⟨mb, 0, none⟩) ms.length ms.length, .agg #[.string o.kind, .string o.name, .string o.team, .slice (some ⟨g, 0, none⟩) vs.length d1, .bool o.ending, .slice a2 n2 d2, .int .i64 o.version], .string (nmAt s.fields p)] W fun e w' => e = .returned (.string ((decideV s.fields o.kind p vs ms).getD (vs.getD p ByteArray.empty))) ∧ Below W.heap.size W w') := by
        intro W hW
        have hK : ∀ m, ofKind o.kind m = true → ofKind s.kind m = true := fun m hh => by unfold ofKind at hh ⊢; rw [HKK.out]; exact hh
        exact decidedS ss b mb g d1 p s.fields ms vs o.kind o.name o.team o.ending _ o.version W ((HFI.out.later HI.out.bel).later hW) ((HA.out.2.1.later HI.out.bel).later hW) (HVA.out.later hW) HFO.out HVL.out hpf (fun m hm hk => HFD.out m hm (hK m hk)) (fun m hm hk => HMO.out m hm (hK m hk))
      obtain ⟨zz, hzz⟩ : ∃ zz, zz = (decideV s.fields o.kind p vs ms).getD (vs.getD p ByteArray.empty) := ⟨_, rfl⟩
      have HN : Hid (mendStep L vs p = vs.set p zz) := by
        show mendStep _ _ _ = _
        rw [HLL.out, mendStep_eq s.fields s.kind ms vs p hpl, hzz, decideV_kind s.fields HKK.out]
      rw [← hzz] at HLD
      obtain ⟨np, hnp⟩ : ∃ np, np = nmAt s.fields p := ⟨_, rfl⟩
      rw [← hnp] at HLF HLD i0
      clear hzz hnp hcr hp hg1 hg2 hg3 hg4 hg5 hvl hm1 hm2 en0
      have HFX : Hid (∀ W, Below wr.heap.size wr W → (X < W.heap.size ∧ W.cell? ⟨X, 0, none⟩ = some (.string o.kind) ∧ W.cell? ⟨X, 1, none⟩ = some (.string o.name) ∧ W.cell? ⟨X, 2, none⟩ = some (.string o.team) ∧ W.cell? ⟨X, 3, none⟩ = some (.slice (some ⟨g, 0, none⟩) vs.length d1) ∧ W.cell? ⟨X, 4, none⟩ = some (.bool o.ending) ∧ W.cell? ⟨X, 5, none⟩ = some (.slice a2 n2 d2) ∧ W.cell? ⟨X, 6, none⟩ = some (.int .i64 o.version)) ∧ (W.frozen? ⟨g, p, none⟩ = false ∧ g < W.heap.size ∧ ∃ u, W.cell? ⟨g, p, none⟩ = some u) ∧ gr < W.heap.size ∧ W.cell? ⟨gr, q, none⟩ = some (.string np)) := by
        intro W hW
        have q1 := HI.out.later hW
        have q2 := HG.out.1.later hW
        have q3 := HG.out.2.1
        exact ⟨⟨q1.lt, q1.x0, q1.x1, q1.x2, q1.x3, q1.x4, q1.x5, q1.x6⟩, ⟨q2.frozen p, q2.lt, q2.cell p (by omega)⟩, Nat.lt_of_lt_of_le hgr hW.size, (hW.cell (p := ⟨gr, q, none⟩) hgr).trans i0⟩
      have HNX : Hid (∀ W, Below wr.heap.size wr W → FInv w (W.setCell ⟨g, p, none⟩ (.string zz)) X mid o (mendBy L o.values (row.take (q + 1))) (.slice (some ⟨g, 0, none⟩) vs.length d1) (.slice a2 n2 d2) ∧ NamesAt (W.setCell ⟨g, p, none⟩ (.string zz)) (.slice (some ⟨gr, 0, none⟩) row.length cr) (row.map (nmAt s.fields))) := by
        intro W hW
        refine ⟨?_, (HNA.out.later hW).sc (lo := X) (fun g' c' e => by injection e with e1; injection e1 with e1; injection e1 with e1; have := HGL.out; omega) (by have := HG.out.2.2; have := HMD.out; omega) _ _⟩
        rw [HST.out, HN.out]
        exact (HI.out.later hW).setv p hpl zz
      obtain ⟨_, ⟨hfz, hgz, u, hu⟩, _, _⟩ := HFX.out wr (Below.refl _ _)
      have hq1 : q < row.length := hlt
      have hqi : ((q : Int) < (row.length : Int)) := by omega
      have hpi : ((p : Int) < (vs.length : Int)) := by omega
      have HPQ : Hid (q < row.length ∧ p < vs.length) := ⟨hq1, hpl⟩
      go_upto_region 9 with fail
      refine wp_region_any (by kernel_rfl) ?_
      refine gen_frame (R := fun a => wpAny _ _ _ _ _ _ a _) _ ?_
      intro a0 ha0
      have hsz0 : 54 < a0.tmps.size := by rw [ha0]; simp
      have f1 : a0.eval (.tmp 1) = .slice (some ⟨mb, 0, none⟩) ms.length ms.length := by rw [ha0]; rfl
      have f7 : a0.eval (.tmp 7) = .pointer (some ⟨X, 0, none⟩) := by rw [ha0]; rfl
      have f8 : a0.eval (.tmp 8) = .slice (some ⟨b, 0, none⟩) s.fields.length s.fields.length := by rw [ha0]; rfl
      have f10 : a0.eval (.tmp 10) = .slice (some ⟨gr, 0, none⟩) row.length cr := by rw [ha0]; rfl
      have f11 : a0.eval (.tmp 11) = .int .i64 (q : Nat) := by rw [ha0]; rfl
      refine wpAny_inv (fun l a W => ∃ s38 s39 s40 s41 s42 s43 s44 s45 s46 s47 s48 s49 s50 s51 s52 s53 s54 : Value, a = ck a0 s38 s39 s40 s41 s42 s43 s44 s45 s46 s47 s48 s49 s50 s51 s52 s53 s54 ∧ (l.getD 0 false = true → s38 = .pointer (some ⟨X, 3, none⟩)) ∧ (l.getD 1 false = true → s39 = .slice (some ⟨g, 0, none⟩) vs.length d1) ∧ (l.getD 2 false = true → s40 = .slice (some ⟨b, 0, none⟩) s.fields.length s.fields.length) ∧ (l.getD 3 false = true → s41 = .slice (some ⟨gr, 0, none⟩) row.length cr) ∧ (l.getD 4 false = true → s42 = .int .i64 (q : Nat)) ∧ (l.getD 5 false = true → s43 = .pointer (some ⟨gr, q, none⟩)) ∧ (l.getD 6 false = true → s44 = .string np) ∧ (l.getD 7 false = true → s45 = .int .i64 (p : Nat)) ∧ (l.getD 8 false = true → s46 = .slice (some ⟨b, 0, none⟩) s.fields.length s.fields.length) ∧ (l.getD 9 false = true → s47 = .slice (some ⟨mb, 0, none⟩) ms.length ms.length) ∧ (l.getD 10 false = true → s48 = .agg #[.string o.kind, .string o.name, .string o.team, .slice (some ⟨g, 0, none⟩) vs.length d1, .bool o.ending, .slice a2 n2 d2, .int .i64 o.version]) ∧ (l.getD 11 false = true → s49 = .slice (some ⟨gr, 0, none⟩) row.length cr) ∧ (l.getD 12 false = true → s50 = .int .i64 (q : Nat)) ∧ (l.getD 13 false = true → s51 = .pointer (some ⟨gr, q, none⟩)) ∧ (l.getD 14 false = true → s52 = .string np) ∧ (l.getD 15 false = true → s53 = .string zz) ∧ (l.getD 16 false = true → s54 = .pointer (some ⟨g, p, none⟩)) ∧ l.size = 18 ∧ ((l.getD 17 false = false ∧ Below wr.heap.size wr W) ∨ (l.getD 17 false = true ∧ ∃ W0, Below wr.heap.size wr W0 ∧ W = W0.setCell ⟨g, p, none⟩ (.string zz)))) ?_ ?_ _ _ _ _ ?_ ?_ ?_
      · rintro l a W i ⟨s38, s39, s40, s41, s42, s43, s44, s45, s46, s47, s48, s49, s50, s51, s52, s53, s54, rfl, h0, h1, h2, h3, h4, h5, h6, h7, h8, h9, h10, h11, h12, h13, h14, h15, h16, hls, hw⟩ hC hi
        obtain ⟨hun, o', ho, hall⟩ := mem_ready.1 hi
        have hlt : i < 18 := (Array.getElem?_eq_some_iff.1 ho).1
        rcases hw with ⟨h17f, hB⟩ | ⟨L17, _⟩
        rotate_left
        · exfalso
          have L15 : l.getD 15 false = true := hC 17 _ ⟨15, .data⟩ rfl (by simp) rfl L17
          have L16 : l.getD 16 false = true := hC 17 _ ⟨16, .data⟩ rfl (by simp) rfl L17
          have L7 : l.getD 7 false = true := hC 16 _ ⟨7, .data⟩ rfl (by simp) rfl L16
          have L1 : l.getD 1 false = true := hC 16 _ ⟨1, .data⟩ rfl (by simp) rfl L16
          have L0 : l.getD 0 false = true := hC 1 _ ⟨0, .data⟩ rfl (by simp) rfl L1
          have L2 : l.getD 2 false = true := hC 7 _ ⟨2, .data⟩ rfl (by simp) rfl L7
          have L6 : l.getD 6 false = true := hC 7 _ ⟨6, .data⟩ rfl (by simp) rfl L7
          have L5 : l.getD 5 false = true := hC 6 _ ⟨5, .data⟩ rfl (by simp) rfl L6
          have L3 : l.getD 3 false = true := hC 5 _ ⟨3, .data⟩ rfl (by simp) rfl L5
          have L4 : l.getD 4 false = true := hC 5 _ ⟨4, .data⟩ rfl (by simp) rfl L5
          have L8 : l.getD 8 false = true := hC 15 _ ⟨8, .data⟩ rfl (by simp) rfl L15
          have L9 : l.getD 9 false = true := hC 15 _ ⟨9, .data⟩ rfl (by simp) rfl L15
          have L10 : l.getD 10 false = true := hC 15 _ ⟨10, .data⟩ rfl (by simp) rfl L15
          have L14 : l.getD 14 false = true := hC 15 _ ⟨14, .data⟩ rfl (by simp) rfl L15
          have L13 : l.getD 13 false = true := hC 14 _ ⟨13, .data⟩ rfl (by simp) rfl L14
          have L11 : l.getD 11 false = true := hC 13 _ ⟨11, .data⟩ rfl (by simp) rfl L13
          have L12 : l.getD 12 false = true := hC 13 _ ⟨12, .data⟩ rfl (by simp) rfl L13
          have hf := getD_flip hun
          have hcases : i = 0 ∨ i = 1 ∨ i = 2 ∨ i = 3 ∨ i = 4 ∨ i = 5 ∨ i = 6 ∨ i = 7 ∨ i = 8 ∨ i = 9 ∨ i = 10 ∨ i = 11 ∨ i = 12 ∨ i = 13 ∨ i = 14 ∨ i = 15 ∨ i = 16 ∨ i = 17 := by omega
          rcases hcases with rfl | rfl | rfl | rfl | rfl | rfl | rfl | rfl | rfl | rfl | rfl | rfl | rfl | rfl | rfl | rfl | rfl | rfl
          · rw [L0] at hf; cases hf
          · rw [L1] at hf; cases hf
          · rw [L2] at hf; cases hf
          · rw [L3] at hf; cases hf
          · rw [L4] at hf; cases hf
          · rw [L5] at hf; cases hf
          · rw [L6] at hf; cases hf
          · rw [L7] at hf; cases hf
          · rw [L8] at hf; cases hf
          · rw [L9] at hf; cases hf
          · rw [L10] at hf; cases hf
          · rw [L11] at hf; cases hf
          · rw [L12] at hf; cases hf
          · rw [L13] at hf; cases hf
          · rw [L14] at hf; cases hf
          · rw [L15] at hf; cases hf
          · rw [L16] at hf; cases hf
          · rw [L17] at hf; cases hf
        obtain ⟨⟨z9, X90, X91, X92, X93, X94, X95, X96⟩, ⟨hfz9, hgz9, u9, hu9⟩, hgr9, i9⟩ := HFX.out W hB
        have hcases : i = 0 ∨ i = 1 ∨ i = 2 ∨ i = 3 ∨ i = 4 ∨ i = 5 ∨ i = 6 ∨ i = 7 ∨ i = 8 ∨ i = 9 ∨ i = 10 ∨ i = 11 ∨ i = 12 ∨ i = 13 ∨ i = 14 ∨ i = 15 ∨ i = 16 ∨ i = 17 := by omega
        rcases hcases with rfl | rfl | rfl | rfl | rfl | rfl | rfl | rfl | rfl | rfl | rfl | rfl | rfl | rfl | rfl | rfl | rfl | rfl
        · have ho1 := ho
          simp at ho
          subst ho
          refine wpOp_value (v := .pointer (some ⟨X, 3, none⟩)) (w' := W) ho1 rfl ?_ ?_
          · simp [execOp, go_sem, ck_get7 _ _ _ _ _ _ _ _ _ _ _ _ _ _ _ _ _ _ _ f7]
          · show ∃ s38, _
            rw [ck_put38]
            exact ⟨_, _, _, _, _, _, _, _, _, _, _, _, _, _, _, _, _, rfl, fun _ => rfl, fun h => h1 ((set_get h).resolve_left (by decide)), fun h => h2 ((set_get h).resolve_left (by decide)), fun h => h3 ((set_get h).resolve_left (by decide)), fun h => h4 ((set_get h).resolve_left (by decide)), fun h => h5 ((set_get h).resolve_left (by decide)), fun h => h6 ((set_get h).resolve_left (by decide)), fun h => h7 ((set_get h).resolve_left (by decide)), fun h => h8 ((set_get h).resolve_left (by decide)), fun h => h9 ((set_get h).resolve_left (by decide)), fun h => h10 ((set_get h).resolve_left (by decide)), fun h => h11 ((set_get h).resolve_left (by decide)), fun h => h12 ((set_get h).resolve_left (by decide)), fun h => h13 ((set_get h).resolve_left (by decide)), fun h => h14 ((set_get h).resolve_left (by decide)), fun h => h15 ((set_get h).resolve_left (by decide)), fun h => h16 ((set_get h).resolve_left (by decide)), (by simpa using hls), Or.inl ⟨by rw [getD_set_ne _ (show (0 : Nat) ≠ 17 by decide)]; exact h17f, hB⟩⟩
        · have ho1 := ho
          simp at ho
          subst ho
          have e0 := (h0 (hall ⟨0, .data⟩ (by simp) rfl)).symm
          subst e0
          refine wpOp_value (v := .slice (some ⟨g, 0, none⟩) vs.length d1) (w' := W) ho1 rfl ?_ ?_
          · simp [execOp, go_sem, ck_get38 _ _ _ _ _ _ _ _ _ _ _ _ _ _ _ _ _ _ hsz0, X93]
          · show ∃ s38, _
            rw [ck_put39]
            exact ⟨_, _, _, _, _, _, _, _, _, _, _, _, _, _, _, _, _, rfl, fun h => h0 ((set_get h).resolve_left (by decide)), fun _ => rfl, fun h => h2 ((set_get h).resolve_left (by decide)), fun h => h3 ((set_get h).resolve_left (by decide)), fun h => h4 ((set_get h).resolve_left (by decide)), fun h => h5 ((set_get h).resolve_left (by decide)), fun h => h6 ((set_get h).resolve_left (by decide)), fun h => h7 ((set_get h).resolve_left (by decide)), fun h => h8 ((set_get h).resolve_left (by decide)), fun h => h9 ((set_get h).resolve_left (by decide)), fun h => h10 ((set_get h).resolve_left (by decide)), fun h => h11 ((set_get h).resolve_left (by decide)), fun h => h12 ((set_get h).resolve_left (by decide)), fun h => h13 ((set_get h).resolve_left (by decide)), fun h => h14 ((set_get h).resolve_left (by decide)), fun h => h15 ((set_get h).resolve_left (by decide)), fun h => h16 ((set_get h).resolve_left (by decide)), (by simpa using hls), Or.inl ⟨by rw [getD_set_ne _ (show (1 : Nat) ≠ 17 by decide)]; exact h17f, hB⟩⟩
        · have ho1 := ho
          simp at ho
          subst ho
          refine wpOp_value (v := .slice (some ⟨b, 0, none⟩) s.fields.length s.fields.length) (w' := W) ho1 rfl ?_ ?_
          · simp [execOp, go_sem, ck_get8 _ _ _ _ _ _ _ _ _ _ _ _ _ _ _ _ _ _ _ f8]
          · show ∃ s38, _
            rw [ck_put40]
            exact ⟨_, _, _, _, _, _, _, _, _, _, _, _, _, _, _, _, _, rfl, fun h => h0 ((set_get h).resolve_left (by decide)), fun h => h1 ((set_get h).resolve_left (by decide)), fun _ => rfl, fun h => h3 ((set_get h).resolve_left (by decide)), fun h => h4 ((set_get h).resolve_left (by decide)), fun h => h5 ((set_get h).resolve_left (by decide)), fun h => h6 ((set_get h).resolve_left (by decide)), fun h => h7 ((set_get h).resolve_left (by decide)), fun h => h8 ((set_get h).resolve_left (by decide)), fun h => h9 ((set_get h).resolve_left (by decide)), fun h => h10 ((set_get h).resolve_left (by decide)), fun h => h11 ((set_get h).resolve_left (by decide)), fun h => h12 ((set_get h).resolve_left (by decide)), fun h => h13 ((set_get h).resolve_left (by decide)), fun h => h14 ((set_get h).resolve_left (by decide)), fun h => h15 ((set_get h).resolve_left (by decide)), fun h => h16 ((set_get h).resolve_left (by decide)), (by simpa using hls), Or.inl ⟨by rw [getD_set_ne _ (show (2 : Nat) ≠ 17 by decide)]; exact h17f, hB⟩⟩
        · have ho1 := ho
          simp at ho
          subst ho
          refine wpOp_value (v := .slice (some ⟨gr, 0, none⟩) row.length cr) (w' := W) ho1 rfl ?_ ?_
          · simp [execOp, go_sem, ck_get10 _ _ _ _ _ _ _ _ _ _ _ _ _ _ _ _ _ _ _ f10]
          · show ∃ s38, _
            rw [ck_put41]
            exact ⟨_, _, _, _, _, _, _, _, _, _, _, _, _, _, _, _, _, rfl, fun h => h0 ((set_get h).resolve_left (by decide)), fun h => h1 ((set_get h).resolve_left (by decide)), fun h => h2 ((set_get h).resolve_left (by decide)), fun _ => rfl, fun h => h4 ((set_get h).resolve_left (by decide)), fun h => h5 ((set_get h).resolve_left (by decide)), fun h => h6 ((set_get h).resolve_left (by decide)), fun h => h7 ((set_get h).resolve_left (by decide)), fun h => h8 ((set_get h).resolve_left (by decide)), fun h => h9 ((set_get h).resolve_left (by decide)), fun h => h10 ((set_get h).resolve_left (by decide)), fun h => h11 ((set_get h).resolve_left (by decide)), fun h => h12 ((set_get h).resolve_left (by decide)), fun h => h13 ((set_get h).resolve_left (by decide)), fun h => h14 ((set_get h).resolve_left (by decide)), fun h => h15 ((set_get h).resolve_left (by decide)), fun h => h16 ((set_get h).resolve_left (by decide)), (by simpa using hls), Or.inl ⟨by rw [getD_set_ne _ (show (3 : Nat) ≠ 17 by decide)]; exact h17f, hB⟩⟩
        · have ho1 := ho
          simp at ho
          subst ho
          refine wpOp_value (v := .int .i64 (q : Nat)) (w' := W) ho1 rfl ?_ ?_
          · simp [execOp, go_sem, ck_get11 _ _ _ _ _ _ _ _ _ _ _ _ _ _ _ _ _ _ _ f11]
          · show ∃ s38, _
            rw [ck_put42]
            exact ⟨_, _, _, _, _, _, _, _, _, _, _, _, _, _, _, _, _, rfl, fun h => h0 ((set_get h).resolve_left (by decide)), fun h => h1 ((set_get h).resolve_left (by decide)), fun h => h2 ((set_get h).resolve_left (by decide)), fun h => h3 ((set_get h).resolve_left (by decide)), fun _ => rfl, fun h => h5 ((set_get h).resolve_left (by decide)), fun h => h6 ((set_get h).resolve_left (by decide)), fun h => h7 ((set_get h).resolve_left (by decide)), fun h => h8 ((set_get h).resolve_left (by decide)), fun h => h9 ((set_get h).resolve_left (by decide)), fun h => h10 ((set_get h).resolve_left (by decide)), fun h => h11 ((set_get h).resolve_left (by decide)), fun h => h12 ((set_get h).resolve_left (by decide)), fun h => h13 ((set_get h).resolve_left (by decide)), fun h => h14 ((set_get h).resolve_left (by decide)), fun h => h15 ((set_get h).resolve_left (by decide)), fun h => h16 ((set_get h).resolve_left (by decide)), (by simpa using hls), Or.inl ⟨by rw [getD_set_ne _ (show (4 : Nat) ≠ 17 by decide)]; exact h17f, hB⟩⟩
        · have ho1 := ho
          simp at ho
          subst ho
          have e3 := (h3 (hall ⟨3, .data⟩ (by simp) rfl)).symm
          subst e3
          have e4 := (h4 (hall ⟨4, .data⟩ (by simp) rfl)).symm
          subst e4
          refine wpOp_value (v := .pointer (some ⟨gr, q, none⟩)) (w' := W) ho1 rfl ?_ ?_
          · simp [execOp, go_sem, ck_get41 _ _ _ _ _ _ _ _ _ _ _ _ _ _ _ _ _ _ hsz0, ck_get42 _ _ _ _ _ _ _ _ _ _ _ _ _ _ _ _ _ _ hsz0, hqi]
          · show ∃ s38, _
            rw [ck_put43]
            exact ⟨_, _, _, _, _, _, _, _, _, _, _, _, _, _, _, _, _, rfl, fun h => h0 ((set_get h).resolve_left (by decide)), fun h => h1 ((set_get h).resolve_left (by decide)), fun h => h2 ((set_get h).resolve_left (by decide)), fun h => h3 ((set_get h).resolve_left (by decide)), fun h => h4 ((set_get h).resolve_left (by decide)), fun _ => rfl, fun h => h6 ((set_get h).resolve_left (by decide)), fun h => h7 ((set_get h).resolve_left (by decide)), fun h => h8 ((set_get h).resolve_left (by decide)), fun h => h9 ((set_get h).resolve_left (by decide)), fun h => h10 ((set_get h).resolve_left (by decide)), fun h => h11 ((set_get h).resolve_left (by decide)), fun h => h12 ((set_get h).resolve_left (by decide)), fun h => h13 ((set_get h).resolve_left (by decide)), fun h => h14 ((set_get h).resolve_left (by decide)), fun h => h15 ((set_get h).resolve_left (by decide)), fun h => h16 ((set_get h).resolve_left (by decide)), (by simpa using hls), Or.inl ⟨by rw [getD_set_ne _ (show (5 : Nat) ≠ 17 by decide)]; exact h17f, hB⟩⟩
        · have ho1 := ho
          simp at ho
          subst ho
          have e5 := (h5 (hall ⟨5, .data⟩ (by simp) rfl)).symm
          subst e5
          refine wpOp_value (v := .string np) (w' := W) ho1 rfl ?_ ?_
          · simp [execOp, go_sem, ck_get43 _ _ _ _ _ _ _ _ _ _ _ _ _ _ _ _ _ _ hsz0, i9]
          · show ∃ s38, _
            rw [ck_put44]
            exact ⟨_, _, _, _, _, _, _, _, _, _, _, _, _, _, _, _, _, rfl, fun h => h0 ((set_get h).resolve_left (by decide)), fun h => h1 ((set_get h).resolve_left (by decide)), fun h => h2 ((set_get h).resolve_left (by decide)), fun h => h3 ((set_get h).resolve_left (by decide)), fun h => h4 ((set_get h).resolve_left (by decide)), fun h => h5 ((set_get h).resolve_left (by decide)), fun _ => rfl, fun h => h7 ((set_get h).resolve_left (by decide)), fun h => h8 ((set_get h).resolve_left (by decide)), fun h => h9 ((set_get h).resolve_left (by decide)), fun h => h10 ((set_get h).resolve_left (by decide)), fun h => h11 ((set_get h).resolve_left (by decide)), fun h => h12 ((set_get h).resolve_left (by decide)), fun h => h13 ((set_get h).resolve_left (by decide)), fun h => h14 ((set_get h).resolve_left (by decide)), fun h => h15 ((set_get h).resolve_left (by decide)), fun h => h16 ((set_get h).resolve_left (by decide)), (by simpa using hls), Or.inl ⟨by rw [getD_set_ne _ (show (6 : Nat) ≠ 17 by decide)]; exact h17f, hB⟩⟩
        · have ho1 := ho
          simp at ho
          subst ho
          have e2 := (h2 (hall ⟨2, .data⟩ (by simp) rfl)).symm
          subst e2
          have e6 := (h6 (hall ⟨6, .data⟩ (by simp) rfl)).symm
          subst e6
          refine wpOp_enter (f := 60) (args := #[.slice (some ⟨b, 0, none⟩) s.fields.length s.fields.length, .string np]) ho1 rfl ?_ ?_
          · simp [go_sem, ck_get40 _ _ _ _ _ _ _ _ _ _ _ _ _ _ _ _ _ _ hsz0, ck_get44 _ _ _ _ _ _ _ _ _ _ _ _ _ _ _ _ _ _ hsz0]
          · refine (HLF.out W hB).mono ?_
            rintro e W2 ⟨rfl, rfl⟩
            refine ⟨_, rfl, ?_⟩
            show ∃ s38, _
            rw [ck_put45]
            exact ⟨_, _, _, _, _, _, _, _, _, _, _, _, _, _, _, _, _, rfl, fun h => h0 ((set_get h).resolve_left (by decide)), fun h => h1 ((set_get h).resolve_left (by decide)), fun h => h2 ((set_get h).resolve_left (by decide)), fun h => h3 ((set_get h).resolve_left (by decide)), fun h => h4 ((set_get h).resolve_left (by decide)), fun h => h5 ((set_get h).resolve_left (by decide)), fun h => h6 ((set_get h).resolve_left (by decide)), fun _ => rfl, fun h => h8 ((set_get h).resolve_left (by decide)), fun h => h9 ((set_get h).resolve_left (by decide)), fun h => h10 ((set_get h).resolve_left (by decide)), fun h => h11 ((set_get h).resolve_left (by decide)), fun h => h12 ((set_get h).resolve_left (by decide)), fun h => h13 ((set_get h).resolve_left (by decide)), fun h => h14 ((set_get h).resolve_left (by decide)), fun h => h15 ((set_get h).resolve_left (by decide)), fun h => h16 ((set_get h).resolve_left (by decide)), (by simpa using hls), Or.inl ⟨by rw [getD_set_ne _ (show (7 : Nat) ≠ 17 by decide)]; exact h17f, hB⟩⟩
        · have ho1 := ho
          simp at ho
          subst ho
          refine wpOp_value (v := .slice (some ⟨b, 0, none⟩) s.fields.length s.fields.length) (w' := W) ho1 rfl ?_ ?_
          · simp [execOp, go_sem, ck_get8 _ _ _ _ _ _ _ _ _ _ _ _ _ _ _ _ _ _ _ f8]
          · show ∃ s38, _
            rw [ck_put46]
            exact ⟨_, _, _, _, _, _, _, _, _, _, _, _, _, _, _, _, _, rfl, fun h => h0 ((set_get h).resolve_left (by decide)), fun h => h1 ((set_get h).resolve_left (by decide)), fun h => h2 ((set_get h).resolve_left (by decide)), fun h => h3 ((set_get h).resolve_left (by decide)), fun h => h4 ((set_get h).resolve_left (by decide)), fun h => h5 ((set_get h).resolve_left (by decide)), fun h => h6 ((set_get h).resolve_left (by decide)), fun h => h7 ((set_get h).resolve_left (by decide)), fun _ => rfl, fun h => h9 ((set_get h).resolve_left (by decide)), fun h => h10 ((set_get h).resolve_left (by decide)), fun h => h11 ((set_get h).resolve_left (by decide)), fun h => h12 ((set_get h).resolve_left (by decide)), fun h => h13 ((set_get h).resolve_left (by decide)), fun h => h14 ((set_get h).resolve_left (by decide)), fun h => h15 ((set_get h).resolve_left (by decide)), fun h => h16 ((set_get h).resolve_left (by decide)), (by simpa using hls), Or.inl ⟨by rw [getD_set_ne _ (show (8 : Nat) ≠ 17 by decide)]; exact h17f, hB⟩⟩
        · have ho1 := ho
          simp at ho
          subst ho
          refine wpOp_value (v := .slice (some ⟨mb, 0, none⟩) ms.length ms.length) (w' := W) ho1 rfl ?_ ?_
          · simp [execOp, go_sem, ck_get1 _ _ _ _ _ _ _ _ _ _ _ _ _ _ _ _ _ _ _ f1]
          · show ∃ s38, _
            rw [ck_put47]
            exact ⟨_, _, _, _, _, _, _, _, _, _, _, _, _, _, _, _, _, rfl, fun h => h0 ((set_get h).resolve_left (by decide)), fun h => h1 ((set_get h).resolve_left (by decide)), fun h => h2 ((set_get h).resolve_left (by decide)), fun h => h3 ((set_get h).resolve_left (by decide)), fun h => h4 ((set_get h).resolve_left (by decide)), fun h => h5 ((set_get h).resolve_left (by decide)), fun h => h6 ((set_get h).resolve_left (by decide)), fun h => h7 ((set_get h).resolve_left (by decide)), fun h => h8 ((set_get h).resolve_left (by decide)), fun _ => rfl, fun h => h10 ((set_get h).resolve_left (by decide)), fun h => h11 ((set_get h).resolve_left (by decide)), fun h => h12 ((set_get h).resolve_left (by decide)), fun h => h13 ((set_get h).resolve_left (by decide)), fun h => h14 ((set_get h).resolve_left (by decide)), fun h => h15 ((set_get h).resolve_left (by decide)), fun h => h16 ((set_get h).resolve_left (by decide)), (by simpa using hls), Or.inl ⟨by rw [getD_set_ne _ (show (9 : Nat) ≠ 17 by decide)]; exact h17f, hB⟩⟩
        · have ho1 := ho
          simp at ho
          subst ho
          refine wpOp_value (v := .agg #[.string o.kind, .string o.name, .string o.team, .slice (some ⟨g, 0, none⟩) vs.length d1, .bool o.ending, .slice a2 n2 d2, .int .i64 o.version]) (w' := W) ho1 rfl ?_ ?_
          · simp [execOp, go_sem, ck_get7 _ _ _ _ _ _ _ _ _ _ _ _ _ _ _ _ _ _ _ f7, X90, X91, X92, X93, X94, X95, X96]
          · show ∃ s38, _
            rw [ck_put48]
            exact ⟨_, _, _, _, _, _, _, _, _, _, _, _, _, _, _, _, _, rfl, fun h => h0 ((set_get h).resolve_left (by decide)), fun h => h1 ((set_get h).resolve_left (by decide)), fun h => h2 ((set_get h).resolve_left (by decide)), fun h => h3 ((set_get h).resolve_left (by decide)), fun h => h4 ((set_get h).resolve_left (by decide)), fun h => h5 ((set_get h).resolve_left (by decide)), fun h => h6 ((set_get h).resolve_left (by decide)), fun h => h7 ((set_get h).resolve_left (by decide)), fun h => h8 ((set_get h).resolve_left (by decide)), fun h => h9 ((set_get h).resolve_left (by decide)), fun _ => rfl, fun h => h11 ((set_get h).resolve_left (by decide)), fun h => h12 ((set_get h).resolve_left (by decide)), fun h => h13 ((set_get h).resolve_left (by decide)), fun h => h14 ((set_get h).resolve_left (by decide)), fun h => h15 ((set_get h).resolve_left (by decide)), fun h => h16 ((set_get h).resolve_left (by decide)), (by simpa using hls), Or.inl ⟨by rw [getD_set_ne _ (show (10 : Nat) ≠ 17 by decide)]; exact h17f, hB⟩⟩
        · have ho1 := ho
          simp at ho
          subst ho
          refine wpOp_value (v := .slice (some ⟨gr, 0, none⟩) row.length cr) (w' := W) ho1 rfl ?_ ?_
          · simp [execOp, go_sem, ck_get10 _ _ _ _ _ _ _ _ _ _ _ _ _ _ _ _ _ _ _ f10]
          · show ∃ s38, _
            rw [ck_put49]
            exact ⟨_, _, _, _, _, _, _, _, _, _, _, _, _, _, _, _, _, rfl, fun h => h0 ((set_get h).resolve_left (by decide)), fun h => h1 ((set_get h).resolve_left (by decide)), fun h => h2 ((set_get h).resolve_left (by decide)), fun h => h3 ((set_get h).resolve_left (by decide)), fun h => h4 ((set_get h).resolve_left (by decide)), fun h => h5 ((set_get h).resolve_left (by decide)), fun h => h6 ((set_get h).resolve_left (by decide)), fun h => h7 ((set_get h).resolve_left (by decide)), fun h => h8 ((set_get h).resolve_left (by decide)), fun h => h9 ((set_get h).resolve_left (by decide)), fun h => h10 ((set_get h).resolve_left (by decide)), fun _ => rfl, fun h => h12 ((set_get h).resolve_left (by decide)), fun h => h13 ((set_get h).resolve_left (by decide)), fun h => h14 ((set_get h).resolve_left (by decide)), fun h => h15 ((set_get h).resolve_left (by decide)), fun h => h16 ((set_get h).resolve_left (by decide)), (by simpa using hls), Or.inl ⟨by rw [getD_set_ne _ (show (11 : Nat) ≠ 17 by decide)]; exact h17f, hB⟩⟩
        · have ho1 := ho
          simp at ho
          subst ho
          refine wpOp_value (v := .int .i64 (q : Nat)) (w' := W) ho1 rfl ?_ ?_
          · simp [execOp, go_sem, ck_get11 _ _ _ _ _ _ _ _ _ _ _ _ _ _ _ _ _ _ _ f11]
          · show ∃ s38, _
            rw [ck_put50]
            exact ⟨_, _, _, _, _, _, _, _, _, _, _, _, _, _, _, _, _, rfl, fun h => h0 ((set_get h).resolve_left (by decide)), fun h => h1 ((set_get h).resolve_left (by decide)), fun h => h2 ((set_get h).resolve_left (by decide)), fun h => h3 ((set_get h).resolve_left (by decide)), fun h => h4 ((set_get h).resolve_left (by decide)), fun h => h5 ((set_get h).resolve_left (by decide)), fun h => h6 ((set_get h).resolve_left (by decide)), fun h => h7 ((set_get h).resolve_left (by decide)), fun h => h8 ((set_get h).resolve_left (by decide)), fun h => h9 ((set_get h).resolve_left (by decide)), fun h => h10 ((set_get h).resolve_left (by decide)), fun h => h11 ((set_get h).resolve_left (by decide)), fun _ => rfl, fun h => h13 ((set_get h).resolve_left (by decide)), fun h => h14 ((set_get h).resolve_left (by decide)), fun h => h15 ((set_get h).resolve_left (by decide)), fun h => h16 ((set_get h).resolve_left (by decide)), (by simpa using hls), Or.inl ⟨by rw [getD_set_ne _ (show (12 : Nat) ≠ 17 by decide)]; exact h17f, hB⟩⟩
        · have ho1 := ho
          simp at ho
          subst ho
          have e11 := (h11 (hall ⟨11, .data⟩ (by simp) rfl)).symm
          subst e11
          have e12 := (h12 (hall ⟨12, .data⟩ (by simp) rfl)).symm
          subst e12
          refine wpOp_value (v := .pointer (some ⟨gr, q, none⟩)) (w' := W) ho1 rfl ?_ ?_
          · simp [execOp, go_sem, ck_get49 _ _ _ _ _ _ _ _ _ _ _ _ _ _ _ _ _ _ hsz0, ck_get50 _ _ _ _ _ _ _ _ _ _ _ _ _ _ _ _ _ _ hsz0, hqi]
          · show ∃ s38, _
            rw [ck_put51]
            exact ⟨_, _, _, _, _, _, _, _, _, _, _, _, _, _, _, _, _, rfl, fun h => h0 ((set_get h).resolve_left (by decide)), fun h => h1 ((set_get h).resolve_left (by decide)), fun h => h2 ((set_get h).resolve_left (by decide)), fun h => h3 ((set_get h).resolve_left (by decide)), fun h => h4 ((set_get h).resolve_left (by decide)), fun h => h5 ((set_get h).resolve_left (by decide)), fun h => h6 ((set_get h).resolve_left (by decide)), fun h => h7 ((set_get h).resolve_left (by decide)), fun h => h8 ((set_get h).resolve_left (by decide)), fun h => h9 ((set_get h).resolve_left (by decide)), fun h => h10 ((set_get h).resolve_left (by decide)), fun h => h11 ((set_get h).resolve_left (by decide)), fun h => h12 ((set_get h).resolve_left (by decide)), fun _ => rfl, fun h => h14 ((set_get h).resolve_left (by decide)), fun h => h15 ((set_get h).resolve_left (by decide)), fun h => h16 ((set_get h).resolve_left (by decide)), (by simpa using hls), Or.inl ⟨by rw [getD_set_ne _ (show (13 : Nat) ≠ 17 by decide)]; exact h17f, hB⟩⟩
        · have ho1 := ho
          simp at ho
          subst ho
          have e13 := (h13 (hall ⟨13, .data⟩ (by simp) rfl)).symm
          subst e13
          refine wpOp_value (v := .string np) (w' := W) ho1 rfl ?_ ?_
          · simp [execOp, go_sem, ck_get51 _ _ _ _ _ _ _ _ _ _ _ _ _ _ _ _ _ _ hsz0, i9]
          · show ∃ s38, _
            rw [ck_put52]
            exact ⟨_, _, _, _, _, _, _, _, _, _, _, _, _, _, _, _, _, rfl, fun h => h0 ((set_get h).resolve_left (by decide)), fun h => h1 ((set_get h).resolve_left (by decide)), fun h => h2 ((set_get h).resolve_left (by decide)), fun h => h3 ((set_get h).resolve_left (by decide)), fun h => h4 ((set_get h).resolve_left (by decide)), fun h => h5 ((set_get h).resolve_left (by decide)), fun h => h6 ((set_get h).resolve_left (by decide)), fun h => h7 ((set_get h).resolve_left (by decide)), fun h => h8 ((set_get h).resolve_left (by decide)), fun h => h9 ((set_get h).resolve_left (by decide)), fun h => h10 ((set_get h).resolve_left (by decide)), fun h => h11 ((set_get h).resolve_left (by decide)), fun h => h12 ((set_get h).resolve_left (by decide)), fun h => h13 ((set_get h).resolve_left (by decide)), fun _ => rfl, fun h => h15 ((set_get h).resolve_left (by decide)), fun h => h16 ((set_get h).resolve_left (by decide)), (by simpa using hls), Or.inl ⟨by rw [getD_set_ne _ (show (14 : Nat) ≠ 17 by decide)]; exact h17f, hB⟩⟩
        · have ho1 := ho
          simp at ho
          subst ho
          have e8 := (h8 (hall ⟨8, .data⟩ (by simp) rfl)).symm
          subst e8
          have e9 := (h9 (hall ⟨9, .data⟩ (by simp) rfl)).symm
          subst e9
          have e10 := (h10 (hall ⟨10, .data⟩ (by simp) rfl)).symm
          subst e10
          have e14 := (h14 (hall ⟨14, .data⟩ (by simp) rfl)).symm
          subst e14
          refine wpOp_enter (f := 64) (args := #[.slice (some ⟨b, 0, none⟩) s.fields.length s.fields.length, .slice (some ⟨mb, 0, none⟩) ms.length ms.length, .agg #[.string o.kind, .string o.name, .string o.team, .slice (some ⟨g, 0, none⟩) vs.length d1, .bool o.ending, .slice a2 n2 d2, .int .i64 o.version], .string np]) ho1 rfl ?_ ?_
          · simp [go_sem, ck_get46 _ _ _ _ _ _ _ _ _ _ _ _ _ _ _ _ _ _ hsz0, ck_get47 _ _ _ _ _ _ _ _ _ _ _ _ _ _ _ _ _ _ hsz0, ck_get48 _ _ _ _ _ _ _ _ _ _ _ _ _ _ _ _ _ _ hsz0, ck_get52 _ _ _ _ _ _ _ _ _ _ _ _ _ _ _ _ _ _ hsz0]
          · refine (HLD.out W hB).mono ?_
            rintro e W2 ⟨rfl, hb2⟩
            refine ⟨_, rfl, ?_⟩
            show ∃ s38, _
            rw [ck_put53]
            exact ⟨_, _, _, _, _, _, _, _, _, _, _, _, _, _, _, _, _, rfl, fun h => h0 ((set_get h).resolve_left (by decide)), fun h => h1 ((set_get h).resolve_left (by decide)), fun h => h2 ((set_get h).resolve_left (by decide)), fun h => h3 ((set_get h).resolve_left (by decide)), fun h => h4 ((set_get h).resolve_left (by decide)), fun h => h5 ((set_get h).resolve_left (by decide)), fun h => h6 ((set_get h).resolve_left (by decide)), fun h => h7 ((set_get h).resolve_left (by decide)), fun h => h8 ((set_get h).resolve_left (by decide)), fun h => h9 ((set_get h).resolve_left (by decide)), fun h => h10 ((set_get h).resolve_left (by decide)), fun h => h11 ((set_get h).resolve_left (by decide)), fun h => h12 ((set_get h).resolve_left (by decide)), fun h => h13 ((set_get h).resolve_left (by decide)), fun h => h14 ((set_get h).resolve_left (by decide)), fun _ => rfl, fun h => h16 ((set_get h).resolve_left (by decide)), (by simpa using hls), Or.inl ⟨by rw [getD_set_ne _ (show (15 : Nat) ≠ 17 by decide)]; exact h17f, blw_trans hB hb2⟩⟩
        · have ho1 := ho
          simp at ho
          subst ho
          have e1 := (h1 (hall ⟨1, .data⟩ (by simp) rfl)).symm
          subst e1
          have e7 := (h7 (hall ⟨7, .data⟩ (by simp) rfl)).symm
          subst e7
          refine wpOp_value (v := .pointer (some ⟨g, p, none⟩)) (w' := W) ho1 rfl ?_ ?_
          · simp [execOp, go_sem, ck_get39 _ _ _ _ _ _ _ _ _ _ _ _ _ _ _ _ _ _ hsz0, ck_get45 _ _ _ _ _ _ _ _ _ _ _ _ _ _ _ _ _ _ hsz0, hpi]
          · show ∃ s38, _
            rw [ck_put54]
            exact ⟨_, _, _, _, _, _, _, _, _, _, _, _, _, _, _, _, _, rfl, fun h => h0 ((set_get h).resolve_left (by decide)), fun h => h1 ((set_get h).resolve_left (by decide)), fun h => h2 ((set_get h).resolve_left (by decide)), fun h => h3 ((set_get h).resolve_left (by decide)), fun h => h4 ((set_get h).resolve_left (by decide)), fun h => h5 ((set_get h).resolve_left (by decide)), fun h => h6 ((set_get h).resolve_left (by decide)), fun h => h7 ((set_get h).resolve_left (by decide)), fun h => h8 ((set_get h).resolve_left (by decide)), fun h => h9 ((set_get h).resolve_left (by decide)), fun h => h10 ((set_get h).resolve_left (by decide)), fun h => h11 ((set_get h).resolve_left (by decide)), fun h => h12 ((set_get h).resolve_left (by decide)), fun h => h13 ((set_get h).resolve_left (by decide)), fun h => h14 ((set_get h).resolve_left (by decide)), fun h => h15 ((set_get h).resolve_left (by decide)), fun _ => rfl, (by simpa using hls), Or.inl ⟨by rw [getD_set_ne _ (show (16 : Nat) ≠ 17 by decide)]; exact h17f, hB⟩⟩
        · have ho1 := ho
          simp at ho
          subst ho
          have e16 := (h16 (hall ⟨16, .data⟩ (by simp) rfl)).symm
          subst e16
          have e15 := (h15 (hall ⟨15, .data⟩ (by simp) rfl)).symm
          subst e15
          refine wpOp_skip (w' := W.setCell ⟨g, p, none⟩ (.string zz)) ho1 rfl ?_ ?_
          · simp [execOp, go_sem, ck_get54 _ _ _ _ _ _ _ _ _ _ _ _ _ _ _ _ _ _ hsz0, ck_get53 _ _ _ _ _ _ _ _ _ _ _ _ _ _ _ _ _ _ hsz0, hfz9, hu9]
          · show ∃ s38, _
            rw [put_none]
            exact ⟨_, _, _, _, _, _, _, _, _, _, _, _, _, _, _, _, _, rfl, fun h => h0 ((set_get h).resolve_left (by decide)), fun h => h1 ((set_get h).resolve_left (by decide)), fun h => h2 ((set_get h).resolve_left (by decide)), fun h => h3 ((set_get h).resolve_left (by decide)), fun h => h4 ((set_get h).resolve_left (by decide)), fun h => h5 ((set_get h).resolve_left (by decide)), fun h => h6 ((set_get h).resolve_left (by decide)), fun h => h7 ((set_get h).resolve_left (by decide)), fun h => h8 ((set_get h).resolve_left (by decide)), fun h => h9 ((set_get h).resolve_left (by decide)), fun h => h10 ((set_get h).resolve_left (by decide)), fun h => h11 ((set_get h).resolve_left (by decide)), fun h => h12 ((set_get h).resolve_left (by decide)), fun h => h13 ((set_get h).resolve_left (by decide)), fun h => h14 ((set_get h).resolve_left (by decide)), fun h => h15 ((set_get h).resolve_left (by decide)), fun h => h16 ((set_get h).resolve_left (by decide)), (by simpa using hls), Or.inr ⟨set_here hun, W, hB, rfl⟩⟩
      · rintro l a W ⟨s38, s39, s40, s41, s42, s43, s44, s45, s46, s47, s48, s49, s50, s51, s52, s53, s54, rfl, h0, h1, h2, h3, h4, h5, h6, h7, h8, h9, h10, h11, h12, h13, h14, h15, h16, hls, hw⟩ hr
        have L := all_up hr (by kernel_rfl) hls
        have e0 := (h0 (L 0 (by decide))).symm
        subst e0
        have e1 := (h1 (L 1 (by decide))).symm
        subst e1
        have e2 := (h2 (L 2 (by decide))).symm
        subst e2
        have e3 := (h3 (L 3 (by decide))).symm
        subst e3
        have e4 := (h4 (L 4 (by decide))).symm
        subst e4
        have e5 := (h5 (L 5 (by decide))).symm
        subst e5
        have e6 := (h6 (L 6 (by decide))).symm
        subst e6
        have e7 := (h7 (L 7 (by decide))).symm
        subst e7
        have e8 := (h8 (L 8 (by decide))).symm
        subst e8
        have e9 := (h9 (L 9 (by decide))).symm
        subst e9
        have e10 := (h10 (L 10 (by decide))).symm
        subst e10
        have e11 := (h11 (L 11 (by decide))).symm
        subst e11
        have e12 := (h12 (L 12 (by decide))).symm
        subst e12
        have e13 := (h13 (L 13 (by decide))).symm
        subst e13
        have e14 := (h14 (L 14 (by decide))).symm
        subst e14
        have e15 := (h15 (L 15 (by decide))).symm
        subst e15
        have e16 := (h16 (L 16 (by decide))).symm
        subst e16
        rcases hw with ⟨h17f, _⟩ | ⟨_, W0, hB, rfl⟩
        · rw [L 17 (by decide)] at h17f; cases h17f
        · subst ha0
          simp [ck, Act.put]
          clear hr L hls
          go_wp2
          go_roundw
          case rel => exact ⟨q + 1, by have := HPQ.out.1; omega, by go_num, HNX.out _ hB⟩
          case measure => have := HPQ.out.1; simp [intOf]; omega
      · refine ⟨_, _, _, _, _, _, _, _, _, _, _, _, _, _, _, _, _, ck_self a0, ?_⟩
        exact ⟨fun h => absurd h Bool.false_ne_true, fun h => absurd h Bool.false_ne_true, fun h => absurd h Bool.false_ne_true, fun h => absurd h Bool.false_ne_true, fun h => absurd h Bool.false_ne_true, fun h => absurd h Bool.false_ne_true, fun h => absurd h Bool.false_ne_true, fun h => absurd h Bool.false_ne_true, fun h => absurd h Bool.false_ne_true, fun h => absurd h Bool.false_ne_true, fun h => absurd h Bool.false_ne_true, fun h => absurd h Bool.false_ne_true, fun h => absurd h Bool.false_ne_true, fun h => absurd h Bool.false_ne_true, fun h => absurd h Bool.false_ne_true, fun h => absurd h Bool.false_ne_true, fun h => absurd h Bool.false_ne_true, rfl, Or.inl ⟨rfl, by repeat (first | exact Below.refl _ _ | refine Below.drew ?_)⟩⟩
      · exact Closed.none _ (rep_none 18)
      · exact Nat.le_of_eq (by kernel_rfl)
    · obtain rfl : q = row.length := by omega
      have HF2 : Hid (mendVals ss ms o.kind o.values = vs) := by show mendVals _ _ _ _ = _; rw [HF.out, HVS.out, List.take_length]
      clear hNa hc1 hvl hm1 hm2
      have hR := HI.out.own
      have hfz := hR.frozen
      have z2 := hR.lt
      obtain ⟨y0, hy0⟩ := hR.cell 0 (by omega)
      obtain ⟨y1, hy1⟩ := hR.cell 1 (by omega)
      obtain ⟨y2, hy2⟩ := hR.cell 2 (by omega)
      obtain ⟨y3, hy3⟩ := hR.cell 3 (by omega)
      obtain ⟨y4, hy4⟩ := hR.cell 4 (by omega)
      obtain ⟨y5, hy5⟩ := hR.cell 5 (by omega)
      obtain ⟨y6, hy6⟩ := hR.cell 6 (by omega)
      clear hR
      go_wp2
      obtain ⟨r, _, t1, t2, t3, t4, t5⟩ := HI.out.out [.string o.kind, .string o.name, .string o.team, .slice a1 n1 d1, .bool o.ending, .slice a2 n2 d2, .int .i64 o.version] rfl
      have r0 : (((((((wr.setCell ⟨w.heap.size + 1, 0, none⟩ (.string o.kind)).setCell ⟨w.heap.size + 1, 1, none⟩ (.string o.name)).setCell ⟨w.heap.size + 1, 2, none⟩ (.string o.team)).setCell ⟨w.heap.size + 1, 3, none⟩ (.slice a1 n1 d1)).setCell ⟨w.heap.size + 1, 4, none⟩ (.bool o.ending)).setCell ⟨w.heap.size + 1, 5, none⟩ (.slice a2 n2 d2)).setCell ⟨w.heap.size + 1, 6, none⟩ (.int .i64 o.version)).cell? ⟨w.heap.size + 1, 0, none⟩ = some (.string o.kind) := r 0 (by omega)
      have r1 : (((((((wr.setCell ⟨w.heap.size + 1, 0, none⟩ (.string o.kind)).setCell ⟨w.heap.size + 1, 1, none⟩ (.string o.name)).setCell ⟨w.heap.size + 1, 2, none⟩ (.string o.team)).setCell ⟨w.heap.size + 1, 3, none⟩ (.slice a1 n1 d1)).setCell ⟨w.heap.size + 1, 4, none⟩ (.bool o.ending)).setCell ⟨w.heap.size + 1, 5, none⟩ (.slice a2 n2 d2)).setCell ⟨w.heap.size + 1, 6, none⟩ (.int .i64 o.version)).cell? ⟨w.heap.size + 1, 1, none⟩ = some (.string o.name) := r 1 (by omega)
      have r2 : (((((((wr.setCell ⟨w.heap.size + 1, 0, none⟩ (.string o.kind)).setCell ⟨w.heap.size + 1, 1, none⟩ (.string o.name)).setCell ⟨w.heap.size + 1, 2, none⟩ (.string o.team)).setCell ⟨w.heap.size + 1, 3, none⟩ (.slice a1 n1 d1)).setCell ⟨w.heap.size + 1, 4, none⟩ (.bool o.ending)).setCell ⟨w.heap.size + 1, 5, none⟩ (.slice a2 n2 d2)).setCell ⟨w.heap.size + 1, 6, none⟩ (.int .i64 o.version)).cell? ⟨w.heap.size + 1, 2, none⟩ = some (.string o.team) := r 2 (by omega)
      have r3 : (((((((wr.setCell ⟨w.heap.size + 1, 0, none⟩ (.string o.kind)).setCell ⟨w.heap.size + 1, 1, none⟩ (.string o.name)).setCell ⟨w.heap.size + 1, 2, none⟩ (.string o.team)).setCell ⟨w.heap.size + 1, 3, none⟩ (.slice a1 n1 d1)).setCell ⟨w.heap.size + 1, 4, none⟩ (.bool o.ending)).setCell ⟨w.heap.size + 1, 5, none⟩ (.slice a2 n2 d2)).setCell ⟨w.heap.size + 1, 6, none⟩ (.int .i64 o.version)).cell? ⟨w.heap.size + 1, 3, none⟩ = some (.slice a1 n1 d1) := r 3 (by omega)
      have r4 : (((((((wr.setCell ⟨w.heap.size + 1, 0, none⟩ (.string o.kind)).setCell ⟨w.heap.size + 1, 1, none⟩ (.string o.name)).setCell ⟨w.heap.size + 1, 2, none⟩ (.string o.team)).setCell ⟨w.heap.size + 1, 3, none⟩ (.slice a1 n1 d1)).setCell ⟨w.heap.size + 1, 4, none⟩ (.bool o.ending)).setCell ⟨w.heap.size + 1, 5, none⟩ (.slice a2 n2 d2)).setCell ⟨w.heap.size + 1, 6, none⟩ (.int .i64 o.version)).cell? ⟨w.heap.size + 1, 4, none⟩ = some (.bool o.ending) := r 4 (by omega)
      have r5 : (((((((wr.setCell ⟨w.heap.size + 1, 0, none⟩ (.string o.kind)).setCell ⟨w.heap.size + 1, 1, none⟩ (.string o.name)).setCell ⟨w.heap.size + 1, 2, none⟩ (.string o.team)).setCell ⟨w.heap.size + 1, 3, none⟩ (.slice a1 n1 d1)).setCell ⟨w.heap.size + 1, 4, none⟩ (.bool o.ending)).setCell ⟨w.heap.size + 1, 5, none⟩ (.slice a2 n2 d2)).setCell ⟨w.heap.size + 1, 6, none⟩ (.int .i64 o.version)).cell? ⟨w.heap.size + 1, 5, none⟩ = some (.slice a2 n2 d2) := r 5 (by omega)
      have r6 : (((((((wr.setCell ⟨w.heap.size + 1, 0, none⟩ (.string o.kind)).setCell ⟨w.heap.size + 1, 1, none⟩ (.string o.name)).setCell ⟨w.heap.size + 1, 2, none⟩ (.string o.team)).setCell ⟨w.heap.size + 1, 3, none⟩ (.slice a1 n1 d1)).setCell ⟨w.heap.size + 1, 4, none⟩ (.bool o.ending)).setCell ⟨w.heap.size + 1, 5, none⟩ (.slice a2 n2 d2)).setCell ⟨w.heap.size + 1, 6, none⟩ (.int .i64 o.version)).cell? ⟨w.heap.size + 1, 6, none⟩ = some (.int .i64 o.version) := r 6 (by omega)
      refine bodyPost_ret (v := .agg #[.string o.kind, .string o.name, .string o.team, .slice a1 n1 d1, .bool o.ending, .slice a2 n2 d2, .int .i64 o.version]) (by simp only [results, Tryz.results42]; simp [go_sem, r0, r1, r2, r3, r4, r5, r6]) rfl ⟨⟨_, _, _, _, _, _, mid, rfl, ?_, t2, t3, t4⟩, t5⟩
      rw [HF2.out]; exact t1

end Go.Proofs.YtfdahoekjpobaaaGreat
