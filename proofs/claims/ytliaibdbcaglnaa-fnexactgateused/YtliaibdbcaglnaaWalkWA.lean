/-
  What an object weighs.
-/
import Derived.Test.YtliaibdbcaglnaaObj
import Derived.Test.YtliaibdbcaglnaaWalkB
import Derived.Test.YtliaibdbcaglnaaWalkC
import Derived.Deep.DeepCutAuto
namespace Go.Proofs.Ytliaibdbcaglnaa
open Go.RowKit Go.Deep

def fWeighs (f : Fld) (v res : ByteArray) : Int := if (f.kind == 1 && (f.we.toList == res.toList)) then decOut v else 0

def weighTo (fs : List Fld) (vs : List ByteArray) (res : ByteArray) : Nat → Int
  | 0 => 0
  | k + 1 => weighTo fs vs res k + fWeighs (fs.getD k Fld.none) (vs.getD k ByteArray.empty) res

def one (b : Bool) : Int := if b then 1 else 0

def weighs (ss : List Shp) (o : Ob) (res : ByteArray) : Int :=
  if hasFields ss o && !res.toList.isEmpty then one (res.toList == o.kind.toList) + weighTo (ss.getD (kindAt ss o.kind) Shp.none).fields o.values res (ss.getD (kindAt ss o.kind) Shp.none).fields.length else 0

theorem decOut_small (s : ByteArray) : 0 ≤ decOut s ∧ decOut s ≤ 9999999 := by
  unfold decOut
  cases h : Pl.decOk s
  · simp
  · simp only [Pl.decOk, Bool.and_eq_true, decide_eq_true_eq] at h
    obtain ⟨⟨⟨_, h7⟩, _⟩, hd⟩ := h
    have h8 : s.data.toList.take s.size = s.data.toList := List.take_of_length_le (by rw [Array.length_toList]; exact Nat.le_refl _)
    have := Pl.decVal_small s s.size (Nat.le_refl _) h7 (by rw [h8]; exact hd)
    rw [h8] at this
    simp only [if_true]
    exact this

theorem decOut_numb (s : ByteArray) : decOut s = if 0 < Pl.numb s then Pl.numb s else 0 := by
  have h0 := (decOut_small s).1
  unfold decOut at *
  unfold Pl.numb
  cases h : Pl.decOk s
  · simp
  · simp only [h, if_true] at h0 ⊢
    split <;> omega

theorem fWeighs_small (f : Fld) (v res : ByteArray) : 0 ≤ fWeighs f v res ∧ fWeighs f v res ≤ 9999999 := by
  unfold fWeighs
  split
  · exact decOut_small v
  · omega

theorem weighTo_small (fs : List Fld) (vs : List ByteArray) (res : ByteArray) : ∀ k, 0 ≤ weighTo fs vs res k ∧ weighTo fs vs res k ≤ k * 9999999
  | 0 => by simp [weighTo]
  | k + 1 => by
    have h1 := weighTo_small fs vs res k
    have h2 := fWeighs_small (fs.getD k Fld.none) (vs.getD k ByteArray.empty) res
    simp only [weighTo]
    omega

set_option maxHeartbeats 4000000 in
theorem weighsS (B : Nat) (u1 u2 : Value) (ss : List Shp) (o : Ob) (b1 c1 b2 c2 : Nat) (res : ByteArray) (w : World) (h : ShpsIn w B ss) (ho : ObArg w b1 b2 o) (hz : ∀ i, i < o.values.length → (o.values.getD i ByteArray.empty).size ≤ maxLen) :
    Calls Try.prog 7 #[.agg #[.slice (some ⟨B, 0, none⟩) ss.length ss.length, u1, u2], .agg #[.string o.kind, .string o.name, .string o.team, .slice (some ⟨b1, 0, none⟩) o.values.length c1, .bool o.ending, .slice (some ⟨b2, 0, none⟩) o.holds.length c2, .int .i64 o.version], .string res] w fun e w' => e = .returned (.int .i64 (weighs ss o res)) ∧ Below w.heap.size w w' := by
  have HA : Hid (ShpsIn w B ss ∧ ObArg w b1 b2 o) := ⟨h, ho⟩
  have hl1 := ho.len1
  clear h ho
  obtain ⟨w0, hw0⟩ : ∃ w0, w0 = (w.alloc (.cells #[.slice (some ⟨B, 0, none⟩) ss.length ss.length, u1, u2] 37)).alloc (.cells #[.string o.kind, .string o.name, .string o.team, .slice (some ⟨b1, 0, none⟩) o.values.length c1, .bool o.ending, .slice (some ⟨b2, 0, none⟩) o.holds.length c2, .int .i64 o.version] 39) := ⟨_, rfl⟩
  have HB0 : Hid (Below w.heap.size w w0) := by show Below _ _ _; rw [hw0]; exact blw_alloc (blw_alloc (Below.refl _ _) _) _
  have hsz : w0.heap.size = w.heap.size + 2 := by rw [hw0]; simp
  have HZ0 : Hid (w0.heap.size = w.heap.size + 2) := hsz
  have hx : w.heap.size + 1 < w0.heap.size := by omega
  have hx' : w.heap.size < w0.heap.size := by omega
  have a0 : w0.cell? ⟨w.heap.size, 0, none⟩ = some (.slice (some ⟨B, 0, none⟩) ss.length ss.length) := by rw [hw0]; simp
  have x0 : w0.cell? ⟨w.heap.size + 1, 0, none⟩ = some (.string o.kind) := by rw [hw0]; simp
  have x1 : w0.cell? ⟨w.heap.size + 1, 1, none⟩ = some (.string o.name) := by rw [hw0]; simp
  have x2 : w0.cell? ⟨w.heap.size + 1, 2, none⟩ = some (.string o.team) := by rw [hw0]; simp
  have x3 : w0.cell? ⟨w.heap.size + 1, 3, none⟩ = some (.slice (some ⟨b1, 0, none⟩) o.values.length c1) := by rw [hw0]; simp
  have x4 : w0.cell? ⟨w.heap.size + 1, 4, none⟩ = some (.bool o.ending) := by rw [hw0]; simp
  have x5 : w0.cell? ⟨w.heap.size + 1, 5, none⟩ = some (.slice (some ⟨b2, 0, none⟩) o.holds.length c2) := by rw [hw0]; simp
  have x6 : w0.cell? ⟨w.heap.size + 1, 6, none⟩ = some (.int .i64 o.version) := by rw [hw0]; simp
  clear hsz
  go_enter Try.func7, Try.ntmps7
  go_upto_region 1 with fail
  rw [← hw0]
  clear hw0
  go_wp2_with fail
  refine (l2Fields w B ss o b1 c1 b2 c2 w0 HA.out.1 HB0.out).mono ?_
  rintro e w1 ⟨a, n, c, rfl, hso, hb1⟩
  have HB1 : Hid (Below w.heap.size w w1) := blw_trans HB0.out hb1
  have HX1 : Hid (w.heap.size + 1 < w1.heap.size ∧ w1.cell? ⟨w.heap.size + 1, 0, none⟩ = some (.string o.kind) ∧ w1.cell? ⟨w.heap.size + 1, 3, none⟩ = some (.slice (some ⟨b1, 0, none⟩) o.values.length c1)) :=
    ⟨Nat.lt_of_lt_of_le hx hb1.size, (hb1.cell (p := ⟨w.heap.size + 1, 0, none⟩) hx).trans x0, (hb1.cell (p := ⟨w.heap.size + 1, 3, none⟩) hx).trans x3⟩
  obtain ⟨R, hR⟩ : ∃ R, R = hasFields ss o := ⟨_, rfl⟩
  rw [← hR] at hso ⊢
  have HRR : Hid (R = hasFields ss o) := hR
  have HSO : Hid (R = true → ∃ b, Value.slice a n c = .slice (some ⟨b, 0, none⟩) (ss.getD (kindAt ss o.kind) Shp.none).fields.length (ss.getD (kindAt ss o.kind) Shp.none).fields.length ∧ b < w.heap.size ∧ ∀ i, i < (ss.getD (kindAt ss o.kind) Shp.none).fields.length → OwnFld w b (i * 11) ((ss.getD (kindAt ss o.kind) Shp.none).fields.getD i Fld.none)) := hso
  clear hR hso hb1 x0 x1 x2 x3 x4 x5 x6 a0 hx hx' HB0
  cases R
  · have HF : Hid (weighs ss o res = 0) := by show weighs ss o res = 0; unfold weighs; rw [← HRR.out]; rfl
    go_wp2
    go_ret
    exact ⟨Pl.ret_int HF.out.symm, HB1.out⟩
  cases hem : res.toList.isEmpty
  case true =>
    have HF : Hid (weighs ss o res = 0) := by show weighs ss o res = 0; unfold weighs; rw [hem]; simp
    go_wp2
    go_ret
    exact ⟨Pl.ret_int HF.out.symm, HB1.out⟩
  obtain ⟨b, hv, hbl, hf⟩ := HSO.out rfl
  obtain ⟨fs, hfs⟩ : ∃ fs, fs = (ss.getD (kindAt ss o.kind) Shp.none).fields := ⟨_, rfl⟩
  rw [← hfs] at hv hf
  injection hv with hv1 hv2 hv3
  subst hv1 hv2 hv3
  have hvl : o.values.length = fs.length := by
    have := HRR.out.symm
    unfold hasFields at this
    rw [← hfs] at this
    simp at this
    exact this.2
  have HFl : Hid (b < w.heap.size ∧ (∀ i, i < fs.length → OwnFld w b (i * 11) (fs.getD i Fld.none)) ∧ fs.length ≤ 1048576) := ⟨hbl, hf, by omega⟩
  have HF : Hid (weighs ss o res = one (res.toList == o.kind.toList) + weighTo fs o.values res fs.length) := by show weighs ss o res = _; unfold weighs; rw [← HRR.out, hem, ← hfs]; rfl
  clear hbl hf hfs HSO HRR
  have y0 := HX1.out.2.1
  have yz := HX1.out.1
  obtain ⟨kb, hkb⟩ : ∃ kb, kb = (res.toList == o.kind.toList) := ⟨_, rfl⟩
  have HKB : Hid (kb = (res.toList == o.kind.toList)) := hkb
  have HO1 : Hid (∀ k, 0 ≤ one kb + weighTo fs o.values res k ∧ one kb + weighTo fs o.values res k ≤ 1 + k * 9999999) := by
    intro k
    have := weighTo_small fs o.values res k
    cases kb <;> simp [one] <;> omega
  have hkb' := hkb.symm
  obtain ⟨K, hK⟩ : ∃ K, K = one kb := ⟨_, rfl⟩
  have HK : Hid (K = one kb) := hK
  rw [← hK] at HO1
  clear hkb hK
  cases kb
  all_goals
    go_wp2
    clear y0 yz
    go_loopw [9, 10, 11] (fun s9 s10 s11 wr => ∃ q : Nat, q ≤ fs.length ∧ s10 = .int .i64 q ∧ s9 = .int .i64 (K + weighTo fs o.values res q) ∧ Below w1.heap.size w1 wr) (fun _ s10 _ _ => fs.length - (intOf s10).toNat)
    case atStart => exact ⟨0, Nat.zero_le _, rfl, by rw [HK.out]; rfl, Below.refl _ _⟩
    case round =>
      obtain ⟨q, hq, rfl, rfl, hW⟩ := hrel
      have hl2 := HFl.out.2.2
      have hHO := HO1.out q
      have hm3 := (hW.cell (p := ⟨w.heap.size + 1, 3, none⟩) HX1.out.1).trans HX1.out.2.2
      have hz3 : w.heap.size + 1 < wr.heap.size := Nat.lt_of_lt_of_le HX1.out.1 hW.size
      have HWB : Hid (Below w.heap.size w wr) := blw_trans HB1.out hW
      obtain ⟨sm, hsm⟩ : ∃ sm, sm = K + weighTo fs o.values res q := ⟨_, rfl⟩
      have HSM : Hid (sm = K + weighTo fs o.values res q) := hsm
      rw [← hsm] at hHO ⊢
      clear hsm
      by_cases hlt : q < fs.length
      · obtain ⟨f, hf⟩ : ∃ f, f = fs.getD q Fld.none := ⟨_, rfl⟩
        obtain ⟨v, hv⟩ : ∃ v, v = o.values.getD q ByteArray.empty := ⟨_, rfl⟩
        obtain ⟨bw, _, _, hfi⟩ := HFl.out.2.1 q hlt
        rw [← hf] at hfi
        have c := fun j => HWB.out.cell (p := ⟨b, j, none⟩) HFl.out.1
        have f1 := (c _).trans hfi.c1
        have f10 := (c _).trans hfi.c10
        have hbz : b < wr.heap.size := Nat.lt_of_lt_of_le HFl.out.1 HWB.out.size
        have hb1z : b1 < wr.heap.size := Nat.lt_of_lt_of_le HA.out.2.lt1 HWB.out.size
        have v1 := (HWB.out.cell (p := ⟨b1, q, none⟩) HA.out.2.lt1).trans (HA.out.2.at1 q (by omega))
        rw [← hv] at v1
        have hvz : v.size ≤ maxLen := by rw [hv]; exact hz q (by omega)
        have HST : Hid (weighTo fs o.values res (q + 1) = weighTo fs o.values res q + fWeighs f v res) := by show weighTo _ _ _ _ = _; simp only [weighTo]; rw [← hf, ← hv]
        have HN : Hid (Calls Try.prog 23 #[.string v] wr fun e w' => e = .returned (.int .i64 (Pl.numb v)) ∧ wr = w') := l1Number_any v wr hvz
        have hdn := decOut_numb v
        have hds := decOut_small v
        obtain ⟨kn, hkn⟩ : ∃ kn, kn = Pl.numb v := ⟨_, rfl⟩
        rw [← hkn] at hdn
        have HDN : Hid (decOut v = if 0 < kn then kn else 0) := hdn
        have hk1 : kn ≤ 9999999 := by rw [hdn] at hds; split at hds <;> omega
        rw [← hkn] at HN
        clear hf hv hvz hfi c hkn hdn hds
        go_wp2_with fail
        refine HN.out.mono ?_
        rintro e wx ⟨rfl, rfl⟩
        cases h1 : (f.kind == 1)
        · have HE : Hid (fWeighs f v res = 0) := by show fWeighs f v res = 0; unfold fWeighs; rw [h1]; rfl
          go_wp2
          go_roundw
          case rel => exact ⟨q + 1, by omega, by go_num, by rw [HST.out, HE.out, HSM.out, Int.add_zero], hW⟩
          case measure => simp [intOf]; omega
        · cases h2 : (f.we.toList == res.toList)
          · have HE : Hid (fWeighs f v res = 0) := by show fWeighs f v res = 0; unfold fWeighs; rw [h1, h2]; rfl
            go_wp2
            go_roundw
            case rel => exact ⟨q + 1, by omega, by go_num, by rw [HST.out, HE.out, HSM.out, Int.add_zero], hW⟩
            case measure => simp [intOf]; omega
          · have HE : Hid (fWeighs f v res = decOut v) := by show fWeighs f v res = _; unfold fWeighs; rw [h1, h2]; rfl
            by_cases h3 : 0 < kn
            · have HD : Hid (decOut v = kn) := by show decOut v = kn; rw [HDN.out, if_pos h3]
              go_wp2
              go_roundw
              case rel => exact ⟨q + 1, by omega, by go_num, by rw [HST.out, HE.out, HD.out, ← Int.add_assoc, ← HSM.out], hW⟩
              case measure => simp [intOf]; omega
            · have HD : Hid (decOut v = 0) := by show decOut v = 0; rw [HDN.out, if_neg h3]
              have h3' : decide (0 < kn) = false := by simpa using h3
              go_wp2
              go_roundw
              case rel => exact ⟨q + 1, by omega, by go_num, by rw [HST.out, HE.out, HD.out, HSM.out, Int.add_zero], hW⟩
              case measure => simp [intOf]; omega
      · obtain rfl : q = fs.length := by omega
        go_wp2
        go_ret
        exact ⟨Pl.ret_int (by rw [HF.out, ← HKB.out, ← HK.out, HSM.out]), HWB.out⟩

set_option maxHeartbeats 4000000 in
theorem weighsI (B : Nat) (u1 u2 : Value) (ss : List Shp) (o : Ob) (b1 c1 b2 c2 : Nat) (res : ByteArray) (w : World) (h : ShpsIn w B ss) (ho : ObArg w b1 b2 o) (hz : ∀ i, i < o.values.length → (o.values.getD i ByteArray.empty).size ≤ maxLen) :
    Calls Try.prog 10 #[.agg #[.slice (some ⟨B, 0, none⟩) ss.length ss.length, u1, u2], .agg #[.string o.kind, .string o.name, .string o.team, .slice (some ⟨b1, 0, none⟩) o.values.length c1, .bool o.ending, .slice (some ⟨b2, 0, none⟩) o.holds.length c2, .int .i64 o.version], .string res] w fun e w' => e = .returned (.int .i64 (weighs ss o res)) ∧ Below w.heap.size w w' := by
  have HA : Hid (ShpsIn w B ss ∧ ObArg w b1 b2 o) := ⟨h, ho⟩
  have hl1 := ho.len1
  clear h ho
  obtain ⟨w0, hw0⟩ : ∃ w0, w0 = (w.alloc (.cells #[.slice (some ⟨B, 0, none⟩) ss.length ss.length, u1, u2] 37)).alloc (.cells #[.string o.kind, .string o.name, .string o.team, .slice (some ⟨b1, 0, none⟩) o.values.length c1, .bool o.ending, .slice (some ⟨b2, 0, none⟩) o.holds.length c2, .int .i64 o.version] 39) := ⟨_, rfl⟩
  have HB0 : Hid (Below w.heap.size w w0) := by show Below _ _ _; rw [hw0]; exact blw_alloc (blw_alloc (Below.refl _ _) _) _
  have hsz : w0.heap.size = w.heap.size + 2 := by rw [hw0]; simp
  have hx : w.heap.size + 1 < w0.heap.size := by omega
  have hx' : w.heap.size < w0.heap.size := by omega
  have a0 : w0.cell? ⟨w.heap.size, 0, none⟩ = some (.slice (some ⟨B, 0, none⟩) ss.length ss.length) := by rw [hw0]; simp
  have x0 : w0.cell? ⟨w.heap.size + 1, 0, none⟩ = some (.string o.kind) := by rw [hw0]; simp
  have x3 : w0.cell? ⟨w.heap.size + 1, 3, none⟩ = some (.slice (some ⟨b1, 0, none⟩) o.values.length c1) := by rw [hw0]; simp
  clear hsz
  go_enter Try.func10, Try.ntmps10
  go_upto_region 1 with fail
  rw [← hw0]
  clear hw0
  go_wp2_with fail
  refine (shapeOf_in w B ss o.kind w0 HA.out.1 HB0.out).mono ?_
  rintro e w1 ⟨kd, a, n, c, rfl, hso, hb1⟩
  have HB1 : Hid (Below w.heap.size w w1) := blw_trans HB0.out hb1
  have HX1 : Hid (w.heap.size + 1 < w1.heap.size ∧ w1.cell? ⟨w.heap.size + 1, 0, none⟩ = some (.string o.kind) ∧ w1.cell? ⟨w.heap.size + 1, 3, none⟩ = some (.slice (some ⟨b1, 0, none⟩) o.values.length c1)) :=
    ⟨Nat.lt_of_lt_of_le hx hb1.size, (hb1.cell (p := ⟨w.heap.size + 1, 0, none⟩) hx).trans x0, (hb1.cell (p := ⟨w.heap.size + 1, 3, none⟩) hx).trans x3⟩
  obtain ⟨R, hR⟩ : ∃ R, R = hasKind ss o.kind := ⟨_, rfl⟩
  rw [← hR]
  have HRR : Hid (R = hasKind ss o.kind) := hR
  have HSO : Hid (ShapeOf ss o.kind w kd (.slice a n c)) := hso
  clear hR hso hb1 x0 x3 a0 hx hx' HB0
  have yz := HX1.out.1
  have y0 := HX1.out.2.1
  have y3 := HX1.out.2.2
  have HB2 : Hid (Below w.heap.size w (w1.alloc (.cells #[.string kd, .slice a n c] 76))) := blw_alloc HB1.out _
  cases hem : res.toList.isEmpty
  case true =>
    have HF : Hid (weighs ss o res = 0) := by show weighs ss o res = 0; unfold weighs; rw [hem]; simp
    go_wp2
    go_ret
    exact ⟨Pl.ret_int HF.out.symm, HB2.out⟩
  case false =>
  cases R
  · have HF : Hid (weighs ss o res = 0) := by show weighs ss o res = 0; unfold weighs hasFields; rw [← HRR.out]; rfl
    go_wp2
    go_ret
    exact ⟨Pl.ret_int HF.out.symm, HB2.out⟩
  obtain ⟨hkd, b, hv, hbl, hf⟩ := HSO.out HRR.out.symm
  obtain ⟨fs, hfs⟩ : ∃ fs, fs = (ss.getD (kindAt ss o.kind) Shp.none).fields := ⟨_, rfl⟩
  rw [← hfs] at hv hf
  injection hv with hv1 hv2 hv3
  subst hv1 hv2 hv3
  by_cases heq : o.values.length = fs.length
  case neg =>
    have HF : Hid (weighs ss o res = 0) := by show weighs ss o res = 0; unfold weighs hasFields; rw [← hfs, decide_eq_false heq]; simp
    have hne : (((o.values.length : Int)) != (fs.length : Int)) = true := by simp; omega
    clear hkd hbl hf hfs HSO HRR
    go_wp2_with fail
    all_goals (try (go_quiet (fail)))
    all_goals go_wp2
    go_ret
    exact ⟨Pl.ret_int HF.out.symm, by repeat (first | exact HB2.out | refine blw_drewN ?_ _)⟩
  have hne : (((o.values.length : Int)) != (fs.length : Int)) = false := by simp; omega
  have HFl : Hid (b < w.heap.size ∧ (∀ i, i < fs.length → OwnFld w b (i * 11) (fs.getD i Fld.none)) ∧ fs.length ≤ 1048576 ∧ o.values.length = fs.length) := ⟨hbl, hf, by omega, heq⟩
  have HF : Hid (weighs ss o res = one (res.toList == o.kind.toList) + weighTo fs o.values res fs.length) := by show weighs ss o res = _; unfold weighs hasFields; rw [← HRR.out, hem, ← hfs, decide_eq_true heq]; rfl
  clear hbl hf hfs HSO HRR hkd heq
  obtain ⟨kb, hkb⟩ : ∃ kb, kb = (res.toList == o.kind.toList) := ⟨_, rfl⟩
  have HKB : Hid (kb = (res.toList == o.kind.toList)) := hkb
  have HO1 : Hid (∀ k, 0 ≤ one kb + weighTo fs o.values res k ∧ one kb + weighTo fs o.values res k ≤ 1 + k * 9999999) := by
    intro k
    have := weighTo_small fs o.values res k
    cases kb <;> simp [one] <;> omega
  have hkb' := hkb.symm
  obtain ⟨K, hK⟩ : ∃ K, K = one kb := ⟨_, rfl⟩
  have HK : Hid (K = one kb) := hK
  rw [← hK] at HO1
  clear hkb hK
  obtain ⟨w2, hw2⟩ : ∃ w2, w2 = w1.alloc (.cells #[.string kd, .slice (some ⟨b, 0, none⟩) fs.length fs.length] 76) := ⟨_, rfl⟩
  rw [← hw2] at HB2
  have HX2 : Hid (w.heap.size + 1 < w2.heap.size ∧ w2.cell? ⟨w.heap.size + 1, 0, none⟩ = some (.string o.kind) ∧ w2.cell? ⟨w.heap.size + 1, 3, none⟩ = some (.slice (some ⟨b1, 0, none⟩) o.values.length c1)) := by
    show _ ∧ _ ∧ _
    rw [hw2]
    exact ⟨by simp; omega, (World.cell?_alloc_past _ _ _ yz).trans y0, (World.cell?_alloc_past _ _ _ yz).trans y3⟩
  have HS2 : Hid (w1.heap.size < w2.heap.size ∧ w2.cell? ⟨w1.heap.size, 0, none⟩ = some (.string kd) ∧ w2.cell? ⟨w1.heap.size, 1, none⟩ = some (.slice (some ⟨b, 0, none⟩) fs.length fs.length)) := by
    show _ ∧ _ ∧ _
    rw [hw2]
    exact ⟨by simp, by simp, by simp⟩
  go_upto_region 2 with fail
  rw [← hw2]
  clear hw2 yz y0 y3
  obtain ⟨yz, y0, y3⟩ := HX2.out
  obtain ⟨gz, g0, g1⟩ := HS2.out
  cases kb
  all_goals
    go_wp2
    clear yz y0 y3 gz g0 g1
    go_loopw [9, 10, 11, 12, 13, 44] (fun s9 s10 s11 s12 s13 s44 wr => ∃ q : Nat, q ≤ fs.length ∧ s44 = .int .i64 q ∧ s9 = .int .i64 (K + weighTo fs o.values res q) ∧ Below w2.heap.size w2 wr) (fun _ _ _ _ _ s44 _ => fs.length - (intOf s44).toNat)
    case atStart => exact ⟨0, Nat.zero_le _, rfl, by rw [HK.out]; rfl, Below.refl _ _⟩
    case round =>
      obtain ⟨q, hq, rfl, rfl, hW⟩ := hrel
      have hl2 := HFl.out.2.2.1
      have hHO := HO1.out q
      have hm3 := (hW.cell (p := ⟨w.heap.size + 1, 3, none⟩) HX2.out.1).trans HX2.out.2.2
      have hz3 : w.heap.size + 1 < wr.heap.size := Nat.lt_of_lt_of_le HX2.out.1 hW.size
      have HWB : Hid (Below w.heap.size w wr) := blw_trans HB2.out hW
      have HWB' : Hid (∀ o', Below w2.heap.size w2 (wr.alloc o')) := fun o' => blw_alloc hW o'
      obtain ⟨sm, hsm⟩ : ∃ sm, sm = K + weighTo fs o.values res q := ⟨_, rfl⟩
      have HSM : Hid (sm = K + weighTo fs o.values res q) := hsm
      rw [← hsm] at hHO ⊢
      clear hsm
      by_cases hlt : q < fs.length
      · have hvq : q < o.values.length := by rw [HFl.out.2.2.2]; exact hlt
        obtain ⟨f, hf⟩ : ∃ f, f = fs.getD q Fld.none := ⟨_, rfl⟩
        obtain ⟨v, hv⟩ : ∃ v, v = o.values.getD q ByteArray.empty := ⟨_, rfl⟩
        obtain ⟨bw, _, _, hfi⟩ := HFl.out.2.1 q hlt
        rw [← hf] at hfi
        have c := fun j => HWB.out.cell (p := ⟨b, j, none⟩) HFl.out.1
        have f0 := (c _).trans hfi.c0
        have f1 := (c _).trans hfi.c1
        have f2 := (c _).trans hfi.c2
        have f3 := (c _).trans hfi.c3
        have f4 := (c _).trans hfi.c4
        have f5 := (c _).trans hfi.c5
        have f6 := (c _).trans hfi.c6
        have f7 := (c _).trans hfi.c7
        have f8 := (c _).trans hfi.c8
        have f9 := (c _).trans hfi.c9
        have f10 := (c _).trans hfi.c10
        have hbz : b < wr.heap.size := Nat.lt_of_lt_of_le HFl.out.1 HWB.out.size
        have hb1z : b1 < wr.heap.size := Nat.lt_of_lt_of_le HA.out.2.lt1 HWB.out.size
        have v1 := (HWB.out.cell (p := ⟨b1, q, none⟩) HA.out.2.lt1).trans (HA.out.2.at1 q hvq)
        rw [← hv] at v1
        have hvz : v.size ≤ maxLen := by rw [hv]; exact hz q hvq
        have HST : Hid (weighTo fs o.values res (q + 1) = weighTo fs o.values res q + fWeighs f v res) := by show weighTo _ _ _ _ = _; simp only [weighTo]; rw [← hf, ← hv]
        have HN : Hid (∀ W, Calls Try.prog 29 #[.string v] W fun e w' => e = .returned (.tuple #[.int .i64 (decOut v), .bool (Pl.decOk v)]) ∧ W = w') := fun W => decimal_any v W hvz
        have hds := decOut_small v
        obtain ⟨kn, hkn⟩ : ∃ kn, kn = decOut v := ⟨_, rfl⟩
        have HDN : Hid (decOut v = kn) := hkn.symm
        rw [← hkn] at HN hds
        clear hf hv hvz hfi c hkn
        cases h1 : (f.kind == 1)
        · have HE : Hid (fWeighs f v res = 0) := by show fWeighs f v res = 0; unfold fWeighs; rw [h1]; rfl
          go_wp2
          go_roundw
          case rel => exact ⟨q + 1, by omega, by go_num, by rw [HST.out, HE.out, HSM.out, Int.add_zero], HWB'.out _⟩
          case measure => simp [intOf]; omega
        · cases h2 : (f.we.toList == res.toList)
          · have HE : Hid (fWeighs f v res = 0) := by show fWeighs f v res = 0; unfold fWeighs; rw [h1, h2]; rfl
            go_wp2
            go_roundw
            case rel => exact ⟨q + 1, by omega, by go_num, by rw [HST.out, HE.out, HSM.out, Int.add_zero], HWB'.out _⟩
            case measure => simp [intOf]; omega
          · have HE : Hid (fWeighs f v res = decOut v) := by show fWeighs f v res = _; unfold fWeighs; rw [h1, h2]; rfl
            go_wp2_with fail
            refine (HN.out _).mono ?_
            rintro e wx ⟨rfl, rfl⟩
            go_wp2
            go_roundw
            case rel => exact ⟨q + 1, by omega, by go_num, by rw [HST.out, HE.out, HDN.out, ← Int.add_assoc, ← HSM.out], HWB'.out _⟩
            case measure => simp [intOf]; omega
      · obtain rfl : q = fs.length := by omega
        go_wp2
        go_ret
        exact ⟨Pl.ret_int (by rw [HF.out, ← HKB.out, ← HK.out, HSM.out]), HWB.out⟩

end Go.Proofs.Ytliaibdbcaglnaa
