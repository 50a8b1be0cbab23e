/-
  Walks: GateCheck: the specification.
-/
import Derived.Test.YtfbehiagmanflaaGreatDoorWalkCC
import Derived.Deep.DeepCutAuto
namespace Go.Proofs.YtfbehiagmanflaaGreatDoor
open Go.RowKit Go.Deep

def goodAll (ss : List Shp) (o : Ob) : Bool := hasFields ss o && Pl.nameOk o.name && Pl.nameOk o.team && decide (o.holds.length ≤ 3) && Pl.asc o.holds && (decide (0 ≤ o.version) && decide (o.version ≤ 1000000))

theorem goodAll_eq (ss : List Shp) (o : Ob) : goodAll ss o = (hasKind ss o.kind && (goodNames o && decide (o.values.length = (ss.getD (kindAt ss o.kind) Shp.none).fields.length) && goodHolds o && goodVersion o)) := by
  unfold goodAll hasFields goodNames goodHolds goodVersion
  cases hasKind ss o.kind <;> cases Pl.nameOk o.name <;> cases Pl.nameOk o.team <;> cases decide (o.values.length = (ss.getD (kindAt ss o.kind) Shp.none).fields.length) <;> cases decide (o.holds.length ≤ 3) <;> cases Pl.asc o.holds <;> cases decide (0 ≤ o.version) <;> cases decide (o.version ≤ 1000000) <;> rfl

theorem ch_bad {ss : List Shp} {o : Ob} (hok : shapesOk ss = true) (h : goodAll ss o = false) : chCode ss o = 1 ∧ chPlace ss o = 0 := by
  rw [goodAll_eq] at h
  unfold chCode chPlace obCode obPlace
  rw [hok]
  cases hk : hasKind ss o.kind
  · simp
  · rw [hk] at h
    rw [Bool.true_and] at h
    rw [h]
    simp

theorem ch_good {ss : List Shp} {o : Ob} (hok : shapesOk ss = true) (h : goodAll ss o = true) : chCode ss o = badCode (ss.getD (kindAt ss o.kind) Shp.none).fields o.values ∧ chPlace ss o = (if badCode (ss.getD (kindAt ss o.kind) Shp.none).fields o.values = 0 then 0 else badPlace (ss.getD (kindAt ss o.kind) Shp.none).fields o.values) := by
  rw [goodAll_eq] at h
  obtain ⟨h1, h2⟩ := (Bool.and_eq_true _ _).mp h
  unfold chCode chPlace obCode obPlace
  rw [hok, h1, h2]
  simp

theorem specFitsF (f : Fld) (b : Nat) (v : ByteArray) (w : World) (hv : v.size ≤ maxLen) (h : FldArg w b f) :
    Calls Tryz.prog 38 #[.agg #[.string f.nm, .int .i64 f.kind, .int .i64 f.least, .int .i64 f.most, .slice (some ⟨b, 0, none⟩) f.words.length f.words.length, .string f.to, .int .i64 f.role, .bool f.must, .bool f.fixed, .string f.de, .string f.we], .string v] w
      fun e w' => e = .returned (.bool (fitB f v)) ∧ Below w.heap.size w w' :=
  specFits_any f.nm f.kind f.least f.most b 0 _ f.to f.role f.must f.fixed f.de f.we v f.words w hv h.lt (by have := h.small; unfold Fld.small at this; unfold maxLen; omega) h.cells

set_option maxRecDepth 8000 in
set_option maxHeartbeats 8000000 in
theorem l2CheckS (B : Nat) (ss : List Shp) (o : Ob) (b1 c1 b2 c2 : Nat) (w : World) (hok : shapesOk ss = true) (h : ShpsIn w B ss) (ho : ObArg w b1 b2 o) (hs : o.sized) (hz1 : ∀ i, i < o.values.length → (o.values.getD i ByteArray.empty).size ≤ maxLen) (hz2 : ∀ i, i < o.holds.length → (o.holds.getD i ByteArray.empty).size ≤ maxLen) :
    Calls Tryz.prog 25 #[.slice (some ⟨B, 0, none⟩) ss.length ss.length, .agg #[.string o.kind, .string o.name, .string o.team, .slice (some ⟨b1, 0, none⟩) o.values.length c1, .bool o.ending, .slice (some ⟨b2, 0, none⟩) o.holds.length c2, .int .i64 o.version]] w fun e w' => e = .returned (.tuple #[.int .i64 (chCode ss o : Nat), .int .i64 (chPlace ss o : Nat)]) ∧ Below w.heap.size w w' := by
  have HA : Hid (shapesOk ss = true ∧ ShpsIn w B ss ∧ ObArg w b1 b2 o ∧ o.sized ∧ (∀ i, i < o.values.length → (o.values.getD i ByteArray.empty).size ≤ maxLen) ∧ (∀ i, i < o.holds.length → (o.holds.getD i ByteArray.empty).size ≤ maxLen)) := ⟨hok, h, ho, hs, hz1, hz2⟩
  have hlv := ho.len1
  have hlh := ho.len2
  clear hok h ho hs hz1 hz2
  obtain ⟨w1, hw1⟩ : ∃ w1, w1 = w.alloc (.cells #[.string o.kind, .string o.name, .string o.team, .slice (some ⟨b1, 0, none⟩) o.values.length c1, .bool o.ending, .slice (some ⟨b2, 0, none⟩) o.holds.length c2, .int .i64 o.version] 32) := ⟨_, rfl⟩
  have HB : Hid (Below w.heap.size w w1) := by show Below _ _ _; rw [hw1]; exact blw_alloc (Below.refl _ _) _
  have HZ : Hid (w1.heap.size = w.heap.size + 1) := by show _ = _; rw [hw1]; simp
  have HK : Hid (w1.cell? ⟨w.heap.size, 0, none⟩ = some (.string o.kind) ∧ w1.cell? ⟨w.heap.size, 1, none⟩ = some (.string o.name) ∧ w1.cell? ⟨w.heap.size, 2, none⟩ = some (.string o.team) ∧ w1.cell? ⟨w.heap.size, 3, none⟩ = some (.slice (some ⟨b1, 0, none⟩) o.values.length c1) ∧ w1.cell? ⟨w.heap.size, 4, none⟩ = some (.bool o.ending) ∧ w1.cell? ⟨w.heap.size, 5, none⟩ = some (.slice (some ⟨b2, 0, none⟩) o.holds.length c2) ∧ w1.cell? ⟨w.heap.size, 6, none⟩ = some (.int .i64 o.version)) := by
    refine ⟨?_, ?_, ?_, ?_, ?_, ?_, ?_⟩ <;> (rw [hw1]; simp)
  obtain ⟨k0, k1, k2, k3, k4, k5, k6⟩ := HK.out
  have hz : w.heap.size < w1.heap.size := by have := HZ.out; omega
  obtain ⟨cc, hcc⟩ : ∃ cc, cc = chCode ss o := ⟨_, rfl⟩
  obtain ⟨cp, hcp⟩ : ∃ cp, cp = chPlace ss o := ⟨_, rfl⟩
  rw [← hcc, ← hcp]
  have HC : Hid (cc = chCode ss o ∧ cp = chPlace ss o) := ⟨hcc, hcp⟩
  clear hcc hcp
  go_enter Tryz.func25, Tryz.ntmps25
  go_upto_region 1 with fail
  rw [← hw1]
  clear hw1
  go_wp2_with fail
  refine (l2Fields w B ss o b1 c1 b2 c2 w1 HA.out.2.1 HB.out).mono ?_
  rintro e w2 ⟨a, n, c, rfl, hso, hb2⟩
  have HB2 : Hid (Below w1.heap.size w1 w2) := hb2
  have HW2 : Hid (Below w.heap.size w w2) := blw_trans HB.out hb2
  have hz2 : w.heap.size < w2.heap.size := Nat.lt_of_lt_of_le hz hb2.size
  have o1 : w2.cell? ⟨w.heap.size, 1, none⟩ = some (.string o.name) := (hb2.cell (p := ⟨w.heap.size, 1, none⟩) hz).trans k1
  have o2 : w2.cell? ⟨w.heap.size, 2, none⟩ = some (.string o.team) := (hb2.cell (p := ⟨w.heap.size, 2, none⟩) hz).trans k2
  have o3 : w2.cell? ⟨w.heap.size, 3, none⟩ = some (.slice (some ⟨b1, 0, none⟩) o.values.length c1) := (hb2.cell (p := ⟨w.heap.size, 3, none⟩) hz).trans k3
  have o5 : w2.cell? ⟨w.heap.size, 5, none⟩ = some (.slice (some ⟨b2, 0, none⟩) o.holds.length c2) := (hb2.cell (p := ⟨w.heap.size, 5, none⟩) hz).trans k5
  have o6 : w2.cell? ⟨w.heap.size, 6, none⟩ = some (.int .i64 o.version) := (hb2.cell (p := ⟨w.heap.size, 6, none⟩) hz).trans k6
  have HO3 : Hid (w2.cell? ⟨w.heap.size, 3, none⟩ = some (.slice (some ⟨b1, 0, none⟩) o.values.length c1)) := o3
  obtain ⟨R, hR⟩ : ∃ R, R = hasFields ss o := ⟨_, rfl⟩
  rw [← hR] at hso ⊢
  have HSO : Hid (R = true → ∃ b, Value.slice a n c = .slice (some ⟨b, 0, none⟩) (ss.getD (kindAt ss o.kind) Shp.none).fields.length (ss.getD (kindAt ss o.kind) Shp.none).fields.length ∧ b < w.heap.size ∧ ∀ i, i < (ss.getD (kindAt ss o.kind) Shp.none).fields.length → OwnFld w b (i * 11) ((ss.getD (kindAt ss o.kind) Shp.none).fields.getD i Fld.none)) := hso
  have HR : Hid (R = hasFields ss o) := hR
  clear hb2 hso hR k0 k1 k2 k3 k4 k5 k6 hz o3
  go_upto_region 2 with fail
  go_cut [46] (fun x wx => x = .bool (!goodAll ss o) ∧ Below w2.heap.size w2 wx)
  case first =>
    have HT : Hid (goodAll ss o = (R && Pl.nameOk o.name && Pl.nameOk o.team && decide (o.holds.length ≤ 3) && Pl.asc o.holds && (decide (0 ≤ o.version) && decide (o.version ≤ 1000000)))) := by rw [HR.out]; rfl
    have HN1 : Hid (o.name.size ≤ maxLen ∧ o.team.size ≤ maxLen) := ⟨HA.out.2.2.2.1.2.1, HA.out.2.2.2.1.2.2⟩
    have HAs : Hid (Calls Tryz.prog 36 #[.slice (some ⟨b2, 0, none⟩) o.holds.length c2] w2 fun e w' => e = .returned (.bool (Pl.asc o.holds)) ∧ Below w2.heap.size w2 w') := l1Asc_row b2 c2 o.holds w2 HA.out.2.2.1.len2 (HA.out.2.2.1.later HW2.out).lt2 HA.out.2.2.2.2.2 (fun i hi => by rw [Nat.zero_add]; exact (HA.out.2.2.1.later HW2.out).at2 i hi)
    cases R
    · go_wp2_with fail
      go_meet
      exact ⟨by rw [HT.out]; rfl, Below.refl _ _⟩
    go_wp2_with fail
    refine (l1NameOk_any o.name _ HN1.out.1).mono ?_
    rintro e w' ⟨rfl, rfl⟩
    cases h1 : Pl.nameOk o.name
    · go_wp2_with fail
      go_meet
      exact ⟨by rw [HT.out, h1]; rfl, Below.refl _ _⟩
    go_wp2_with fail
    refine (l1NameOk_any o.team _ HN1.out.2).mono ?_
    rintro e w' ⟨rfl, rfl⟩
    cases h2 : Pl.nameOk o.team
    · go_wp2_with fail
      go_meet
      exact ⟨by rw [HT.out, h1, h2]; rfl, Below.refl _ _⟩
    by_cases h3 : (o.holds.length : Int) ≤ 3
    case neg =>
      have HD : Hid (decide (o.holds.length ≤ 3) = false) := by show decide _ = false; simp; omega
      go_wp2_with fail
      go_meet
      exact ⟨by rw [HT.out, h1, h2, HD.out]; rfl, Below.refl _ _⟩
    have HD : Hid (decide (o.holds.length ≤ 3) = true) := by show decide _ = true; simp; omega
    have HD3 : Hid (decide ((3 : Int) < (o.holds.length : Int)) = false) := by show decide _ = false; simp; omega
    go_wp2_with fail
    refine HAs.out.mono ?_
    rintro e w3 ⟨rfl, hb3⟩
    have p6 : w3.cell? ⟨w.heap.size, 6, none⟩ = some (.int .i64 o.version) := (hb3.cell (p := ⟨w.heap.size, 6, none⟩) hz2).trans o6
    have hz3 : w.heap.size < w3.heap.size := Nat.lt_of_lt_of_le hz2 hb3.size
    cases h4 : Pl.asc o.holds
    · go_wp2_with fail
      go_meet
      exact ⟨by rw [HT.out, h1, h2, HD.out, h4]; rfl, hb3⟩
    go_wp2_with fail
    refine (l1In_any o.version 0 1000000 _).mono ?_
    rintro e w' ⟨rfl, rfl⟩
    obtain ⟨q, hq⟩ : ∃ q, q = (decide (0 ≤ o.version) && decide (o.version ≤ 1000000)) := ⟨_, rfl⟩
    rw [← hq] at HT ⊢
    clear hq
    go_wp2_with fail
    go_meet
    exact ⟨by rw [HT.out, h1, h2, HD.out, h4, HD3.out]; cases q <;> rfl, hb3⟩
  case rest =>
  obtain ⟨rfl, hbc⟩ := hcut
  rename World => w3
  have HB3 : Hid (Below w2.heap.size w2 w3) := hbc
  have HW3 : Hid (Below w.heap.size w w3) := blw_trans HW2.out hbc
  clear hbc o1 o2 o5 o6
  cases hg : goodAll ss o
  · have HE := ch_bad HA.out.1 hg
    have hcc : cc = 1 := by rw [HC.out.1]; exact HE.1
    have hcp : cp = 0 := by rw [HC.out.2]; exact HE.2
    subst hcc hcp
    clear HE
    go_wp2
    go_ret2
    exact ⟨rfl, HW3.out⟩
  have HE : Hid (cc = badCode (ss.getD (kindAt ss o.kind) Shp.none).fields o.values ∧ cp = (if badCode (ss.getD (kindAt ss o.kind) Shp.none).fields o.values = 0 then 0 else badPlace (ss.getD (kindAt ss o.kind) Shp.none).fields o.values)) := by show _ ∧ _; rw [HC.out.1, HC.out.2]; exact ch_good HA.out.1 hg
  have hRt : R = true := by rw [HR.out]; rw [goodAll] at hg; simp only [Bool.and_eq_true] at hg; exact hg.1.1.1.1.1
  obtain ⟨b, e2, hbl, hfs⟩ := HSO.out hRt
  have hHF := HR.out.symm.trans hRt
  have hkl : kindAt ss o.kind < ss.length := by unfold hasFields hasKind at hHF; exact of_decide_eq_true ((Bool.and_eq_true _ _).mp hHF).1
  have hlen : o.values.length = (ss.getD (kindAt ss o.kind) Shp.none).fields.length := by unfold hasFields at hHF; exact of_decide_eq_true ((Bool.and_eq_true _ _).mp hHF).2
  obtain ⟨s, hs⟩ : ∃ s, s = ss.getD (kindAt ss o.kind) Shp.none := ⟨_, rfl⟩
  rw [← hs] at e2 hfs HE hlen
  injection e2 with e2 e3 e4
  subst e2 e3 e4
  have hsm : s.small := HA.out.2.1.small s (by rw [hs]; simp [hkl])
  obtain ⟨fs, hfeq⟩ : ∃ fs, fs = s.fields := ⟨_, rfl⟩
  have hfl := hsm.1
  have HFI : Hid (FldsIn w b fs) := by rw [hfeq]; exact ⟨hbl, hsm.1, hsm.2, hfs⟩
  rw [← hfeq] at HE hlen hfl ⊢
  have HLn : Hid (o.values.length = fs.length) := hlen
  clear hs hsm hfs hbl hkl HSO HC hg hHF hfeq hlen hRt
  go_wp2
  go_loopw [8] (fun i wr => ∃ k : Nat, k ≤ fs.length ∧ i = .int .i64 k ∧ k ≤ badFirst fs o.values ∧ Below w3.heap.size w3 wr) (fun i _ => fs.length - (intOf i).toNat)
  case atStart => exact ⟨0, Nat.zero_le _, rfl, Nat.zero_le _, Below.refl _ _⟩
  case round =>
    obtain ⟨k, hk, rfl, hno, hW⟩ := hrel
    have HN : Hid (k ≤ badFirst fs o.values) := hno
    have HW : Hid (Below w3.heap.size w3 wr) := hW
    have HWw : Hid (Below w.heap.size w wr) := blw_trans HW3.out hW
    clear hno
    by_cases hlt : k < fs.length
    · obtain ⟨f, hff⟩ : ∃ f, f = fs.getD k Fld.none := ⟨_, rfl⟩
      obtain ⟨bf, hfa, hfi⟩ := (HFI.out.later HWw.out).arg hlt hff
      have hkv : k < o.values.length := by rw [HLn.out]; exact hlt
      have v0 := (HA.out.2.2.1.later HWw.out).at1 k hkv
      obtain ⟨v, hv⟩ : ∃ v, v = o.values.getD k ByteArray.empty := ⟨_, rfl⟩
      rw [← hv] at v0
      have HV : Hid (v.size ≤ maxLen) := by show v.size ≤ maxLen; rw [hv]; exact HA.out.2.2.2.2.1 k hkv
      have HBa : Hid (badAt fs o.values k = if v.toList.isEmpty = true then (if f.must = true then 2 else 0) else (if fitB f v = true then 0 else 3)) := by show badAt fs o.values k = _; unfold badAt; rw [← hff, ← hv]
      have HM : Hid (badAt fs o.values k = 0 → k + 1 ≤ badFirst fs o.values) := fun e => badFirst_miss hlt HN.out e
      have HH : Hid (∀ d : Nat, d ≠ 0 → badAt fs o.values k = d → cc = d ∧ cp = k) := by
        intro d hd e
        have e1 := badFirst_hit hlt HN.out (by rw [e]; exact hd)
        rw [HE.out.1, HE.out.2]
        unfold badCode badPlace
        rw [e1, if_pos hlt, if_pos hlt, e, if_neg hd]
        exact ⟨rfl, rfl⟩
      have hb1 : b1 < wr.heap.size := (HA.out.2.2.1.later HWw.out).lt1
      have hfb : b < wr.heap.size := (HFI.out.later HWw.out).lt
      have hzr : w.heap.size < wr.heap.size := Nat.lt_of_lt_of_le hz2 (blw_trans HB3.out hW).size
      have k3 : wr.cell? ⟨w.heap.size, 3, none⟩ = some (.slice (some ⟨b1, 0, none⟩) o.values.length c1) := ((blw_trans HB3.out hW).cell (p := ⟨w.heap.size, 3, none⟩) hz2).trans HO3.out
      obtain ⟨c0, c1', c2', c3, c4, c5, c6, c7, c8, c9, c10, _, _⟩ := hfi
      have HFA : Hid (FldArg wr bf f) := hfa
      clear hff hfa hv hW
      cases he : v.toList.isEmpty
      · have HX : Hid (∀ W, Below wr.heap.size wr W → Calls Tryz.prog 38 #[.agg #[.string f.nm, .int .i64 f.kind, .int .i64 f.least, .int .i64 f.most, .slice (some ⟨bf, 0, none⟩) f.words.length f.words.length, .string f.to, .int .i64 f.role, .bool f.must, .bool f.fixed, .string f.de, .string f.we], .string v] W fun e w' => e = .returned (.bool (fitB f v)) ∧ Below W.heap.size W w') := fun W hW' => specFitsF f bf v W HV.out (HFA.out.later hW')
        cases hfit : fitB f v
        · obtain ⟨hcc, hcp⟩ := HH.out 3 (by decide) (by rw [HBa.out, he, hfit]; rfl)
          subst hcc hcp
          rw [hfit] at HX
          go_wp2_with fail
          go_region_with (go_at_call 38; refine (HX.out _ ?_).mono ?_; (repeat (first | exact Below.refl _ _ | refine Below.drew ?_)); rintro e w4 ⟨rfl, hb4⟩)
          all_goals
            go_wp2
            go_ret2
            refine ⟨rfl, ?_⟩
            repeat (first | exact blw_trans HWw.out hb4 | exact blw_trans HWw.out.drew hb4 | exact blw_trans HWw.out.drew.drew hb4 | refine Below.drew ?_)
        · have HE2 : Hid (k + 1 ≤ badFirst fs o.values) := HM.out (by rw [HBa.out, he, hfit]; rfl)
          rw [hfit] at HX
          go_wp2_with fail
          go_region_with (go_at_call 38; refine (HX.out _ ?_).mono ?_; (repeat (first | exact Below.refl _ _ | refine Below.drew ?_)); rintro e w4 ⟨rfl, hb4⟩)
          all_goals
            go_wp2
            go_roundw
            case rel =>
              first
              | refine ⟨k + 1, by omega, by go_num, HE2.out, ?_⟩
              | ((repeat apply Exists.intro); refine ⟨⟨k + 1, by omega, by go_num, HE2.out, ?_⟩, rfl⟩)
              repeat (first | exact blw_trans HW.out hb4 | exact blw_trans HW.out.drew hb4 | exact blw_trans HW.out.drew.drew hb4 | refine Below.drew ?_)
            case measure => simp [intOf]; omega
      · cases hmu : f.must
        · have HE2 : Hid (k + 1 ≤ badFirst fs o.values) := HM.out (by rw [HBa.out, he, hmu]; rfl)
          go_wp2
          go_roundw
          case rel => first | exact ⟨k + 1, by omega, by go_num, HE2.out, HW.out⟩ | ((repeat apply Exists.intro); exact ⟨⟨k + 1, by omega, by go_num, HE2.out, HW.out⟩, rfl⟩)
          case measure => simp [intOf]; omega
        · obtain ⟨hcc, hcp⟩ := HH.out 2 (by decide) (by rw [HBa.out, he, hmu]; rfl)
          subst hcc hcp
          go_wp2
          go_ret2
          exact ⟨rfl, HWw.out⟩
    · have e0 : badCode fs o.values = 0 := by unfold badCode; rw [if_neg (by have := HN.out; omega)]
      have hcc : cc = 0 := by rw [HE.out.1]; exact e0
      have hcp : cp = 0 := by rw [HE.out.2, e0]; rfl
      subst hcc hcp
      go_wp2
      go_ret2
      exact ⟨rfl, HWw.out⟩

end Go.Proofs.YtfbehiagmanflaaGreatDoor
