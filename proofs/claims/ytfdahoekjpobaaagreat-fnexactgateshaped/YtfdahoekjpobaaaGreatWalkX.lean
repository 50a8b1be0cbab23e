/-
  Walks: shapes that are ok: the program.
-/
import Derived.Test.YtfdahoekjpobaaaGreatWalkV
namespace Go.Proofs.YtfdahoekjpobaaaGreat
open Go.RowKit Go.Deep

theorem isName_same (s : ByteArray) (w : World) (hs : s.size ≤ maxLen) :
    Calls Tryz.prog 66 #[.string s] w fun e w' => e = .returned (.bool (Pl.nameOk s)) ∧ w' = w := (isName_any s w hs).mono fun _ _ h => ⟨h.1, h.2.symm⟩

theorem fieldsOk_false {ss : List Shp} {fs : List Fld} {k : Nat} (hk : k < fs.length) (h : fieldAt ss fs k = false) : fieldsOk ss fs = false := by
  unfold fieldsOk fieldsTo; rw [Pl.to_false _ _ k hk h]; simp
theorem fieldsTo_step {ss : List Shp} {fs : List Fld} {k : Nat} (h : fieldsTo ss fs k = true) (ha : fieldAt ss fs k = true) : fieldsTo ss fs (k + 1) = true := by
  unfold fieldsTo at h ⊢; rw [Pl.to_succ, h, ha]; rfl

set_option maxHeartbeats 4000000 in
theorem fieldsOkI (B C : Nat) (ss : List Shp) (fs : List Fld) (w : World) (h : ShpsIn w B ss) (hf : FldsIn w C fs) :
    Calls Tryz.prog 67 #[.slice (some ⟨B, 0, none⟩) ss.length ss.length, .slice (some ⟨C, 0, none⟩) fs.length fs.length] w fun e w' => e = .returned (.bool (fieldsOk ss fs)) ∧ Below w.heap.size w w' := by
  have HS : Hid (ShpsIn w B ss) := h
  have HF : Hid (FldsIn w C fs) := hf
  have hl := hf.len
  clear h hf
  by_cases h6 : fs.length ≤ 6
  case neg =>
    have HR : Hid (fieldsOk ss fs = false) := by show fieldsOk ss fs = _; simp [fieldsOk, h6]
    go_enter Tryz.func67, Tryz.ntmps67
    go_wp2
    go_ret
    exact ⟨Pl.ret_bool HR.out.symm, Below.refl _ _⟩
  go_enter Tryz.func67, Tryz.ntmps67
  go_wp2
  go_loopw [12] (fun i wr => ∃ k : Nat, k ≤ fs.length ∧ i = .int .i64 k ∧ fieldsTo ss fs k = true ∧ Below w.heap.size w wr) (fun i _ => fs.length - (intOf i).toNat)
  case atStart => exact ⟨0, Nat.zero_le _, rfl, rfl, Below.refl _ _⟩
  case round =>
    obtain ⟨k, hk, rfl, hall, hW⟩ := hrel
    have HA : Hid (fieldsTo ss fs k = true) := hall
    clear hall
    by_cases hlt : k < fs.length
    · obtain ⟨f, hff⟩ : ∃ f, f = fs.getD k Fld.none := ⟨_, rfl⟩
      obtain ⟨b, hfa, hfi⟩ := (HF.out.later hW).arg hlt hff
      have HFA : Hid (FldArg wr b f) := hfa
      obtain ⟨c0, c1, c2, c3, c4, c5, c6, c7, c8, c9, c10, _, _⟩ := hfi
      have HN : Hid (f.nm.size ≤ maxLen) := hfa.sized.1
      have HT : Hid (fieldAt ss fs k = (Pl.nameOk f.nm && fieldOk ss f && !decide (nameAt fs f.nm < k))) := by
        show fieldAt ss fs k = _
        rw [fieldAt, twice_eq fs k hlt, ← hff]
      have HLe : Hid (nameAt fs f.nm ≤ k) := by show nameAt fs f.nm ≤ k; rw [hff]; exact nameAt_le fs k hlt
      have HP : Hid (∀ W, Below wr.heap.size wr W → Calls Tryz.prog 82 #[.slice (some ⟨C, 0, none⟩) fs.length fs.length, .string f.nm] W fun e w' => e = .returned (.int .i64 (nameAt fs f.nm : Int)) ∧ Below W.heap.size W w') := by
        intro W h1
        refine (fieldPlace C fs f.nm W ((HF.out.later hW).later h1)).mono ?_
        rintro e w' ⟨⟨r, rfl, hr⟩, hb⟩
        rw [if_pos (Nat.lt_of_le_of_lt HLe.out hlt)] at hr
        rw [hr]
        exact ⟨rfl, hb⟩
      have HK : Hid (∀ W, Below wr.heap.size wr W → Calls Tryz.prog 83 #[.slice (some ⟨B, 0, none⟩) ss.length ss.length, .agg #[.string f.nm, .int .i64 f.kind, .int .i64 f.least, .int .i64 f.most, .slice (some ⟨b, 0, none⟩) f.words.length f.words.length, .string f.to, .int .i64 f.role, .bool f.must, .bool f.fixed, .string f.de, .string f.we]] W fun e w' => e = .returned (.bool (fieldOk ss f)) ∧ Below W.heap.size W w') :=
        fun W h1 => fieldOkI f b B ss W ((HS.out.later hW).later h1) (HFA.out.later h1)
      clear hff hfa
      cases hnm : Pl.nameOk f.nm
      · have HR : Hid (fieldsOk ss fs = false) := fieldsOk_false hlt (by rw [HT.out, hnm]; rfl)
        go_wp2_with (go_at_call 66; refine (isName_any _ _ HN.out).mono ?_; rintro e w' ⟨rfl, rfl⟩)
        go_ret
        exact ⟨Pl.ret_bool HR.out.symm, blw_alloc hW _⟩
      · have hbx : Below wr.heap.size wr (wr.alloc (.cells #[.string f.nm, .int .i64 f.kind, .int .i64 f.least, .int .i64 f.most, .slice (some ⟨b, 0, none⟩) f.words.length f.words.length, .string f.to, .int .i64 f.role, .bool f.must, .bool f.fixed, .string f.de, .string f.we] 84)) := blw_alloc (Below.refl _ _) _
        go_wp2_with (first | (go_at_call 66; refine (isName_any _ _ HN.out).mono ?_; rintro e w' ⟨rfl, rfl⟩) | fail)
        refine (HP.out _ hbx).mono ?_
        rintro e w2 ⟨rfl, hb2⟩
        have hB2 := blw_trans hbx hb2
        have k2 : ∀ o, w2.cell? ⟨wr.heap.size, o, none⟩ = (wr.alloc (.cells #[.string f.nm, .int .i64 f.kind, .int .i64 f.least, .int .i64 f.most, .slice (some ⟨b, 0, none⟩) f.words.length f.words.length, .string f.to, .int .i64 f.role, .bool f.must, .bool f.fixed, .string f.de, .string f.we] 84)).cell? ⟨wr.heap.size, o, none⟩ := fun o => hb2.cell (p := ⟨wr.heap.size, o, none⟩) (by simp)
        clear hb2 c0 c1 c2 c3 c4 c5 c6 c7 c8 c9 c10 HP hbx
        by_cases htw : nameAt fs f.nm < k
        · have HR : Hid (fieldsOk ss fs = false) := fieldsOk_false hlt (by rw [HT.out]; simp [htw])
          go_wp2
          go_ret
          exact ⟨Pl.ret_bool HR.out.symm, blw_trans hW hB2⟩
        · have hni : ¬ (nameAt fs f.nm : Int) < (k : Int) := by omega
          have HT2 : Hid (fieldAt ss fs k = fieldOk ss f) := by show fieldAt ss fs k = _; rw [HT.out, hnm]; simp [htw]
          go_wp2_with fail
          refine (HK.out _ hB2).mono ?_
          rintro e w3 ⟨rfl, hb3⟩
          have hB3 := blw_trans hW (blw_trans hB2 hb3)
          clear hb3 k2 hB2 HK htw
          cases hok : fieldOk ss f
          · have HR : Hid (fieldsOk ss fs = false) := fieldsOk_false hlt (by rw [HT2.out, hok])
            go_wp2
            go_ret
            exact ⟨Pl.ret_bool HR.out.symm, hB3⟩
          · have HR : Hid (fieldsTo ss fs (k + 1) = true) := fieldsTo_step HA.out (by rw [HT2.out, hok])
            go_wp2
            go_roundw
            case rel => exact ⟨k + 1, by omega, by go_num, HR.out, hB3⟩
            case measure => simp [intOf]; omega
    · have HR : Hid (fieldsOk ss fs = true) := by
        obtain rfl : k = fs.length := by omega
        show fieldsOk ss fs = true
        rw [fieldsOk, HA.out]; simp [h6]
      go_wp2
      go_ret
      exact ⟨Pl.ret_bool HR.out.symm, hW⟩

end Go.Proofs.YtfdahoekjpobaaaGreat

namespace Go.Proofs.YtfdahoekjpobaaaGreat
open Go.RowKit Go.Deep

theorem shapesOk_false {ss : List Shp} {k : Nat} (hk : k < ss.length) (h : shapeAt ss k = false) : shapesOk ss = false := by
  unfold shapesOk shapesTo; rw [Pl.to_false _ _ k hk h]; simp
theorem shapesTo_step {ss : List Shp} {k : Nat} (h : shapesTo ss k = true) (ha : shapeAt ss k = true) : shapesTo ss (k + 1) = true := by
  unfold shapesTo at h ⊢; rw [Pl.to_succ, h, ha]; rfl

theorem ShpsIn.flds {w : World} {B : Nat} {ss : List Shp} (h : ShpsIn w B ss) {i : Nat} (hi : i < ss.length) {s : Shp} (hs : s = ss.getD i Shp.none) :
    ∃ b, FldsIn w b s.fields ∧ s.kind.size ≤ maxLen ∧ w.cell? ⟨B, i * 2, none⟩ = some (.string s.kind) ∧ w.cell? ⟨B, i * 2 + 1, none⟩ = some (.slice (some ⟨b, 0, none⟩) s.fields.length s.fields.length) := by
  obtain ⟨b, h1, h2, h3, h4, h5, h6, h7⟩ := h.at_ i hi
  rw [← hs] at h3 h4 h5 h6 h7
  have hm : s.small := h.small s (by rw [hs]; simp [hi])
  exact ⟨b, ⟨h2, h3, hm.2, h7⟩, h4, h5, h6⟩

set_option maxHeartbeats 4000000 in
theorem shapesOkI (B : Nat) (ss : List Shp) (w : World) (h : ShpsIn w B ss) :
    Calls Tryz.prog 45 #[.slice (some ⟨B, 0, none⟩) ss.length ss.length] w fun e w' => e = .returned (.bool (shapesOk ss)) ∧ Below w.heap.size w w' := by
  have HS : Hid (ShpsIn w B ss) := h
  have hl := h.len
  clear h
  by_cases h6 : ss.length ≤ 6
  case neg =>
    have HR : Hid (shapesOk ss = false) := by show shapesOk ss = _; simp [shapesOk, h6]
    go_enter Tryz.func45, Tryz.ntmps45
    go_wp2
    go_ret
    exact ⟨Pl.ret_bool HR.out.symm, Below.refl _ _⟩
  go_enter Tryz.func45, Tryz.ntmps45
  go_wp2
  go_loopw [10] (fun i wr => ∃ k : Nat, k ≤ ss.length ∧ i = .int .i64 k ∧ shapesTo ss k = true ∧ Below w.heap.size w wr) (fun i _ => ss.length - (intOf i).toNat)
  case atStart => exact ⟨0, Nat.zero_le _, rfl, rfl, Below.refl _ _⟩
  case round =>
    obtain ⟨k, hk, rfl, hall, hW⟩ := hrel
    have HA : Hid (shapesTo ss k = true) := hall
    clear hall
    by_cases hlt : k < ss.length
    · obtain ⟨s, hss⟩ : ∃ s, s = ss.getD k Shp.none := ⟨_, rfl⟩
      obtain ⟨b, hfs, hkz, c0, c1⟩ := (HS.out.later hW).flds hlt hss
      have HN : Hid (s.kind.size ≤ maxLen) := hkz
      have HFo : Hid (∀ W, Below wr.heap.size wr W → Calls Tryz.prog 67 #[.slice (some ⟨B, 0, none⟩) ss.length ss.length, .slice (some ⟨b, 0, none⟩) s.fields.length s.fields.length] W fun e w' => e = .returned (.bool (fieldsOk ss s.fields)) ∧ Below W.heap.size W w') :=
        fun W h1 => fieldsOkI B b ss s.fields W ((HS.out.later hW).later h1) (hfs.later h1)
      clear hkz hfs
      have hbx : Below wr.heap.size wr (wr.alloc (.cells #[.string s.kind, .slice (some ⟨b, 0, none⟩) s.fields.length s.fields.length] 56)) := blw_alloc (Below.refl _ _) _
      by_cases h0 : k = 0
      · subst h0
        have HT : Hid (shapeAt ss 0 = (Pl.nameOk s.kind && fieldsOk ss s.fields)) := by show shapeAt ss 0 = _; rw [hss]; simp [shapeAt]
        clear hss
        cases hn : Pl.nameOk s.kind
        · have HR : Hid (shapesOk ss = false) := shapesOk_false hlt (by rw [HT.out, hn]; rfl)
          go_wp2_with fail
          go_quiet ((go_at_call 66; exact Calls.quiet_of_same (isName_same _ _ HN.out)))
          go_wp2
          go_ret
          exact ⟨Pl.ret_bool HR.out.symm, blw_drewN (blw_trans hW hbx) _⟩
        · go_wp2_with fail
          go_quiet ((go_at_call 66; exact Calls.quiet_of_same (isName_same _ _ HN.out)))
          go_wp2_with fail
          refine (HFo.out _ (blw_drewN hbx _)).mono ?_
          rintro e w3 ⟨rfl, hb3⟩
          have hB3 := blw_trans hW (blw_trans (blw_drewN hbx _) hb3)
          clear hb3 hbx HFo c0 c1
          cases hok : fieldsOk ss s.fields
          · have HR : Hid (shapesOk ss = false) := shapesOk_false hlt (by rw [HT.out, hok]; simp)
            go_wp2
            go_ret
            exact ⟨Pl.ret_bool HR.out.symm, hB3⟩
          · have HR : Hid (shapesTo ss (0 + 1) = true) := shapesTo_step HA.out (by rw [HT.out, hn, hok]; rfl)
            go_wp2
            go_roundw
            case rel => exact ⟨0 + 1, by omega, by go_num, HR.out, hB3⟩
            case measure => simp [intOf]; omega
      · obtain ⟨m, rfl⟩ : ∃ m, k = m + 1 := ⟨k - 1, by omega⟩
        obtain ⟨p, hpp⟩ : ∃ p, p = ss.getD m Shp.none := ⟨_, rfl⟩
        obtain ⟨b', _, _, d0, _⟩ := (HS.out.later hW).flds (by omega : m < ss.length) hpp
        have HT : Hid (shapeAt ss (m + 1) = (Pl.nameOk s.kind && Op.bytesLess p.kind.toList s.kind.toList && fieldsOk ss s.fields)) := by show shapeAt ss (m + 1) = _; rw [hss, hpp]; simp [shapeAt, Pl.less]
        have HBl : Hid (B < wr.heap.size) := Nat.lt_of_lt_of_le HS.out.lt hW.size
        have hBl : B < wr.heap.size := HBl.out
        clear hss hpp h0
        cases hn : Pl.nameOk s.kind
        · have HR : Hid (shapesOk ss = false) := shapesOk_false hlt (by rw [HT.out, hn]; rfl)
          go_wp2_with fail
          go_quiet ((go_at_call 66; exact Calls.quiet_of_same (isName_same _ _ HN.out)))
          go_wp2
          go_ret
          exact ⟨Pl.ret_bool HR.out.symm, blw_drewN (blw_trans hW hbx) _⟩
        · cases hq : Op.bytesLess p.kind.toList s.kind.toList
          · have HR : Hid (shapesOk ss = false) := shapesOk_false hlt (by rw [HT.out, hn, hq]; rfl)
            go_wp2_with fail
            go_quiet ((go_at_call 66; exact Calls.quiet_of_same (isName_same _ _ HN.out)))
            go_wp2
            go_ret
            exact ⟨Pl.ret_bool HR.out.symm, blw_drewN (blw_trans hW hbx) _⟩
          · go_wp2_with fail
            go_quiet ((go_at_call 66; exact Calls.quiet_of_same (isName_same _ _ HN.out)))
            go_wp2_with fail
            refine (HFo.out _ (blw_drewN hbx _)).mono ?_
            rintro e w3 ⟨rfl, hb3⟩
            have hB3 := blw_trans hW (blw_trans (blw_drewN hbx _) hb3)
            clear hb3 hbx HFo c0 c1 d0
            cases hok : fieldsOk ss s.fields
            · have HR : Hid (shapesOk ss = false) := shapesOk_false hlt (by rw [HT.out, hok]; simp)
              go_wp2
              go_ret
              exact ⟨Pl.ret_bool HR.out.symm, hB3⟩
            · have HR : Hid (shapesTo ss (m + 1 + 1) = true) := shapesTo_step HA.out (by rw [HT.out, hn, hq, hok]; rfl)
              go_wp2
              go_roundw
              case rel => exact ⟨m + 1 + 1, by omega, by go_num, HR.out, hB3⟩
              case measure => simp [intOf]; omega
    · have HR : Hid (shapesOk ss = true) := by
        obtain rfl : k = ss.length := by omega
        show shapesOk ss = true
        rw [shapesOk, HA.out]; simp [h6]
      go_wp2
      go_ret
      exact ⟨Pl.ret_bool HR.out.symm, hW⟩

end Go.Proofs.YtfdahoekjpobaaaGreat
