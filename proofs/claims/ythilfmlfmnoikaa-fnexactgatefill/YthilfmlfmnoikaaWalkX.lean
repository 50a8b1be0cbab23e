/-
  Walks: shapes that are ok: the program.
-/
import Derived.Test.YthilfmlfmnoikaaWalkW
namespace Go.Proofs.Ythilfmlfmnoikaa
open Go.RowKit Go.Deep

theorem shapesOk_false {ss : List Shp} {k : Nat} (hk : k < ss.length) (h : shapeAt ss k = false) : shapesOk ss = false := by
  unfold shapesOk shapesTo; rw [Pl.to_false _ _ k hk h]; simp
theorem shapesTo_step {ss : List Shp} {k : Nat} (h : shapesTo ss k = true) (ha : shapeAt ss k = true) : shapesTo ss (k + 1) = true := by
  unfold shapesTo at h ⊢; rw [Pl.to_succ, h, ha]; rfl

theorem ShpsIn.flds {w : World} {B : Nat} {ss : List Shp} (h : ShpsIn w B ss) {i : Nat} (hi : i < ss.length) {s : Shp} (hs : s = ss.getD i Shp.none) :
    ∃ b, FldsIn w b s.fields ∧ s.kind.size ≤ maxLen ∧ w.cell? ⟨B, i * 2, none⟩ = some (.string s.kind) ∧ w.cell? ⟨B, i * 2 + 1, none⟩ = some (.slice (some ⟨b, 0, none⟩) s.fields.length s.fields.length) := by
  obtain ⟨b, h1, h2, h3, h4, h5, h6, h7⟩ := h.at_ i hi
  rw [← hs] at h3 h4 h5 h6 h7
  have hm : s.small := h.small s (by rw [hs]; simp [hi])
  exact ⟨b, ⟨h2, h3, hm.2, h7⟩, h4, h5, h6⟩

set_option maxHeartbeats 4000000 in
theorem shapesOkI (B : Nat) (ss : List Shp) (w : World) (h : ShpsIn w B ss) :
    Calls Try.prog 36 #[.slice (some ⟨B, 0, none⟩) ss.length ss.length] w fun e w' => e = .returned (.bool (shapesOk ss)) ∧ Below w.heap.size w w' := by
  have HS : Hid (ShpsIn w B ss) := h
  have hl := h.len
  clear h
  by_cases h6 : ss.length ≤ 6
  case neg =>
    have HR : Hid (shapesOk ss = false) := by show shapesOk ss = _; simp [shapesOk, h6]
    go_enter Try.func36, Try.ntmps36
    go_wp2
    go_ret
    exact ⟨Pl.ret_bool HR.out.symm, Below.refl _ _⟩
  go_enter Try.func36, Try.ntmps36
  go_wp2
  go_loopw [10] (fun i wr => ∃ k : Nat, k ≤ ss.length ∧ i = .int .i64 k ∧ shapesTo ss k = true ∧ Below w.heap.size w wr) (fun i _ => ss.length - (intOf i).toNat)
  case atStart => exact ⟨0, Nat.zero_le _, rfl, rfl, Below.refl _ _⟩
  case round =>
    obtain ⟨k, hk, rfl, hall, hW⟩ := hrel
    have HA : Hid (shapesTo ss k = true) := hall
    clear hall
    by_cases hlt : k < ss.length
    · obtain ⟨s, hss⟩ : ∃ s, s = ss.getD k Shp.none := ⟨_, rfl⟩
      obtain ⟨b, hfs, hkz, c0, c1⟩ := (HS.out.later hW).flds hlt hss
      have HN : Hid (s.kind.size ≤ maxLen) := hkz
      have HFo : Hid (∀ W, Below wr.heap.size wr W → Calls Try.prog 49 #[.slice (some ⟨B, 0, none⟩) ss.length ss.length, .slice (some ⟨b, 0, none⟩) s.fields.length s.fields.length] W fun e w' => e = .returned (.bool (fieldsOk ss s.fields)) ∧ Below W.heap.size W w') :=
        fun W h1 => fieldsOkI B b ss s.fields W ((HS.out.later hW).later h1) (hfs.later h1)
      clear hkz hfs
      have hbx : Below wr.heap.size wr (wr.alloc (.cells #[.string s.kind, .slice (some ⟨b, 0, none⟩) s.fields.length s.fields.length] 47)) := blw_alloc (Below.refl _ _) _
      by_cases h0 : k = 0
      · subst h0
        have HT : Hid (shapeAt ss 0 = (Pl.nameOk s.kind && fieldsOk ss s.fields)) := by show shapeAt ss 0 = _; rw [hss]; simp [shapeAt]
        clear hss
        cases hn : Pl.nameOk s.kind
        · have HR : Hid (shapesOk ss = false) := shapesOk_false hlt (by rw [HT.out, hn]; rfl)
          go_wp2_with fail
          go_quiet ((go_at_call 48; exact Calls.quiet_of_same (isName_same _ _ HN.out)))
          go_wp2
          go_ret
          exact ⟨Pl.ret_bool HR.out.symm, blw_drewN (blw_trans hW hbx) _⟩
        · go_wp2_with fail
          go_quiet ((go_at_call 48; exact Calls.quiet_of_same (isName_same _ _ HN.out)))
          go_wp2_with fail
          refine (HFo.out _ (blw_drewN hbx _)).mono ?_
          rintro e w3 ⟨rfl, hb3⟩
          have hB3 := blw_trans hW (blw_trans (blw_drewN hbx _) hb3)
          clear hb3 hbx HFo c0 c1
          cases hok : fieldsOk ss s.fields
          · have HR : Hid (shapesOk ss = false) := shapesOk_false hlt (by rw [HT.out, hok]; simp)
            go_wp2
            go_ret
            exact ⟨Pl.ret_bool HR.out.symm, hB3⟩
          · have HR : Hid (shapesTo ss (0 + 1) = true) := shapesTo_step HA.out (by rw [HT.out, hn, hok]; rfl)
            go_wp2
            go_roundw
            case rel => exact ⟨0 + 1, by omega, by go_num, HR.out, hB3⟩
            case measure => simp [intOf]; omega
      · obtain ⟨m, rfl⟩ : ∃ m, k = m + 1 := ⟨k - 1, by omega⟩
        obtain ⟨p, hpp⟩ : ∃ p, p = ss.getD m Shp.none := ⟨_, rfl⟩
        obtain ⟨b', _, _, d0, _⟩ := (HS.out.later hW).flds (by omega : m < ss.length) hpp
        have HT : Hid (shapeAt ss (m + 1) = (Pl.nameOk s.kind && Op.bytesLess p.kind.toList s.kind.toList && fieldsOk ss s.fields)) := by show shapeAt ss (m + 1) = _; rw [hss, hpp]; simp [shapeAt, Pl.less]
        have HBl : Hid (B < wr.heap.size) := Nat.lt_of_lt_of_le HS.out.lt hW.size
        have hBl : B < wr.heap.size := HBl.out
        clear hss hpp h0
        cases hn : Pl.nameOk s.kind
        · have HR : Hid (shapesOk ss = false) := shapesOk_false hlt (by rw [HT.out, hn]; rfl)
          go_wp2_with fail
          go_quiet ((go_at_call 48; exact Calls.quiet_of_same (isName_same _ _ HN.out)))
          go_wp2
          go_ret
          exact ⟨Pl.ret_bool HR.out.symm, blw_drewN (blw_trans hW hbx) _⟩
        · cases hq : Op.bytesLess p.kind.toList s.kind.toList
          · have HR : Hid (shapesOk ss = false) := shapesOk_false hlt (by rw [HT.out, hn, hq]; rfl)
            go_wp2_with fail
            go_quiet ((go_at_call 48; exact Calls.quiet_of_same (isName_same _ _ HN.out)))
            go_wp2
            go_ret
            exact ⟨Pl.ret_bool HR.out.symm, blw_drewN (blw_trans hW hbx) _⟩
          · go_wp2_with fail
            go_quiet ((go_at_call 48; exact Calls.quiet_of_same (isName_same _ _ HN.out)))
            go_wp2_with fail
            refine (HFo.out _ (blw_drewN hbx _)).mono ?_
            rintro e w3 ⟨rfl, hb3⟩
            have hB3 := blw_trans hW (blw_trans (blw_drewN hbx _) hb3)
            clear hb3 hbx HFo c0 c1 d0
            cases hok : fieldsOk ss s.fields
            · have HR : Hid (shapesOk ss = false) := shapesOk_false hlt (by rw [HT.out, hok]; simp)
              go_wp2
              go_ret
              exact ⟨Pl.ret_bool HR.out.symm, hB3⟩
            · have HR : Hid (shapesTo ss (m + 1 + 1) = true) := shapesTo_step HA.out (by rw [HT.out, hn, hq, hok]; rfl)
              go_wp2
              go_roundw
              case rel => exact ⟨m + 1 + 1, by omega, by go_num, HR.out, hB3⟩
              case measure => simp [intOf]; omega
    · have HR : Hid (shapesOk ss = true) := by
        obtain rfl : k = ss.length := by omega
        show shapesOk ss = true
        rw [shapesOk, HA.out]; simp [h6]
      go_wp2
      go_ret
      exact ⟨Pl.ret_bool HR.out.symm, hW⟩

end Go.Proofs.Ythilfmlfmnoikaa
