/-
  Walks: shapes that are ok: the specification.
-/
import Derived.Test.YtfdahoekjpobaaaGreatWalkX
namespace Go.Proofs.YtfdahoekjpobaaaGreat
open Go.RowKit Go.Deep

set_option maxHeartbeats 2000000 in
theorem l1Bare_0 (f : Fld) (b : Nat) (w : World) (hs : f.small) (h1 : (f.kind == 1) = false) (h2 : (f.kind == 2) = false) (h3 : (f.kind == 3) = false) (h4 : (f.kind == 4) = false) :
    Calls Tryz.prog 78 #[.agg #[.string f.nm, .int .i64 f.kind, .int .i64 f.least, .int .i64 f.most, .slice (some ⟨b, 0, none⟩) f.words.length f.words.length, .string f.to, .int .i64 f.role, .bool f.must, .bool f.fixed, .string f.de, .string f.we]] w fun e w' => (∃ r : Bool, e = .returned (.bool r)) ∧ Below w.heap.size w w' := by
  have hs' : f.words.length ≤ 1048576 := hs
  have g1 : (f.kind != 1) = true := by simp [bne, h1]
  have g2 : (f.kind != 2) = true := by simp [bne, h2]
  clear hs
  go_enter Tryz.func78, Tryz.ntmps78
  go_wp2
  all_goals go_ret
  all_goals exact ⟨⟨_, rfl⟩, blw_alloc (Below.refl _ _) _⟩

set_option maxHeartbeats 4000000 in
theorem fieldOkS_0 (f : Fld) (b : Nat) (v : Value) (ss : List Shp) (w : World) (hp : FldArg w b f) (h1 : (f.kind == 1) = false) (h2 : (f.kind == 2) = false) (h3 : (f.kind == 3) = false) (h4 : (f.kind == 4) = false) :
    Calls Tryz.prog 56 #[v, .agg #[.string f.nm, .int .i64 f.kind, .int .i64 f.least, .int .i64 f.most, .slice (some ⟨b, 0, none⟩) f.words.length f.words.length, .string f.to, .int .i64 f.role, .bool f.must, .bool f.fixed, .string f.de, .string f.we]] w fun e w' => e = .returned (.bool (Pl.nameOk f.nm && fieldOk ss f)) ∧ Below w.heap.size w w' := by
  have HP : Hid (FldArg w b f) := hp
  have hfo : fieldOk ss f = false := by
    simp only [beq_eq_false_iff_ne, ne_eq] at h1 h2 h3 h4
    have : isKind f.kind = false := by rw [Bool.eq_false_iff]; simp [isKind]; omega
    simp [fieldOk, this]
  have HBa : Hid (∀ W, Calls Tryz.prog 78 #[.agg #[.string f.nm, .int .i64 f.kind, .int .i64 f.least, .int .i64 f.most, .slice (some ⟨b, 0, none⟩) f.words.length f.words.length, .string f.to, .int .i64 f.role, .bool f.must, .bool f.fixed, .string f.de, .string f.we]] W fun e w' => (∃ r : Bool, e = .returned (.bool r)) ∧ Below W.heap.size W w') := fun W => l1Bare_0 f b W HP.out.small h1 h2 h3 h4
  have HFi : Hid (∀ W, Below w.heap.size w W → Calls Tryz.prog 59 #[.agg #[.string f.nm, .int .i64 f.kind, .int .i64 f.least, .int .i64 f.most, .slice (some ⟨b, 0, none⟩) f.words.length f.words.length, .string f.to, .int .i64 f.role, .bool f.must, .bool f.fixed, .string f.de, .string f.we], .string f.de] W fun e w' => e = .returned (.bool (fitB f f.de)) ∧ Below W.heap.size W w') := by
    intro W hW
    have Q := HP.out.later hW
    exact specFits_any f.nm f.kind f.least f.most b 0 f.words.length f.to f.role f.must f.fixed f.de f.we f.de f.words W Q.sized.2.2.1 Q.lt (by have : f.words.length ≤ 1048576 := Q.small; unfold maxLen; omega) Q.cells
  have hR : (Pl.nameOk f.nm && fieldOk ss f) = false := by rw [hfo]; simp
  rw [hR]
  have HN : Hid (f.nm.size ≤ maxLen) := HP.out.sized.1
  clear hp hfo hR HP
  cases hnm : Pl.nameOk f.nm
  · go_enter Tryz.func56, Tryz.ntmps56
    go_wp2_with (go_at_call 55; refine (l1NameOk_any _ _ HN.out).mono ?_; rintro e w' ⟨rfl, rfl⟩)
    go_ret
    exact ⟨rfl, blw_alloc (Below.refl _ _) _⟩
  go_enter Tryz.func56, Tryz.ntmps56
  go_wp2_with (go_at_call 55; refine (l1NameOk_any _ _ HN.out).mono ?_; rintro e w' ⟨rfl, rfl⟩)
  refine (HBa.out _).mono ?_
  rintro e w2 ⟨⟨r, rfl⟩, hb2⟩
  have hB2 := blw_trans (blw_alloc (Below.refl w.heap.size w) (.cells #[.string f.nm, .int .i64 f.kind, .int .i64 f.least, .int .i64 f.most, .slice (some ⟨b, 0, none⟩) f.words.length f.words.length, .string f.to, .int .i64 f.role, .bool f.must, .bool f.fixed, .string f.de, .string f.we] 84)) hb2
  have k2 : ∀ o, w2.cell? ⟨w.heap.size, o, none⟩ = (w.alloc (.cells #[.string f.nm, .int .i64 f.kind, .int .i64 f.least, .int .i64 f.most, .slice (some ⟨b, 0, none⟩) f.words.length f.words.length, .string f.to, .int .i64 f.role, .bool f.must, .bool f.fixed, .string f.de, .string f.we] 84)).cell? ⟨w.heap.size, o, none⟩ := fun o => hb2.cell (p := ⟨w.heap.size, o, none⟩) (by simp)
  have z2 : w.heap.size < w2.heap.size := by have := hb2.size; simp at this; omega
  clear hb2 HBa HN
  cases r
  · go_wp2
    go_ret
    exact ⟨rfl, hB2⟩
  cases hem : f.de.toList.isEmpty
  · cases hfi : fitB f f.de
    all_goals
      go_wp2_with fail
      refine (HFi.out _ hB2).mono ?_
      rintro e w3 ⟨rfl, hb3⟩
      have hB3 := blw_trans hB2 hb3
      have k3 : ∀ o, w3.cell? ⟨w.heap.size, o, none⟩ = (w.alloc (.cells #[.string f.nm, .int .i64 f.kind, .int .i64 f.least, .int .i64 f.most, .slice (some ⟨b, 0, none⟩) f.words.length f.words.length, .string f.to, .int .i64 f.role, .bool f.must, .bool f.fixed, .string f.de, .string f.we] 84)).cell? ⟨w.heap.size, o, none⟩ := fun o => (hb3.cell (p := ⟨w.heap.size, o, none⟩) z2).trans (k2 o)
      clear hb3 k2 HFi hB2 z2
      go_wp2
      go_ret
      exact ⟨rfl, hB3⟩
  · go_wp2
    go_ret
    exact ⟨rfl, hB2⟩

theorem fieldOkS (f : Fld) (b B : Nat) (ss : List Shp) (w : World) (h : ShpsIn w B ss) (hp : FldArg w b f) :
    Calls Tryz.prog 56 #[.slice (some ⟨B, 0, none⟩) ss.length ss.length, .agg #[.string f.nm, .int .i64 f.kind, .int .i64 f.least, .int .i64 f.most, .slice (some ⟨b, 0, none⟩) f.words.length f.words.length, .string f.to, .int .i64 f.role, .bool f.must, .bool f.fixed, .string f.de, .string f.we]] w fun e w' => e = .returned (.bool (Pl.nameOk f.nm && fieldOk ss f)) ∧ Below w.heap.size w w' := by
  by_cases h1 : f.kind = 1
  · have := fieldOkS_1 f b B ss w h1 h hp; rw [← h1] at this; exact this
  by_cases h2 : f.kind = 2
  · have := fieldOkS_2 f b B ss w h2 h hp; rw [← h2] at this; exact this
  by_cases h3 : f.kind = 3
  · have := fieldOkS_3 f b B ss w h3 h hp; rw [← h3] at this; exact this
  by_cases h4 : f.kind = 4
  · have := fieldOkS_4 f b B ss w h4 h hp; rw [← h4] at this; exact this
  exact fieldOkS_0 f b _ ss w hp (by simp [h1]) (by simp [h2]) (by simp [h3]) (by simp [h4])

end Go.Proofs.YtfdahoekjpobaaaGreat

namespace Go.Proofs.YtfdahoekjpobaaaGreat
open Go.RowKit Go.Deep

set_option maxHeartbeats 8000000 in
theorem shapesOkS (B : Nat) (ss : List Shp) (w : World) (h : ShpsIn w B ss) :
    Calls Tryz.prog 39 #[.slice (some ⟨B, 0, none⟩) ss.length ss.length] w fun e w' => e = .returned (.bool (shapesOk ss)) ∧ Below w.heap.size w w' := by
  have HS : Hid (ShpsIn w B ss) := h
  have hl := h.len
  clear h
  by_cases h6 : ss.length ≤ 6
  case neg =>
    have HR : Hid (shapesOk ss = false) := by show shapesOk ss = _; simp [shapesOk, h6]
    go_enter Tryz.func39, Tryz.ntmps39
    go_wp2
    go_ret
    exact ⟨Pl.ret_bool HR.out.symm, Below.refl _ _⟩
  go_enter Tryz.func39, Tryz.ntmps39
  go_wp2
  go_loopw [3] (fun i wr => ∃ k : Nat, k ≤ ss.length ∧ i = .int .i64 k ∧ shapesTo ss k = true ∧ Below w.heap.size w wr) (fun i _ => ss.length - (intOf i).toNat)
  case atStart => exact ⟨0, Nat.zero_le _, rfl, rfl, Below.refl _ _⟩
  case round =>
    obtain ⟨k, hk, rfl, hall, hW⟩ := hrel
    obtain ⟨wo, rfl⟩ : ∃ wo : World, wo = wr := ⟨_, rfl⟩
    have HA : Hid (shapesTo ss k = true) := hall
    clear hall
    by_cases hlt : k < ss.length
    · obtain ⟨s, hss⟩ : ∃ s, s = ss.getD k Shp.none := ⟨_, rfl⟩
      obtain ⟨b, hfs, hkz, c0, c1⟩ := (HS.out.later hW).flds hlt hss
      have HN : Hid (s.kind.size ≤ maxLen) := hkz
      have HFL : Hid (FldsIn wo b s.fields) := hfs
      have hsl := hfs.len
      clear hkz hfs
      have hbx : Below wo.heap.size wo (wo.alloc (.cells #[.string s.kind, .slice (some ⟨b, 0, none⟩) s.fields.length s.fields.length] 56)) := blw_alloc (Below.refl _ _) _
      by_cases h0 : k = 0
      · subst h0
        have HT : Hid (shapeAt ss 0 = (Pl.nameOk s.kind && fieldsOk ss s.fields)) := by show shapeAt ss 0 = _; rw [hss]; simp [shapeAt]
        clear hss
        cases hn : Pl.nameOk s.kind
        · have HR : Hid (shapesOk ss = false) := shapesOk_false hlt (by rw [HT.out, hn]; rfl)
          go_wp2_with fail
          go_quiet ((go_at_call 55; exact Calls.quiet_of_same (nameOk_same _ _ HN.out)))
          go_wp2
          go_ret
          exact ⟨Pl.ret_bool HR.out.symm, blw_drewN (blw_trans hW hbx) _⟩
        · by_cases h6f : s.fields.length ≤ 6
          case neg =>
            have hd6 : decide ((6 : Int) < (s.fields.length : Int)) = true := by simp; omega
            have HR : Hid (shapesOk ss = false) := shapesOk_false hlt (by rw [HT.out]; simp [fieldsOk, h6f])
            go_wp2_with fail
            go_quiet ((go_at_call 55; exact Calls.quiet_of_same (nameOk_same _ _ HN.out)))
            go_wp2
            go_ret
            exact ⟨Pl.ret_bool HR.out.symm, blw_drewN (blw_trans hW hbx) _⟩
          have hd6 : decide ((6 : Int) < (s.fields.length : Int)) = false := by simp; omega
          go_wp2_with fail
          go_quiet ((go_at_call 55; exact Calls.quiet_of_same (nameOk_same _ _ HN.out)))
          go_wp2
          have HNM : Hid (Pl.nameOk s.kind = true) := hn
          clear hn hd6
          go_loopw [5] (fun i wr => ∃ q : Nat, q ≤ s.fields.length ∧ i = .int .i64 q ∧ fieldsTo ss s.fields q = true ∧ Below wo.heap.size wo wr ∧ wo.heap.size < wr.heap.size ∧ ∀ o, wr.cell? ⟨wo.heap.size, o, none⟩ = (wo.alloc (.cells #[.string s.kind, .slice (some ⟨b, 0, none⟩) s.fields.length s.fields.length] 56)).cell? ⟨wo.heap.size, o, none⟩) (fun i _ => s.fields.length - (intOf i).toNat)
          case atStart => exact ⟨0, Nat.zero_le _, rfl, rfl, blw_drewN hbx _, by show wo.heap.size < (wo.alloc (.cells #[.string s.kind, .slice (some ⟨b, 0, none⟩) s.fields.length s.fields.length] 56)).heap.size; simp, fun o => rfl⟩
          case round =>
            obtain ⟨q, hq, rfl, hfq, hM, hz, kM⟩ := hrel
            have HQ : Hid (fieldsTo ss s.fields q = true) := hfq
            clear hfq
            by_cases hqlt : q < s.fields.length
            · obtain ⟨f, hff⟩ : ∃ f, f = s.fields.getD q Fld.none := ⟨_, rfl⟩
              obtain ⟨b2, hfa, hfi⟩ := (HFL.out.later hM).arg hqlt hff
              have HT3 : Hid (fieldAt ss s.fields q = (Pl.nameOk f.nm && fieldOk ss f && !decide (nameAt s.fields f.nm < q))) := by
                show fieldAt ss s.fields q = _
                rw [fieldAt, twice_eq s.fields q hqlt, ← hff]
              have HX : Hid (Calls Tryz.prog 56 #[.slice (some ⟨B, 0, none⟩) ss.length ss.length, .agg #[.string f.nm, .int .i64 f.kind, .int .i64 f.least, .int .i64 f.most, .slice (some ⟨b2, 0, none⟩) f.words.length f.words.length, .string f.to, .int .i64 f.role, .bool f.must, .bool f.fixed, .string f.de, .string f.we]] wr fun e w' => e = .returned (.bool (Pl.nameOk f.nm && fieldOk ss f)) ∧ Below wr.heap.size wr w') :=
                fieldOkS f b2 B ss wr ((HS.out.later hW).later hM) hfa
              have HFF : Hid (f = s.fields.getD q Fld.none) := hff
              obtain ⟨c0, c1, c2, c3, c4, c5, c6, c7, c8, c9, c10, _, _⟩ := hfi
              clear hff hfa
              go_wp2_with fail
              refine HX.out.mono ?_
              rintro e w2 ⟨rfl, hb2⟩
              have hM2 := blw_trans hM hb2
              have hz2 : wo.heap.size < w2.heap.size := Nat.lt_of_lt_of_le hz hb2.size
              have k2 : ∀ o, w2.cell? ⟨wo.heap.size, o, none⟩ = (wo.alloc (.cells #[.string s.kind, .slice (some ⟨b, 0, none⟩) s.fields.length s.fields.length] 56)).cell? ⟨wo.heap.size, o, none⟩ := fun o => (hb2.cell (p := ⟨wo.heap.size, o, none⟩) hz).trans (kM o)
              clear hb2 HX c0 c1 c2 c3 c4 c5 c6 c7 c8 c9 c10 kM hz hM
              cases hok : (Pl.nameOk f.nm && fieldOk ss f)
              · have HR : Hid (shapesOk ss = false) := by
                  have h1 : fieldsOk ss s.fields = false := fieldsOk_false hqlt (by rw [HT3.out, hok]; rfl)
                  exact shapesOk_false hlt (by rw [HT.out, h1]; simp)
                go_wp2
                go_ret
                exact ⟨Pl.ret_bool HR.out.symm, blw_trans hW hM2⟩
              · go_wp2
                go_loopw [6] (fun i wr => ∃ j : Nat, j ≤ q ∧ i = .int .i64 j ∧ j ≤ nameAt s.fields f.nm ∧ Below wo.heap.size wo wr ∧ wo.heap.size < wr.heap.size ∧ ∀ o, wr.cell? ⟨wo.heap.size, o, none⟩ = (wo.alloc (.cells #[.string s.kind, .slice (some ⟨b, 0, none⟩) s.fields.length s.fields.length] 56)).cell? ⟨wo.heap.size, o, none⟩) (fun i _ => q - (intOf i).toNat)
                case atStart => exact ⟨0, Nat.zero_le _, rfl, Nat.zero_le _, hM2, hz2, k2⟩
                case round =>
                  obtain ⟨j, hj, rfl, hjn, hM3, hz3, k3⟩ := hrel
                  have HJ : Hid (j ≤ nameAt s.fields f.nm) := hjn
                  clear hjn k2
                  by_cases hjq : j < q
                  · obtain ⟨g, hgg⟩ : ∃ g, g = s.fields.getD j Fld.none := ⟨_, rfl⟩
                    obtain ⟨b3, _, hgi⟩ := (HFL.out.later hM3).arg (by omega : j < s.fields.length) hgg
                    obtain ⟨b4, _, hfi⟩ := (HFL.out.later hM3).arg hqlt HFF.out
                    have g0 := hgi.c0
                    have f0 := hfi.c0
                    clear hgi hfi
                    cases heq : (g.nm.toList == f.nm.toList)
                    · have HM : Hid (j + 1 ≤ nameAt s.fields f.nm) := nameAt_miss s.fields f.nm j (by omega) HJ.out (by rw [← hgg]; exact heq)
                      clear hgg
                      go_wp2_with fail
                      go_quiet (fail)
                      go_wp2
                      go_roundw
                      case rel => exact ⟨j + 1, by omega, by go_num, HM.out, blw_drewN hM3 _, hz3, k3⟩
                      case measure => simp [intOf]; omega
                    · have HM : Hid (nameAt s.fields f.nm = j) := nameAt_hit s.fields f.nm j (by omega) HJ.out (by rw [← hgg]; exact heq)
                      have HR : Hid (shapesOk ss = false) := by
                        have h1 : fieldsOk ss s.fields = false := fieldsOk_false hqlt (by rw [HT3.out, HM.out]; simp [hjq])
                        exact shapesOk_false hlt (by rw [HT.out, h1]; simp)
                      clear hgg
                      go_wp2_with fail
                      go_quiet (fail)
                      go_wp2
                      go_ret
                      exact ⟨Pl.ret_bool HR.out.symm, blw_trans hW (blw_drewN hM3 _)⟩
                  · have HR : Hid (fieldsTo ss s.fields (q + 1) = true) := by
                      have hnl : ¬ nameAt s.fields f.nm < q := by have := HJ.out; omega
                      exact fieldsTo_step HQ.out (by rw [HT3.out, hok]; simp [hnl])
                    go_wp2
                    go_roundw
                    case rel => first | exact ⟨q + 1, by omega, by go_num, HR.out, hM3, hz3, k3⟩ | ((repeat apply Exists.intro); exact ⟨⟨q + 1, by omega, by go_num, HR.out, hM3, hz3, k3⟩, rfl⟩)
                    case measure => simp [intOf]; omega
            · have HR : Hid (shapesTo ss (0 + 1) = true) := by
                obtain rfl : q = s.fields.length := by omega
                have h1 : fieldsOk ss s.fields = true := by rw [fieldsOk, HQ.out]; simp [h6f]
                exact shapesTo_step HA.out (by rw [HT.out, HNM.out, h1]; rfl)
              go_wp2
              go_roundw
              case rel => first | exact ⟨0 + 1, by omega, by go_num, HR.out, blw_trans hW hM⟩ | ((repeat apply Exists.intro); exact ⟨⟨0 + 1, by omega, by go_num, HR.out, blw_trans hW hM⟩, rfl⟩)
              case measure => simp [intOf]; omega
      · obtain ⟨m, rfl⟩ : ∃ m, k = m + 1 := ⟨k - 1, by omega⟩
        obtain ⟨p, hpp⟩ : ∃ p, p = ss.getD m Shp.none := ⟨_, rfl⟩
        obtain ⟨b', _, _, d0, _⟩ := (HS.out.later hW).flds (by omega : m < ss.length) hpp
        have HT : Hid (shapeAt ss (m + 1) = (Pl.nameOk s.kind && Op.bytesLess p.kind.toList s.kind.toList && fieldsOk ss s.fields)) := by show shapeAt ss (m + 1) = _; rw [hss, hpp]; simp [shapeAt, Pl.less]
        have hBl : B < wo.heap.size := Nat.lt_of_lt_of_le HS.out.lt hW.size
        have hmi : decide ((m : Int) + 1 < (ss.length : Int)) = true := by simp; omega
        clear hss hpp h0
        cases hn : Pl.nameOk s.kind
        · have HR : Hid (shapesOk ss = false) := shapesOk_false hlt (by rw [HT.out, hn]; rfl)
          go_wp2_with fail
          go_quiet ((go_at_call 55; exact Calls.quiet_of_same (nameOk_same _ _ HN.out)))
          go_wp2
          go_ret
          exact ⟨Pl.ret_bool HR.out.symm, blw_drewN (blw_trans hW hbx) _⟩
        · cases hq : Op.bytesLess p.kind.toList s.kind.toList
          · have HR : Hid (shapesOk ss = false) := shapesOk_false hlt (by rw [HT.out, hn, hq]; rfl)
            go_wp2_with fail
            go_quiet ((go_at_call 55; exact Calls.quiet_of_same (nameOk_same _ _ HN.out)))
            go_wp2
            go_ret
            exact ⟨Pl.ret_bool HR.out.symm, blw_drewN (blw_trans hW hbx) _⟩
          by_cases h6f : s.fields.length ≤ 6
          case neg =>
            have hd6 : decide ((6 : Int) < (s.fields.length : Int)) = true := by simp; omega
            have HR : Hid (shapesOk ss = false) := shapesOk_false hlt (by rw [HT.out]; simp [fieldsOk, h6f])
            go_wp2_with fail
            go_quiet ((go_at_call 55; exact Calls.quiet_of_same (nameOk_same _ _ HN.out)))
            go_wp2
            go_ret
            exact ⟨Pl.ret_bool HR.out.symm, blw_drewN (blw_trans hW hbx) _⟩
          have hd6 : decide ((6 : Int) < (s.fields.length : Int)) = false := by simp; omega
          go_wp2_with fail
          go_quiet ((go_at_call 55; exact Calls.quiet_of_same (nameOk_same _ _ HN.out)))
          go_wp2
          have HNM : Hid (Pl.nameOk s.kind = true ∧ Op.bytesLess p.kind.toList s.kind.toList = true) := ⟨hn, hq⟩
          clear hn hd6 hq d0
          go_loopw [5] (fun i wr => ∃ q : Nat, q ≤ s.fields.length ∧ i = .int .i64 q ∧ fieldsTo ss s.fields q = true ∧ Below wo.heap.size wo wr ∧ wo.heap.size < wr.heap.size ∧ ∀ o, wr.cell? ⟨wo.heap.size, o, none⟩ = (wo.alloc (.cells #[.string s.kind, .slice (some ⟨b, 0, none⟩) s.fields.length s.fields.length] 56)).cell? ⟨wo.heap.size, o, none⟩) (fun i _ => s.fields.length - (intOf i).toNat)
          case atStart => exact ⟨0, Nat.zero_le _, rfl, rfl, blw_drewN hbx _, by show wo.heap.size < (wo.alloc (.cells #[.string s.kind, .slice (some ⟨b, 0, none⟩) s.fields.length s.fields.length] 56)).heap.size; simp, fun o => rfl⟩
          case round =>
            obtain ⟨q, hq, rfl, hfq, hM, hz, kM⟩ := hrel
            have HQ : Hid (fieldsTo ss s.fields q = true) := hfq
            clear hfq
            by_cases hqlt : q < s.fields.length
            · obtain ⟨f, hff⟩ : ∃ f, f = s.fields.getD q Fld.none := ⟨_, rfl⟩
              obtain ⟨b2, hfa, hfi⟩ := (HFL.out.later hM).arg hqlt hff
              have HT3 : Hid (fieldAt ss s.fields q = (Pl.nameOk f.nm && fieldOk ss f && !decide (nameAt s.fields f.nm < q))) := by
                show fieldAt ss s.fields q = _
                rw [fieldAt, twice_eq s.fields q hqlt, ← hff]
              have HX : Hid (Calls Tryz.prog 56 #[.slice (some ⟨B, 0, none⟩) ss.length ss.length, .agg #[.string f.nm, .int .i64 f.kind, .int .i64 f.least, .int .i64 f.most, .slice (some ⟨b2, 0, none⟩) f.words.length f.words.length, .string f.to, .int .i64 f.role, .bool f.must, .bool f.fixed, .string f.de, .string f.we]] wr fun e w' => e = .returned (.bool (Pl.nameOk f.nm && fieldOk ss f)) ∧ Below wr.heap.size wr w') :=
                fieldOkS f b2 B ss wr ((HS.out.later hW).later hM) hfa
              have HFF : Hid (f = s.fields.getD q Fld.none) := hff
              obtain ⟨c0, c1, c2, c3, c4, c5, c6, c7, c8, c9, c10, _, _⟩ := hfi
              clear hff hfa
              go_wp2_with fail
              refine HX.out.mono ?_
              rintro e w2 ⟨rfl, hb2⟩
              have hM2 := blw_trans hM hb2
              have hz2 : wo.heap.size < w2.heap.size := Nat.lt_of_lt_of_le hz hb2.size
              have k2 : ∀ o, w2.cell? ⟨wo.heap.size, o, none⟩ = (wo.alloc (.cells #[.string s.kind, .slice (some ⟨b, 0, none⟩) s.fields.length s.fields.length] 56)).cell? ⟨wo.heap.size, o, none⟩ := fun o => (hb2.cell (p := ⟨wo.heap.size, o, none⟩) hz).trans (kM o)
              clear hb2 HX c0 c1 c2 c3 c4 c5 c6 c7 c8 c9 c10 kM hz hM
              cases hok : (Pl.nameOk f.nm && fieldOk ss f)
              · have HR : Hid (shapesOk ss = false) := by
                  have h1 : fieldsOk ss s.fields = false := fieldsOk_false hqlt (by rw [HT3.out, hok]; rfl)
                  exact shapesOk_false hlt (by rw [HT.out, h1]; simp)
                go_wp2
                go_ret
                exact ⟨Pl.ret_bool HR.out.symm, blw_trans hW hM2⟩
              · go_wp2
                go_loopw [6] (fun i wr => ∃ j : Nat, j ≤ q ∧ i = .int .i64 j ∧ j ≤ nameAt s.fields f.nm ∧ Below wo.heap.size wo wr ∧ wo.heap.size < wr.heap.size ∧ ∀ o, wr.cell? ⟨wo.heap.size, o, none⟩ = (wo.alloc (.cells #[.string s.kind, .slice (some ⟨b, 0, none⟩) s.fields.length s.fields.length] 56)).cell? ⟨wo.heap.size, o, none⟩) (fun i _ => q - (intOf i).toNat)
                case atStart => exact ⟨0, Nat.zero_le _, rfl, Nat.zero_le _, hM2, hz2, k2⟩
                case round =>
                  obtain ⟨j, hj, rfl, hjn, hM3, hz3, k3⟩ := hrel
                  have HJ : Hid (j ≤ nameAt s.fields f.nm) := hjn
                  clear hjn k2
                  by_cases hjq : j < q
                  · obtain ⟨g, hgg⟩ : ∃ g, g = s.fields.getD j Fld.none := ⟨_, rfl⟩
                    obtain ⟨b3, _, hgi⟩ := (HFL.out.later hM3).arg (by omega : j < s.fields.length) hgg
                    obtain ⟨b4, _, hfi⟩ := (HFL.out.later hM3).arg hqlt HFF.out
                    have g0 := hgi.c0
                    have f0 := hfi.c0
                    clear hgi hfi
                    cases heq : (g.nm.toList == f.nm.toList)
                    · have HM : Hid (j + 1 ≤ nameAt s.fields f.nm) := nameAt_miss s.fields f.nm j (by omega) HJ.out (by rw [← hgg]; exact heq)
                      clear hgg
                      go_wp2_with fail
                      go_quiet (fail)
                      go_wp2
                      go_roundw
                      case rel => exact ⟨j + 1, by omega, by go_num, HM.out, blw_drewN hM3 _, hz3, k3⟩
                      case measure => simp [intOf]; omega
                    · have HM : Hid (nameAt s.fields f.nm = j) := nameAt_hit s.fields f.nm j (by omega) HJ.out (by rw [← hgg]; exact heq)
                      have HR : Hid (shapesOk ss = false) := by
                        have h1 : fieldsOk ss s.fields = false := fieldsOk_false hqlt (by rw [HT3.out, HM.out]; simp [hjq])
                        exact shapesOk_false hlt (by rw [HT.out, h1]; simp)
                      clear hgg
                      go_wp2_with fail
                      go_quiet (fail)
                      go_wp2
                      go_ret
                      exact ⟨Pl.ret_bool HR.out.symm, blw_trans hW (blw_drewN hM3 _)⟩
                  · have HR : Hid (fieldsTo ss s.fields (q + 1) = true) := by
                      have hnl : ¬ nameAt s.fields f.nm < q := by have := HJ.out; omega
                      exact fieldsTo_step HQ.out (by rw [HT3.out, hok]; simp [hnl])
                    go_wp2
                    go_roundw
                    case rel => first | exact ⟨q + 1, by omega, by go_num, HR.out, hM3, hz3, k3⟩ | ((repeat apply Exists.intro); exact ⟨⟨q + 1, by omega, by go_num, HR.out, hM3, hz3, k3⟩, rfl⟩)
                    case measure => simp [intOf]; omega
            · have HR : Hid (shapesTo ss ((m + 1) + 1) = true) := by
                obtain rfl : q = s.fields.length := by omega
                have h1 : fieldsOk ss s.fields = true := by rw [fieldsOk, HQ.out]; simp [h6f]
                exact shapesTo_step HA.out (by rw [HT.out, HNM.out.1, HNM.out.2, h1]; rfl)
              go_wp2
              go_roundw
              case rel => first | exact ⟨(m + 1) + 1, by omega, by go_num, HR.out, blw_trans hW hM⟩ | ((repeat apply Exists.intro); exact ⟨⟨(m + 1) + 1, by omega, by go_num, HR.out, blw_trans hW hM⟩, rfl⟩)
              case measure => simp [intOf]; omega
    · have HR : Hid (shapesOk ss = true) := by
        obtain rfl : k = ss.length := by omega
        show shapesOk ss = true
        rw [shapesOk, HA.out]; simp [h6]
      go_wp2
      go_ret
      exact ⟨Pl.ret_bool HR.out.symm, hW⟩

end Go.Proofs.YtfdahoekjpobaaaGreat
