/-
  Walks: mends that are ok: the specification.
-/
import Derived.Test.YtkjkklcflpchlaaGreatPlainM
import Derived.Test.YtkjkklcflpchlaaGreatWalkML
namespace Go.Proofs.YtkjkklcflpchlaaGreat
open Go.RowKit Go.Deep

set_option maxHeartbeats 2000000 in
theorem l1Bare_0 (f : Fld) (b : Nat) (w : World) (hs : f.small) (h1 : (f.kind == 1) = false) (h2 : (f.kind == 2) = false) (h3 : (f.kind == 3) = false) (h4 : (f.kind == 4) = false) :
    Calls Tryz.prog 113 #[.agg #[.string f.nm, .int .i64 f.kind, .int .i64 f.least, .int .i64 f.most, .slice (some ⟨b, 0, none⟩) f.words.length f.words.length, .string f.to, .int .i64 f.role, .bool f.must, .bool f.fixed, .string f.de, .string f.we]] w fun e w' => (∃ r : Bool, e = .returned (.bool r)) ∧ Below w.heap.size w w' := by
  have hs' : f.words.length ≤ 1048576 := hs
  have g1 : (f.kind != 1) = true := by simp [bne, h1]
  have g2 : (f.kind != 2) = true := by simp [bne, h2]
  clear hs
  go_enter Tryz.func113, Tryz.ntmps113
  go_wp2
  all_goals go_ret
  all_goals exact ⟨⟨_, rfl⟩, blw_alloc (Below.refl _ _) _⟩

set_option maxHeartbeats 4000000 in
theorem fieldOkS_0 (f : Fld) (b : Nat) (v : Value) (ss : List Shp) (w : World) (hp : FldArg w b f) (h1 : (f.kind == 1) = false) (h2 : (f.kind == 2) = false) (h3 : (f.kind == 3) = false) (h4 : (f.kind == 4) = false) :
    Calls Tryz.prog 95 #[v, .agg #[.string f.nm, .int .i64 f.kind, .int .i64 f.least, .int .i64 f.most, .slice (some ⟨b, 0, none⟩) f.words.length f.words.length, .string f.to, .int .i64 f.role, .bool f.must, .bool f.fixed, .string f.de, .string f.we]] w fun e w' => e = .returned (.bool (Pl.nameOk f.nm && fieldOk ss f)) ∧ Below w.heap.size w w' := by
  have HP : Hid (FldArg w b f) := hp
  have hfo : fieldOk ss f = false := by
    simp only [beq_eq_false_iff_ne, ne_eq] at h1 h2 h3 h4
    have : isKind f.kind = false := by rw [Bool.eq_false_iff]; simp [isKind]; omega
    simp [fieldOk, this]
  have HBa : Hid (∀ W, Calls Tryz.prog 113 #[.agg #[.string f.nm, .int .i64 f.kind, .int .i64 f.least, .int .i64 f.most, .slice (some ⟨b, 0, none⟩) f.words.length f.words.length, .string f.to, .int .i64 f.role, .bool f.must, .bool f.fixed, .string f.de, .string f.we]] W fun e w' => (∃ r : Bool, e = .returned (.bool r)) ∧ Below W.heap.size W w') := fun W => l1Bare_0 f b W HP.out.small h1 h2 h3 h4
  have HFi : Hid (∀ W, Below w.heap.size w W → Calls Tryz.prog 97 #[.agg #[.string f.nm, .int .i64 f.kind, .int .i64 f.least, .int .i64 f.most, .slice (some ⟨b, 0, none⟩) f.words.length f.words.length, .string f.to, .int .i64 f.role, .bool f.must, .bool f.fixed, .string f.de, .string f.we], .string f.de] W fun e w' => e = .returned (.bool (fitB f f.de)) ∧ Below W.heap.size W w') := by
    intro W hW
    have Q := HP.out.later hW
    exact specFits_any f.nm f.kind f.least f.most b 0 f.words.length f.to f.role f.must f.fixed f.de f.we f.de f.words W Q.sized.2.2.1 Q.lt (by have : f.words.length ≤ 1048576 := Q.small; unfold maxLen; omega) Q.cells
  have hR : (Pl.nameOk f.nm && fieldOk ss f) = false := by rw [hfo]; simp
  rw [hR]
  have HN : Hid (f.nm.size ≤ maxLen) := HP.out.sized.1
  clear hp hfo hR HP
  cases hnm : Pl.nameOk f.nm
  · go_enter Tryz.func95, Tryz.ntmps95
    go_wp2_with (go_at_call 48; refine (l1NameOk_any _ _ HN.out).mono ?_; rintro e w' ⟨rfl, rfl⟩)
    go_ret
    exact ⟨rfl, blw_alloc (Below.refl _ _) _⟩
  go_enter Tryz.func95, Tryz.ntmps95
  go_wp2_with (go_at_call 48; refine (l1NameOk_any _ _ HN.out).mono ?_; rintro e w' ⟨rfl, rfl⟩)
  refine (HBa.out _).mono ?_
  rintro e w2 ⟨⟨r, rfl⟩, hb2⟩
  have hB2 := blw_trans (blw_alloc (Below.refl w.heap.size w) (.cells #[.string f.nm, .int .i64 f.kind, .int .i64 f.least, .int .i64 f.most, .slice (some ⟨b, 0, none⟩) f.words.length f.words.length, .string f.to, .int .i64 f.role, .bool f.must, .bool f.fixed, .string f.de, .string f.we] 160)) hb2
  have k2 : ∀ o, w2.cell? ⟨w.heap.size, o, none⟩ = (w.alloc (.cells #[.string f.nm, .int .i64 f.kind, .int .i64 f.least, .int .i64 f.most, .slice (some ⟨b, 0, none⟩) f.words.length f.words.length, .string f.to, .int .i64 f.role, .bool f.must, .bool f.fixed, .string f.de, .string f.we] 160)).cell? ⟨w.heap.size, o, none⟩ := fun o => hb2.cell (p := ⟨w.heap.size, o, none⟩) (by simp)
  have z2 : w.heap.size < w2.heap.size := by have := hb2.size; simp at this; omega
  clear hb2 HBa HN
  cases r
  · go_wp2
    go_ret
    exact ⟨rfl, hB2⟩
  cases hem : f.de.toList.isEmpty
  · cases hfi : fitB f f.de
    all_goals
      go_wp2_with fail
      refine (HFi.out _ hB2).mono ?_
      rintro e w3 ⟨rfl, hb3⟩
      have hB3 := blw_trans hB2 hb3
      have k3 : ∀ o, w3.cell? ⟨w.heap.size, o, none⟩ = (w.alloc (.cells #[.string f.nm, .int .i64 f.kind, .int .i64 f.least, .int .i64 f.most, .slice (some ⟨b, 0, none⟩) f.words.length f.words.length, .string f.to, .int .i64 f.role, .bool f.must, .bool f.fixed, .string f.de, .string f.we] 160)).cell? ⟨w.heap.size, o, none⟩ := fun o => (hb3.cell (p := ⟨w.heap.size, o, none⟩) z2).trans (k2 o)
      clear hb3 k2 HFi hB2 z2
      go_wp2
      go_ret
      exact ⟨rfl, hB3⟩
  · go_wp2
    go_ret
    exact ⟨rfl, hB2⟩

theorem fieldOkS (f : Fld) (b B : Nat) (ss : List Shp) (w : World) (h : ShpsIn w B ss) (hp : FldArg w b f) :
    Calls Tryz.prog 95 #[.slice (some ⟨B, 0, none⟩) ss.length ss.length, .agg #[.string f.nm, .int .i64 f.kind, .int .i64 f.least, .int .i64 f.most, .slice (some ⟨b, 0, none⟩) f.words.length f.words.length, .string f.to, .int .i64 f.role, .bool f.must, .bool f.fixed, .string f.de, .string f.we]] w fun e w' => e = .returned (.bool (Pl.nameOk f.nm && fieldOk ss f)) ∧ Below w.heap.size w w' := by
  by_cases h1 : f.kind = 1
  · have := fieldOkS_1 f b B ss w h1 h hp; rw [← h1] at this; exact this
  by_cases h2 : f.kind = 2
  · have := fieldOkS_2 f b B ss w h2 h hp; rw [← h2] at this; exact this
  by_cases h3 : f.kind = 3
  · have := fieldOkS_3 f b B ss w h3 h hp; rw [← h3] at this; exact this
  by_cases h4 : f.kind = 4
  · have := fieldOkS_4 f b B ss w h4 h hp; rw [← h4] at this; exact this
  exact fieldOkS_0 f b _ ss w hp (by simp [h1]) (by simp [h2]) (by simp [h3]) (by simp [h4])

end Go.Proofs.YtkjkklcflpchlaaGreat

namespace Go.Proofs.YtkjkklcflpchlaaGreat
open Go.RowKit Go.Deep

set_option maxHeartbeats 8000000 in
theorem shapesOkS (B : Nat) (ss : List Shp) (w : World) (h : ShpsIn w B ss) :
    Calls Tryz.prog 76 #[.slice (some ⟨B, 0, none⟩) ss.length ss.length] w fun e w' => e = .returned (.bool (shapesOk ss)) ∧ Below w.heap.size w w' := by
  have HS : Hid (ShpsIn w B ss) := h
  have hl := h.len
  clear h
  by_cases h6 : ss.length ≤ 6
  case neg =>
    have HR : Hid (shapesOk ss = false) := by show shapesOk ss = _; simp [shapesOk, h6]
    go_enter Tryz.func76, Tryz.ntmps76
    go_wp2
    go_ret
    exact ⟨Pl.ret_bool HR.out.symm, Below.refl _ _⟩
  go_enter Tryz.func76, Tryz.ntmps76
  go_wp2
  go_loopw [3] (fun i wr => ∃ k : Nat, k ≤ ss.length ∧ i = .int .i64 k ∧ shapesTo ss k = true ∧ Below w.heap.size w wr) (fun i _ => ss.length - (intOf i).toNat)
  case atStart => exact ⟨0, Nat.zero_le _, rfl, rfl, Below.refl _ _⟩
  case round =>
    obtain ⟨k, hk, rfl, hall, hW⟩ := hrel
    obtain ⟨wo, rfl⟩ : ∃ wo : World, wo = wr := ⟨_, rfl⟩
    have HA : Hid (shapesTo ss k = true) := hall
    clear hall
    by_cases hlt : k < ss.length
    · obtain ⟨s, hss⟩ : ∃ s, s = ss.getD k Shp.none := ⟨_, rfl⟩
      obtain ⟨b, hfs, hkz, c0, c1⟩ := (HS.out.later hW).flds hlt hss
      have HN : Hid (s.kind.size ≤ maxLen) := hkz
      have HFL : Hid (FldsIn wo b s.fields) := hfs
      have hsl := hfs.len
      clear hkz hfs
      have hbx : Below wo.heap.size wo (wo.alloc (.cells #[.string s.kind, .slice (some ⟨b, 0, none⟩) s.fields.length s.fields.length] 99)) := blw_alloc (Below.refl _ _) _
      by_cases h0 : k = 0
      · subst h0
        have HT : Hid (shapeAt ss 0 = (Pl.nameOk s.kind && fieldsOk ss s.fields)) := by show shapeAt ss 0 = _; rw [hss]; simp [shapeAt]
        clear hss
        cases hn : Pl.nameOk s.kind
        · have HR : Hid (shapesOk ss = false) := shapesOk_false hlt (by rw [HT.out, hn]; rfl)
          go_wp2_with fail
          go_quiet ((go_at_call 48; exact Calls.quiet_of_same (nameOk_same _ _ HN.out)))
          go_wp2
          go_ret
          exact ⟨Pl.ret_bool HR.out.symm, blw_drewN (blw_trans hW hbx) _⟩
        · by_cases h6f : s.fields.length ≤ 6
          case neg =>
            have hd6 : decide ((6 : Int) < (s.fields.length : Int)) = true := by simp; omega
            have HR : Hid (shapesOk ss = false) := shapesOk_false hlt (by rw [HT.out]; simp [fieldsOk, h6f])
            go_wp2_with fail
            go_quiet ((go_at_call 48; exact Calls.quiet_of_same (nameOk_same _ _ HN.out)))
            go_wp2
            go_ret
            exact ⟨Pl.ret_bool HR.out.symm, blw_drewN (blw_trans hW hbx) _⟩
          have hd6 : decide ((6 : Int) < (s.fields.length : Int)) = false := by simp; omega
          go_wp2_with fail
          go_quiet ((go_at_call 48; exact Calls.quiet_of_same (nameOk_same _ _ HN.out)))
          go_wp2
          have HNM : Hid (Pl.nameOk s.kind = true) := hn
          clear hn hd6
          go_loopw [5] (fun i wr => ∃ q : Nat, q ≤ s.fields.length ∧ i = .int .i64 q ∧ fieldsTo ss s.fields q = true ∧ Below wo.heap.size wo wr ∧ wo.heap.size < wr.heap.size ∧ ∀ o, wr.cell? ⟨wo.heap.size, o, none⟩ = (wo.alloc (.cells #[.string s.kind, .slice (some ⟨b, 0, none⟩) s.fields.length s.fields.length] 99)).cell? ⟨wo.heap.size, o, none⟩) (fun i _ => s.fields.length - (intOf i).toNat)
          case atStart => exact ⟨0, Nat.zero_le _, rfl, rfl, blw_drewN hbx _, by show wo.heap.size < (wo.alloc (.cells #[.string s.kind, .slice (some ⟨b, 0, none⟩) s.fields.length s.fields.length] 99)).heap.size; simp, fun o => rfl⟩
          case round =>
            obtain ⟨q, hq, rfl, hfq, hM, hz, kM⟩ := hrel
            have HQ : Hid (fieldsTo ss s.fields q = true) := hfq
            clear hfq
            by_cases hqlt : q < s.fields.length
            · obtain ⟨f, hff⟩ : ∃ f, f = s.fields.getD q Fld.none := ⟨_, rfl⟩
              obtain ⟨b2, hfa, hfi⟩ := (HFL.out.later hM).arg hqlt hff
              have HT3 : Hid (fieldAt ss s.fields q = (Pl.nameOk f.nm && fieldOk ss f && !decide (nameAt s.fields f.nm < q))) := by
                show fieldAt ss s.fields q = _
                rw [fieldAt, twice_eq s.fields q hqlt, ← hff]
              have HX : Hid (Calls Tryz.prog 95 #[.slice (some ⟨B, 0, none⟩) ss.length ss.length, .agg #[.string f.nm, .int .i64 f.kind, .int .i64 f.least, .int .i64 f.most, .slice (some ⟨b2, 0, none⟩) f.words.length f.words.length, .string f.to, .int .i64 f.role, .bool f.must, .bool f.fixed, .string f.de, .string f.we]] wr fun e w' => e = .returned (.bool (Pl.nameOk f.nm && fieldOk ss f)) ∧ Below wr.heap.size wr w') :=
                fieldOkS f b2 B ss wr ((HS.out.later hW).later hM) hfa
              have HFF : Hid (f = s.fields.getD q Fld.none) := hff
              obtain ⟨c0, c1, c2, c3, c4, c5, c6, c7, c8, c9, c10, _, _⟩ := hfi
              clear hff hfa
              go_wp2_with fail
              refine HX.out.mono ?_
              rintro e w2 ⟨rfl, hb2⟩
              have hM2 := blw_trans hM hb2
              have hz2 : wo.heap.size < w2.heap.size := Nat.lt_of_lt_of_le hz hb2.size
              have k2 : ∀ o, w2.cell? ⟨wo.heap.size, o, none⟩ = (wo.alloc (.cells #[.string s.kind, .slice (some ⟨b, 0, none⟩) s.fields.length s.fields.length] 99)).cell? ⟨wo.heap.size, o, none⟩ := fun o => (hb2.cell (p := ⟨wo.heap.size, o, none⟩) hz).trans (kM o)
              clear hb2 HX c0 c1 c2 c3 c4 c5 c6 c7 c8 c9 c10 kM hz hM
              cases hok : (Pl.nameOk f.nm && fieldOk ss f)
              · have HR : Hid (shapesOk ss = false) := by
                  have h1 : fieldsOk ss s.fields = false := fieldsOk_false hqlt (by rw [HT3.out, hok]; rfl)
                  exact shapesOk_false hlt (by rw [HT.out, h1]; simp)
                go_wp2
                go_ret
                exact ⟨Pl.ret_bool HR.out.symm, blw_trans hW hM2⟩
              · go_wp2
                go_loopw [6] (fun i wr => ∃ j : Nat, j ≤ q ∧ i = .int .i64 j ∧ j ≤ nameAt s.fields f.nm ∧ Below wo.heap.size wo wr ∧ wo.heap.size < wr.heap.size ∧ ∀ o, wr.cell? ⟨wo.heap.size, o, none⟩ = (wo.alloc (.cells #[.string s.kind, .slice (some ⟨b, 0, none⟩) s.fields.length s.fields.length] 99)).cell? ⟨wo.heap.size, o, none⟩) (fun i _ => q - (intOf i).toNat)
                case atStart => exact ⟨0, Nat.zero_le _, rfl, Nat.zero_le _, hM2, hz2, k2⟩
                case round =>
                  obtain ⟨j, hj, rfl, hjn, hM3, hz3, k3⟩ := hrel
                  have HJ : Hid (j ≤ nameAt s.fields f.nm) := hjn
                  clear hjn k2
                  by_cases hjq : j < q
                  · obtain ⟨g, hgg⟩ : ∃ g, g = s.fields.getD j Fld.none := ⟨_, rfl⟩
                    obtain ⟨b3, _, hgi⟩ := (HFL.out.later hM3).arg (by omega : j < s.fields.length) hgg
                    obtain ⟨b4, _, hfi⟩ := (HFL.out.later hM3).arg hqlt HFF.out
                    have g0 := hgi.c0
                    have f0 := hfi.c0
                    clear hgi hfi
                    cases heq : (g.nm.toList == f.nm.toList)
                    · have HM : Hid (j + 1 ≤ nameAt s.fields f.nm) := nameAt_miss s.fields f.nm j (by omega) HJ.out (by rw [← hgg]; exact heq)
                      clear hgg
                      go_wp2_with fail
                      go_quiet (fail)
                      go_wp2
                      go_roundw
                      case rel => exact ⟨j + 1, by omega, by go_num, HM.out, blw_drewN hM3 _, hz3, k3⟩
                      case measure => simp [intOf]; omega
                    · have HM : Hid (nameAt s.fields f.nm = j) := nameAt_hit s.fields f.nm j (by omega) HJ.out (by rw [← hgg]; exact heq)
                      have HR : Hid (shapesOk ss = false) := by
                        have h1 : fieldsOk ss s.fields = false := fieldsOk_false hqlt (by rw [HT3.out, HM.out]; simp [hjq])
                        exact shapesOk_false hlt (by rw [HT.out, h1]; simp)
                      clear hgg
                      go_wp2_with fail
                      go_quiet (fail)
                      go_wp2
                      go_ret
                      exact ⟨Pl.ret_bool HR.out.symm, blw_trans hW (blw_drewN hM3 _)⟩
                  · have HR : Hid (fieldsTo ss s.fields (q + 1) = true) := by
                      have hnl : ¬ nameAt s.fields f.nm < q := by have := HJ.out; omega
                      exact fieldsTo_step HQ.out (by rw [HT3.out, hok]; simp [hnl])
                    go_wp2
                    go_roundw
                    case rel => first | exact ⟨q + 1, by omega, by go_num, HR.out, hM3, hz3, k3⟩ | ((repeat apply Exists.intro); exact ⟨⟨q + 1, by omega, by go_num, HR.out, hM3, hz3, k3⟩, rfl⟩)
                    case measure => simp [intOf]; omega
            · have HR : Hid (shapesTo ss (0 + 1) = true) := by
                obtain rfl : q = s.fields.length := by omega
                have h1 : fieldsOk ss s.fields = true := by rw [fieldsOk, HQ.out]; simp [h6f]
                exact shapesTo_step HA.out (by rw [HT.out, HNM.out, h1]; rfl)
              go_wp2
              go_roundw
              case rel => first | exact ⟨0 + 1, by omega, by go_num, HR.out, blw_trans hW hM⟩ | ((repeat apply Exists.intro); exact ⟨⟨0 + 1, by omega, by go_num, HR.out, blw_trans hW hM⟩, rfl⟩)
              case measure => simp [intOf]; omega
      · obtain ⟨m, rfl⟩ : ∃ m, k = m + 1 := ⟨k - 1, by omega⟩
        obtain ⟨p, hpp⟩ : ∃ p, p = ss.getD m Shp.none := ⟨_, rfl⟩
        obtain ⟨b', _, _, d0, _⟩ := (HS.out.later hW).flds (by omega : m < ss.length) hpp
        have HT : Hid (shapeAt ss (m + 1) = (Pl.nameOk s.kind && Op.bytesLess p.kind.toList s.kind.toList && fieldsOk ss s.fields)) := by show shapeAt ss (m + 1) = _; rw [hss, hpp]; simp [shapeAt, Pl.less]
        have hBl : B < wo.heap.size := Nat.lt_of_lt_of_le HS.out.lt hW.size
        have hmi : decide ((m : Int) + 1 < (ss.length : Int)) = true := by simp; omega
        clear hss hpp h0
        cases hn : Pl.nameOk s.kind
        · have HR : Hid (shapesOk ss = false) := shapesOk_false hlt (by rw [HT.out, hn]; rfl)
          go_wp2_with fail
          go_quiet ((go_at_call 48; exact Calls.quiet_of_same (nameOk_same _ _ HN.out)))
          go_wp2
          go_ret
          exact ⟨Pl.ret_bool HR.out.symm, blw_drewN (blw_trans hW hbx) _⟩
        · cases hq : Op.bytesLess p.kind.toList s.kind.toList
          · have HR : Hid (shapesOk ss = false) := shapesOk_false hlt (by rw [HT.out, hn, hq]; rfl)
            go_wp2_with fail
            go_quiet ((go_at_call 48; exact Calls.quiet_of_same (nameOk_same _ _ HN.out)))
            go_wp2
            go_ret
            exact ⟨Pl.ret_bool HR.out.symm, blw_drewN (blw_trans hW hbx) _⟩
          by_cases h6f : s.fields.length ≤ 6
          case neg =>
            have hd6 : decide ((6 : Int) < (s.fields.length : Int)) = true := by simp; omega
            have HR : Hid (shapesOk ss = false) := shapesOk_false hlt (by rw [HT.out]; simp [fieldsOk, h6f])
            go_wp2_with fail
            go_quiet ((go_at_call 48; exact Calls.quiet_of_same (nameOk_same _ _ HN.out)))
            go_wp2
            go_ret
            exact ⟨Pl.ret_bool HR.out.symm, blw_drewN (blw_trans hW hbx) _⟩
          have hd6 : decide ((6 : Int) < (s.fields.length : Int)) = false := by simp; omega
          go_wp2_with fail
          go_quiet ((go_at_call 48; exact Calls.quiet_of_same (nameOk_same _ _ HN.out)))
          go_wp2
          have HNM : Hid (Pl.nameOk s.kind = true ∧ Op.bytesLess p.kind.toList s.kind.toList = true) := ⟨hn, hq⟩
          clear hn hd6 hq d0
          go_loopw [5] (fun i wr => ∃ q : Nat, q ≤ s.fields.length ∧ i = .int .i64 q ∧ fieldsTo ss s.fields q = true ∧ Below wo.heap.size wo wr ∧ wo.heap.size < wr.heap.size ∧ ∀ o, wr.cell? ⟨wo.heap.size, o, none⟩ = (wo.alloc (.cells #[.string s.kind, .slice (some ⟨b, 0, none⟩) s.fields.length s.fields.length] 99)).cell? ⟨wo.heap.size, o, none⟩) (fun i _ => s.fields.length - (intOf i).toNat)
          case atStart => exact ⟨0, Nat.zero_le _, rfl, rfl, blw_drewN hbx _, by show wo.heap.size < (wo.alloc (.cells #[.string s.kind, .slice (some ⟨b, 0, none⟩) s.fields.length s.fields.length] 99)).heap.size; simp, fun o => rfl⟩
          case round =>
            obtain ⟨q, hq, rfl, hfq, hM, hz, kM⟩ := hrel
            have HQ : Hid (fieldsTo ss s.fields q = true) := hfq
            clear hfq
            by_cases hqlt : q < s.fields.length
            · obtain ⟨f, hff⟩ : ∃ f, f = s.fields.getD q Fld.none := ⟨_, rfl⟩
              obtain ⟨b2, hfa, hfi⟩ := (HFL.out.later hM).arg hqlt hff
              have HT3 : Hid (fieldAt ss s.fields q = (Pl.nameOk f.nm && fieldOk ss f && !decide (nameAt s.fields f.nm < q))) := by
                show fieldAt ss s.fields q = _
                rw [fieldAt, twice_eq s.fields q hqlt, ← hff]
              have HX : Hid (Calls Tryz.prog 95 #[.slice (some ⟨B, 0, none⟩) ss.length ss.length, .agg #[.string f.nm, .int .i64 f.kind, .int .i64 f.least, .int .i64 f.most, .slice (some ⟨b2, 0, none⟩) f.words.length f.words.length, .string f.to, .int .i64 f.role, .bool f.must, .bool f.fixed, .string f.de, .string f.we]] wr fun e w' => e = .returned (.bool (Pl.nameOk f.nm && fieldOk ss f)) ∧ Below wr.heap.size wr w') :=
                fieldOkS f b2 B ss wr ((HS.out.later hW).later hM) hfa
              have HFF : Hid (f = s.fields.getD q Fld.none) := hff
              obtain ⟨c0, c1, c2, c3, c4, c5, c6, c7, c8, c9, c10, _, _⟩ := hfi
              clear hff hfa
              go_wp2_with fail
              refine HX.out.mono ?_
              rintro e w2 ⟨rfl, hb2⟩
              have hM2 := blw_trans hM hb2
              have hz2 : wo.heap.size < w2.heap.size := Nat.lt_of_lt_of_le hz hb2.size
              have k2 : ∀ o, w2.cell? ⟨wo.heap.size, o, none⟩ = (wo.alloc (.cells #[.string s.kind, .slice (some ⟨b, 0, none⟩) s.fields.length s.fields.length] 99)).cell? ⟨wo.heap.size, o, none⟩ := fun o => (hb2.cell (p := ⟨wo.heap.size, o, none⟩) hz).trans (kM o)
              clear hb2 HX c0 c1 c2 c3 c4 c5 c6 c7 c8 c9 c10 kM hz hM
              cases hok : (Pl.nameOk f.nm && fieldOk ss f)
              · have HR : Hid (shapesOk ss = false) := by
                  have h1 : fieldsOk ss s.fields = false := fieldsOk_false hqlt (by rw [HT3.out, hok]; rfl)
                  exact shapesOk_false hlt (by rw [HT.out, h1]; simp)
                go_wp2
                go_ret
                exact ⟨Pl.ret_bool HR.out.symm, blw_trans hW hM2⟩
              · go_wp2
                go_loopw [6] (fun i wr => ∃ j : Nat, j ≤ q ∧ i = .int .i64 j ∧ j ≤ nameAt s.fields f.nm ∧ Below wo.heap.size wo wr ∧ wo.heap.size < wr.heap.size ∧ ∀ o, wr.cell? ⟨wo.heap.size, o, none⟩ = (wo.alloc (.cells #[.string s.kind, .slice (some ⟨b, 0, none⟩) s.fields.length s.fields.length] 99)).cell? ⟨wo.heap.size, o, none⟩) (fun i _ => q - (intOf i).toNat)
                case atStart => exact ⟨0, Nat.zero_le _, rfl, Nat.zero_le _, hM2, hz2, k2⟩
                case round =>
                  obtain ⟨j, hj, rfl, hjn, hM3, hz3, k3⟩ := hrel
                  have HJ : Hid (j ≤ nameAt s.fields f.nm) := hjn
                  clear hjn k2
                  by_cases hjq : j < q
                  · obtain ⟨g, hgg⟩ : ∃ g, g = s.fields.getD j Fld.none := ⟨_, rfl⟩
                    obtain ⟨b3, _, hgi⟩ := (HFL.out.later hM3).arg (by omega : j < s.fields.length) hgg
                    obtain ⟨b4, _, hfi⟩ := (HFL.out.later hM3).arg hqlt HFF.out
                    have g0 := hgi.c0
                    have f0 := hfi.c0
                    clear hgi hfi
                    cases heq : (g.nm.toList == f.nm.toList)
                    · have HM : Hid (j + 1 ≤ nameAt s.fields f.nm) := nameAt_miss s.fields f.nm j (by omega) HJ.out (by rw [← hgg]; exact heq)
                      clear hgg
                      go_wp2_with fail
                      go_quiet (fail)
                      go_wp2
                      go_roundw
                      case rel => exact ⟨j + 1, by omega, by go_num, HM.out, blw_drewN hM3 _, hz3, k3⟩
                      case measure => simp [intOf]; omega
                    · have HM : Hid (nameAt s.fields f.nm = j) := nameAt_hit s.fields f.nm j (by omega) HJ.out (by rw [← hgg]; exact heq)
                      have HR : Hid (shapesOk ss = false) := by
                        have h1 : fieldsOk ss s.fields = false := fieldsOk_false hqlt (by rw [HT3.out, HM.out]; simp [hjq])
                        exact shapesOk_false hlt (by rw [HT.out, h1]; simp)
                      clear hgg
                      go_wp2_with fail
                      go_quiet (fail)
                      go_wp2
                      go_ret
                      exact ⟨Pl.ret_bool HR.out.symm, blw_trans hW (blw_drewN hM3 _)⟩
                  · have HR : Hid (fieldsTo ss s.fields (q + 1) = true) := by
                      have hnl : ¬ nameAt s.fields f.nm < q := by have := HJ.out; omega
                      exact fieldsTo_step HQ.out (by rw [HT3.out, hok]; simp [hnl])
                    go_wp2
                    go_roundw
                    case rel => first | exact ⟨q + 1, by omega, by go_num, HR.out, hM3, hz3, k3⟩ | ((repeat apply Exists.intro); exact ⟨⟨q + 1, by omega, by go_num, HR.out, hM3, hz3, k3⟩, rfl⟩)
                    case measure => simp [intOf]; omega
            · have HR : Hid (shapesTo ss ((m + 1) + 1) = true) := by
                obtain rfl : q = s.fields.length := by omega
                have h1 : fieldsOk ss s.fields = true := by rw [fieldsOk, HQ.out]; simp [h6f]
                exact shapesTo_step HA.out (by rw [HT.out, HNM.out.1, HNM.out.2, h1]; rfl)
              go_wp2
              go_roundw
              case rel => first | exact ⟨(m + 1) + 1, by omega, by go_num, HR.out, blw_trans hW hM⟩ | ((repeat apply Exists.intro); exact ⟨⟨(m + 1) + 1, by omega, by go_num, HR.out, blw_trans hW hM⟩, rfl⟩)
              case measure => simp [intOf]; omega
    · have HR : Hid (shapesOk ss = true) := by
        obtain rfl : k = ss.length := by omega
        show shapesOk ss = true
        rw [shapesOk, HA.out]; simp [h6]
      go_wp2
      go_ret
      exact ⟨Pl.ret_bool HR.out.symm, hW⟩

end Go.Proofs.YtkjkklcflpchlaaGreat

namespace Go.Proofs.YtkjkklcflpchlaaGreat
open Go.RowKit Go.Deep

/-- A slice of names of the call's own. -/
def NamesOwn (w : World) (lo : Nat) (v : Value) (l : List ByteArray) : Prop := (∃ g c, v = .slice (some ⟨g, 0, none⟩) l.length c) ∧ w.ownsRow lo 9 1 v l.length (l.map Value.string)

theorem NamesOwn.later {w w' : World} {lo : Nat} {v : Value} {l : List ByteArray} (h : NamesOwn w lo v l) (hb : Below w.heap.size w w') : NamesOwn w' lo v l := ⟨h.1, owns_later h.2 hb⟩

theorem NamesOwn.at_ {w : World} {lo : Nat} {v : Value} {l : List ByteArray} (h : NamesOwn w lo v l) (hl : l.length ≤ 1048576) : NamesAt w v l := by
  obtain ⟨⟨g, c, rfl⟩, ho⟩ := h
  have hcs : ∀ j u, (l.map Value.string)[j]? = some u → w.cell? ((⟨g, 0, none⟩ : Addr).add j) = some u := World.ownsRow.cells ho rfl
  refine ⟨g, c, rfl, (World.ownsRow.lt ho g rfl).2, hl, fun i hi => ?_⟩
  have := hcs i (.string (l.getD i ByteArray.empty)) (by simp [hi])
  rw [Addr.add_lit, Nat.zero_add] at this
  exact this

theorem NamesOwn.start (w : World) (lo : Nat) (hl : lo ≤ w.heap.size) : NamesOwn (w.alloc (.cells #[] 9)) lo (.slice (some ⟨w.heap.size, 0, none⟩) 0 0) [] :=
  ⟨⟨_, _, rfl⟩, World.ownsRow_made w #[] 0 hl (by decide) (by simp)⟩

theorem NamesOwn.of {w : World} {lo : Nat} {v : Value} {l : List ByteArray} (h : w.ownsRow lo 9 1 v l.length (l.map Value.string)) (hl : l.length ≠ 0) : NamesOwn w lo v l := by
  refine ⟨?_, h⟩
  rcases h.2 with ⟨_, h0⟩ | ⟨g, cap, cur, rfl, _⟩
  · exact absurd h0 hl
  · exact ⟨_, _, rfl⟩

set_option maxRecDepth 8000 in
set_option maxHeartbeats 8000000 in
theorem l3RowS (ss : List Shp) (s : Shp) (fb mb : Nat) (ms : List Mnd) (w : World) (h : FldsIn w fb s.fields) (hm : MndsIn w mb ms) (hfo : fieldsOk ss s.fields = true) (hf : ∀ m ∈ ms, ofKind s.kind m = true → found s.fields m) :
    Calls Tryz.prog 78 #[.agg #[.string s.kind, .slice (some ⟨fb, 0, none⟩) s.fields.length s.fields.length], .slice (some ⟨mb, 0, none⟩) ms.length ms.length] w fun e w' =>
      (∃ a c, e = .returned (.slice a (rowG (rdM s.fields ms s.kind) s.fields.length s.fields.length).length c) ∧ NamesAt w' (.slice a (rowG (rdM s.fields ms s.kind) s.fields.length s.fields.length).length c) ((rowG (rdM s.fields ms s.kind) s.fields.length s.fields.length).map (nmAt s.fields))) ∧ Below w.heap.size w w' := by
  have hl := hm.len
  have hn6 := fields_few hfo
  have HA : Hid (FldsIn w fb s.fields ∧ MndsIn w mb ms ∧ fieldsOk ss s.fields = true ∧ ∀ m ∈ ms, ofKind s.kind m = true → found s.fields m) := ⟨h, hm, hfo, hf⟩
  obtain ⟨i0, hi, hz0, hz1, hz2⟩ := info_parts Tryz.info9
  clear h hm hfo hf
  obtain ⟨rd, hrd⟩ : ∃ rd, rd = rdM s.fields ms s.kind := ⟨_, rfl⟩
  obtain ⟨fs, hfs⟩ : ∃ fs, fs = s.fields := ⟨_, rfl⟩
  have HRD : Hid (rd = rdM s.fields ms s.kind) := hrd
  rw [← hrd, ← hfs]
  rw [← hfs] at hn6 HA HRD
  clear hrd hfs
  obtain ⟨n, hn⟩ : ∃ n, n = fs.length := ⟨_, rfl⟩
  rw [← hn]
  rw [← hn] at hn6
  have HNn : Hid (n = fs.length) := hn
  clear hn
  obtain ⟨wb, hwb⟩ : ∃ wb, wb = w.alloc (.cells #[.string s.kind, .slice (some ⟨fb, 0, none⟩) n n] 99) := ⟨_, rfl⟩
  have HB0 : Hid (Below w.heap.size w wb) := by show Below _ _ _; rw [hwb]; exact blw_alloc (Below.refl _ _) _
  have HK : Hid (wb.heap.size = w.heap.size + 1 ∧ wb.cell? ⟨w.heap.size, 0, none⟩ = some (.string s.kind) ∧ wb.cell? ⟨w.heap.size, 1, none⟩ = some (.slice (some ⟨fb, 0, none⟩) n n)) := by show _ ∧ _ ∧ _; rw [hwb]; exact ⟨by simp, by simp, by simp⟩
  go_enter Tryz.func78, Tryz.ntmps78
  go_upto_region 1 with fail
  rw [← hwb]
  clear hwb
  go_wp2
  go_loopw [5, 6] (fun v i wr => ∃ (j : Nat) (a : Option Addr) (c : Nat), j ≤ n ∧ i = .int .i64 j ∧ v = .slice a (rowG rd n j).length c ∧ NamesOwn wr wb.heap.size v ((rowG rd n j).map (nmAt fs)) ∧ Below wb.heap.size wb wr) (fun _ i _ => n - (intOf i).toNat)
  case atStart => exact ⟨0, some ⟨wb.heap.size, 0, none⟩, 0, Nat.zero_le _, rfl, rfl, NamesOwn.start wb _ (Nat.le_refl _), blw_alloc (Below.refl _ _) _⟩
  case round =>
    obtain ⟨j, a, c, hj, rfl, rfl, hO, hW⟩ := hrel
    obtain ⟨row, hrow⟩ : ∃ row, row = rowG rd n j := ⟨_, rfl⟩
    rw [← hrow] at hO ⊢
    have HO : Hid (NamesOwn wr wb.heap.size (.slice a row.length c) (row.map (nmAt fs))) := hO
    have HW : Hid (Below wb.heap.size wb wr) := hW
    have HRow : Hid (row = rowG rd n j) := hrow
    have HRl : Hid (row.length ≤ j) := by show row.length ≤ j; rw [hrow]; exact rowG_le rd n j
    have hs1 : w.heap.size < wr.heap.size := by have := hW.size; have := HK.out.1; omega
    have k0 : wr.cell? ⟨w.heap.size, 0, none⟩ = some (.string s.kind) := (hW.cell (p := ⟨w.heap.size, 0, none⟩) (by have := HK.out.1; show w.heap.size < _; omega)).trans HK.out.2.1
    have k1 : wr.cell? ⟨w.heap.size, 1, none⟩ = some (.slice (some ⟨fb, 0, none⟩) n n) := (hW.cell (p := ⟨w.heap.size, 1, none⟩) (by have := HK.out.1; show w.heap.size < _; omega)).trans HK.out.2.2
    clear hO hW hrow
    by_cases hlt : j < n
    · go_wp2
      clear k0 k1 hs1
      go_loopw [5, 7] (fun v i wq => v = .slice a row.length c ∧ ∃ q : Nat, q ≤ n ∧ i = .int .i64 q ∧ q ≤ nextG rd n row ∧ Below wr.heap.size wr wq) (fun _ i _ => n - (intOf i).toNat)
      case atStart => exact ⟨rfl, 0, Nat.zero_le _, rfl, Nat.zero_le _, Below.refl _ _⟩
      case round =>
        obtain ⟨rfl, q, hq, rfl, hno, hWq⟩ := hrel
        rename World => wq
        have HN : Hid (q ≤ nextG rd n row) := hno
        have HWq : Hid (Below wr.heap.size wr wq) := hWq
        have HWb : Hid (Below wb.heap.size wb wq) := blw_trans HW.out hWq
        have hs1 : w.heap.size < wq.heap.size := by have := HWb.out.size; have := HK.out.1; omega
        have k0 : wq.cell? ⟨w.heap.size, 0, none⟩ = some (.string s.kind) := (HWb.out.cell (p := ⟨w.heap.size, 0, none⟩) (by have := HK.out.1; show w.heap.size < _; omega)).trans HK.out.2.1
        have k1 : wq.cell? ⟨w.heap.size, 1, none⟩ = some (.slice (some ⟨fb, 0, none⟩) n n) := (HWb.out.cell (p := ⟨w.heap.size, 1, none⟩) (by have := HK.out.1; show w.heap.size < _; omega)).trans HK.out.2.2
        clear hno hWq
        by_cases hqn : q < n
        · obtain ⟨f, hff⟩ : ∃ f, f = fs.getD q Fld.none := ⟨_, rfl⟩
          obtain ⟨b, _, hfi⟩ := (HA.out.1.later (blw_trans HB0.out HWb.out)).arg (by rw [← HNn.out]; exact hqn) hff
          have c0 := hfi.c0
          have hfb : fb < wq.heap.size := (HA.out.1.later (blw_trans HB0.out HWb.out)).lt
          have HRg : Hid ((!Pl.has (row.map (nmAt fs)) f.nm && readyN ms s.kind f.nm (row.map (nmAt fs))) = readyG rd row q) := by
            have := ready_at HA.out.2.2.1 ms s.kind HA.out.2.2.2 (row := row) (fun p hp => by rw [HRow.out] at hp; rw [← HNn.out]; exact rowG_lt rd n j p hp) (i := q) (by rw [← HNn.out]; exact hqn)
            unfold nmAt at this
            rw [← hff] at this
            have e : rd = rdM fs ms s.kind := HRD.out
            rw [e]
            exact this
          have HMs : Hid (readyG rd row q = false → q + 1 ≤ nextG rd n row) := fun e => firstAt_miss _ _ q (by simpa using hqn) HN.out (by simpa [hqn] using e)
          have HHt : Hid (readyG rd row q = true → nextG rd n row = q) := fun e => firstAt_hit _ _ q (by simpa using hqn) HN.out (by simpa [hqn] using e)
          have HCa : Hid (∀ W, Below wq.heap.size wq W → Calls Tryz.prog 99 #[.slice a row.length c, .string f.nm] W fun e w' => e = .returned (.bool (Pl.has (row.map (nmAt fs)) f.nm)) ∧ W = w') := fun W hW' => hasN _ _ f.nm W ((HO.out.later (blw_trans HWq.out hW')).at_ (by rw [List.length_map]; have := HRl.out; omega))
          have HCb : Hid (Calls Tryz.prog 100 #[.slice (some ⟨mb, 0, none⟩) ms.length ms.length, .string s.kind, .string f.nm, .slice a row.length c] wq fun e w' => e = .returned (.bool (readyN ms s.kind f.nm (row.map (nmAt fs)))) ∧ Below wq.heap.size wq w') := l3Ready mb ms s.kind f.nm a _ c _ wq (HA.out.2.1.later (blw_trans HB0.out HWb.out)) ((HO.out.later HWq.out).at_ (by rw [List.length_map]; have := HRl.out; omega))
          have HFn : Hid (f.nm = nmAt fs q) := by show f.nm = nmAt fs q; rw [hff]; rfl
          obtain ⟨ha, hha⟩ : ∃ ha, ha = Pl.has (row.map (nmAt fs)) f.nm := ⟨_, rfl⟩
          obtain ⟨rn, hrn⟩ : ∃ rn, rn = readyN ms s.kind f.nm (row.map (nmAt fs)) := ⟨_, rfl⟩
          rw [← hha] at HRg HCa
          rw [← hrn] at HRg HCb
          clear hfi hff hha hrn
          go_wp2_with fail
          refine (HCa.out _ (Below.refl _ _)).mono ?_
          rintro e w' ⟨rfl, rfl⟩
          cases ha
          · go_wp2_with fail
            refine HCb.out.mono ?_
            rintro e w3 ⟨rfl, hb3⟩
            have HB3 : Hid (Below wr.heap.size wr w3) := blw_trans HWq.out hb3
            clear hb3 k0 k1 c0 hfb hs1
            cases rn
            · have HM := HMs.out (by rw [← HRg.out]; rfl)
              have HM' : Hid (q + 1 ≤ nextG rd n row) := HM
              clear HM
              go_wp2
              go_roundw
              case rel => exact ⟨rfl, q + 1, by omega, by go_num, HM'.out, HB3.out⟩
              case measure => simp [intOf]; omega
            · have HNx : Hid (rowG rd n (j + 1) = row ++ [q]) := by
                have e := HHt.out (by rw [← HRg.out]; rfl)
                have := rowG_next rd n j (by rw [← HRow.out, e]; exact hqn)
                rw [← HRow.out, e] at this
                exact this
              have hrl : row.length ≤ j := HRl.out
              have hsz : wb.heap.size ≤ w3.heap.size := (blw_trans HW.out HB3.out).size
              go_wp2_with (at_builtin; refine wpList_append_own _ rfl _ _ 27 rfl wb.heap.size 9 i0 (.string ByteArray.empty) 1 16 Tryz.underlying27 hi hz0 hz1 hz2 rfl (by decide) (.slice a row.length c) row.length ((row.map (nmAt fs)).map Value.string) rfl ?c0 ⟨w3.heap.size, 0, none⟩ 1 1 [.string f.nm] rfl ?c1 ?c2 ?c3 ?c4 ?c5 ?c6 ?_)
              case c0 =>
                have := HO.out.2
                rw [List.length_map] at this
                exact owns_later this (blw_trans HB3.out (blw_alloc (Below.refl _ _) _))
              case c1 => rfl
              case c2 => intro k u hk; cases k with | zero => (simp at hk; subst hk; simp [Addr.add]) | succ k => simp at hk
              case c3 => intro u hu; simp at hu; subst hu; rfl
              case c4 => unfold maxLen; omega
              case c5 => omega
              case c6 => simp; omega
              intro v' w4 hown hgrow _
              obtain ⟨a4, d4, hv4⟩ := owns_slice hown
              subst hv4
              have HNo : Hid (NamesOwn w4 wb.heap.size (.slice a4 (row.length + 1) d4) ((row ++ [q]).map (nmAt fs))) := by
                refine NamesOwn.of ?_ (by simp)
                rw [List.length_map, List.length_append, List.map_append, List.map_append, List.map_map]
                rw [HFn.out] at hown
                exact hown
              have HB4 : Hid (Below wb.heap.size wb w4) := by
                have hb := blw_alloc (blw_trans HW.out HB3.out) (.cells #[.string f.nm] 9)
                exact Below.grown hb hgrow hb.size (fun k hk => (World.ownsRow.lt (HO.out.later HB3.out).2 k hk).1)
              clear hown hgrow
              go_wp2
              go_roundw
              case rel => first | exact ⟨j + 1, a4, d4, by omega, by go_num, by rw [HNx.out, List.length_append]; rfl, by rw [HNx.out]; exact HNo.out, HB4.out⟩ | ((repeat apply Exists.intro); exact ⟨⟨j + 1, a4, d4, by omega, by go_num, by rw [HNx.out, List.length_append]; rfl, by rw [HNx.out]; exact HNo.out, HB4.out⟩, rfl⟩)
              case measure => simp [intOf]; omega
          · have HM' : Hid (q + 1 ≤ nextG rd n row) := HMs.out (by rw [← HRg.out]; rfl)
            go_wp2
            go_roundw
            case rel => exact ⟨rfl, q + 1, by omega, by go_num, HM'.out, HWq.out⟩
            case measure => simp [intOf]; omega
        · have HNx : Hid (rowG rd n (j + 1) = row) := by
            show rowG rd n (j + 1) = row
            rw [rowG, ← HRow.out, if_neg (by have := HN.out; omega)]
          go_wp2
          go_roundw
          case rel => first | exact ⟨j + 1, a, c, by omega, by go_num, by rw [HNx.out], by rw [HNx.out]; exact HO.out.later HWq.out, HWb.out⟩ | ((repeat apply Exists.intro); exact ⟨⟨j + 1, a, c, by omega, by go_num, by rw [HNx.out], by rw [HNx.out]; exact HO.out.later HWq.out, HWb.out⟩, rfl⟩)
          case measure => simp [intOf]; omega
    · obtain rfl : j = n := by omega
      go_wp2
      go_ret
      rw [← HRow.out]
      exact ⟨⟨a, c, rfl, HO.out.at_ (by rw [List.length_map]; have := HRl.out; omega)⟩, blw_trans HB0.out HW.out⟩

end Go.Proofs.YtkjkklcflpchlaaGreat

namespace Go.Proofs.YtkjkklcflpchlaaGreat
open Go.RowKit Go.Deep

theorem mendsTo_step {ss : List Shp} {ms : List Mnd} {k : Nat} (h : mendsTo ss ms k = true) (ha : mendOk ss (ms.getD k Mnd.none) = true) : mendsTo ss ms (k + 1) = true := by
  unfold mendsTo at h ⊢; rw [Pl.to_succ, h, ha]; rfl
theorem rowsTo_step {ss : List Shp} {ms : List Mnd} {k : Nat} (h : rowsTo ss ms k = true) (ha : shapeRow ms (ss.getD k Shp.none) = true) : rowsTo ss ms (k + 1) = true := by
  unfold rowsTo at h ⊢; rw [Pl.to_succ, h, ha]; rfl
theorem mendsOk_m {ss : List Shp} {ms : List Mnd} {k : Nat} (hk : k < ms.length) (h : mendOk ss (ms.getD k Mnd.none) = false) : mendsOk ss ms = false := by
  unfold mendsOk mendsTo; rw [Pl.to_false _ _ k hk h]; simp
theorem mendsOk_r {ss : List Shp} {ms : List Mnd} {k : Nat} (hk : k < ss.length) (h : shapeRow ms (ss.getD k Shp.none) = false) : mendsOk ss ms = false := by
  unfold mendsOk rowsTo; rw [Pl.to_false _ _ k hk h]; simp

set_option maxRecDepth 8000 in
set_option maxHeartbeats 8000000 in
theorem mendsOkS (B mb : Nat) (ss : List Shp) (ms : List Mnd) (w : World) (h : ShpsIn w B ss) (hm : MndsIn w mb ms) :
    Calls Tryz.prog 46 #[.slice (some ⟨B, 0, none⟩) ss.length ss.length, .slice (some ⟨mb, 0, none⟩) ms.length ms.length] w fun e w' => e = .returned (.bool (mendsOk ss ms)) ∧ Below w.heap.size w w' := by
  have HA : Hid (ShpsIn w B ss ∧ MndsIn w mb ms) := ⟨h, hm⟩
  have hl := h.len
  have hlm := hm.len
  clear h hm
  go_enter Tryz.func46, Tryz.ntmps46
  go_wp2_with fail
  refine (shapesOkS B ss w HA.out.1).mono ?_
  rintro e w1 ⟨rfl, hb1⟩
  have HB1 : Hid (Below w.heap.size w w1) := hb1
  clear hb1
  cases hok : shapesOk ss
  · have HR : Hid (mendsOk ss ms = false) := by show mendsOk ss ms = false; unfold mendsOk; rw [hok]; rfl
    go_wp2
    go_ret
    exact ⟨Pl.ret_bool HR.out.symm, HB1.out⟩
  have HOK : Hid (shapesOk ss = true) := hok
  clear hok
  by_cases h12 : ms.length ≤ 12
  case neg =>
    have HR : Hid (mendsOk ss ms = false) := by show mendsOk ss ms = false; unfold mendsOk; simp [h12]
    go_wp2
    go_ret
    exact ⟨Pl.ret_bool HR.out.symm, HB1.out⟩
  go_wp2
  go_loopw [5] (fun i wr => ∃ k : Nat, k ≤ ms.length ∧ i = .int .i64 k ∧ mendsTo ss ms k = true ∧ Below w.heap.size w wr) (fun i _ => ms.length - (intOf i).toNat)
  case atStart => exact ⟨0, Nat.zero_le _, rfl, rfl, HB1.out⟩
  case round =>
    obtain ⟨k, hk, rfl, hall, hW⟩ := hrel
    have HM : Hid (mendsTo ss ms k = true) := hall
    have HW : Hid (Below w.heap.size w wr) := hW
    clear hall
    by_cases hlt : k < ms.length
    · have hmk := (HA.out.2.later hW).at_ k hlt
      obtain ⟨m, hmm⟩ : ∃ m, m = ms.getD k Mnd.none := ⟨_, rfl⟩
      rw [← hmm] at hmk
      have hmb : mb < wr.heap.size := (HA.out.2.later hW).lt
      have HX : Hid (Calls Tryz.prog 77 #[.slice (some ⟨B, 0, none⟩) ss.length ss.length, .agg #[.string m.kind, .string m.field, .string m.whn, .string m.is_, .string m.put, .string m.frm]] wr fun e w' => e = .returned (.bool (mendOk ss m)) ∧ Below wr.heap.size wr w') := mendOkS B ss m wr (HA.out.1.later hW) HOK.out hmk.sized
      obtain ⟨c0, c1, c2, c3, c4, c5, _⟩ := hmk
      have HS : Hid (mendOk ss m = true → mendsTo ss ms (k + 1) = true) := fun e => mendsTo_step HM.out (by rw [← hmm]; exact e)
      have HF : Hid (mendOk ss m = false → mendsOk ss ms = false) := fun e => mendsOk_m hlt (by rw [← hmm]; exact e)
      clear hmm hW
      go_wp2_with fail
      refine HX.out.mono ?_
      rintro e w3 ⟨rfl, hb3⟩
      have HB3 : Hid (Below w.heap.size w w3) := blw_trans HW.out hb3
      clear hb3 c0 c1 c2 c3 c4 c5 hmb
      cases hr : mendOk ss m
      · have HR : Hid (mendsOk ss ms = false) := HF.out hr
        go_wp2
        go_ret
        exact ⟨Pl.ret_bool HR.out.symm, HB3.out⟩
      · have HR : Hid (mendsTo ss ms (k + 1) = true) := HS.out hr
        go_wp2
        go_roundw
        case rel => exact ⟨k + 1, by omega, by go_num, HR.out, HB3.out⟩
        case measure => simp [intOf]; omega
    · obtain rfl : k = ms.length := by omega
      clear hW
      go_wp2
      go_loopw [6] (fun i wr => ∃ q : Nat, q ≤ ss.length ∧ i = .int .i64 q ∧ rowsTo ss ms q = true ∧ Below w.heap.size w wr) (fun i _ => ss.length - (intOf i).toNat)
      case atStart => exact ⟨0, Nat.zero_le _, rfl, rfl, HW.out⟩
      case round =>
        obtain ⟨q, hq, rfl, hrows, hW⟩ := hrel
        rename World => wq
        have HRw : Hid (rowsTo ss ms q = true) := hrows
        have HWq : Hid (Below w.heap.size w wq) := hW
        clear hrows
        by_cases hqn : q < ss.length
        · obtain ⟨s, hs⟩ : ∃ s, s = ss.getD q Shp.none := ⟨_, rfl⟩
          obtain ⟨b, hfl, _, c0, c1⟩ := (HA.out.1.later hW).flds hqn hs
          have HFo : Hid (fieldsOk ss s.fields = true) := by show fieldsOk ss s.fields = true; rw [hs]; exact fieldsOk_of HOK.out hqn
          have HFd : Hid (∀ m ∈ ms, ofKind s.kind m = true → found s.fields m) := by rw [hs]; exact found_of HOK.out HM.out hqn
          have hn6 := fields_few HFo.out
          have HX : Hid (∀ W, Below wq.heap.size wq W → Calls Tryz.prog 78 #[.agg #[.string s.kind, .slice (some ⟨b, 0, none⟩) s.fields.length s.fields.length], .slice (some ⟨mb, 0, none⟩) ms.length ms.length] W fun e w' => (∃ a c, e = .returned (.slice a (rowG (rdM s.fields ms s.kind) s.fields.length s.fields.length).length c)) ∧ Below W.heap.size W w' ∧ w'.cell? ⟨B, q * 2 + 1, none⟩ = some (.slice (some ⟨b, 0, none⟩) s.fields.length s.fields.length) ∧ B < w'.heap.size) := by
            intro W hW'
            refine (l3RowS ss s b mb ms W (hfl.later hW') (HA.out.2.later (blw_trans HWq.out hW')) HFo.out HFd.out).mono ?_
            rintro e w' ⟨⟨a, c, rfl, _⟩, hb⟩
            exact ⟨⟨_, _, rfl⟩, hb, ((blw_trans hW' hb).cell (p := ⟨B, q * 2 + 1, none⟩) (HA.out.1.later HWq.out).lt).trans c1, Nat.lt_of_lt_of_le (HA.out.1.later HWq.out).lt (blw_trans hW' hb).size⟩
          have hBl : B < wq.heap.size := (HA.out.1.later hW).lt
          have HS : Hid (shapeRow ms s = true → rowsTo ss ms (q + 1) = true) := fun e => rowsTo_step HRw.out (by rw [← hs]; exact e)
          have HF : Hid (shapeRow ms s = false → mendsOk ss ms = false) := fun e => mendsOk_r hqn (by rw [← hs]; exact e)
          obtain ⟨rl, hrl⟩ : ∃ rl, rl = (rowG (rdM s.fields ms s.kind) s.fields.length s.fields.length).length := ⟨_, rfl⟩
          have hrl6 : rl ≤ 6 := by have := rowG_le (rdM s.fields ms s.kind) s.fields.length s.fields.length; omega
          have HRl : Hid (shapeRow ms s = decide (rl = s.fields.length)) := by rw [hrl]; rfl
          rw [← hrl] at HX
          clear hs hfl hrl hW
          by_cases heq : (rl : Int) = (s.fields.length : Int)
          · have HR : Hid (rowsTo ss ms (q + 1) = true) := HS.out (by rw [HRl.out]; simp; omega)
            go_wp2_with fail
            go_region_with (go_at_call 78; refine (HX.out _ ?_).mono ?_; (repeat (first | exact Below.refl _ _ | refine Below.drew ?_)); rintro e w3 ⟨⟨a3, c3, rfl⟩, hb3, d1, dB⟩)
            all_goals
              go_wp2
              go_roundw
              case rel =>
                refine ⟨q + 1, by omega, by go_num, HR.out, ?_⟩
                repeat (first | exact blw_trans HWq.out hb3 | exact blw_trans HWq.out.drew hb3 | exact blw_trans HWq.out.drew.drew hb3 | refine Below.drew ?_)
              case measure => simp [intOf]; omega
          · have HR : Hid (mendsOk ss ms = false) := HF.out (by rw [HRl.out]; simp; omega)
            go_wp2_with fail
            go_region_with (go_at_call 78; refine (HX.out _ ?_).mono ?_; (repeat (first | exact Below.refl _ _ | refine Below.drew ?_)); rintro e w3 ⟨⟨a3, c3, rfl⟩, hb3, d1, dB⟩)
            all_goals
              go_wp2
              go_ret
              refine ⟨Pl.ret_bool HR.out.symm, ?_⟩
              repeat (first | exact blw_trans HWq.out hb3 | exact blw_trans HWq.out.drew hb3 | exact blw_trans HWq.out.drew.drew hb3 | refine Below.drew ?_)
        · obtain rfl : q = ss.length := by omega
          have HR : Hid (mendsOk ss ms = true) := by show mendsOk ss ms = true; unfold mendsOk; rw [HOK.out, HM.out, HRw.out]; simp [h12]
          go_wp2
          go_ret
          exact ⟨Pl.ret_bool HR.out.symm, HWq.out⟩

end Go.Proofs.YtkjkklcflpchlaaGreat
