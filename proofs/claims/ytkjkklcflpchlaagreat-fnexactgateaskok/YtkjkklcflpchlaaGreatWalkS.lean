/-
  Walks: ascending names; the shape of a kind; what is bounded.
-/
import Derived.Deep.RegionWith
import Derived.BigQuiet
import Derived.Deep.QuietTactic
import Derived.Deep.Light
import Derived.Test.YtkjkklcflpchlaaGreatPlainC
import Derived.Test.YtkjkklcflpchlaaGreatWalkA
import Derived.Test.YtkjkklcflpchlaaGreatWalkN
namespace Go.Proofs.YtkjkklcflpchlaaGreat
open Go.RowKit Go.Deep

set_option maxHeartbeats 1000000 in
theorem l1Shape_any (B : Nat) (ss : List Shp) (k : ByteArray) (w : World) (h : ShpsIn w B ss) :
    Calls Tryz.prog 52 #[.slice (some ⟨B, 0, none⟩) ss.length ss.length, .string k] w fun e w' => e = .returned (.int .i64 (if kindAt ss k < ss.length then (kindAt ss k : Int) else -1)) ∧ w = w' := by
  have hl := h.len
  obtain ⟨r, hr⟩ : ∃ r : Int, r = (if kindAt ss k < ss.length then (kindAt ss k : Int) else -1) := ⟨_, rfl⟩
  have HR : Hid (r = (if kindAt ss k < ss.length then (kindAt ss k : Int) else -1)) := hr
  rw [← hr]
  clear hr
  go_enter Tryz.func52, Tryz.ntmps52
  go_wp2
  go_loop [5] (fun i => ∃ q : Nat, q ≤ ss.length ∧ i = .int .i64 q ∧ q ≤ kindAt ss k) (fun i => ss.length - (intOf i).toNat)
  case atStart => exact ⟨0, Nat.zero_le _, rfl, Nat.zero_le _⟩
  case round =>
    obtain ⟨q, hq, rfl, hno⟩ := hrel
    have HN : Hid (q ≤ kindAt ss k) := hno
    clear hno
    by_cases hlt : q < ss.length
    · obtain ⟨b, _, _, _, _, c0, c1, _⟩ := h.at_ q hlt
      obtain ⟨s, hs⟩ : ∃ s, s = ss.getD q Shp.none := ⟨_, rfl⟩
      rw [← hs] at c0 c1
      cases ht : (s.kind.toList == k.toList)
      · have HM : Hid (q + 1 ≤ kindAt ss k) := kindAt_miss ss k q hlt HN.out (by rw [← hs]; exact ht)
        clear hs h
        go_wp2
        go_round
        case rel => exact ⟨q + 1, by omega, by go_num, HM.out⟩
        case measure => simp [intOf]; omega
      · have HM : Hid (kindAt ss k = q) := kindAt_hit ss k q hlt HN.out (by rw [← hs]; exact ht)
        clear hs h
        go_wp2
        go_ret
        exact ⟨Pl.ret_int (by rw [HR.out, HM.out, if_pos hlt]), rfl⟩
    · clear h
      go_wp2
      go_ret
      exact ⟨Pl.ret_int (by rw [HR.out, if_neg (by have := HN.out; omega)]), rfl⟩

theorem nameOk_same (s : ByteArray) (w : World) (hs : s.size ≤ maxLen) :
    Calls Tryz.prog 48 #[.string s] w fun e w' => e = .returned (.bool (Pl.nameOk s)) ∧ w' = w := (l1NameOk_any s w hs).mono fun _ _ h => ⟨h.1, h.2.symm⟩

theorem asc_false {ss : List ByteArray} {k : Nat} (hk : k < ss.length) (h : Pl.ascAt ss k = false) : Pl.asc ss = false := Pl.to_false _ _ k hk h
theorem asc_step {ss : List ByteArray} {k : Nat} (h : Pl.ascTo ss k = true) (ha : Pl.ascAt ss k = true) : Pl.ascTo ss (k + 1) = true := by
  unfold Pl.ascTo at h ⊢; rw [Pl.to_succ, h, ha]; rfl

set_option maxHeartbeats 2000000 in
theorem l1Asc_row (b cap : Nat) (ss : List ByteArray) (w : World) (hl : ss.length ≤ 1048576) (hb : b < w.heap.size) (hs : ∀ i, i < ss.length → (ss.getD i ByteArray.empty).size ≤ maxLen)
    (hc : ∀ i, i < ss.length → w.cell? ⟨b, 0 + i, none⟩ = some (.string (ss.getD i ByteArray.empty))) :
    Calls Tryz.prog 54 #[.slice (some ⟨b, 0, none⟩) ss.length cap] w fun e w' => e = .returned (.bool (Pl.asc ss)) ∧ Below w.heap.size w w' := by
  go_enter Tryz.func54, Tryz.ntmps54
  go_wp2
  go_loopw [3] (fun i wr => ∃ k : Nat, k ≤ ss.length ∧ i = .int .i64 k ∧ Pl.ascTo ss k = true ∧ Below w.heap.size w wr) (fun i _ => ss.length - (intOf i).toNat)
  case atStart => exact ⟨0, Nat.zero_le _, rfl, rfl, Below.refl _ _⟩
  case round =>
    obtain ⟨k, hk, rfl, hall, hW⟩ := hrel
    have HA : Hid (Pl.ascTo ss k = true) := hall
    clear hall
    by_cases hlt : k < ss.length
    · obtain ⟨s, hss⟩ : ∃ s, s = ss.getD k ByteArray.empty := ⟨_, rfl⟩
      have hck : wr.cell? ⟨b, k, none⟩ = some (.string s) := by rw [hss, hW.cell (p := ⟨b, k, none⟩) hb]; simpa using hc k hlt
      have HX : Hid (s.size ≤ maxLen) := by show s.size ≤ maxLen; rw [hss]; exact hs k hlt
      by_cases h0 : k = 0
      · subst h0
        have HT : Hid (Pl.ascAt ss 0 = Pl.nameOk s) := by show Pl.ascAt ss 0 = Pl.nameOk s; rw [hss]; simp [Pl.ascAt]
        clear hc hs hss
        cases hn : Pl.nameOk s
        · have HF : Hid (Pl.asc ss = false) := asc_false hlt (by rw [HT.out, hn])
          go_wp2_with fail
          go_quiet ((go_at_call 48; exact Calls.quiet_of_same (nameOk_same _ _ HX.out)))
          go_wp2
          go_ret
          exact ⟨Pl.ret_bool HF.out.symm, blw_drewN hW _⟩
        · have HF : Hid (Pl.ascTo ss 1 = true) := asc_step HA.out (by rw [HT.out, hn])
          go_wp2_with fail
          go_quiet ((go_at_call 48; exact Calls.quiet_of_same (nameOk_same _ _ HX.out)))
          go_wp2
          go_roundw
          case rel => exact ⟨1, by omega, by go_num, HF.out, blw_drewN hW _⟩
          case measure => simp [intOf]; omega
      · obtain ⟨p, hpp⟩ : ∃ p, p = ss.getD (k - 1) ByteArray.empty := ⟨_, rfl⟩
        obtain ⟨m, rfl⟩ : ∃ m, k = m + 1 := ⟨k - 1, by omega⟩
        have hcp : wr.cell? ⟨b, m, none⟩ = some (.string p) := by rw [hpp, hW.cell (p := ⟨b, m, none⟩) hb]; simpa using hc m (by omega)
        have HT : Hid (Pl.ascAt ss (m + 1) = (Pl.nameOk s && Op.bytesLess p.toList s.toList)) := by show Pl.ascAt ss (m + 1) = _; rw [hss, hpp]; simp [Pl.ascAt, Pl.less]
        clear hc hs hss hpp h0
        cases hn : Pl.nameOk s
        · have HF : Hid (Pl.asc ss = false) := asc_false hlt (by rw [HT.out, hn]; rfl)
          go_wp2_with fail
          go_quiet ((go_at_call 48; exact Calls.quiet_of_same (nameOk_same _ _ HX.out)))
          go_wp2
          go_ret
          exact ⟨Pl.ret_bool HF.out.symm, blw_drewN hW _⟩
        · cases hq : Op.bytesLess p.toList s.toList
          · have HF : Hid (Pl.asc ss = false) := asc_false hlt (by rw [HT.out, hn, hq]; rfl)
            go_wp2_with fail
            go_quiet ((go_at_call 48; exact Calls.quiet_of_same (nameOk_same _ _ HX.out)))
            go_wp2
            go_ret
            exact ⟨Pl.ret_bool HF.out.symm, blw_drewN hW _⟩
          · have HF : Hid (Pl.ascTo ss (m + 1 + 1) = true) := asc_step HA.out (by rw [HT.out, hn, hq]; rfl)
            go_wp2_with fail
            go_quiet ((go_at_call 48; exact Calls.quiet_of_same (nameOk_same _ _ HX.out)))
            go_wp2
            go_roundw
            case rel => exact ⟨m + 1 + 1, by omega, by go_num, HF.out, blw_drewN hW _⟩
            case measure => simp [intOf]; omega
    · have HF : Hid (Pl.asc ss = true) := by
        obtain rfl : k = ss.length := by omega
        exact HA.out
      go_wp2
      go_ret
      exact ⟨Pl.ret_bool HF.out.symm, hW⟩
end Go.Proofs.YtkjkklcflpchlaaGreat

namespace Go.Proofs.YtkjkklcflpchlaaGreat
open Go.RowKit Go.Deep

set_option maxHeartbeats 2000000 in
theorem asc_row (b cap : Nat) (ss : List ByteArray) (w : World) (hl : ss.length ≤ 1048576) (hs : ∀ i, i < ss.length → (ss.getD i ByteArray.empty).size ≤ maxLen)
    (hc : ∀ i, i < ss.length → w.cell? ⟨b, 0 + i, none⟩ = some (.string (ss.getD i ByteArray.empty))) :
    Calls Tryz.prog 90 #[.slice (some ⟨b, 0, none⟩) ss.length cap] w fun e w' => e = .returned (.bool (Pl.asc ss)) ∧ w = w' := by
  go_enter Tryz.func90, Tryz.ntmps90
  go_wp2
  go_loop [7] (fun i => ∃ k : Nat, k ≤ ss.length ∧ i = .int .i64 k ∧ Pl.ascTo ss k = true) (fun i => ss.length - (intOf i).toNat)
  case atStart => exact ⟨0, Nat.zero_le _, rfl, rfl⟩
  case round =>
    obtain ⟨k, hk, rfl, hall⟩ := hrel
    have HA : Hid (Pl.ascTo ss k = true) := hall
    clear hall
    by_cases hlt : k < ss.length
    · obtain ⟨s, hss⟩ : ∃ s, s = ss.getD k ByteArray.empty := ⟨_, rfl⟩
      have hck : w.cell? ⟨b, k, none⟩ = some (.string s) := by rw [hss]; simpa using hc k hlt
      have HX : Hid (s.size ≤ maxLen) := by show s.size ≤ maxLen; rw [hss]; exact hs k hlt
      by_cases h0 : k = 0
      · subst h0
        have HT : Hid (Pl.ascAt ss 0 = Pl.nameOk s) := by show Pl.ascAt ss 0 = Pl.nameOk s; rw [hss]; simp [Pl.ascAt]
        clear hc hs hss
        cases hn : Pl.nameOk s
        · have HF : Hid (Pl.asc ss = false) := asc_false hlt (by rw [HT.out, hn])
          go_wp2_with (go_at_call 62; refine (isName_any _ _ HX.out).mono ?_; rintro e w' ⟨rfl, rfl⟩)
          go_ret
          exact ⟨Pl.ret_bool HF.out.symm, rfl⟩
        · have HF : Hid (Pl.ascTo ss 1 = true) := asc_step HA.out (by rw [HT.out, hn])
          go_wp2_with (go_at_call 62; refine (isName_any _ _ HX.out).mono ?_; rintro e w' ⟨rfl, rfl⟩)
          go_round
          case rel => exact ⟨1, by omega, by go_num, HF.out⟩
          case measure => simp [intOf]; omega
      · obtain ⟨p, hpp⟩ : ∃ p, p = ss.getD (k - 1) ByteArray.empty := ⟨_, rfl⟩
        obtain ⟨m, rfl⟩ : ∃ m, k = m + 1 := ⟨k - 1, by omega⟩
        have hcp : w.cell? ⟨b, m, none⟩ = some (.string p) := by rw [hpp]; simpa using hc m (by omega)
        have HT : Hid (Pl.ascAt ss (m + 1) = (Pl.nameOk s && Op.bytesLess p.toList s.toList)) := by show Pl.ascAt ss (m + 1) = _; rw [hss, hpp]; simp [Pl.ascAt, Pl.less]
        clear hc hs hss hpp h0
        cases hn : Pl.nameOk s
        · have HF : Hid (Pl.asc ss = false) := asc_false hlt (by rw [HT.out, hn]; rfl)
          go_wp2_with (go_at_call 62; refine (isName_any _ _ HX.out).mono ?_; rintro e w' ⟨rfl, rfl⟩)
          go_ret
          exact ⟨Pl.ret_bool HF.out.symm, rfl⟩
        · cases hq : Op.bytesLess p.toList s.toList
          · have HF : Hid (Pl.asc ss = false) := asc_false hlt (by rw [HT.out, hn, hq]; rfl)
            go_wp2_with (go_at_call 62; refine (isName_any _ _ HX.out).mono ?_; rintro e w' ⟨rfl, rfl⟩)
            go_ret
            exact ⟨Pl.ret_bool HF.out.symm, rfl⟩
          · have HF : Hid (Pl.ascTo ss (m + 1 + 1) = true) := asc_step HA.out (by rw [HT.out, hn, hq]; rfl)
            go_wp2_with (go_at_call 62; refine (isName_any _ _ HX.out).mono ?_; rintro e w' ⟨rfl, rfl⟩)
            go_round
            case rel => exact ⟨m + 1 + 1, by omega, by go_num, HF.out⟩
            case measure => simp [intOf]; omega
    · have HF : Hid (Pl.asc ss = true) := by
        obtain rfl : k = ss.length := by omega
        exact HA.out
      go_wp2
      go_ret
      exact ⟨Pl.ret_bool HF.out.symm, rfl⟩

/-- What gateShapeOf answers. -/
def ShapeOf (ss : List Shp) (k : ByteArray) (w : World) (kd : ByteArray) (v : Value) : Prop :=
  hasKind ss k = true → kd = (ss.getD (kindAt ss k) Shp.none).kind ∧ ∃ b, v = .slice (some ⟨b, 0, none⟩) (ss.getD (kindAt ss k) Shp.none).fields.length (ss.getD (kindAt ss k) Shp.none).fields.length ∧ b < w.heap.size ∧
    ∀ i, i < (ss.getD (kindAt ss k) Shp.none).fields.length → OwnFld w b (i * 11) ((ss.getD (kindAt ss k) Shp.none).fields.getD i Fld.none)

set_option maxHeartbeats 2000000 in
theorem shapeOf_any (B : Nat) (ss : List Shp) (k : ByteArray) (w : World) (h : ShpsIn w B ss) :
    Calls Tryz.prog 83 #[.slice (some ⟨B, 0, none⟩) ss.length ss.length, .string k] w fun e w' => ∃ kd a n c, e = .returned (.tuple #[.agg #[.string kd, .slice a n c], .bool (hasKind ss k)]) ∧ ShapeOf ss k w kd (.slice a n c) ∧ Below w.heap.size w w' := by
  have hl := h.len
  have HH : Hid (ShpsIn w B ss) := h
  clear h
  go_enter Tryz.func83, Tryz.ntmps83
  go_wp2
  go_loopw [10] (fun i wr => ∃ q : Nat, q ≤ ss.length ∧ i = .int .i64 q ∧ q ≤ kindAt ss k ∧ Below w.heap.size w wr ∧ OwnBlk wr w.heap.size 99 2) (fun i _ => ss.length - (intOf i).toNat)
  case atStart => exact ⟨0, Nat.zero_le _, rfl, Nat.zero_le _, blw_alloc (Below.refl _ _) _, OwnBlk.alloc w _ 99 _ rfl⟩
  case round =>
    obtain ⟨q, hq, rfl, hno, hW, hO⟩ := hrel
    have HN : Hid (q ≤ kindAt ss k) := hno
    have HO : Hid (OwnBlk wr w.heap.size 99 2) := hO
    have hfz := hO.frozen
    obtain ⟨x0, o0⟩ := hO.cell 0 (by omega)
    obtain ⟨x1, o1⟩ := hO.cell 1 (by omega)
    have hz := hO.lt
    clear hno hO
    by_cases hlt : q < ss.length
    · obtain ⟨b, _, hbl, _, _, d0, d1, hf⟩ := HH.out.at_ q hlt
      have c0 := (hW.cell (p := ⟨B, q * 2, none⟩) HH.out.lt).trans d0
      have c1 := (hW.cell (p := ⟨B, q * 2 + 1, none⟩) HH.out.lt).trans d1
      clear d0 d1
      obtain ⟨s, hs⟩ : ∃ s, s = ss.getD q Shp.none := ⟨_, rfl⟩
      rw [← hs] at c0 c1 hf
      cases ht : (s.kind.toList == k.toList)
      · have HM : Hid (q + 1 ≤ kindAt ss k) := kindAt_miss ss k q hlt HN.out (by rw [← hs]; exact ht)
        clear hs hf hbl
        go_wp2
        go_roundw
        case rel => exact ⟨q + 1, by omega, by go_num, HM.out, blw_alloc hW _, HO.out.later (blw_alloc (Below.refl _ _) _)⟩
        case measure => simp [intOf]; omega
      · have HM : Hid (kindAt ss k = q) := kindAt_hit ss k q hlt HN.out (by rw [← hs]; exact ht)
        have HS : Hid (s = ss.getD q Shp.none ∧ b < w.heap.size ∧ ∀ i, i < s.fields.length → OwnFld w b (i * 11) (s.fields.getD i Fld.none)) := ⟨hs, hbl, hf⟩
        have HK : Hid (hasKind ss k = true) := by show hasKind ss k = true; simp [hasKind, HM.out, hlt]
        clear hs hf hbl
        go_wp2
        have e0 : ∀ (x : Value) (o : Obj), (((wr.setCell ⟨w.heap.size, 0, none⟩ (.string s.kind)).setCell ⟨w.heap.size, 1, none⟩ x).alloc o).cell? ⟨w.heap.size, 0, none⟩ = some (.string s.kind) := by
          intro x o
          have h1 := World.cell?_alloc_past (w := (wr.setCell ⟨w.heap.size, 0, none⟩ (.string s.kind)).setCell ⟨w.heap.size, 1, none⟩ x) o w.heap.size 0 (by rw [sc_size, sc_size]; exact hz)
          rw [h1, sc_ne _ _ _ _ _ _ (by omega)]
          exact sc_eq HO.out 0 (by omega) _
        have e1 : ∀ (x : Value) (o : Obj), (((wr.setCell ⟨w.heap.size, 0, none⟩ (.string s.kind)).setCell ⟨w.heap.size, 1, none⟩ x).alloc o).cell? ⟨w.heap.size, 1, none⟩ = some x := by
          intro x o
          have h1 := World.cell?_alloc_past (w := (wr.setCell ⟨w.heap.size, 0, none⟩ (.string s.kind)).setCell ⟨w.heap.size, 1, none⟩ x) o w.heap.size 1 (by rw [sc_size, sc_size]; exact hz)
          rw [h1]
          exact sc_eq (HO.out.setCell 0 _) 1 (by omega) _
        refine bodyPost_ret (v := .tuple #[.agg #[.string s.kind, .slice (some ⟨b, 0, none⟩) s.fields.length s.fields.length], .bool true]) (by simp [results, Tryz.results83, go_sem, e0, e1]) rfl ⟨_, _, _, _, by rw [HK.out], ?_, ?_⟩
        · intro _
          rw [HM.out, ← HS.out.1]
          exact ⟨rfl, b, rfl, HS.out.2.1, HS.out.2.2⟩
        · exact blw_alloc ((hW.setCell (p := ⟨w.heap.size, 0, none⟩) (Nat.le_refl _) _).setCell (p := ⟨w.heap.size, 1, none⟩) (Nat.le_refl _) _) _
    · have HK : Hid (hasKind ss k = false) := by have := HN.out; show hasKind ss k = false; simp [hasKind]; omega
      go_wp2
      have e0 : ∀ (x y : Value), ((wr.setCell ⟨w.heap.size, 0, none⟩ y).setCell ⟨w.heap.size, 1, none⟩ x).cell? ⟨w.heap.size, 0, none⟩ = some y := by
        intro x y
        rw [sc_ne _ _ _ _ _ _ (by omega)]
        exact sc_eq HO.out 0 (by omega) _
      have e1 : ∀ (x y : Value), ((wr.setCell ⟨w.heap.size, 0, none⟩ y).setCell ⟨w.heap.size, 1, none⟩ x).cell? ⟨w.heap.size, 1, none⟩ = some x := by
        intro x y
        exact sc_eq (HO.out.setCell 0 _) 1 (by omega) _
      refine bodyPost_ret (v := .tuple #[.agg #[.string ⟨#[]⟩, .slice none 0 0], .bool false]) (by simp [results, Tryz.results83, go_sem, e0, e1]) rfl ⟨_, _, _, _, by rw [HK.out], ?_, ?_⟩
      · intro h; rw [HK.out] at h; cases h
      · exact (hW.setCell (p := ⟨w.heap.size, 0, none⟩) (Nat.le_refl _) _).setCell (p := ⟨w.heap.size, 1, none⟩) (Nat.le_refl _) _

set_option maxHeartbeats 2000000 in
theorem bounded_1 (f : Fld) (b : Nat) (v : Value) (ss : List Shp) (w : World) (hk : f.kind = 1) (hw : f.we.size ≤ maxLen) :
    Calls Tryz.prog 169 #[.agg #[.string f.nm, .int .i64 1, .int .i64 f.least, .int .i64 f.most, .slice (some ⟨b, 0, none⟩) f.words.length f.words.length, .string f.to, .int .i64 f.role, .bool f.must, .bool f.fixed, .string f.de, .string f.we], v] w fun e w' => e = .returned (.bool (boundB ss f)) ∧ Below w.heap.size w w' := by
  have HB : Hid (boundB ss f = (decide (0 ≤ f.least) && decide (f.least ≤ f.most) && decide (f.most ≤ 1000000) && (f.we.toList.isEmpty || Pl.nameOk f.we))) := by show boundB ss f = _; simp [boundB, hk, Pl.isEmp]
  clear hk
  go_enter Tryz.func169, Tryz.ntmps169
  go_wp2_with (go_at_call 62; refine (isName_any _ _ hw).mono ?_; rintro e w' ⟨rfl, rfl⟩)
  all_goals go_ret
  all_goals refine ⟨Pl.ret_bool ?_, blw_alloc (Below.refl _ _) _⟩
  all_goals rw [HB.out]
  all_goals clear HB
  all_goals go_light
  all_goals first | (simp_all; done) | (simp_all; omega) | (rw [Bool.eq_iff_iff]; simp_all; done) | (rw [Bool.eq_iff_iff]; simp_all; omega)

set_option maxHeartbeats 2000000 in
theorem bounded_3 (f : Fld) (b : Nat) (v : Value) (ss : List Shp) (w : World) (hk : f.kind = 3) :
    Calls Tryz.prog 178 #[.agg #[.string f.nm, .int .i64 3, .int .i64 f.least, .int .i64 f.most, .slice (some ⟨b, 0, none⟩) f.words.length f.words.length, .string f.to, .int .i64 f.role, .bool f.must, .bool f.fixed, .string f.de, .string f.we], v] w fun e w' => e = .returned (.bool (boundB ss f)) ∧ Below w.heap.size w w' := by
  have HB : Hid (boundB ss f = (decide (1 ≤ f.least) && decide (f.least ≤ f.most) && decide (f.most ≤ 40))) := by show boundB ss f = _; simp [boundB, hk]
  clear hk
  go_enter Tryz.func178, Tryz.ntmps178
  go_wp2
  all_goals go_ret
  all_goals refine ⟨Pl.ret_bool ?_, blw_alloc (Below.refl _ _) _⟩
  all_goals rw [HB.out]
  all_goals clear HB
  all_goals go_light
  all_goals first | (simp_all; done) | (simp_all; omega) | (rw [Bool.eq_iff_iff]; simp_all; done) | (rw [Bool.eq_iff_iff]; simp_all; omega)

set_option maxHeartbeats 2000000 in
theorem bounded_2 (f : Fld) (b : Nat) (v : Value) (ss : List Shp) (w : World) (hk : f.kind = 2) (hs : f.small) (hb : b < w.heap.size) (hz : ∀ i, i < f.words.length → (f.words.getD i ByteArray.empty).size ≤ maxLen)
    (hc : ∀ i, i < f.words.length → w.cell? ⟨b, 0 + i, none⟩ = some (.string (f.words.getD i ByteArray.empty))) :
    Calls Tryz.prog 173 #[.agg #[.string f.nm, .int .i64 2, .int .i64 f.least, .int .i64 f.most, .slice (some ⟨b, 0, none⟩) f.words.length f.words.length, .string f.to, .int .i64 f.role, .bool f.must, .bool f.fixed, .string f.de, .string f.we], v] w fun e w' => e = .returned (.bool (boundB ss f)) ∧ Below w.heap.size w w' := by
  have HB : Hid (boundB ss f = (decide (1 ≤ f.words.length) && decide (f.words.length ≤ 6) && Pl.asc f.words)) := by show boundB ss f = _; simp [boundB, hk]
  have hs' : f.words.length ≤ 1048576 := hs
  have HX : Hid (∀ o, Calls Tryz.prog 90 #[.slice (some ⟨b, 0, none⟩) f.words.length f.words.length] (w.alloc o) fun e w' => e = .returned (.bool (Pl.asc f.words)) ∧ (w.alloc o) = w') := by
    intro o
    refine asc_row b _ f.words _ hs hz fun i hi => ?_
    rw [← hc i hi]
    exact (blw_alloc (Below.refl _ _) o : Below w.heap.size w _).cell (p := ⟨b, 0 + i, none⟩) hb
  clear hk hs hz hc
  by_cases h1 : 1 ≤ f.words.length
  · by_cases h2 : f.words.length ≤ 6
    · have HF : Hid (boundB ss f = Pl.asc f.words) := by show boundB ss f = _; rw [HB.out]; simp [h1, h2]
      go_enter Tryz.func173, Tryz.ntmps173
      go_wp2_with fail
      refine (HX.out _).mono ?_
      rintro e w' ⟨rfl, rfl⟩
      go_wp2
      go_ret
      exact ⟨Pl.ret_bool HF.out.symm, blw_alloc (Below.refl _ _) _⟩
    · have HF : Hid (boundB ss f = false) := by show boundB ss f = _; rw [HB.out]; simp [h2]
      go_enter Tryz.func173, Tryz.ntmps173
      go_wp2
      go_ret
      exact ⟨Pl.ret_bool HF.out.symm, blw_alloc (Below.refl _ _) _⟩
  · have HF : Hid (boundB ss f = false) := by show boundB ss f = _; rw [HB.out]; simp [h1]
    go_enter Tryz.func173, Tryz.ntmps173
    go_wp2
    go_ret
    exact ⟨Pl.ret_bool HF.out.symm, blw_alloc (Below.refl _ _) _⟩

set_option maxHeartbeats 2000000 in
theorem bounded_4 (f : Fld) (b B : Nat) (ss : List Shp) (w : World) (hk : f.kind = 4) (h : ShpsIn w B ss) :
    Calls Tryz.prog 181 #[.agg #[.string f.nm, .int .i64 4, .int .i64 f.least, .int .i64 f.most, .slice (some ⟨b, 0, none⟩) f.words.length f.words.length, .string f.to, .int .i64 f.role, .bool f.must, .bool f.fixed, .string f.de, .string f.we], .slice (some ⟨B, 0, none⟩) ss.length ss.length] w fun e w' => e = .returned (.bool (boundB ss f)) ∧ Below w.heap.size w w' := by
  have HB : Hid (boundB ss f = (hasKind ss f.to && (decide (1 ≤ f.role) && decide (f.role ≤ 3) && f.de.toList.isEmpty && (!decide (f.role = 2) || !f.must)))) := by show boundB ss f = _; simp [boundB, hk, Pl.isEmp, Bool.and_assoc]
  have HX : Hid (∀ o, Calls Tryz.prog 83 #[.slice (some ⟨B, 0, none⟩) ss.length ss.length, .string f.to] (w.alloc o) fun e w' => ∃ kd a n c, e = .returned (.tuple #[.agg #[.string kd, .slice a n c], .bool (hasKind ss f.to)]) ∧ ShapeOf ss f.to (w.alloc o) kd (.slice a n c) ∧ Below (w.alloc o).heap.size (w.alloc o) w') :=
    fun o => shapeOf_any B ss f.to (w.alloc o) (h.later (blw_alloc (Below.refl _ _) o))
  clear hk h
  go_enter Tryz.func181, Tryz.ntmps181
  go_wp2_with fail
  refine (HX.out _).mono ?_
  rintro e w2 ⟨kd, a2, n2, c2, rfl, _, hb2⟩
  have hB2 := blw_trans (blw_alloc (Below.refl w.heap.size w) (.cells #[.string f.nm, .int .i64 4, .int .i64 f.least, .int .i64 f.most, .slice (some ⟨b, 0, none⟩) f.words.length f.words.length, .string f.to, .int .i64 f.role, .bool f.must, .bool f.fixed, .string f.de, .string f.we] 200)) hb2
  have k0 : ∀ o, w2.cell? ⟨w.heap.size, o, none⟩ = (w.alloc (.cells #[.string f.nm, .int .i64 4, .int .i64 f.least, .int .i64 f.most, .slice (some ⟨b, 0, none⟩) f.words.length f.words.length, .string f.to, .int .i64 f.role, .bool f.must, .bool f.fixed, .string f.de, .string f.we] 200)).cell? ⟨w.heap.size, o, none⟩ := fun o => hb2.cell (p := ⟨w.heap.size, o, none⟩) (by simp)
  have hz2 : w.heap.size < w2.heap.size := by have := hb2.size; simp at this; omega
  clear hb2 HX
  cases hh : hasKind ss f.to
  · have HF : Hid (boundB ss f = false) := by show boundB ss f = _; rw [HB.out, hh]; rfl
    go_wp2
    go_ret
    exact ⟨Pl.ret_bool HF.out.symm, blw_alloc hB2 _⟩
  · have HF : Hid (boundB ss f = (decide (1 ≤ f.role) && decide (f.role ≤ 3) && f.de.toList.isEmpty && (!decide (f.role = 2) || !f.must))) := by show boundB ss f = _; rw [HB.out, hh]; rfl
    clear HB
    go_wp2
    all_goals go_ret
    all_goals refine ⟨Pl.ret_bool ?_, blw_alloc hB2 _⟩
    all_goals rw [HF.out]
    all_goals clear HF hB2 k0
    all_goals go_light
    all_goals first | (simp_all; done) | (simp_all; omega) | (rw [Bool.eq_iff_iff]; simp_all; done) | (rename_i _ _ hor; rcases hor with hor | hor; (exfalso; omega); (simp only [Bool.not_eq_true'] at hor; rw [hor]; simp))

end Go.Proofs.YtkjkklcflpchlaaGreat
