/-
  Walks: the place of a field's name; fields of another kind.
-/
import Derived.Test.YtkjkklcflpchlaaGreatWalkA
import Derived.Test.YtkjkklcflpchlaaGreatWalkT
import Derived.Test.YtkjkklcflpchlaaGreatWalkP
import Derived.Test.YtkjkklcflpchlaaGreatPlainC
import Derived.Test.YtkjkklcflpchlaaGreatWalkJ
namespace Go.Proofs.YtkjkklcflpchlaaGreat
open Go.RowKit

set_option maxHeartbeats 1000000 in
theorem l1Number_loop (s : ByteArray) (w : World) (h1 : 1 ≤ s.size) (h7 : s.size ≤ 7) (hl : Pl.lead s = false) :
    Calls Tryz.prog 114 #[.string s] w fun e w' => e = .returned (.int .i64 (Pl.numb s)) ∧ w = w' := by
  have hb : (decide ((1 : Int) ≤ (s.size : Int)) && decide ((s.size : Int) ≤ 7)) = true := by simp; omega
  have HN : Hid (Pl.lead s = false) := hl
  rw [Pl.lead_of s (by omega), Pl.byte_beq] at hl
  have HL : Hid ((decide (1 < s.size) && ((s[0].toNat : Int) == 48)) = false) := hl
  clear hl
  by_cases h2 : 1 < s.size
  all_goals
    try have h0 : ((s[0].toNat : Int) == 48) = false := by simpa [h2] using HL.out
    go_enter Tryz.func114, Tryz.ntmps114
    go_wp2_with (go_at_call 49; refine (l1In_any _ _ _ _).mono ?_; rintro e w' ⟨rfl, rfl⟩)
    go_loop [3, 4] (fun n i => ∃ k : Nat, k ≤ s.size ∧ i = .int .i64 k ∧ n = .int .i64 (Pl.decVal (s.data.toList.take k)) ∧ (s.data.toList.take k).all Pl.digit = true) (fun _ i => s.size - (intOf i).toNat)
    case atStart => exact ⟨0, Nat.zero_le _, rfl, rfl, rfl⟩
    case round =>
      obtain ⟨k, hk, rfl, rfl, hall⟩ := hrel
      have hbd := Pl.decVal_small s k hk (by omega) hall
      obtain ⟨b1, b2⟩ := hbd
      have HA : Hid ((s.data.toList.take k).all Pl.digit = true) := hall
      clear hall
      by_cases hlt : k < s.size
      · have HS : Hid (Pl.decVal (s.data.toList.take (k + 1)) = Pl.decVal (s.data.toList.take k) * 10 + ((s[k].toNat : Int) - 48)) := Pl.decVal_take s k hlt
        by_cases hd : 48 ≤ (s[k].toNat : Int) ∧ (s[k].toNat : Int) ≤ 57
        · obtain ⟨d1, d2⟩ := hd
          go_wp2
          go_round
          case rel => exact ⟨k + 1, by omega, by go_num, by rw [HS.out]; go_num, by rw [Pl.all_snoc _ _ _ hlt, HA.out]; simp [Pl.digit]; omega⟩
          case measure => simp [intOf]; omega
        · have HF : Hid (Pl.numb s = -1) := by
            show Pl.numb s = -1
            have : s.data.toList.all Pl.digit = false := Pl.all_false _ s k hlt (by rw [Bool.eq_false_iff]; simp [Pl.digit]; omega)
            simp [Pl.numb, Pl.decOk, this]
          by_cases hd1 : 48 ≤ (s[k].toNat : Int)
          all_goals
            go_wp2
            go_ret
            exact ⟨Pl.ret_int HF.out.symm, rfl⟩
      · have HF : Hid (Pl.numb s = Pl.decVal (s.data.toList.take k)) := by
          show Pl.numb s = Pl.decVal (s.data.toList.take k)
          have e : s.data.toList.take k = s.data.toList := List.take_of_length_le (by simp; omega)
          have ha := HA.out
          rw [e] at ha ⊢
          simp [Pl.numb, Pl.decOk, ha, HN.out]
          omega
        go_wp2
        go_ret
        exact ⟨Pl.ret_int HF.out.symm, rfl⟩

set_option maxHeartbeats 1000000 in
theorem l1Number_any (s : ByteArray) (w : World) (hs : s.size ≤ maxLen) :
    Calls Tryz.prog 114 #[.string s] w fun e w' => e = .returned (.int .i64 (Pl.numb s)) ∧ w = w' := by
  unfold maxLen at hs
  by_cases hin : 1 ≤ s.size ∧ s.size ≤ 7
  · obtain ⟨h1, h7⟩ := hin
    cases hl : Pl.lead s
    · exact l1Number_loop s w h1 h7 hl
    · have HF : Hid (Pl.numb s = -1) := by show Pl.numb s = -1; simp [Pl.numb, Pl.decOk, hl]
      have hb : (decide ((1 : Int) ≤ (s.size : Int)) && decide ((s.size : Int) ≤ 7)) = true := by simp; omega
      rw [Pl.lead_of s (by omega), Pl.byte_beq] at hl
      simp only [Bool.and_eq_true, decide_eq_true_eq] at hl
      obtain ⟨h2, h0⟩ := hl
      have h0' : ((s[0].toNat : Int) == 48) = true := h0
      clear h0
      go_enter Tryz.func114, Tryz.ntmps114
      go_wp2_with (go_at_call 49; refine (l1In_any _ _ _ _).mono ?_; rintro e w' ⟨rfl, rfl⟩)
      go_ret
      exact ⟨Pl.ret_int HF.out.symm, rfl⟩
  · have HF : Hid (Pl.numb s = -1) := by
      show Pl.numb s = -1
      have : (decide (1 ≤ s.size) && decide (s.size ≤ 7)) = false := by
        rw [Bool.eq_false_iff]; simp; omega
      simp [Pl.numb, Pl.decOk, this]
    have hb : (decide ((1 : Int) ≤ (s.size : Int)) && decide ((s.size : Int) ≤ 7)) = false := by
      rw [Bool.eq_false_iff]; simp; omega
    clear hin
    go_enter Tryz.func114, Tryz.ntmps114
    go_wp2_with (go_at_call 49; refine (l1In_any _ _ _ _).mono ?_; rintro e w' ⟨rfl, rfl⟩)
    go_ret
    exact ⟨Pl.ret_int HF.out.symm, rfl⟩

end Go.Proofs.YtkjkklcflpchlaaGreat

namespace Go.Proofs.YtkjkklcflpchlaaGreat
open Go.RowKit

theorem numb_nonneg (s : ByteArray) (h : Pl.decOk s = true) : 0 ≤ Pl.decVal s.data.toList ∧ Pl.decVal s.data.toList ≤ 9999999 := by
  simp only [Pl.decOk, Bool.and_eq_true, decide_eq_true_eq] at h
  have e : s.data.toList.take s.size = s.data.toList := List.take_of_length_le (by simp)
  have := Pl.decVal_small s s.size (Nat.le_refl _) (by omega) (by rw [e]; exact h.2)
  rw [e] at this
  exact this

set_option maxHeartbeats 1000000 in
theorem specFits_1 (nm : ByteArray) (least most : Int) (vs : Value) (to : ByteArray) (role : Int) (must fixed : Bool) (de we v : ByteArray) (ss : List ByteArray) (w : World) (hv : v.size ≤ maxLen) :
    Calls Tryz.prog 97 #[.agg #[.string nm, .int .i64 1, .int .i64 least, .int .i64 most, vs, .string to, .int .i64 role, .bool must, .bool fixed, .string de, .string we], .string v] w
      fun e w' => e = .returned (.bool (Pl.fits 1 least most ss v)) ∧ Below w.heap.size w w' := by
  cases hd : Pl.decOk v
  · have HF : Hid (Pl.fits 1 least most ss v = false) := by show Pl.fits 1 least most ss v = false; simp [Pl.fits, hd]
    have HN : Hid (Pl.numb v = -1) := by show Pl.numb v = -1; simp [Pl.numb, hd]
    clear hd
    go_enter Tryz.func97, Tryz.ntmps97
    go_wp2_with fail
    refine (l1Number_any _ _ hv).mono ?_
    rintro e w' ⟨rfl, rfl⟩
    rw [HN.out]
    go_wp2
    go_ret
    exact ⟨Pl.ret_bool HF.out.symm, (Below.refl _ _).alloc (Nat.le_refl _) _⟩
  · have HF : Hid (Pl.fits 1 least most ss v = (decide (least ≤ Pl.decVal v.data.toList) && decide (Pl.decVal v.data.toList ≤ most))) := by
      show Pl.fits 1 least most ss v = _; simp [Pl.fits, hd]
    have HN : Hid (Pl.numb v = Pl.decVal v.data.toList) := by show Pl.numb v = _; simp [Pl.numb, hd]
    have hn := (numb_nonneg v hd).1
    clear hd
    go_enter Tryz.func97, Tryz.ntmps97
    go_wp2_with fail
    refine (l1Number_any _ _ hv).mono ?_
    rintro e w' ⟨rfl, rfl⟩
    rw [HN.out]
    go_wp2_with (go_at_call 49; refine (l1In_any _ _ _ _).mono ?_; rintro e w' ⟨rfl, rfl⟩)
    go_ret
    exact ⟨Pl.ret_bool HF.out.symm, (Below.refl _ _).alloc (Nat.le_refl _) _⟩

set_option maxHeartbeats 1000000 in
theorem specFits_2 (nm : ByteArray) (least most : Int) (b off cap : Nat) (to : ByteArray) (role : Int) (must fixed : Bool) (de we v : ByteArray) (ss : List ByteArray) (w : World)
    (hb : b < w.heap.size) (hl : ss.length ≤ maxLen) (hc : ∀ i, i < ss.length → w.cell? ⟨b, off + i, none⟩ = some (.string (ss.getD i ByteArray.empty))) :
    Calls Tryz.prog 97 #[.agg #[.string nm, .int .i64 2, .int .i64 least, .int .i64 most, .slice (some ⟨b, off, none⟩) ss.length cap, .string to, .int .i64 role, .bool must, .bool fixed, .string de, .string we], .string v] w
      fun e w' => e = .returned (.bool (Pl.fits 2 least most ss v)) ∧ Below w.heap.size w w' := by
  have HX : Hid (∀ o, Calls Tryz.prog 99 #[.slice (some ⟨b, off, none⟩) ss.length cap, .string v] (w.alloc o) fun e w' => e = .returned (.bool (Pl.has ss v)) ∧ (w.alloc o) = w') := by
    intro o
    refine l1Has_row b off cap ss v _ hl fun i hi => ?_
    rw [← hc i hi]
    exact ((Below.refl _ _).alloc (Nat.le_refl _) o : Below w.heap.size w _).cell (p := ⟨b, off + i, none⟩) hb
  clear hc
  by_cases h1 : 1 ≤ v.size
  · have HF : Hid (Pl.fits 2 least most ss v = Pl.has ss v) := by show Pl.fits 2 least most ss v = _; simp [Pl.fits, h1]
    have he := Pl.empty_no v h1
    go_enter Tryz.func97, Tryz.ntmps97
    go_wp2_with fail
    refine (HX.out _).mono ?_
    rintro e w' ⟨rfl, rfl⟩
    go_wp2
    go_ret
    exact ⟨Pl.ret_bool HF.out.symm, (Below.refl _ _).alloc (Nat.le_refl _) _⟩
  · have HF : Hid (Pl.fits 2 least most ss v = false) := by show Pl.fits 2 least most ss v = _; simp [Pl.fits, h1]
    have he := Pl.empty_yes v h1
    go_enter Tryz.func97, Tryz.ntmps97
    go_wp2
    go_ret
    exact ⟨Pl.ret_bool HF.out.symm, (Below.refl _ _).alloc (Nat.le_refl _) _⟩

set_option maxHeartbeats 1000000 in
theorem specFits_3 (nm : ByteArray) (least most : Int) (vs : Value) (to : ByteArray) (role : Int) (must fixed : Bool) (de we v : ByteArray) (ss : List ByteArray) (w : World) (hv : v.size ≤ maxLen) :
    Calls Tryz.prog 97 #[.agg #[.string nm, .int .i64 3, .int .i64 least, .int .i64 most, vs, .string to, .int .i64 role, .bool must, .bool fixed, .string de, .string we], .string v] w
      fun e w' => e = .returned (.bool (Pl.fits 3 least most ss v)) ∧ Below w.heap.size w w' := by
  unfold maxLen at hv
  go_enter Tryz.func97, Tryz.ntmps97
  go_wp2
  go_loop [6] (fun i => ∃ k : Nat, k ≤ v.size ∧ i = .int .i64 k ∧ (v.data.toList.take k).all Pl.textByte = true) (fun i => v.size - (intOf i).toNat)
  case atStart => exact ⟨0, Nat.zero_le _, rfl, rfl⟩
  case round =>
    obtain ⟨k, hk, rfl, hall⟩ := hrel
    have HA : Hid ((v.data.toList.take k).all Pl.textByte = true) := hall
    clear hall
    by_cases hlt : k < v.size
    · have hby0 : (0 : Int) ≤ (v[k].toNat : Int) := by omega
      have hby : (v[k].toNat : Int) ≤ 255 := by have := v[k].toNat_lt; omega
      by_cases hd : 33 ≤ (v[k].toNat : Int) ∧ (v[k].toNat : Int) ≤ 126
      · have hb : (decide ((33 : Int) ≤ (v[k].toNat : Int)) && decide ((v[k].toNat : Int) ≤ 126)) = true := by simp; omega
        have HT : Hid (Pl.textByte v[k] = true) := by show Pl.textByte v[k] = true; simp [Pl.textByte]; omega
        clear hd
        go_wp2_with (go_at_call 49; refine (l1In_any _ _ _ _).mono ?_; rintro e w' ⟨rfl, rfl⟩)
        go_round
        case rel => exact ⟨k + 1, by omega, by go_num, by rw [Pl.all_snoc _ _ _ hlt, HA.out, HT.out]; rfl⟩
        case measure => simp [intOf]; omega
      · have hb : (decide ((33 : Int) ≤ (v[k].toNat : Int)) && decide ((v[k].toNat : Int) ≤ 126)) = false := by
          rw [Bool.eq_false_iff]; simp; omega
        have HF : Hid (Pl.fits 3 least most ss v = false) := by
          show Pl.fits 3 least most ss v = false
          have : Pl.textBytes v = false := Pl.all_false _ v k hlt (by rw [Bool.eq_false_iff]; simp [Pl.textByte]; omega)
          simp [Pl.fits, this]
        clear hd
        go_wp2_with (go_at_call 49; refine (l1In_any _ _ _ _).mono ?_; rintro e w' ⟨rfl, rfl⟩)
        go_ret
        exact ⟨Pl.ret_bool HF.out.symm, (Below.refl _ _).alloc (Nat.le_refl _) _⟩
    · have HT : Hid (Pl.textBytes v = true) := by
        show Pl.textBytes v = true
        unfold Pl.textBytes
        rw [← Pl.all_whole Pl.textByte v k (by omega)]
        exact HA.out
      by_cases h1 : 1 ≤ v.size
      · have HF : Hid (Pl.fits 3 least most ss v = (decide (least ≤ (v.size : Int)) && decide ((v.size : Int) ≤ most))) := by
          show Pl.fits 3 least most ss v = _; simp [Pl.fits, HT.out, h1]
        have he := Pl.empty_no v h1
        go_wp2_with (go_at_call 49; refine (l1In_any _ _ _ _).mono ?_; rintro e w' ⟨rfl, rfl⟩)
        go_ret
        exact ⟨Pl.ret_bool HF.out.symm, (Below.refl _ _).alloc (Nat.le_refl _) _⟩
      · have HF : Hid (Pl.fits 3 least most ss v = false) := by show Pl.fits 3 least most ss v = _; simp [Pl.fits, h1]
        have he := Pl.empty_yes v h1
        go_wp2
        go_ret
        exact ⟨Pl.ret_bool HF.out.symm, (Below.refl _ _).alloc (Nat.le_refl _) _⟩

set_option maxHeartbeats 1000000 in
theorem specFits_4 (nm : ByteArray) (least most : Int) (vs : Value) (to : ByteArray) (role : Int) (must fixed : Bool) (de we v : ByteArray) (ss : List ByteArray) (w : World) (hv : v.size ≤ maxLen) :
    Calls Tryz.prog 97 #[.agg #[.string nm, .int .i64 4, .int .i64 least, .int .i64 most, vs, .string to, .int .i64 role, .bool must, .bool fixed, .string de, .string we], .string v] w
      fun e w' => e = .returned (.bool (Pl.fits 4 least most ss v)) ∧ Below w.heap.size w w' := by
  have HF : Hid (Pl.fits 4 least most ss v = Pl.nameOk v) := by show Pl.fits 4 least most ss v = _; simp [Pl.fits]
  go_enter Tryz.func97, Tryz.ntmps97
  go_wp2_with (go_at_call 48; refine (l1NameOk_any _ _ hv).mono ?_; rintro e w' ⟨rfl, rfl⟩)
  go_ret
  exact ⟨Pl.ret_bool HF.out.symm, (Below.refl _ _).alloc (Nat.le_refl _) _⟩

set_option maxHeartbeats 1000000 in
theorem specFits_0 (nm : ByteArray) (kind least most : Int) (vs : Value) (to : ByteArray) (role : Int) (must fixed : Bool) (de we v : ByteArray) (ss : List ByteArray) (w : World)
    (h1 : (kind == 1) = false) (h2 : (kind == 2) = false) (h3 : (kind == 3) = false) (h4 : (kind == 4) = false) :
    Calls Tryz.prog 97 #[.agg #[.string nm, .int .i64 kind, .int .i64 least, .int .i64 most, vs, .string to, .int .i64 role, .bool must, .bool fixed, .string de, .string we], .string v] w
      fun e w' => e = .returned (.bool (Pl.fits kind least most ss v)) ∧ Below w.heap.size w w' := by
  have HF : Hid (Pl.fits kind least most ss v = false) := by
    show Pl.fits kind least most ss v = _
    simp only [beq_eq_false_iff_ne, ne_eq] at h1 h2 h3 h4
    simp [Pl.fits, h1, h2, h3, h4]
  go_enter Tryz.func97, Tryz.ntmps97
  go_wp2
  go_ret
  exact ⟨Pl.ret_bool HF.out.symm, (Below.refl _ _).alloc (Nat.le_refl _) _⟩

theorem specFits_any (nm : ByteArray) (kind least most : Int) (b off cap : Nat) (to : ByteArray) (role : Int) (must fixed : Bool) (de we v : ByteArray) (ss : List ByteArray) (w : World)
    (hv : v.size ≤ maxLen) (hb : b < w.heap.size) (hl : ss.length ≤ maxLen) (hc : ∀ i, i < ss.length → w.cell? ⟨b, off + i, none⟩ = some (.string (ss.getD i ByteArray.empty))) :
    Calls Tryz.prog 97 #[.agg #[.string nm, .int .i64 kind, .int .i64 least, .int .i64 most, .slice (some ⟨b, off, none⟩) ss.length cap, .string to, .int .i64 role, .bool must, .bool fixed, .string de, .string we], .string v] w
      fun e w' => e = .returned (.bool (Pl.fits kind least most ss v)) ∧ Below w.heap.size w w' := by
  by_cases h1 : kind = 1
  · subst h1; exact specFits_1 nm least most _ to role must fixed de we v ss w hv
  by_cases h2 : kind = 2
  · subst h2; exact specFits_2 nm least most b off cap to role must fixed de we v ss w hb hl hc
  by_cases h3 : kind = 3
  · subst h3; exact specFits_3 nm least most _ to role must fixed de we v ss w hv
  by_cases h4 : kind = 4
  · subst h4; exact specFits_4 nm least most _ to role must fixed de we v ss w hv
  exact specFits_0 nm kind least most _ to role must fixed de we v ss w (by simp [h1]) (by simp [h2]) (by simp [h3]) (by simp [h4])

end Go.Proofs.YtkjkklcflpchlaaGreat

namespace Go.Proofs.YtkjkklcflpchlaaGreat
open Go.RowKit Go.Deep

set_option maxHeartbeats 2000000 in
theorem fieldOkI_0 (f : Fld) (b : Nat) (v : Value) (ss : List Shp) (w : World) (h1 : (f.kind == 1) = false) (h2 : (f.kind == 2) = false) (h3 : (f.kind == 3) = false) (h4 : (f.kind == 4) = false) :
    Calls Tryz.prog 116 #[v, .agg #[.string f.nm, .int .i64 f.kind, .int .i64 f.least, .int .i64 f.most, .slice (some ⟨b, 0, none⟩) f.words.length f.words.length, .string f.to, .int .i64 f.role, .bool f.must, .bool f.fixed, .string f.de, .string f.we]] w fun e w' => e = .returned (.bool (fieldOk ss f)) ∧ Below w.heap.size w w' := by
  have HF : Hid (fieldOk ss f = false) := by
    show fieldOk ss f = _
    simp only [beq_eq_false_iff_ne, ne_eq] at h1 h2 h3 h4
    have : isKind f.kind = false := by rw [Bool.eq_false_iff]; simp [isKind]; omega
    simp [fieldOk, this]
  have HX : Hid (∀ W, Calls Tryz.prog 117 #[.agg #[.string f.nm, .int .i64 f.kind, .int .i64 f.least, .int .i64 f.most, .slice (some ⟨b, 0, none⟩) f.words.length f.words.length, .string f.to, .int .i64 f.role, .bool f.must, .bool f.fixed, .string f.de, .string f.we]] W fun e w' => e = .returned (.tuple #[.nilIface, .bool false]) ∧ Below W.heap.size W w') := fun W => kindOf_0 f.nm f.kind f.least f.most _ f.to f.role f.must f.fixed f.de f.we W h1 h2 h3 h4
  clear h1 h2 h3 h4
  go_enter Tryz.func116, Tryz.ntmps116
  go_wp2_with fail
  refine (HX.out _).mono ?_
  rintro e w1 ⟨rfl, hb1⟩
  have hB1 := blw_trans (blw_alloc (Below.refl _ _) _) hb1
  clear hb1
  go_wp2
  go_ret
  exact ⟨Pl.ret_bool HF.out.symm, hB1⟩

theorem fieldOkI (f : Fld) (b B : Nat) (ss : List Shp) (w : World) (h : ShpsIn w B ss) (hp : FldArg w b f) :
    Calls Tryz.prog 116 #[.slice (some ⟨B, 0, none⟩) ss.length ss.length, .agg #[.string f.nm, .int .i64 f.kind, .int .i64 f.least, .int .i64 f.most, .slice (some ⟨b, 0, none⟩) f.words.length f.words.length, .string f.to, .int .i64 f.role, .bool f.must, .bool f.fixed, .string f.de, .string f.we]] w fun e w' => e = .returned (.bool (fieldOk ss f)) ∧ Below w.heap.size w w' := by
  by_cases h1 : f.kind = 1
  · have := fieldOkI_1 f b B ss w h1 h hp; rw [← h1] at this; exact this
  by_cases h2 : f.kind = 2
  · have := fieldOkI_2 f b B ss w h2 h hp; rw [← h2] at this; exact this
  by_cases h3 : f.kind = 3
  · have := fieldOkI_3 f b B ss w h3 h hp; rw [← h3] at this; exact this
  by_cases h4 : f.kind = 4
  · have := fieldOkI_4 f b B ss w h4 h hp; rw [← h4] at this; exact this
  exact fieldOkI_0 f b _ ss w (by simp [h1]) (by simp [h2]) (by simp [h3]) (by simp [h4])

set_option maxHeartbeats 4000000 in
theorem fieldOkS_1 (f : Fld) (b B : Nat) (ss : List Shp) (w : World) (hk : f.kind = 1) (h : ShpsIn w B ss) (hp : FldArg w b f) :
    Calls Tryz.prog 95 #[.slice (some ⟨B, 0, none⟩) ss.length ss.length, .agg #[.string f.nm, .int .i64 1, .int .i64 f.least, .int .i64 f.most, .slice (some ⟨b, 0, none⟩) f.words.length f.words.length, .string f.to, .int .i64 f.role, .bool f.must, .bool f.fixed, .string f.de, .string f.we]] w fun e w' => e = .returned (.bool (Pl.nameOk f.nm && fieldOk ss f)) ∧ Below w.heap.size w w' := by
  have HP : Hid (FldArg w b f) := hp
  have HL : Hid (ShpsIn w B ss) := h
  have HO : Hid (fieldOk ss f = (bareB f && boundB ss f && defB f)) := by show fieldOk ss f = _; simp [fieldOk, isKind, hk]
  have HBo : Hid (boundB ss f = (decide (0 ≤ f.least) && decide (f.least ≤ f.most) && decide (f.most ≤ 1000000) && (f.we.toList.isEmpty || Pl.nameOk f.we))) := by show boundB ss f = _; simp [boundB, hk, Pl.isEmp]
  have HBa : Hid (∀ W, Calls Tryz.prog 113 #[.agg #[.string f.nm, .int .i64 1, .int .i64 f.least, .int .i64 f.most, .slice (some ⟨b, 0, none⟩) f.words.length f.words.length, .string f.to, .int .i64 f.role, .bool f.must, .bool f.fixed, .string f.de, .string f.we]] W fun e w' => e = .returned (.bool (bareB f)) ∧ Below W.heap.size W w') := fun W => l1Bare_1 f b W HP.out.small hk
  have HFi : Hid (∀ W, Below w.heap.size w W → Calls Tryz.prog 97 #[.agg #[.string f.nm, .int .i64 1, .int .i64 f.least, .int .i64 f.most, .slice (some ⟨b, 0, none⟩) f.words.length f.words.length, .string f.to, .int .i64 f.role, .bool f.must, .bool f.fixed, .string f.de, .string f.we], .string f.de] W fun e w' => e = .returned (.bool (fitB f f.de)) ∧ Below W.heap.size W w') := by
    intro W hW
    have Q := HP.out.later hW
    have e : fitB f f.de = Pl.fits 1 f.least f.most f.words f.de := by rw [fitB, hk]
    rw [e]
    exact specFits_any f.nm 1 f.least f.most b 0 f.words.length f.to f.role f.must f.fixed f.de f.we f.de f.words W Q.sized.2.2.1 Q.lt (by have : f.words.length ≤ 1048576 := Q.small; unfold maxLen; omega) Q.cells
  clear hp h hk
  cases hnm : Pl.nameOk f.nm
  · have HN : Hid (f.nm.size ≤ maxLen) := HP.out.sized.1
    go_enter Tryz.func95, Tryz.ntmps95
    go_wp2_with (go_at_call 48; refine (l1NameOk_any _ _ HN.out).mono ?_; rintro e w' ⟨rfl, rfl⟩)
    go_ret
    exact ⟨rfl, blw_alloc (Below.refl _ _) _⟩
  have HN : Hid (f.nm.size ≤ maxLen) := HP.out.sized.1
  obtain ⟨R, hR⟩ : ∃ R, R = (true && fieldOk ss f) := ⟨_, rfl⟩
  rw [← hR]
  have HR : Hid (R = fieldOk ss f) := by rw [hR]; rfl
  clear hR
  go_enter Tryz.func95, Tryz.ntmps95
  go_wp2_with (go_at_call 48; refine (l1NameOk_any _ _ HN.out).mono ?_; rintro e w' ⟨rfl, rfl⟩)
  refine (HBa.out _).mono ?_
  rintro e w2 ⟨rfl, hb2⟩
  have hB2 := blw_trans (blw_alloc (Below.refl w.heap.size w) (.cells #[.string f.nm, .int .i64 1, .int .i64 f.least, .int .i64 f.most, .slice (some ⟨b, 0, none⟩) f.words.length f.words.length, .string f.to, .int .i64 f.role, .bool f.must, .bool f.fixed, .string f.de, .string f.we] 160)) hb2
  have k2 : ∀ o, w2.cell? ⟨w.heap.size, o, none⟩ = (w.alloc (.cells #[.string f.nm, .int .i64 1, .int .i64 f.least, .int .i64 f.most, .slice (some ⟨b, 0, none⟩) f.words.length f.words.length, .string f.to, .int .i64 f.role, .bool f.must, .bool f.fixed, .string f.de, .string f.we] 160)).cell? ⟨w.heap.size, o, none⟩ := fun o => hb2.cell (p := ⟨w.heap.size, o, none⟩) (by simp)
  have z2 : w.heap.size < w2.heap.size := by have := hb2.size; simp at this; omega
  clear hb2 HBa HN
  cases hba : bareB f
  · have HF : Hid (R = false) := by show R = false; rw [HR.out, HO.out, hba]; rfl
    go_wp2
    go_ret
    exact ⟨Pl.ret_bool HF.out.symm, hB2⟩
  cases hem : f.de.toList.isEmpty
  · cases hfi : fitB f f.de
    · have HF : Hid (R = false) := by show R = false; rw [HR.out, HO.out]; simp [defB, Pl.isEmp, hem, hfi]
      go_wp2_with fail
      refine (HFi.out _ hB2).mono ?_
      rintro e w3 ⟨rfl, hb3⟩
      have hB3 := blw_trans hB2 hb3
      go_wp2
      go_ret
      exact ⟨Pl.ret_bool HF.out.symm, hB3⟩
    go_wp2_with fail
    refine (HFi.out _ hB2).mono ?_
    rintro e w3 ⟨rfl, hb3⟩
    have hB3 := blw_trans hB2 hb3
    have k3 : ∀ o, w3.cell? ⟨w.heap.size, o, none⟩ = (w.alloc (.cells #[.string f.nm, .int .i64 1, .int .i64 f.least, .int .i64 f.most, .slice (some ⟨b, 0, none⟩) f.words.length f.words.length, .string f.to, .int .i64 f.role, .bool f.must, .bool f.fixed, .string f.de, .string f.we] 160)).cell? ⟨w.heap.size, o, none⟩ := fun o => (hb3.cell (p := ⟨w.heap.size, o, none⟩) z2).trans (k2 o)
    have HF : Hid (R = boundB ss f) := by show R = boundB ss f; rw [HR.out, HO.out, hba]; simp [defB, Pl.isEmp, hem, hfi]
    clear hb3 k2 hB2 z2 HFi HO HR
    have HQ : Hid (boundB ss f = (decide (0 ≤ f.least) && decide (f.least ≤ f.most) && decide (f.most ≤ 1000000) && (f.we.toList.isEmpty || Pl.nameOk f.we))) := HBo.out
    have HS : Hid (f.we.size ≤ maxLen) := HP.out.sized.2.2.2
    clear HP HL HBo
    go_wp2_with (go_at_call 48; refine (l1NameOk_any _ _ HS.out).mono ?_; rintro e w' ⟨rfl, rfl⟩)
    all_goals go_ret
    all_goals refine ⟨Pl.ret_bool ?_, hB3⟩
    all_goals rw [HF.out, HQ.out]
    all_goals clear HF HQ hB3 k3
    all_goals go_light
    all_goals first | (simp_all; done) | (simp_all; omega) | (rw [Bool.eq_iff_iff]; simp_all; done) | (rw [Bool.eq_iff_iff]; simp_all; omega)
  obtain ⟨w3, rfl⟩ : ∃ w3, w3 = w2 := ⟨_, rfl⟩
  have hB3 := hB2
  have k3 := k2
  have HF : Hid (R = boundB ss f) := by show R = boundB ss f; rw [HR.out, HO.out, hba]; simp [defB, Pl.isEmp, hem]
  clear k2 hB2 z2 HFi HO HR
  have HQ : Hid (boundB ss f = (decide (0 ≤ f.least) && decide (f.least ≤ f.most) && decide (f.most ≤ 1000000) && (f.we.toList.isEmpty || Pl.nameOk f.we))) := HBo.out
  have HS : Hid (f.we.size ≤ maxLen) := HP.out.sized.2.2.2
  clear HP HL HBo
  go_wp2_with (go_at_call 48; refine (l1NameOk_any _ _ HS.out).mono ?_; rintro e w' ⟨rfl, rfl⟩)
  all_goals go_ret
  all_goals refine ⟨Pl.ret_bool ?_, hB3⟩
  all_goals rw [HF.out, HQ.out]
  all_goals clear HF HQ hB3 k3
  all_goals go_light
  all_goals first | (simp_all; done) | (simp_all; omega) | (rw [Bool.eq_iff_iff]; simp_all; done) | (rw [Bool.eq_iff_iff]; simp_all; omega)

set_option maxHeartbeats 4000000 in
theorem fieldOkS_2 (f : Fld) (b B : Nat) (ss : List Shp) (w : World) (hk : f.kind = 2) (h : ShpsIn w B ss) (hp : FldArg w b f) :
    Calls Tryz.prog 95 #[.slice (some ⟨B, 0, none⟩) ss.length ss.length, .agg #[.string f.nm, .int .i64 2, .int .i64 f.least, .int .i64 f.most, .slice (some ⟨b, 0, none⟩) f.words.length f.words.length, .string f.to, .int .i64 f.role, .bool f.must, .bool f.fixed, .string f.de, .string f.we]] w fun e w' => e = .returned (.bool (Pl.nameOk f.nm && fieldOk ss f)) ∧ Below w.heap.size w w' := by
  have HP : Hid (FldArg w b f) := hp
  have HL : Hid (ShpsIn w B ss) := h
  have HO : Hid (fieldOk ss f = (bareB f && boundB ss f && defB f)) := by show fieldOk ss f = _; simp [fieldOk, isKind, hk]
  have HBo : Hid (boundB ss f = (decide (1 ≤ f.words.length) && decide (f.words.length ≤ 6) && Pl.asc f.words)) := by show boundB ss f = _; simp [boundB, hk]
  have HBa : Hid (∀ W, Calls Tryz.prog 113 #[.agg #[.string f.nm, .int .i64 2, .int .i64 f.least, .int .i64 f.most, .slice (some ⟨b, 0, none⟩) f.words.length f.words.length, .string f.to, .int .i64 f.role, .bool f.must, .bool f.fixed, .string f.de, .string f.we]] W fun e w' => e = .returned (.bool (bareB f)) ∧ Below W.heap.size W w') := fun W => l1Bare_2 f b W HP.out.small hk
  have HFi : Hid (∀ W, Below w.heap.size w W → Calls Tryz.prog 97 #[.agg #[.string f.nm, .int .i64 2, .int .i64 f.least, .int .i64 f.most, .slice (some ⟨b, 0, none⟩) f.words.length f.words.length, .string f.to, .int .i64 f.role, .bool f.must, .bool f.fixed, .string f.de, .string f.we], .string f.de] W fun e w' => e = .returned (.bool (fitB f f.de)) ∧ Below W.heap.size W w') := by
    intro W hW
    have Q := HP.out.later hW
    have e : fitB f f.de = Pl.fits 2 f.least f.most f.words f.de := by rw [fitB, hk]
    rw [e]
    exact specFits_any f.nm 2 f.least f.most b 0 f.words.length f.to f.role f.must f.fixed f.de f.we f.de f.words W Q.sized.2.2.1 Q.lt (by have : f.words.length ≤ 1048576 := Q.small; unfold maxLen; omega) Q.cells
  clear hp h hk
  cases hnm : Pl.nameOk f.nm
  · have HN : Hid (f.nm.size ≤ maxLen) := HP.out.sized.1
    go_enter Tryz.func95, Tryz.ntmps95
    go_wp2_with (go_at_call 48; refine (l1NameOk_any _ _ HN.out).mono ?_; rintro e w' ⟨rfl, rfl⟩)
    go_ret
    exact ⟨rfl, blw_alloc (Below.refl _ _) _⟩
  have HN : Hid (f.nm.size ≤ maxLen) := HP.out.sized.1
  obtain ⟨R, hR⟩ : ∃ R, R = (true && fieldOk ss f) := ⟨_, rfl⟩
  rw [← hR]
  have HR : Hid (R = fieldOk ss f) := by rw [hR]; rfl
  clear hR
  go_enter Tryz.func95, Tryz.ntmps95
  go_wp2_with (go_at_call 48; refine (l1NameOk_any _ _ HN.out).mono ?_; rintro e w' ⟨rfl, rfl⟩)
  refine (HBa.out _).mono ?_
  rintro e w2 ⟨rfl, hb2⟩
  have hB2 := blw_trans (blw_alloc (Below.refl w.heap.size w) (.cells #[.string f.nm, .int .i64 2, .int .i64 f.least, .int .i64 f.most, .slice (some ⟨b, 0, none⟩) f.words.length f.words.length, .string f.to, .int .i64 f.role, .bool f.must, .bool f.fixed, .string f.de, .string f.we] 160)) hb2
  have k2 : ∀ o, w2.cell? ⟨w.heap.size, o, none⟩ = (w.alloc (.cells #[.string f.nm, .int .i64 2, .int .i64 f.least, .int .i64 f.most, .slice (some ⟨b, 0, none⟩) f.words.length f.words.length, .string f.to, .int .i64 f.role, .bool f.must, .bool f.fixed, .string f.de, .string f.we] 160)).cell? ⟨w.heap.size, o, none⟩ := fun o => hb2.cell (p := ⟨w.heap.size, o, none⟩) (by simp)
  have z2 : w.heap.size < w2.heap.size := by have := hb2.size; simp at this; omega
  clear hb2 HBa HN
  cases hba : bareB f
  · have HF : Hid (R = false) := by show R = false; rw [HR.out, HO.out, hba]; rfl
    go_wp2
    go_ret
    exact ⟨Pl.ret_bool HF.out.symm, hB2⟩
  cases hem : f.de.toList.isEmpty
  · cases hfi : fitB f f.de
    · have HF : Hid (R = false) := by show R = false; rw [HR.out, HO.out]; simp [defB, Pl.isEmp, hem, hfi]
      go_wp2_with fail
      refine (HFi.out _ hB2).mono ?_
      rintro e w3 ⟨rfl, hb3⟩
      have hB3 := blw_trans hB2 hb3
      go_wp2
      go_ret
      exact ⟨Pl.ret_bool HF.out.symm, hB3⟩
    go_wp2_with fail
    refine (HFi.out _ hB2).mono ?_
    rintro e w3 ⟨rfl, hb3⟩
    have hB3 := blw_trans hB2 hb3
    have k3 : ∀ o, w3.cell? ⟨w.heap.size, o, none⟩ = (w.alloc (.cells #[.string f.nm, .int .i64 2, .int .i64 f.least, .int .i64 f.most, .slice (some ⟨b, 0, none⟩) f.words.length f.words.length, .string f.to, .int .i64 f.role, .bool f.must, .bool f.fixed, .string f.de, .string f.we] 160)).cell? ⟨w.heap.size, o, none⟩ := fun o => (hb3.cell (p := ⟨w.heap.size, o, none⟩) z2).trans (k2 o)
    have HF : Hid (R = boundB ss f) := by show R = boundB ss f; rw [HR.out, HO.out, hba]; simp [defB, Pl.isEmp, hem, hfi]
    clear hb3 k2 hB2 z2 HFi HO HR
    have HQ : Hid (boundB ss f = (decide ((1 : Int) ≤ (f.words.length : Int)) && decide ((f.words.length : Int) ≤ 6) && Pl.asc f.words)) := by
      show boundB ss f = _; rw [HBo.out, Bool.eq_iff_iff]; simp; omega
    have HX : Hid (Calls Tryz.prog 54 #[.slice (some ⟨b, 0, none⟩) f.words.length f.words.length] w3 fun e w' => e = .returned (.bool (Pl.asc f.words)) ∧ Below w3.heap.size w3 w') := by
      have Q := HP.out.later hB3
      exact l1Asc_row b _ f.words w3 Q.small Q.lt Q.sizes Q.cells
    have hs' : f.words.length ≤ 1048576 := HP.out.small
    clear HP HL HBo
    cases hin : (decide ((1 : Int) ≤ (f.words.length : Int)) && decide ((f.words.length : Int) ≤ 6))
    · have HG : Hid (boundB ss f = false) := by show boundB ss f = _; rw [HQ.out, hin]; rfl
      go_wp2_with (go_at_call 49; refine (l1In_any _ _ _ _).mono ?_; rintro e w' ⟨rfl, rfl⟩)
      go_ret
      exact ⟨Pl.ret_bool (by rw [HF.out, HG.out]), hB3⟩
    · have HG : Hid (boundB ss f = Pl.asc f.words) := by show boundB ss f = _; rw [HQ.out, hin]; rfl
      go_wp2_with (first | (go_at_call 49; refine (l1In_any _ _ _ _).mono ?_; rintro e w' ⟨rfl, rfl⟩) | (go_at_call 54; refine HX.out.mono ?_; rintro e w4 ⟨rfl, hb4⟩))
      go_ret
      exact ⟨Pl.ret_bool (by rw [HF.out, HG.out]), blw_trans hB3 hb4⟩
  obtain ⟨w3, rfl⟩ : ∃ w3, w3 = w2 := ⟨_, rfl⟩
  have hB3 := hB2
  have k3 := k2
  have HF : Hid (R = boundB ss f) := by show R = boundB ss f; rw [HR.out, HO.out, hba]; simp [defB, Pl.isEmp, hem]
  clear k2 hB2 z2 HFi HO HR
  have HQ : Hid (boundB ss f = (decide ((1 : Int) ≤ (f.words.length : Int)) && decide ((f.words.length : Int) ≤ 6) && Pl.asc f.words)) := by
    show boundB ss f = _; rw [HBo.out, Bool.eq_iff_iff]; simp; omega
  have HX : Hid (Calls Tryz.prog 54 #[.slice (some ⟨b, 0, none⟩) f.words.length f.words.length] w3 fun e w' => e = .returned (.bool (Pl.asc f.words)) ∧ Below w3.heap.size w3 w') := by
    have Q := HP.out.later hB3
    exact l1Asc_row b _ f.words w3 Q.small Q.lt Q.sizes Q.cells
  have hs' : f.words.length ≤ 1048576 := HP.out.small
  clear HP HL HBo
  cases hin : (decide ((1 : Int) ≤ (f.words.length : Int)) && decide ((f.words.length : Int) ≤ 6))
  · have HG : Hid (boundB ss f = false) := by show boundB ss f = _; rw [HQ.out, hin]; rfl
    go_wp2_with (go_at_call 49; refine (l1In_any _ _ _ _).mono ?_; rintro e w' ⟨rfl, rfl⟩)
    go_ret
    exact ⟨Pl.ret_bool (by rw [HF.out, HG.out]), hB3⟩
  · have HG : Hid (boundB ss f = Pl.asc f.words) := by show boundB ss f = _; rw [HQ.out, hin]; rfl
    go_wp2_with (first | (go_at_call 49; refine (l1In_any _ _ _ _).mono ?_; rintro e w' ⟨rfl, rfl⟩) | (go_at_call 54; refine HX.out.mono ?_; rintro e w4 ⟨rfl, hb4⟩))
    go_ret
    exact ⟨Pl.ret_bool (by rw [HF.out, HG.out]), blw_trans hB3 hb4⟩

set_option maxHeartbeats 4000000 in
theorem fieldOkS_3 (f : Fld) (b B : Nat) (ss : List Shp) (w : World) (hk : f.kind = 3) (h : ShpsIn w B ss) (hp : FldArg w b f) :
    Calls Tryz.prog 95 #[.slice (some ⟨B, 0, none⟩) ss.length ss.length, .agg #[.string f.nm, .int .i64 3, .int .i64 f.least, .int .i64 f.most, .slice (some ⟨b, 0, none⟩) f.words.length f.words.length, .string f.to, .int .i64 f.role, .bool f.must, .bool f.fixed, .string f.de, .string f.we]] w fun e w' => e = .returned (.bool (Pl.nameOk f.nm && fieldOk ss f)) ∧ Below w.heap.size w w' := by
  have HP : Hid (FldArg w b f) := hp
  have HL : Hid (ShpsIn w B ss) := h
  have HO : Hid (fieldOk ss f = (bareB f && boundB ss f && defB f)) := by show fieldOk ss f = _; simp [fieldOk, isKind, hk]
  have HBo : Hid (boundB ss f = (decide (1 ≤ f.least) && decide (f.least ≤ f.most) && decide (f.most ≤ 40))) := by show boundB ss f = _; simp [boundB, hk]
  have HBa : Hid (∀ W, Calls Tryz.prog 113 #[.agg #[.string f.nm, .int .i64 3, .int .i64 f.least, .int .i64 f.most, .slice (some ⟨b, 0, none⟩) f.words.length f.words.length, .string f.to, .int .i64 f.role, .bool f.must, .bool f.fixed, .string f.de, .string f.we]] W fun e w' => e = .returned (.bool (bareB f)) ∧ Below W.heap.size W w') := fun W => l1Bare_3 f b W HP.out.small hk
  have HFi : Hid (∀ W, Below w.heap.size w W → Calls Tryz.prog 97 #[.agg #[.string f.nm, .int .i64 3, .int .i64 f.least, .int .i64 f.most, .slice (some ⟨b, 0, none⟩) f.words.length f.words.length, .string f.to, .int .i64 f.role, .bool f.must, .bool f.fixed, .string f.de, .string f.we], .string f.de] W fun e w' => e = .returned (.bool (fitB f f.de)) ∧ Below W.heap.size W w') := by
    intro W hW
    have Q := HP.out.later hW
    have e : fitB f f.de = Pl.fits 3 f.least f.most f.words f.de := by rw [fitB, hk]
    rw [e]
    exact specFits_any f.nm 3 f.least f.most b 0 f.words.length f.to f.role f.must f.fixed f.de f.we f.de f.words W Q.sized.2.2.1 Q.lt (by have : f.words.length ≤ 1048576 := Q.small; unfold maxLen; omega) Q.cells
  clear hp h hk
  cases hnm : Pl.nameOk f.nm
  · have HN : Hid (f.nm.size ≤ maxLen) := HP.out.sized.1
    go_enter Tryz.func95, Tryz.ntmps95
    go_wp2_with (go_at_call 48; refine (l1NameOk_any _ _ HN.out).mono ?_; rintro e w' ⟨rfl, rfl⟩)
    go_ret
    exact ⟨rfl, blw_alloc (Below.refl _ _) _⟩
  have HN : Hid (f.nm.size ≤ maxLen) := HP.out.sized.1
  obtain ⟨R, hR⟩ : ∃ R, R = (true && fieldOk ss f) := ⟨_, rfl⟩
  rw [← hR]
  have HR : Hid (R = fieldOk ss f) := by rw [hR]; rfl
  clear hR
  go_enter Tryz.func95, Tryz.ntmps95
  go_wp2_with (go_at_call 48; refine (l1NameOk_any _ _ HN.out).mono ?_; rintro e w' ⟨rfl, rfl⟩)
  refine (HBa.out _).mono ?_
  rintro e w2 ⟨rfl, hb2⟩
  have hB2 := blw_trans (blw_alloc (Below.refl w.heap.size w) (.cells #[.string f.nm, .int .i64 3, .int .i64 f.least, .int .i64 f.most, .slice (some ⟨b, 0, none⟩) f.words.length f.words.length, .string f.to, .int .i64 f.role, .bool f.must, .bool f.fixed, .string f.de, .string f.we] 160)) hb2
  have k2 : ∀ o, w2.cell? ⟨w.heap.size, o, none⟩ = (w.alloc (.cells #[.string f.nm, .int .i64 3, .int .i64 f.least, .int .i64 f.most, .slice (some ⟨b, 0, none⟩) f.words.length f.words.length, .string f.to, .int .i64 f.role, .bool f.must, .bool f.fixed, .string f.de, .string f.we] 160)).cell? ⟨w.heap.size, o, none⟩ := fun o => hb2.cell (p := ⟨w.heap.size, o, none⟩) (by simp)
  have z2 : w.heap.size < w2.heap.size := by have := hb2.size; simp at this; omega
  clear hb2 HBa HN
  cases hba : bareB f
  · have HF : Hid (R = false) := by show R = false; rw [HR.out, HO.out, hba]; rfl
    go_wp2
    go_ret
    exact ⟨Pl.ret_bool HF.out.symm, hB2⟩
  cases hem : f.de.toList.isEmpty
  · cases hfi : fitB f f.de
    · have HF : Hid (R = false) := by show R = false; rw [HR.out, HO.out]; simp [defB, Pl.isEmp, hem, hfi]
      go_wp2_with fail
      refine (HFi.out _ hB2).mono ?_
      rintro e w3 ⟨rfl, hb3⟩
      have hB3 := blw_trans hB2 hb3
      go_wp2
      go_ret
      exact ⟨Pl.ret_bool HF.out.symm, hB3⟩
    go_wp2_with fail
    refine (HFi.out _ hB2).mono ?_
    rintro e w3 ⟨rfl, hb3⟩
    have hB3 := blw_trans hB2 hb3
    have k3 : ∀ o, w3.cell? ⟨w.heap.size, o, none⟩ = (w.alloc (.cells #[.string f.nm, .int .i64 3, .int .i64 f.least, .int .i64 f.most, .slice (some ⟨b, 0, none⟩) f.words.length f.words.length, .string f.to, .int .i64 f.role, .bool f.must, .bool f.fixed, .string f.de, .string f.we] 160)).cell? ⟨w.heap.size, o, none⟩ := fun o => (hb3.cell (p := ⟨w.heap.size, o, none⟩) z2).trans (k2 o)
    have HF : Hid (R = boundB ss f) := by show R = boundB ss f; rw [HR.out, HO.out, hba]; simp [defB, Pl.isEmp, hem, hfi]
    clear hb3 k2 hB2 z2 HFi HO HR
    have HQ : Hid (boundB ss f = (decide (1 ≤ f.least) && decide (f.least ≤ f.most) && decide (f.most ≤ 40))) := HBo.out
    clear HP HL HBo
    go_wp2
    all_goals go_ret
    all_goals refine ⟨Pl.ret_bool ?_, hB3⟩
    all_goals rw [HF.out, HQ.out]
    all_goals clear HF HQ hB3 k3
    all_goals go_light
    all_goals first | (simp_all; done) | (simp_all; omega) | (rw [Bool.eq_iff_iff]; simp_all; done) | (rw [Bool.eq_iff_iff]; simp_all; omega)
  obtain ⟨w3, rfl⟩ : ∃ w3, w3 = w2 := ⟨_, rfl⟩
  have hB3 := hB2
  have k3 := k2
  have HF : Hid (R = boundB ss f) := by show R = boundB ss f; rw [HR.out, HO.out, hba]; simp [defB, Pl.isEmp, hem]
  clear k2 hB2 z2 HFi HO HR
  have HQ : Hid (boundB ss f = (decide (1 ≤ f.least) && decide (f.least ≤ f.most) && decide (f.most ≤ 40))) := HBo.out
  clear HP HL HBo
  go_wp2
  all_goals go_ret
  all_goals refine ⟨Pl.ret_bool ?_, hB3⟩
  all_goals rw [HF.out, HQ.out]
  all_goals clear HF HQ hB3 k3
  all_goals go_light
  all_goals first | (simp_all; done) | (simp_all; omega) | (rw [Bool.eq_iff_iff]; simp_all; done) | (rw [Bool.eq_iff_iff]; simp_all; omega)

set_option maxHeartbeats 4000000 in
theorem fieldOkS_4 (f : Fld) (b B : Nat) (ss : List Shp) (w : World) (hk : f.kind = 4) (h : ShpsIn w B ss) (hp : FldArg w b f) :
    Calls Tryz.prog 95 #[.slice (some ⟨B, 0, none⟩) ss.length ss.length, .agg #[.string f.nm, .int .i64 4, .int .i64 f.least, .int .i64 f.most, .slice (some ⟨b, 0, none⟩) f.words.length f.words.length, .string f.to, .int .i64 f.role, .bool f.must, .bool f.fixed, .string f.de, .string f.we]] w fun e w' => e = .returned (.bool (Pl.nameOk f.nm && fieldOk ss f)) ∧ Below w.heap.size w w' := by
  have HP : Hid (FldArg w b f) := hp
  have HL : Hid (ShpsIn w B ss) := h
  have HO : Hid (fieldOk ss f = (bareB f && boundB ss f && defB f)) := by show fieldOk ss f = _; simp [fieldOk, isKind, hk]
  have HBo : Hid (boundB ss f = (hasKind ss f.to && (decide (1 ≤ f.role) && decide (f.role ≤ 3) && f.de.toList.isEmpty && (!decide (f.role = 2) || !f.must)))) := by show boundB ss f = _; simp [boundB, hk, Pl.isEmp, Bool.and_assoc]
  have HBa : Hid (∀ W, Calls Tryz.prog 113 #[.agg #[.string f.nm, .int .i64 4, .int .i64 f.least, .int .i64 f.most, .slice (some ⟨b, 0, none⟩) f.words.length f.words.length, .string f.to, .int .i64 f.role, .bool f.must, .bool f.fixed, .string f.de, .string f.we]] W fun e w' => e = .returned (.bool (bareB f)) ∧ Below W.heap.size W w') := fun W => l1Bare_4 f b W HP.out.small hk
  have HFi : Hid (∀ W, Below w.heap.size w W → Calls Tryz.prog 97 #[.agg #[.string f.nm, .int .i64 4, .int .i64 f.least, .int .i64 f.most, .slice (some ⟨b, 0, none⟩) f.words.length f.words.length, .string f.to, .int .i64 f.role, .bool f.must, .bool f.fixed, .string f.de, .string f.we], .string f.de] W fun e w' => e = .returned (.bool (fitB f f.de)) ∧ Below W.heap.size W w') := by
    intro W hW
    have Q := HP.out.later hW
    have e : fitB f f.de = Pl.fits 4 f.least f.most f.words f.de := by rw [fitB, hk]
    rw [e]
    exact specFits_any f.nm 4 f.least f.most b 0 f.words.length f.to f.role f.must f.fixed f.de f.we f.de f.words W Q.sized.2.2.1 Q.lt (by have : f.words.length ≤ 1048576 := Q.small; unfold maxLen; omega) Q.cells
  clear hp h hk
  cases hnm : Pl.nameOk f.nm
  · have HN : Hid (f.nm.size ≤ maxLen) := HP.out.sized.1
    go_enter Tryz.func95, Tryz.ntmps95
    go_wp2_with (go_at_call 48; refine (l1NameOk_any _ _ HN.out).mono ?_; rintro e w' ⟨rfl, rfl⟩)
    go_ret
    exact ⟨rfl, blw_alloc (Below.refl _ _) _⟩
  have HN : Hid (f.nm.size ≤ maxLen) := HP.out.sized.1
  obtain ⟨R, hR⟩ : ∃ R, R = (true && fieldOk ss f) := ⟨_, rfl⟩
  rw [← hR]
  have HR : Hid (R = fieldOk ss f) := by rw [hR]; rfl
  clear hR
  go_enter Tryz.func95, Tryz.ntmps95
  go_wp2_with (go_at_call 48; refine (l1NameOk_any _ _ HN.out).mono ?_; rintro e w' ⟨rfl, rfl⟩)
  refine (HBa.out _).mono ?_
  rintro e w2 ⟨rfl, hb2⟩
  have hB2 := blw_trans (blw_alloc (Below.refl w.heap.size w) (.cells #[.string f.nm, .int .i64 4, .int .i64 f.least, .int .i64 f.most, .slice (some ⟨b, 0, none⟩) f.words.length f.words.length, .string f.to, .int .i64 f.role, .bool f.must, .bool f.fixed, .string f.de, .string f.we] 160)) hb2
  have k2 : ∀ o, w2.cell? ⟨w.heap.size, o, none⟩ = (w.alloc (.cells #[.string f.nm, .int .i64 4, .int .i64 f.least, .int .i64 f.most, .slice (some ⟨b, 0, none⟩) f.words.length f.words.length, .string f.to, .int .i64 f.role, .bool f.must, .bool f.fixed, .string f.de, .string f.we] 160)).cell? ⟨w.heap.size, o, none⟩ := fun o => hb2.cell (p := ⟨w.heap.size, o, none⟩) (by simp)
  have z2 : w.heap.size < w2.heap.size := by have := hb2.size; simp at this; omega
  clear hb2 HBa HN
  cases hba : bareB f
  · have HF : Hid (R = false) := by show R = false; rw [HR.out, HO.out, hba]; rfl
    go_wp2
    go_ret
    exact ⟨Pl.ret_bool HF.out.symm, hB2⟩
  cases hem : f.de.toList.isEmpty
  · cases hfi : fitB f f.de
    · have HF : Hid (R = false) := by show R = false; rw [HR.out, HO.out]; simp [defB, Pl.isEmp, hem, hfi]
      go_wp2_with fail
      refine (HFi.out _ hB2).mono ?_
      rintro e w3 ⟨rfl, hb3⟩
      have hB3 := blw_trans hB2 hb3
      go_wp2
      go_ret
      exact ⟨Pl.ret_bool HF.out.symm, hB3⟩
    go_wp2_with fail
    refine (HFi.out _ hB2).mono ?_
    rintro e w3 ⟨rfl, hb3⟩
    have hB3 := blw_trans hB2 hb3
    have k3 : ∀ o, w3.cell? ⟨w.heap.size, o, none⟩ = (w.alloc (.cells #[.string f.nm, .int .i64 4, .int .i64 f.least, .int .i64 f.most, .slice (some ⟨b, 0, none⟩) f.words.length f.words.length, .string f.to, .int .i64 f.role, .bool f.must, .bool f.fixed, .string f.de, .string f.we] 160)).cell? ⟨w.heap.size, o, none⟩ := fun o => (hb3.cell (p := ⟨w.heap.size, o, none⟩) z2).trans (k2 o)
    have HF : Hid (R = boundB ss f) := by show R = boundB ss f; rw [HR.out, HO.out, hba]; simp [defB, Pl.isEmp, hem, hfi]
    clear hb3 k2 hB2 z2 HFi HO HR
    have HQ : Hid (boundB ss f = (hasKind ss f.to && (decide (1 ≤ f.role) && decide (f.role ≤ 3) && f.de.toList.isEmpty && (!decide (f.role = 2) || !f.must)))) := HBo.out
    obtain ⟨r, hr⟩ : ∃ r : Int, r = (if kindAt ss f.to < ss.length then (kindAt ss f.to : Int) else -1) := ⟨_, rfl⟩
    have HX : Hid (Calls Tryz.prog 52 #[.slice (some ⟨B, 0, none⟩) ss.length ss.length, .string f.to] w3 fun e w' => e = .returned (.int .i64 r) ∧ w3 = w') := by
      rw [hr]; exact l1Shape_any B ss f.to w3 (HL.out.later hB3)
    have hq : decide (0 ≤ r) = hasKind ss f.to := by rw [hr, hasKind]; split <;> simp_all
    clear HP HL HBo hr
    cases hh : hasKind ss f.to
    · rw [hh] at hq
      have hr0 : r < 0 := by simpa using hq
      have HG : Hid (boundB ss f = false) := by show boundB ss f = _; rw [HQ.out, hh]; rfl
      clear hq hh
      go_wp2_with fail
      refine HX.out.mono ?_
      rintro e w4 ⟨rfl, rfl⟩
      go_wp2
      go_ret
      exact ⟨Pl.ret_bool (by rw [HF.out, HG.out]), hB3⟩
    · rw [hh] at hq
      have hr0 : 0 ≤ r := by simpa using hq
      have HG : Hid (boundB ss f = ((decide (1 ≤ f.role) && decide (f.role ≤ 3)) && f.de.toList.isEmpty && (!decide (f.role = 2) || !f.must))) := by show boundB ss f = _; rw [HQ.out, hh]; rfl
      clear hq hh HQ
      cases hin : (decide (1 ≤ f.role) && decide (f.role ≤ 3))
      · go_wp2_with (first | (go_at_call 52; refine HX.out.mono ?_; rintro e w4 ⟨rfl, rfl⟩) | (go_at_call 49; refine (l1In_any _ _ _ _).mono ?_; rintro e w' ⟨rfl, rfl⟩))
        go_ret
        exact ⟨Pl.ret_bool (by rw [HF.out, HG.out, hin]; rfl), hB3⟩
      · have HG' : Hid (boundB ss f = (f.de.toList.isEmpty && (!decide (f.role = 2) || !f.must))) := by show boundB ss f = _; rw [HG.out, hin]; rfl
        clear HG
        go_wp2_with (first | (go_at_call 52; refine HX.out.mono ?_; rintro e w4 ⟨rfl, rfl⟩) | (go_at_call 49; refine (l1In_any _ _ _ _).mono ?_; rintro e w' ⟨rfl, rfl⟩))
        all_goals go_ret
        all_goals refine ⟨Pl.ret_bool ?_, hB3⟩
        all_goals rw [HF.out, HG'.out]
        all_goals clear HF HG' hB3 k3 HX
        all_goals go_light
        all_goals first | (simp_all; done) | (simp_all; omega) | (rw [Bool.eq_iff_iff]; simp_all; done) | (rw [Bool.eq_iff_iff]; simp_all; omega)
  obtain ⟨w3, rfl⟩ : ∃ w3, w3 = w2 := ⟨_, rfl⟩
  have hB3 := hB2
  have k3 := k2
  have HF : Hid (R = boundB ss f) := by show R = boundB ss f; rw [HR.out, HO.out, hba]; simp [defB, Pl.isEmp, hem]
  clear k2 hB2 z2 HFi HO HR
  have HQ : Hid (boundB ss f = (hasKind ss f.to && (decide (1 ≤ f.role) && decide (f.role ≤ 3) && f.de.toList.isEmpty && (!decide (f.role = 2) || !f.must)))) := HBo.out
  obtain ⟨r, hr⟩ : ∃ r : Int, r = (if kindAt ss f.to < ss.length then (kindAt ss f.to : Int) else -1) := ⟨_, rfl⟩
  have HX : Hid (Calls Tryz.prog 52 #[.slice (some ⟨B, 0, none⟩) ss.length ss.length, .string f.to] w3 fun e w' => e = .returned (.int .i64 r) ∧ w3 = w') := by
    rw [hr]; exact l1Shape_any B ss f.to w3 (HL.out.later hB3)
  have hq : decide (0 ≤ r) = hasKind ss f.to := by rw [hr, hasKind]; split <;> simp_all
  clear HP HL HBo hr
  cases hh : hasKind ss f.to
  · rw [hh] at hq
    have hr0 : r < 0 := by simpa using hq
    have HG : Hid (boundB ss f = false) := by show boundB ss f = _; rw [HQ.out, hh]; rfl
    clear hq hh
    go_wp2_with fail
    refine HX.out.mono ?_
    rintro e w4 ⟨rfl, rfl⟩
    go_wp2
    go_ret
    exact ⟨Pl.ret_bool (by rw [HF.out, HG.out]), hB3⟩
  · rw [hh] at hq
    have hr0 : 0 ≤ r := by simpa using hq
    have HG : Hid (boundB ss f = ((decide (1 ≤ f.role) && decide (f.role ≤ 3)) && f.de.toList.isEmpty && (!decide (f.role = 2) || !f.must))) := by show boundB ss f = _; rw [HQ.out, hh]; rfl
    clear hq hh HQ
    cases hin : (decide (1 ≤ f.role) && decide (f.role ≤ 3))
    · go_wp2_with (first | (go_at_call 52; refine HX.out.mono ?_; rintro e w4 ⟨rfl, rfl⟩) | (go_at_call 49; refine (l1In_any _ _ _ _).mono ?_; rintro e w' ⟨rfl, rfl⟩))
      go_ret
      exact ⟨Pl.ret_bool (by rw [HF.out, HG.out, hin]; rfl), hB3⟩
    · have HG' : Hid (boundB ss f = (f.de.toList.isEmpty && (!decide (f.role = 2) || !f.must))) := by show boundB ss f = _; rw [HG.out, hin]; rfl
      clear HG
      go_wp2_with (first | (go_at_call 52; refine HX.out.mono ?_; rintro e w4 ⟨rfl, rfl⟩) | (go_at_call 49; refine (l1In_any _ _ _ _).mono ?_; rintro e w' ⟨rfl, rfl⟩))
      all_goals go_ret
      all_goals refine ⟨Pl.ret_bool ?_, hB3⟩
      all_goals rw [HF.out, HG'.out]
      all_goals clear HF HG' hB3 k3 HX
      all_goals go_light
      all_goals first | (simp_all; done) | (simp_all; omega) | (rw [Bool.eq_iff_iff]; simp_all; done) | (rw [Bool.eq_iff_iff]; simp_all; omega)

end Go.Proofs.YtkjkklcflpchlaaGreat

namespace Go.Proofs.YtkjkklcflpchlaaGreat
open Go.RowKit Go.Deep

/-- A list of fields of the call's own. -/
structure FldsIn (w : World) (B : Nat) (fs : List Fld) : Prop where
  lt : B < w.heap.size
  len : fs.length ≤ 1048576
  small : ∀ f ∈ fs, f.small
  at_ : ∀ i, i < fs.length → OwnFld w B (i * 11) (fs.getD i Fld.none)

theorem FldsIn.later {w w' : World} {B : Nat} {fs : List Fld} (h : FldsIn w B fs) (hb : Below w.heap.size w w') : FldsIn w' B fs :=
  ⟨Nat.lt_of_lt_of_le h.lt hb.size, h.len, h.small, fun i hi => (h.at_ i hi).later hb h.lt⟩

theorem FldsIn.arg {w : World} {B : Nat} {fs : List Fld} (h : FldsIn w B fs) {i : Nat} (hi : i < fs.length) {f : Fld} (hf : f = fs.getD i Fld.none) :
    ∃ b, FldArg w b f ∧ FldIs w B (i * 11) f (.slice (some ⟨b, 0, none⟩) f.words.length f.words.length) := by
  obtain ⟨b, _, hl, h2⟩ := h.at_ i hi
  rw [← hf] at h2
  exact ⟨b, ⟨hl, h.small f (by rw [hf]; simp [hi]), h2.sized, h2.texts.sizes, texts_cells h2.texts⟩, h2⟩

def nameAt (fs : List Fld) (k : ByteArray) : Nat := fs.findIdx (fun f => f.nm.toList == k.toList)

theorem nameAt_hit (fs : List Fld) (k : ByteArray) (i : Nat) (hi : i < fs.length) (hno : i ≤ nameAt fs k) (h : ((fs.getD i Fld.none).nm.toList == k.toList) = true) : nameAt fs k = i := by
  have e : fs.getD i Fld.none = fs[i] := by simp [hi]
  rw [e] at h
  have : nameAt fs k ≤ i := by
    unfold nameAt
    exact Nat.le_of_not_lt fun hlt => by
      have := List.not_of_lt_findIdx hlt
      simp [h] at this
  omega

theorem nameAt_miss (fs : List Fld) (k : ByteArray) (i : Nat) (hi : i < fs.length) (hno : i ≤ nameAt fs k) (h : ((fs.getD i Fld.none).nm.toList == k.toList) = false) : i + 1 ≤ nameAt fs k := by
  have e : fs.getD i Fld.none = fs[i] := by simp [hi]
  rw [e] at h
  by_cases hq : nameAt fs k = i
  · exfalso
    have hlt : nameAt fs k < fs.length := by omega
    have := List.findIdx_getElem (w := hlt)
    unfold nameAt at hq
    simp only [hq] at this
    rw [this] at h
    cases h
  · omega

theorem nameAt_le (fs : List Fld) (i : Nat) (hi : i < fs.length) : nameAt fs (fs.getD i Fld.none).nm ≤ i := by
  unfold nameAt
  exact Nat.le_of_not_lt fun hlt => by
    have := List.not_of_lt_findIdx hlt
    simp [hi] at this

theorem any_eq (fs : List Fld) (k : ByteArray) (i : Nat) (hi : i ≤ fs.length) : ((List.range i).any fun j => (fs.getD j Fld.none).nm.toList == k.toList) = decide (nameAt fs k < i) := by
  rw [Bool.eq_iff_iff, decide_eq_true_eq, List.any_eq_true]
  constructor
  · rintro ⟨j, hj, h⟩
    rw [List.mem_range] at hj
    have hj' : j < fs.length := by omega
    have e : fs.getD j Fld.none = fs[j] := by simp [hj']
    rw [e] at h
    unfold nameAt
    refine Nat.lt_of_le_of_lt (Nat.le_of_not_lt fun hlt => ?_) hj
    have := List.not_of_lt_findIdx hlt
    rw [h] at this
    cases this
  · intro h
    have hl : nameAt fs k < fs.length := by omega
    refine ⟨nameAt fs k, List.mem_range.2 h, ?_⟩
    have e : fs.getD (nameAt fs k) Fld.none = fs[nameAt fs k] := by simp [hl]
    rw [e]
    exact List.findIdx_getElem (xs := fs) (p := fun f : Fld => f.nm.toList == k.toList) (w := hl)

theorem twice_eq (fs : List Fld) (i : Nat) (hi : i < fs.length) : twice fs i = decide (nameAt fs (fs.getD i Fld.none).nm < i) := any_eq fs _ i (Nat.le_of_lt hi)

set_option maxHeartbeats 1000000 in
theorem nameIs (f : Fld) (b cb : Nat) (k : ByteArray) (w : World) (hcb : cb < w.heap.size) (hc : w.cell? ⟨cb, 0, none⟩ = some (.string k)) :
    Calls Tryz.prog 126 #[.agg #[.string f.nm, .int .i64 f.kind, .int .i64 f.least, .int .i64 f.most, .slice (some ⟨b, 0, none⟩) f.words.length f.words.length, .string f.to, .int .i64 f.role, .bool f.must, .bool f.fixed, .string f.de, .string f.we], .pointer (some ⟨cb, 0, none⟩)] w fun e w' => e = .returned (.bool (f.nm.toList == k.toList)) ∧ Below w.heap.size w w' := by
  go_enter Tryz.func126, Tryz.ntmps126
  go_wp2
  go_ret
  exact ⟨rfl, blw_alloc (Below.refl _ _) _⟩

set_option maxHeartbeats 2000000 in
theorem indexFunc (B cb : Nat) (fs : List Fld) (k : ByteArray) (w : World) (h : FldsIn w B fs) (hcb : cb < w.heap.size) (hc : w.cell? ⟨cb, 0, none⟩ = some (.string k)) :
    Calls Tryz.prog 125 #[.slice (some ⟨B, 0, none⟩) fs.length fs.length, .func (.func 126) #[] #[.pointer (some ⟨cb, 0, none⟩)]] w fun e w' => (∃ r : Int, e = .returned (.int .i64 r) ∧ r = (if nameAt fs k < fs.length then (nameAt fs k : Int) else -1)) ∧ Below w.heap.size w w' := by
  have hl := h.len
  have HH : Hid (FldsIn w B fs) := h
  have HC : Hid (w.cell? ⟨cb, 0, none⟩ = some (.string k)) := hc
  obtain ⟨R, hR⟩ : ∃ R : Int, R = (if nameAt fs k < fs.length then (nameAt fs k : Int) else -1) := ⟨_, rfl⟩
  rw [← hR]
  have HR : Hid (R = (if nameAt fs k < fs.length then (nameAt fs k : Int) else -1)) := hR
  clear h hc hR
  go_enter Tryz.func125, Tryz.ntmps125
  go_wp2
  go_loopw [8] (fun i wr => ∃ q : Nat, q ≤ fs.length ∧ i = .int .i64 q ∧ q ≤ nameAt fs k ∧ Below w.heap.size w wr) (fun i _ => fs.length - (intOf i).toNat)
  case atStart => exact ⟨0, Nat.zero_le _, rfl, Nat.zero_le _, Below.refl _ _⟩
  case round =>
    obtain ⟨q, hq, rfl, hno, hW⟩ := hrel
    have HN : Hid (q ≤ nameAt fs k) := hno
    clear hno
    by_cases hlt : q < fs.length
    · obtain ⟨f, hff⟩ : ∃ f, f = fs.getD q Fld.none := ⟨_, rfl⟩
      obtain ⟨b, _, hf⟩ := (HH.out.later hW).arg hlt hff
      obtain ⟨c0, c1, c2, c3, c4, c5, c6, c7, c8, c9, c10, _, _⟩ := hf
      have HX : Hid (cb < wr.heap.size ∧ wr.cell? ⟨cb, 0, none⟩ = some (.string k)) := ⟨Nat.lt_of_lt_of_le hcb hW.size, (hW.cell (p := ⟨cb, 0, none⟩) hcb).trans HC.out⟩
      cases ht : (f.nm.toList == k.toList)
      · have HM : Hid (q + 1 ≤ nameAt fs k) := nameAt_miss fs k q hlt HN.out (by rw [← hff]; exact ht)
        clear hff
        go_wp2_with fail
        refine (nameIs f b cb k wr HX.out.1 HX.out.2).mono ?_
        rintro e w2 ⟨rfl, hb2⟩
        have hB2 := blw_trans hW hb2
        clear hb2 c0 c1 c2 c3 c4 c5 c6 c7 c8 c9 c10
        go_wp2
        go_roundw
        case rel => exact ⟨q + 1, by omega, by go_num, HM.out, hB2⟩
        case measure => simp [intOf]; omega
      · have HM : Hid (nameAt fs k = q) := nameAt_hit fs k q hlt HN.out (by rw [← hff]; exact ht)
        clear hff
        go_wp2_with fail
        refine (nameIs f b cb k wr HX.out.1 HX.out.2).mono ?_
        rintro e w2 ⟨rfl, hb2⟩
        have hB2 := blw_trans hW hb2
        clear hb2 c0 c1 c2 c3 c4 c5 c6 c7 c8 c9 c10
        go_wp2
        go_ret
        exact ⟨⟨_, rfl, by rw [HR.out, HM.out, if_pos hlt]⟩, hB2⟩
    · go_wp2
      go_ret
      exact ⟨⟨_, rfl, by rw [HR.out, if_neg (by have := HN.out; omega)]⟩, hW⟩

set_option maxHeartbeats 1000000 in
theorem fieldPlace (B : Nat) (fs : List Fld) (k : ByteArray) (w : World) (h : FldsIn w B fs) :
    Calls Tryz.prog 115 #[.slice (some ⟨B, 0, none⟩) fs.length fs.length, .string k] w fun e w' => (∃ r : Int, e = .returned (.int .i64 r) ∧ r = (if nameAt fs k < fs.length then (nameAt fs k : Int) else -1)) ∧ Below w.heap.size w w' := by
  have HH : Hid (FldsIn w B fs) := h
  obtain ⟨R, hR⟩ : ∃ R : Int, R = (if nameAt fs k < fs.length then (nameAt fs k : Int) else -1) := ⟨_, rfl⟩
  rw [← hR]
  have HR : Hid (R = (if nameAt fs k < fs.length then (nameAt fs k : Int) else -1)) := hR
  clear h hR
  go_enter Tryz.func115, Tryz.ntmps115
  go_wp2_with fail
  refine (indexFunc B w.heap.size fs k _ (HH.out.later (blw_alloc (Below.refl _ _) _)) (by simp) (by simp)).mono ?_
  rintro e w2 ⟨⟨r, rfl, hr⟩, hb2⟩
  have hB2 := blw_trans (blw_alloc (Below.refl _ _) _) hb2
  have hr' : r = R := by rw [hr, HR.out]
  subst hr'
  clear hb2 hr
  go_wp2
  go_ret
  exact ⟨⟨_, rfl, rfl⟩, hB2⟩

end Go.Proofs.YtkjkklcflpchlaaGreat
