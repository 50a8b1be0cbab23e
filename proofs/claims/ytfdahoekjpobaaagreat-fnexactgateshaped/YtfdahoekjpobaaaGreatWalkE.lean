/-
  The walk over the specification's GateFits.
-/
import Derived.Test.YtfdahoekjpobaaaGreatWalkA
import Derived.Test.YtfdahoekjpobaaaGreatPlainB
import Derived.Test.YtfdahoekjpobaaaGreatWalkD
namespace Go.Proofs.YtfdahoekjpobaaaGreat
open Go.RowKit

set_option maxHeartbeats 1000000 in
theorem l1Number_loop (s : ByteArray) (w : World) (h1 : 1 ≤ s.size) (h7 : s.size ≤ 7) (hl : Pl.lead s = false) :
    Calls Tryz.prog 80 #[.string s] w fun e w' => e = .returned (.int .i64 (Pl.numb s)) ∧ w = w' := by
  have hb : (decide ((1 : Int) ≤ (s.size : Int)) && decide ((s.size : Int) ≤ 7)) = true := by simp; omega
  have HN : Hid (Pl.lead s = false) := hl
  rw [Pl.lead_of s (by omega), Pl.byte_beq] at hl
  have HL : Hid ((decide (1 < s.size) && ((s[0].toNat : Int) == 48)) = false) := hl
  clear hl
  by_cases h2 : 1 < s.size
  all_goals
    try have h0 : ((s[0].toNat : Int) == 48) = false := by simpa [h2] using HL.out
    go_enter Tryz.func80, Tryz.ntmps80
    go_wp2_with (go_at_call 76; refine (l1In_any _ _ _ _).mono ?_; rintro e w' ⟨rfl, rfl⟩)
    go_loop [3, 4] (fun n i => ∃ k : Nat, k ≤ s.size ∧ i = .int .i64 k ∧ n = .int .i64 (Pl.decVal (s.data.toList.take k)) ∧ (s.data.toList.take k).all Pl.digit = true) (fun _ i => s.size - (intOf i).toNat)
    case atStart => exact ⟨0, Nat.zero_le _, rfl, rfl, rfl⟩
    case round =>
      obtain ⟨k, hk, rfl, rfl, hall⟩ := hrel
      have hbd := Pl.decVal_small s k hk (by omega) hall
      obtain ⟨b1, b2⟩ := hbd
      have HA : Hid ((s.data.toList.take k).all Pl.digit = true) := hall
      clear hall
      by_cases hlt : k < s.size
      · have HS : Hid (Pl.decVal (s.data.toList.take (k + 1)) = Pl.decVal (s.data.toList.take k) * 10 + ((s[k].toNat : Int) - 48)) := Pl.decVal_take s k hlt
        by_cases hd : 48 ≤ (s[k].toNat : Int) ∧ (s[k].toNat : Int) ≤ 57
        · obtain ⟨d1, d2⟩ := hd
          go_wp2
          go_round
          case rel => exact ⟨k + 1, by omega, by go_num, by rw [HS.out]; go_num, by rw [Pl.all_snoc _ _ _ hlt, HA.out]; simp [Pl.digit]; omega⟩
          case measure => simp [intOf]; omega
        · have HF : Hid (Pl.numb s = -1) := by
            show Pl.numb s = -1
            have : s.data.toList.all Pl.digit = false := Pl.all_false _ s k hlt (by rw [Bool.eq_false_iff]; simp [Pl.digit]; omega)
            simp [Pl.numb, Pl.decOk, this]
          by_cases hd1 : 48 ≤ (s[k].toNat : Int)
          all_goals
            go_wp2
            go_ret
            exact ⟨Pl.ret_int HF.out.symm, rfl⟩
      · have HF : Hid (Pl.numb s = Pl.decVal (s.data.toList.take k)) := by
          show Pl.numb s = Pl.decVal (s.data.toList.take k)
          have e : s.data.toList.take k = s.data.toList := List.take_of_length_le (by simp; omega)
          have ha := HA.out
          rw [e] at ha ⊢
          simp [Pl.numb, Pl.decOk, ha, HN.out]
          omega
        go_wp2
        go_ret
        exact ⟨Pl.ret_int HF.out.symm, rfl⟩

set_option maxHeartbeats 1000000 in
theorem l1Number_any (s : ByteArray) (w : World) (hs : s.size ≤ maxLen) :
    Calls Tryz.prog 80 #[.string s] w fun e w' => e = .returned (.int .i64 (Pl.numb s)) ∧ w = w' := by
  unfold maxLen at hs
  by_cases hin : 1 ≤ s.size ∧ s.size ≤ 7
  · obtain ⟨h1, h7⟩ := hin
    cases hl : Pl.lead s
    · exact l1Number_loop s w h1 h7 hl
    · have HF : Hid (Pl.numb s = -1) := by show Pl.numb s = -1; simp [Pl.numb, Pl.decOk, hl]
      have hb : (decide ((1 : Int) ≤ (s.size : Int)) && decide ((s.size : Int) ≤ 7)) = true := by simp; omega
      rw [Pl.lead_of s (by omega), Pl.byte_beq] at hl
      simp only [Bool.and_eq_true, decide_eq_true_eq] at hl
      obtain ⟨h2, h0⟩ := hl
      have h0' : ((s[0].toNat : Int) == 48) = true := h0
      clear h0
      go_enter Tryz.func80, Tryz.ntmps80
      go_wp2_with (go_at_call 76; refine (l1In_any _ _ _ _).mono ?_; rintro e w' ⟨rfl, rfl⟩)
      go_ret
      exact ⟨Pl.ret_int HF.out.symm, rfl⟩
  · have HF : Hid (Pl.numb s = -1) := by
      show Pl.numb s = -1
      have : (decide (1 ≤ s.size) && decide (s.size ≤ 7)) = false := by
        rw [Bool.eq_false_iff]; simp; omega
      simp [Pl.numb, Pl.decOk, this]
    have hb : (decide ((1 : Int) ≤ (s.size : Int)) && decide ((s.size : Int) ≤ 7)) = false := by
      rw [Bool.eq_false_iff]; simp; omega
    clear hin
    go_enter Tryz.func80, Tryz.ntmps80
    go_wp2_with (go_at_call 76; refine (l1In_any _ _ _ _).mono ?_; rintro e w' ⟨rfl, rfl⟩)
    go_ret
    exact ⟨Pl.ret_int HF.out.symm, rfl⟩

end Go.Proofs.YtfdahoekjpobaaaGreat

namespace Go.Proofs.YtfdahoekjpobaaaGreat
open Go.RowKit

theorem numb_nonneg (s : ByteArray) (h : Pl.decOk s = true) : 0 ≤ Pl.decVal s.data.toList ∧ Pl.decVal s.data.toList ≤ 9999999 := by
  simp only [Pl.decOk, Bool.and_eq_true, decide_eq_true_eq] at h
  have e : s.data.toList.take s.size = s.data.toList := List.take_of_length_le (by simp)
  have := Pl.decVal_small s s.size (Nat.le_refl _) (by omega) (by rw [e]; exact h.2)
  rw [e] at this
  exact this

set_option maxHeartbeats 1000000 in
theorem specFits_1 (nm : ByteArray) (least most : Int) (vs : Value) (to : ByteArray) (role : Int) (must fixed : Bool) (de we v : ByteArray) (ss : List ByteArray) (w : World) (hv : v.size ≤ maxLen) :
    Calls Tryz.prog 59 #[.agg #[.string nm, .int .i64 1, .int .i64 least, .int .i64 most, vs, .string to, .int .i64 role, .bool must, .bool fixed, .string de, .string we], .string v] w
      fun e w' => e = .returned (.bool (Pl.fits 1 least most ss v)) ∧ Below w.heap.size w w' := by
  cases hd : Pl.decOk v
  · have HF : Hid (Pl.fits 1 least most ss v = false) := by show Pl.fits 1 least most ss v = false; simp [Pl.fits, hd]
    have HN : Hid (Pl.numb v = -1) := by show Pl.numb v = -1; simp [Pl.numb, hd]
    clear hd
    go_enter Tryz.func59, Tryz.ntmps59
    go_wp2_with fail
    refine (l1Number_any _ _ hv).mono ?_
    rintro e w' ⟨rfl, rfl⟩
    rw [HN.out]
    go_wp2
    go_ret
    exact ⟨Pl.ret_bool HF.out.symm, (Below.refl _ _).alloc (Nat.le_refl _) _⟩
  · have HF : Hid (Pl.fits 1 least most ss v = (decide (least ≤ Pl.decVal v.data.toList) && decide (Pl.decVal v.data.toList ≤ most))) := by
      show Pl.fits 1 least most ss v = _; simp [Pl.fits, hd]
    have HN : Hid (Pl.numb v = Pl.decVal v.data.toList) := by show Pl.numb v = _; simp [Pl.numb, hd]
    have hn := (numb_nonneg v hd).1
    clear hd
    go_enter Tryz.func59, Tryz.ntmps59
    go_wp2_with fail
    refine (l1Number_any _ _ hv).mono ?_
    rintro e w' ⟨rfl, rfl⟩
    rw [HN.out]
    go_wp2_with (go_at_call 76; refine (l1In_any _ _ _ _).mono ?_; rintro e w' ⟨rfl, rfl⟩)
    go_ret
    exact ⟨Pl.ret_bool HF.out.symm, (Below.refl _ _).alloc (Nat.le_refl _) _⟩

set_option maxHeartbeats 1000000 in
theorem specFits_2 (nm : ByteArray) (least most : Int) (b off cap : Nat) (to : ByteArray) (role : Int) (must fixed : Bool) (de we v : ByteArray) (ss : List ByteArray) (w : World)
    (hb : b < w.heap.size) (hl : ss.length ≤ maxLen) (hc : ∀ i, i < ss.length → w.cell? ⟨b, off + i, none⟩ = some (.string (ss.getD i ByteArray.empty))) :
    Calls Tryz.prog 59 #[.agg #[.string nm, .int .i64 2, .int .i64 least, .int .i64 most, .slice (some ⟨b, off, none⟩) ss.length cap, .string to, .int .i64 role, .bool must, .bool fixed, .string de, .string we], .string v] w
      fun e w' => e = .returned (.bool (Pl.fits 2 least most ss v)) ∧ Below w.heap.size w w' := by
  have HX : Hid (∀ o, Calls Tryz.prog 61 #[.slice (some ⟨b, off, none⟩) ss.length cap, .string v] (w.alloc o) fun e w' => e = .returned (.bool (Pl.has ss v)) ∧ (w.alloc o) = w') := by
    intro o
    refine l1Has_row b off cap ss v _ hl fun i hi => ?_
    rw [← hc i hi]
    exact ((Below.refl _ _).alloc (Nat.le_refl _) o : Below w.heap.size w _).cell (p := ⟨b, off + i, none⟩) hb
  clear hc
  by_cases h1 : 1 ≤ v.size
  · have HF : Hid (Pl.fits 2 least most ss v = Pl.has ss v) := by show Pl.fits 2 least most ss v = _; simp [Pl.fits, h1]
    have he := Pl.empty_no v h1
    go_enter Tryz.func59, Tryz.ntmps59
    go_wp2_with fail
    refine (HX.out _).mono ?_
    rintro e w' ⟨rfl, rfl⟩
    go_wp2
    go_ret
    exact ⟨Pl.ret_bool HF.out.symm, (Below.refl _ _).alloc (Nat.le_refl _) _⟩
  · have HF : Hid (Pl.fits 2 least most ss v = false) := by show Pl.fits 2 least most ss v = _; simp [Pl.fits, h1]
    have he := Pl.empty_yes v h1
    go_enter Tryz.func59, Tryz.ntmps59
    go_wp2
    go_ret
    exact ⟨Pl.ret_bool HF.out.symm, (Below.refl _ _).alloc (Nat.le_refl _) _⟩

set_option maxHeartbeats 1000000 in
theorem specFits_3 (nm : ByteArray) (least most : Int) (vs : Value) (to : ByteArray) (role : Int) (must fixed : Bool) (de we v : ByteArray) (ss : List ByteArray) (w : World) (hv : v.size ≤ maxLen) :
    Calls Tryz.prog 59 #[.agg #[.string nm, .int .i64 3, .int .i64 least, .int .i64 most, vs, .string to, .int .i64 role, .bool must, .bool fixed, .string de, .string we], .string v] w
      fun e w' => e = .returned (.bool (Pl.fits 3 least most ss v)) ∧ Below w.heap.size w w' := by
  unfold maxLen at hv
  go_enter Tryz.func59, Tryz.ntmps59
  go_wp2
  go_loop [6] (fun i => ∃ k : Nat, k ≤ v.size ∧ i = .int .i64 k ∧ (v.data.toList.take k).all Pl.textByte = true) (fun i => v.size - (intOf i).toNat)
  case atStart => exact ⟨0, Nat.zero_le _, rfl, rfl⟩
  case round =>
    obtain ⟨k, hk, rfl, hall⟩ := hrel
    have HA : Hid ((v.data.toList.take k).all Pl.textByte = true) := hall
    clear hall
    by_cases hlt : k < v.size
    · have hby0 : (0 : Int) ≤ (v[k].toNat : Int) := by omega
      have hby : (v[k].toNat : Int) ≤ 255 := by have := v[k].toNat_lt; omega
      by_cases hd : 33 ≤ (v[k].toNat : Int) ∧ (v[k].toNat : Int) ≤ 126
      · have hb : (decide ((33 : Int) ≤ (v[k].toNat : Int)) && decide ((v[k].toNat : Int) ≤ 126)) = true := by simp; omega
        have HT : Hid (Pl.textByte v[k] = true) := by show Pl.textByte v[k] = true; simp [Pl.textByte]; omega
        clear hd
        go_wp2_with (go_at_call 76; refine (l1In_any _ _ _ _).mono ?_; rintro e w' ⟨rfl, rfl⟩)
        go_round
        case rel => exact ⟨k + 1, by omega, by go_num, by rw [Pl.all_snoc _ _ _ hlt, HA.out, HT.out]; rfl⟩
        case measure => simp [intOf]; omega
      · have hb : (decide ((33 : Int) ≤ (v[k].toNat : Int)) && decide ((v[k].toNat : Int) ≤ 126)) = false := by
          rw [Bool.eq_false_iff]; simp; omega
        have HF : Hid (Pl.fits 3 least most ss v = false) := by
          show Pl.fits 3 least most ss v = false
          have : Pl.textBytes v = false := Pl.all_false _ v k hlt (by rw [Bool.eq_false_iff]; simp [Pl.textByte]; omega)
          simp [Pl.fits, this]
        clear hd
        go_wp2_with (go_at_call 76; refine (l1In_any _ _ _ _).mono ?_; rintro e w' ⟨rfl, rfl⟩)
        go_ret
        exact ⟨Pl.ret_bool HF.out.symm, (Below.refl _ _).alloc (Nat.le_refl _) _⟩
    · have HT : Hid (Pl.textBytes v = true) := by
        show Pl.textBytes v = true
        unfold Pl.textBytes
        rw [← Pl.all_whole Pl.textByte v k (by omega)]
        exact HA.out
      by_cases h1 : 1 ≤ v.size
      · have HF : Hid (Pl.fits 3 least most ss v = (decide (least ≤ (v.size : Int)) && decide ((v.size : Int) ≤ most))) := by
          show Pl.fits 3 least most ss v = _; simp [Pl.fits, HT.out, h1]
        have he := Pl.empty_no v h1
        go_wp2_with (go_at_call 76; refine (l1In_any _ _ _ _).mono ?_; rintro e w' ⟨rfl, rfl⟩)
        go_ret
        exact ⟨Pl.ret_bool HF.out.symm, (Below.refl _ _).alloc (Nat.le_refl _) _⟩
      · have HF : Hid (Pl.fits 3 least most ss v = false) := by show Pl.fits 3 least most ss v = _; simp [Pl.fits, h1]
        have he := Pl.empty_yes v h1
        go_wp2
        go_ret
        exact ⟨Pl.ret_bool HF.out.symm, (Below.refl _ _).alloc (Nat.le_refl _) _⟩

set_option maxHeartbeats 1000000 in
theorem specFits_4 (nm : ByteArray) (least most : Int) (vs : Value) (to : ByteArray) (role : Int) (must fixed : Bool) (de we v : ByteArray) (ss : List ByteArray) (w : World) (hv : v.size ≤ maxLen) :
    Calls Tryz.prog 59 #[.agg #[.string nm, .int .i64 4, .int .i64 least, .int .i64 most, vs, .string to, .int .i64 role, .bool must, .bool fixed, .string de, .string we], .string v] w
      fun e w' => e = .returned (.bool (Pl.fits 4 least most ss v)) ∧ Below w.heap.size w w' := by
  have HF : Hid (Pl.fits 4 least most ss v = Pl.nameOk v) := by show Pl.fits 4 least most ss v = _; simp [Pl.fits]
  go_enter Tryz.func59, Tryz.ntmps59
  go_wp2_with (go_at_call 55; refine (l1NameOk_any _ _ hv).mono ?_; rintro e w' ⟨rfl, rfl⟩)
  go_ret
  exact ⟨Pl.ret_bool HF.out.symm, (Below.refl _ _).alloc (Nat.le_refl _) _⟩

set_option maxHeartbeats 1000000 in
theorem specFits_0 (nm : ByteArray) (kind least most : Int) (vs : Value) (to : ByteArray) (role : Int) (must fixed : Bool) (de we v : ByteArray) (ss : List ByteArray) (w : World)
    (h1 : (kind == 1) = false) (h2 : (kind == 2) = false) (h3 : (kind == 3) = false) (h4 : (kind == 4) = false) :
    Calls Tryz.prog 59 #[.agg #[.string nm, .int .i64 kind, .int .i64 least, .int .i64 most, vs, .string to, .int .i64 role, .bool must, .bool fixed, .string de, .string we], .string v] w
      fun e w' => e = .returned (.bool (Pl.fits kind least most ss v)) ∧ Below w.heap.size w w' := by
  have HF : Hid (Pl.fits kind least most ss v = false) := by
    show Pl.fits kind least most ss v = _
    simp only [beq_eq_false_iff_ne, ne_eq] at h1 h2 h3 h4
    simp [Pl.fits, h1, h2, h3, h4]
  go_enter Tryz.func59, Tryz.ntmps59
  go_wp2
  go_ret
  exact ⟨Pl.ret_bool HF.out.symm, (Below.refl _ _).alloc (Nat.le_refl _) _⟩

theorem specFits_any (nm : ByteArray) (kind least most : Int) (b off cap : Nat) (to : ByteArray) (role : Int) (must fixed : Bool) (de we v : ByteArray) (ss : List ByteArray) (w : World)
    (hv : v.size ≤ maxLen) (hb : b < w.heap.size) (hl : ss.length ≤ maxLen) (hc : ∀ i, i < ss.length → w.cell? ⟨b, off + i, none⟩ = some (.string (ss.getD i ByteArray.empty))) :
    Calls Tryz.prog 59 #[.agg #[.string nm, .int .i64 kind, .int .i64 least, .int .i64 most, .slice (some ⟨b, off, none⟩) ss.length cap, .string to, .int .i64 role, .bool must, .bool fixed, .string de, .string we], .string v] w
      fun e w' => e = .returned (.bool (Pl.fits kind least most ss v)) ∧ Below w.heap.size w w' := by
  by_cases h1 : kind = 1
  · subst h1; exact specFits_1 nm least most _ to role must fixed de we v ss w hv
  by_cases h2 : kind = 2
  · subst h2; exact specFits_2 nm least most b off cap to role must fixed de we v ss w hb hl hc
  by_cases h3 : kind = 3
  · subst h3; exact specFits_3 nm least most _ to role must fixed de we v ss w hv
  by_cases h4 : kind = 4
  · subst h4; exact specFits_4 nm least most _ to role must fixed de we v ss w hv
  exact specFits_0 nm kind least most _ to role must fixed de we v ss w (by simp [h1]) (by simp [h2]) (by simp [h3]) (by simp [h4])

end Go.Proofs.YtfdahoekjpobaaaGreat
