/-
  Sheets: what a word of a type is: the specification.
-/
import Derived.Laws.IdiomStrings
import Derived.Lib.ItoaLen
import Derived.Deep.DeepCutAuto
import Derived.Test.YtikacjpbnoihjaaEBy
import Derived.Test.YtikacjpbnoihjaaEPn
namespace Go.Proofs.Ytikacjpbnoihjaa
open Go.RowKit Go.Deep

theorem wrap_byte (z : Int) (h0 : 0 ≤ z) (h1 : z ≤ 255) : IntKind.u8.wrap z = z := by
  simp [IntKind.wrap, IntKind.bits, IntKind.signed]; omega
def VEw (va : Value) (dx s : ByteArray) (k q r : Nat) (b : UInt8) : Nat → Value → World → Prop
  | 0, u, _ => u = va
  | 1, u, _ => u = .string dx
  | 2, u, _ => u = .string s
  | 3, u, _ => u = .int .i64 (k : Int)
  | 4, u, _ => u = .int .u8 (b.toNat : Int)
  | 5, u, _ => u = .int .u8 (q : Int)
  | 6, u, _ => u = .int .u8 ((Pl.hexd q).toNat : Int)
  | 7, u, _ => u = .string dx
  | 8, u, _ => u = .string s
  | 9, u, _ => u = .int .i64 (k : Int)
  | 10, u, _ => u = .int .u8 (b.toNat : Int)
  | 11, u, _ => u = .int .u8 (r : Int)
  | 12, u, _ => u = .int .u8 ((Pl.hexd r).toNat : Int)
  | 13, u, W => ∃ B, u = .slice (some ⟨B, 0, none⟩) 3 3 ∧ W.heap[B]? = some (.cells #[.int .u8 92, .int .u8 ((Pl.hexd q).toNat : Int), .int .u8 ((Pl.hexd r).toNat : Int)] 5 (0, 0))
  | _, _, _ => True
theorem VEw_mono (va : Value) (dx s : ByteArray) (k q r : Nat) (b : UInt8) : ∀ j u W W', Below W.heap.size W W' → VEw va dx s k q r b j u W → VEw va dx s k q r b j u W' := by
  intro j u W W' hb h
  match j with
  | 0 => exact h
  | 1 => exact h
  | 2 => exact h
  | 3 => exact h
  | 4 => exact h
  | 5 => exact h
  | 6 => exact h
  | 7 => exact h
  | 8 => exact h
  | 9 => exact h
  | 10 => exact h
  | 11 => exact h
  | 12 => exact h
  | 13 =>
    obtain ⟨B, e, hB⟩ := h
    exact ⟨B, e, (hb.block B (Array.getElem?_eq_some_iff.1 hB).1).trans hB⟩
  | n + 14 => exact trivial
end Go.Proofs.Ytikacjpbnoihjaa

namespace Go.Proofs.Ytikacjpbnoihjaa
open Go.RowKit Go.Deep

theorem Try.underlying91' : Try.prog.underlying 91 = some (.slice 5) := by kernel_rfl

theorem one_digit (W : World) (B : Nat) (d : Nat) (hd : d < 10) (z : Int) (hz : z = 48 + (d : Int)) (hc : W.cell? ⟨B, 0, none⟩ = some (.int .u8 z)) :
    (convert 91 9 (.slice (some ⟨B, 0, none⟩) 1 1)).run Try.prog W = .ok (.string ⟨[UInt8.ofNat (48 + d)].toArray⟩) W := by
  have e : (UInt8.ofNat (48 + d)).toNat = 48 + d := by rw [UInt8.toNat_ofNat']; omega
  refine run_convert_bytes_back (P := Try.prog) W 91 9 5 ⟨B, 0, none⟩ 1 [UInt8.ofNat (48 + d)] Try.underlying91' Try.underlying5 Try.underlying9 fun j hj => ?_
  obtain rfl : j = 0 := by simpa using hj
  rw [show (Addr.add ⟨B, 0, none⟩ 0) = ⟨B, 0, none⟩ from rfl, hc, hz]
  simp only [List.getElem_cons_zero, e]
  rfl

theorem wrap_small (z : Int) (h0 : -9223372036854775808 ≤ z) (h1 : z ≤ 9223372036854775807) : IntKind.i64.wrap z = z := IntWalk.i64_in z ⟨h0, h1⟩
theorem dec_len (q : Nat) (h : q ≤ 1000000000) : (Lib.decDigits q).length ≤ 21 := by
  have := Lib.itoa_length_le (q : Int) (by omega) (by omega)
  rw [Lib.itoa_nonneg] at this
  exact this
theorem cat_list (a b : List UInt8) : (⟨(a ++ b).toArray⟩ : ByteArray) = ⟨a.toArray⟩ ++ ⟨b.toArray⟩ := by
  apply ByteArray.ext
  simp [ByteArray.data_append]

theorem ret_strl {a b : List UInt8} (h : a = b) : Ending.returned (.string ⟨a.toArray⟩) = .returned (.string ⟨b.toArray⟩) := by rw [h]

set_option maxRecDepth 8000 in
set_option maxHeartbeats 2000000 in
theorem l38Dec_small (n : Nat) (w : World) (h : n < 10) :
    Calls Try.prog 81 #[.int .i64 (n : Nat)] w fun e w' => e = .returned (.string ⟨(Lib.decDigits n).toArray⟩) ∧ Below w.heap.size w w' := by
  have HE : Hid (Lib.decDigits n = [UInt8.ofNat (48 + n)]) := Lib.decDigits_one h
  have hcv := one_digit (w.alloc (.cells #[.int .u8 (48 + (n : Int))] 5)) w.heap.size n h _ rfl (by simp)
  go_enter Try.func81, Try.ntmps81
  go_wp2
  go_ret
  exact ⟨ret_strl (by rw [HE.out]; simp), blw_alloc (Below.refl _ _) _⟩

set_option maxRecDepth 8000 in
set_option maxHeartbeats 4000000 in
theorem l38Dec_big (n : Nat) (w : World) (h : ¬ n < 10) (hb : n ≤ 1000000000) (ih : ∀ W : World, Calls Try.prog 81 #[.int .i64 ((n / 10 : Nat) : Int)] W fun e w' => e = .returned (.string ⟨(Lib.decDigits (n / 10)).toArray⟩) ∧ Below W.heap.size W w') :
    Calls Try.prog 81 #[.int .i64 (n : Nat)] w fun e w' => e = .returned (.string ⟨(Lib.decDigits n).toArray⟩) ∧ Below w.heap.size w w' := by
  have HE : Hid (Lib.decDigits n = Lib.decDigits (n / 10) ++ [UInt8.ofNat (48 + n % 10)]) := by show _ = _; rw [Lib.decDigits, dif_neg h]
  have HI : Hid (∀ W : World, Calls Try.prog 81 #[.int .i64 ((n / 10 : Nat) : Int)] W fun e w' => e = .returned (.string ⟨(Lib.decDigits (n / 10)).toArray⟩) ∧ Below W.heap.size W w') := ih
  have HCV : Hid (∀ (W : World) (B : Nat) (z : Int), z = 48 + ((n % 10 : Nat) : Int) → W.cell? ⟨B, 0, none⟩ = some (.int .u8 z) → (convert 91 9 (.slice (some ⟨B, 0, none⟩) 1 1)).run Try.prog W = .ok (.string ⟨[UInt8.ofNat (48 + n % 10)].toArray⟩) W) := fun W B z hz hc => one_digit W B (n % 10) (Nat.mod_lt _ (by decide)) z hz hc
  obtain ⟨q, hq⟩ : ∃ q, q = n / 10 := ⟨_, rfl⟩
  obtain ⟨m, hm⟩ : ∃ m, m = n % 10 := ⟨_, rfl⟩
  rw [← hq] at HI HE
  rw [← hm] at HCV HE
  have hm10 : m < 10 := by omega
  have hqb : q ≤ 1000000000 := by omega
  have e1 : IntKind.i64.wrap ((n : Int) / 10) = (q : Int) := by rw [wrap_small _ (by omega) (by omega)]; omega
  have e2 : (n : Int).tmod 10 = (m : Int) := by rw [Int.tmod_eq_emod_of_nonneg (by omega)]; omega
  have e3 : IntKind.i64.wrap (48 + (m : Int)) = 48 + m := wrap_small _ (by omega) (by omega)
  have e4 : IntKind.u8.wrap (48 + (m : Int)) = 48 + m := wrap_byte _ (by omega) (by omega)
  clear ih hq hm
  go_enter Try.func81, Try.ntmps81
  go_wp2_with fail
  have hlen : ¬ (9223372036854775807 < (Lib.decDigits q).length + 1) := by have := dec_len q hqb; omega
  have HCW : Hid (∀ W w6 : World, Below W.heap.size W w6 → (W.cell? ⟨w.heap.size, 0, none⟩ = some (.int .u8 (48 + (m : Int))) ∧ w.heap.size < W.heap.size) → (convert 91 9 (.slice (some ⟨w.heap.size, 0, none⟩) 1 1)).run Try.prog w6 = .ok (.string ⟨[UInt8.ofNat (48 + m)].toArray⟩) w6) :=
    fun W w6 hb hc => one_digit w6 w.heap.size m hm10 _ rfl ((hb.cell (p := ⟨w.heap.size, 0, none⟩) hc.2).trans hc.1)
  have hcA := one_digit ((w.alloc (.cells #[.int .u8 (48 + (m : Int))] 5)).drew) w.heap.size m hm10 _ rfl (by simp)
  go_region_with (first | (go_at_call 81; refine (HI.out _).mono ?_; rintro e w6 ⟨rfl, hb6⟩; have hc6 := one_digit (w6.alloc (.cells #[.int .u8 (48 + (m : Int))] 5)) w6.heap.size m hm10 _ rfl (by simp); have hc7 := HCW.out _ _ hb6; try (simp at hc7)))
  all_goals
    go_wp2
    go_ret
    refine ⟨?_, ?_⟩
    · show Ending.returned (.string (⟨(Lib.decDigits q).toArray⟩ ++ ⟨#[48 + UInt8.ofNat m]⟩)) = _
      rw [HE.out, cat_list]; simp
    · repeat (first | exact Below.refl _ _ | exact blw_trans (by repeat (first | exact Below.refl _ _ | refine Below.drew ?_ | refine blw_alloc ?_ _)) hb6 | refine Below.drew ?_ | refine blw_alloc ?_ _)

theorem l38Dec (n : Nat) (hb : n ≤ 1000000000) (w : World) :
    Calls Try.prog 81 #[.int .i64 (n : Nat)] w fun e w' => e = .returned (.string ⟨(Lib.decDigits n).toArray⟩) ∧ Below w.heap.size w w' := by
  induction n using Nat.strongRecOn generalizing w with
  | _ n ih =>
    by_cases h : n < 10
    · exact l38Dec_small n w h
    · exact l38Dec_big n w h hb fun W => ih (n / 10) (by omega) (by omega) W

end Go.Proofs.Ytikacjpbnoihjaa

namespace Go.Proofs.Ytikacjpbnoihjaa
open Go.RowKit Go.Deep

set_option maxHeartbeats 2000000 in
theorem l38NameOkS (s : ByteArray) (w : World) (hs : s.size ≤ maxLen) :
    Calls Try.prog 33 #[.string s] w fun e w' => e = .returned (.bool (Pl.nameOk20 s)) ∧ w = w' := by
  unfold maxLen at hs
  by_cases hin : 1 ≤ s.size ∧ s.size ≤ 20
  · obtain ⟨h1, h2⟩ := hin
    have hb : (decide ((1 : Int) ≤ (s.size : Int)) && decide ((s.size : Int) ≤ 20)) = true := by simp; omega
    go_enter Try.func33, Try.ntmps33
    go_wp2_with (go_at_call 53; refine (l37In_any _ _ _ _).mono ?_; rintro e w' ⟨rfl, rfl⟩)
    go_loop [3] (fun i => ∃ k : Nat, k ≤ s.size ∧ i = .int .i64 k ∧ (s.data.toList.take k).all Pl.nameByte = true) (fun i => s.size - (intOf i).toNat)
    case atStart => exact ⟨0, Nat.zero_le _, rfl, rfl⟩
    case round =>
      obtain ⟨k, hk, rfl, hall⟩ := hrel
      have HA : Hid ((s.data.toList.take k).all Pl.nameByte = true) := hall
      clear hall
      by_cases hlt : k < s.size
      · have HSN : Hid ((s.data.toList.take (k + 1)).all Pl.nameByte = Pl.nameByte s[k]) := by show _ = _; rw [Pl.all_snoc _ _ _ hlt, HA.out]; rfl
        have HFN : Hid (Pl.nameByte s[k] = false → Pl.nameOk20 s = false) := fun h => by simp [Pl.nameOk20, Pl.nameBytes, Pl.all_false _ s k hlt h]
        obtain ⟨b, hb'⟩ : ∃ b, b = s[k] := ⟨_, rfl⟩
        have hix : s[k] = b := hb'.symm
        clear hb'
        rw [hix] at HSN HFN
        go_wp2
        all_goals simp only [Bool.not_eq_eq_eq_not, Bool.not_true, Bool.not_false, beq_iff_eq, beq_eq_false_iff_ne, decide_eq_true_eq, decide_eq_false_iff_not] at *
        all_goals first
          | (have hn : Pl.nameByte b = false := by rw [Bool.eq_false_iff]; simp [Pl.nameByte]; omega
             go_ret
             exact ⟨Pl.ret_bool (HFN.out hn).symm, rfl⟩)
          | (have hn : Pl.nameByte b = true := by simp [Pl.nameByte]; omega
             go_round
             case rel => exact ⟨k + 1, by omega, by go_num, by rw [HSN.out, hn]⟩
             case measure => simp [intOf]; omega)
      · have HF : Hid (Pl.nameOk20 s = true) := by
          show Pl.nameOk20 s = true
          have := Pl.all_whole Pl.nameByte s k (by omega)
          simp only [Pl.nameOk20, Pl.nameBytes, ← this, HA.out]
          simp; omega
        go_wp2
        go_ret
        exact ⟨Pl.ret_bool HF.out.symm, rfl⟩
  · have HF : Hid (Pl.nameOk20 s = false) := by
      show Pl.nameOk20 s = false
      have : (decide (1 ≤ s.size) && decide (s.size ≤ 20)) = false := by
        rw [Bool.eq_false_iff]; simp; omega
      simp [Pl.nameOk20, this]
    have hb : (decide ((1 : Int) ≤ (s.size : Int)) && decide ((s.size : Int) ≤ 20)) = false := by
      rw [Bool.eq_false_iff]; simp; omega
    clear hin
    go_enter Try.func33, Try.ntmps33
    go_wp2_with (go_at_call 53; refine (l37In_any _ _ _ _).mono ?_; rintro e w' ⟨rfl, rfl⟩)
    go_ret
    exact ⟨Pl.ret_bool HF.out.symm, rfl⟩

end Go.Proofs.Ytikacjpbnoihjaa

namespace Go.Proofs.Ytikacjpbnoihjaa
open Go.RowKit Go.Deep

set_option maxHeartbeats 4000000 in
theorem l38NumberOkS (s : ByteArray) (w : World) (hs : s.size ≤ maxLen) :
    Calls Try.prog 76 #[.string s] w fun e w' => e = .returned (.bool (Pl.numOk s)) ∧ Below w.heap.size w w' := by
  unfold maxLen at hs
  by_cases hin : 1 ≤ s.size ∧ s.size ≤ 7
  · obtain ⟨h1, h7⟩ := hin
    have hb : (decide ((1 : Int) ≤ (s.size : Int)) && decide ((s.size : Int) ≤ 7)) = true := by simp; omega
    go_enter Try.func76, Try.ntmps76
    go_wp2_with (go_at_call 53; refine (l37In_any _ _ _ _).mono ?_; rintro e w' ⟨rfl, rfl⟩)
    go_loop [3, 4] (fun n i => ∃ k : Nat, k ≤ s.size ∧ i = .int .i64 k ∧ n = .int .i64 (Pl.decVal (s.data.toList.take k)) ∧ (s.data.toList.take k).all Pl.digit = true) (fun _ i => s.size - (intOf i).toNat)
    case atStart => exact ⟨0, Nat.zero_le _, rfl, rfl, rfl⟩
    case round =>
      obtain ⟨k, hk, rfl, rfl, hall⟩ := hrel
      have hbd := Pl.decVal_small s k hk (by omega) hall
      obtain ⟨b1, b2⟩ := hbd
      have HA : Hid ((s.data.toList.take k).all Pl.digit = true) := hall
      clear hall
      by_cases hlt : k < s.size
      · have HS : Hid (Pl.decVal (s.data.toList.take (k + 1)) = Pl.decVal (s.data.toList.take k) * 10 + ((s[k].toNat : Int) - 48)) := Pl.decVal_take s k hlt
        by_cases hd : 48 ≤ (s[k].toNat : Int) ∧ (s[k].toNat : Int) ≤ 57
        · obtain ⟨d1, d2⟩ := hd
          have d3 : ¬ (s[k].toNat : Int) < 48 := by omega
          have d4 : ¬ (57 : Int) < (s[k].toNat : Int) := by omega
          go_wp2
          go_round
          case rel => exact ⟨k + 1, by omega, by go_num, by first | (rw [HS.out]; go_num) | rw [HS.out], by rw [Pl.all_snoc _ _ _ hlt, HA.out]; simp [Pl.digit]; omega⟩
          case measure => simp [intOf]; omega
        · have HF : Hid (Pl.numOk s = false) := by
            show Pl.numOk s = false
            have : s.data.toList.all Pl.digit = false := Pl.all_false _ s k hlt (by rw [Bool.eq_false_iff]; simp [Pl.digit]; omega)
            simp [Pl.numOk, Pl.decOk, this]
          by_cases hd1 : (s[k].toNat : Int) < 48
          · go_wp2
            go_ret
            exact ⟨Pl.ret_bool HF.out.symm, Below.refl _ _⟩
          · have hd2 : (57 : Int) < (s[k].toNat : Int) := by omega
            go_wp2
            go_ret
            exact ⟨Pl.ret_bool HF.out.symm, Below.refl _ _⟩
      · have e : s.data.toList.take k = s.data.toList := List.take_of_length_le (by simp; omega)
        rw [e] at HA b1 b2
        rw [e]
        have HEQ := uh (Pl.num_eq s h1 HA.out)
        have HOK : Hid (Pl.numOk s = ((!Pl.lead s) && decide (Pl.decVal s.data.toList ≤ 1000000))) := by
          show _ = _
          simp [Pl.numOk, Pl.decOk, HA.out, h1, h7]
        obtain ⟨v, hv⟩ : ∃ v, v = (Pl.decVal s.data.toList).toNat := ⟨_, rfl⟩
        have hvv : Pl.decVal s.data.toList = (v : Int) := by omega
        rw [hvv] at HOK HEQ
        rw [hvv]
        have hv2 : v ≤ 1000000000 := by omega
        have HC := uh (fun W => l38Dec v hv2 W)
        obtain ⟨L, hL⟩ : ∃ L, L = Pl.lead s := ⟨_, rfl⟩
        rw [← hL] at HOK HEQ
        have hT : ((⟨(Lib.decDigits v).toArray⟩ : ByteArray).toList == s.toList) = !L := by
          rw [Pl.tl, Pl.tl]; simpa using HEQ.out
        obtain ⟨D, hD⟩ : ∃ D : ByteArray, D = ⟨(Lib.decDigits v).toArray⟩ := ⟨_, rfl⟩
        rw [← hD] at HC hT
        clear hD hL hvv hv e b1 b2 HA HEQ
        cases L
        · have hT2 : (D.toList == s.toList) = true := hT
          clear hT
          go_wp2_with (go_at_call 81; refine (HC.out _).mono ?_; rintro e w' ⟨rfl, hbl⟩)
          go_ret
          exact ⟨Pl.ret_bool (by rw [HOK.out]; simp), hbl⟩
        · have hT2 : (D.toList == s.toList) = false := hT
          clear hT
          have HF : Hid (Pl.numOk s = false) := by show _ = _; rw [HOK.out]; rfl
          go_wp2_with (go_at_call 81; refine (HC.out _).mono ?_; rintro e w' ⟨rfl, hbl⟩)
          go_ret
          exact ⟨Pl.ret_bool HF.out.symm, hbl⟩
  · have HF : Hid (Pl.numOk s = false) := by
      show Pl.numOk s = false
      have : (decide (1 ≤ s.size) && decide (s.size ≤ 7)) = false := by
        rw [Bool.eq_false_iff]; simp; omega
      simp [Pl.numOk, Pl.decOk, this]
    have hb : (decide ((1 : Int) ≤ (s.size : Int)) && decide ((s.size : Int) ≤ 7)) = false := by
      rw [Bool.eq_false_iff]; simp; omega
    clear hin
    go_enter Try.func76, Try.ntmps76
    go_wp2_with (go_at_call 53; refine (l37In_any _ _ _ _).mono ?_; rintro e w' ⟨rfl, rfl⟩)
    go_ret
    exact ⟨Pl.ret_bool HF.out.symm, Below.refl _ _⟩

end Go.Proofs.Ytikacjpbnoihjaa

namespace Go.Proofs.Ytikacjpbnoihjaa
open Go.RowKit Go.Deep

theorem head45 (s : ByteArray) (h : 0 < s.size) : (s.data.toList.headD 0 == 45) = ((s[0].toNat : Int) == 45) := by
  rw [Pl.head_eq s h, Pl.byte_beq]; rfl
set_option maxHeartbeats 4000000 in
theorem l38FitsSg (s : ByteArray) (w : World) (hs : s.size ≤ maxLen) :
    Calls Try.prog 69 #[.int .i64 2, .string s] w fun e w' => e = .returned (.bool (Pl.fitsT 2 s)) ∧ Below w.heap.size w w' := by
  have HF : Hid (Pl.fitsT 2 s = Pl.sgnOk s) := by show _ = _; unfold Pl.fitsT; rw [if_neg (by decide), if_pos rfl]
  have HC1 := uh (fun W => l38NumberOkS s W hs)
  have hxs : (s.extract 1 s.size).size ≤ maxLen := by rw [ByteArray.size_extract]; omega
  have HC2 := uh (fun W => l38NumberOkS (s.extract 1 s.size) W hxs)
  have HSG : Hid (Pl.sgnOk s = (Pl.numOk s || (decide (1 < s.size) && (s.data.toList.headD 0 == 45) && !((s.extract 1 s.size).toList == [48]) && Pl.numOk (s.extract 1 s.size)))) := rfl
  unfold maxLen at hs
  obtain ⟨n1, hn1⟩ : ∃ n, n = Pl.numOk s := ⟨_, rfl⟩
  obtain ⟨n2, hn2⟩ : ∃ n, n = Pl.numOk (s.extract 1 s.size) := ⟨_, rfl⟩
  rw [← hn1] at HC1 HSG
  rw [← hn2] at HC2 HSG
  clear hn1 hn2 hxs
  cases n1
  rotate_left
  · go_enter Try.func69, Try.ntmps69
    go_wp2_with (go_at_call 76; refine (HC1.out _).mono ?_; rintro e w' ⟨rfl, hb⟩)
    go_ret
    exact ⟨Pl.ret_bool (by rw [HF.out, HSG.out]; rfl), hb⟩
  by_cases h1 : 1 < s.size
  rotate_left
  · go_enter Try.func69, Try.ntmps69
    go_wp2_with (go_at_call 76; refine (HC1.out _).mono ?_; rintro e w' ⟨rfl, hb⟩)
    go_ret
    exact ⟨Pl.ret_bool (by rw [HF.out, HSG.out]; simp [h1]), hb⟩
  have HH := uh (head45 s (by omega))
  obtain ⟨X, hX⟩ : ∃ X, X = s.extract 1 s.size := ⟨_, rfl⟩
  have hXx : s.extract 1 s.size = X := hX.symm
  rw [hXx] at HC2 HSG
  clear hX
  cases h45 : ((s[0].toNat : Int) == 45)
  · go_enter Try.func69, Try.ntmps69
    go_wp2_with (go_at_call 76; refine (HC1.out _).mono ?_; rintro e w' ⟨rfl, hb⟩)
    go_ret
    exact ⟨Pl.ret_bool (by rw [HF.out, HSG.out, HH.out, h45]; simp), hb⟩
  cases h0 : (X.toList == [48])
  rotate_left
  · have h0' : (X.toList != [48]) = false := by rw [bne, h0]; rfl
    go_enter Try.func69, Try.ntmps69
    go_wp2_with (go_at_call 76; refine (HC1.out _).mono ?_; rintro e w' ⟨rfl, hb⟩)
    go_ret
    exact ⟨Pl.ret_bool (by rw [HF.out, HSG.out, h0]; simp), hb⟩
  have h0' : (X.toList != [48]) = true := by rw [bne, h0]; rfl
  go_enter Try.func69, Try.ntmps69
  go_wp2_with fail
  refine (HC1.out _).mono ?_
  rintro e w1 ⟨rfl, hb1⟩
  go_wp2_with fail
  refine (HC2.out _).mono ?_
  rintro e w2 ⟨rfl, hb2⟩
  go_wp2
  go_ret
  exact ⟨Pl.ret_bool (by rw [HF.out, HSG.out, HH.out, h45, h0]; simp [h1]), blw_trans hb1 hb2⟩

set_option maxHeartbeats 4000000 in
theorem l38FitsS (t : Int) (s : ByteArray) (w : World) (hs : s.size ≤ maxLen) :
    Calls Try.prog 69 #[.int .i64 t, .string s] w fun e w' => e = .returned (.bool (Pl.fitsT t s)) ∧ Below w.heap.size w w' := by
  by_cases t2 : t = 2
  · subst t2; exact l38FitsSg s w hs
  have e2 : (t == 2) = false := by simpa using t2
  by_cases t1 : t = 1
  · subst t1
    have HF : Hid (Pl.numOk s = Pl.fitsT 1 s) := by show _ = _; unfold Pl.fitsT; rw [if_pos rfl]
    clear e2
    go_enter Try.func69, Try.ntmps69
    go_wp2_with (go_at_call 76; refine (l38NumberOkS _ _ hs).mono ?_; rintro e w' ⟨rfl, hb⟩)
    go_ret
    exact ⟨Pl.ret_bool HF.out, hb⟩
  have e1 : (t == 1) = false := by simpa using t1
  by_cases t3 : t = 3
  · subst t3
    have HF : Hid (Pl.nameOk20 s = Pl.fitsT 3 s) := by show _ = _; unfold Pl.fitsT; rw [if_neg (by decide), if_neg (by decide), if_pos rfl]
    clear e1 e2
    go_enter Try.func69, Try.ntmps69
    go_wp2_with (go_at_call 33; refine (l38NameOkS _ _ hs).mono ?_; rintro e w' ⟨rfl, rfl⟩)
    go_ret
    exact ⟨Pl.ret_bool HF.out, Below.refl _ _⟩
  have e3 : (t == 3) = false := by simpa using t3
  by_cases t5 : t = 5
  · subst t5
    have HF : Hid (((s.toList == [121, 101, 115]) || (s.toList == [110, 111])) = Pl.fitsT 5 s) := by show _ = _; unfold Pl.fitsT; rw [if_neg (by decide), if_neg (by decide), if_neg (by decide), if_pos rfl]
    clear e1 e2 e3
    cases y : (s.toList == [121, 101, 115])
    all_goals
      rw [y] at HF
      go_enter Try.func69, Try.ntmps69
      go_wp2
      go_ret
      exact ⟨Pl.ret_bool (by first | exact HF.out | (rw [← HF.out]; simp)), Below.refl _ _⟩
  have e5 : (t == 5) = false := by simpa using t5
  by_cases t6 : t = 6
  · subst t6
    have HF : Hid (((s.toList == [110, 111, 110, 101]) || (s.toList == [98, 101, 114, 116, 104]) || (s.toList == [122, 111, 110, 101])) = Pl.fitsT 6 s) := by show _ = _; unfold Pl.fitsT; rw [if_neg (by decide), if_neg (by decide), if_neg (by decide), if_neg (by decide), if_pos rfl]
    clear e1 e2 e3 e5
    cases y1 : (s.toList == [110, 111, 110, 101])
    all_goals cases y2 : (s.toList == [98, 101, 114, 116, 104])
    all_goals
      rw [y1, y2] at HF
      go_enter Try.func69, Try.ntmps69
      go_wp2
      go_ret
      exact ⟨Pl.ret_bool (by first | exact HF.out | (rw [← HF.out]; simp)), Below.refl _ _⟩
  have e6 : (t == 6) = false := by simpa using t6
  have HF : Hid (decide (s.size ≤ 200) = Pl.fitsT t s) := by show _ = _; unfold Pl.fitsT; rw [if_neg t1, if_neg t2, if_neg t3, if_neg t5, if_neg t6]
  unfold maxLen at hs
  clear t1 t2 t3 t5 t6
  go_enter Try.func69, Try.ntmps69
  go_wp2
  go_ret
  exact ⟨Pl.ret_bool (by rw [← HF.out, Bool.eq_iff_iff]; simp <;> omega), Below.refl _ _⟩

end Go.Proofs.Ytikacjpbnoihjaa
