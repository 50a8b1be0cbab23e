/-
  Sheets: the place of a key, what fits: the specification.
-/
import Derived.Laws.IdiomStrings
import Derived.Lib.ItoaLen
import Derived.Deep.DeepCutAuto
import Derived.Test.YtojcopamegmeeaaEPn
import Derived.Test.YtojcopamegmeeaaERu
import Derived.Test.YtojcopamegmeeaaETx
namespace Go.Proofs.Ytojcopamegmeeaa
open Go.RowKit Go.Deep

theorem wrap_byte (z : Int) (h0 : 0 ≤ z) (h1 : z ≤ 255) : IntKind.u8.wrap z = z := by
  simp [IntKind.wrap, IntKind.bits, IntKind.signed]; omega
def VEw (va : Value) (dx s : ByteArray) (k q r : Nat) (b : UInt8) : Nat → Value → World → Prop
  | 0, u, _ => u = va
  | 1, u, _ => u = .string dx
  | 2, u, _ => u = .string s
  | 3, u, _ => u = .int .i64 (k : Int)
  | 4, u, _ => u = .int .u8 (b.toNat : Int)
  | 5, u, _ => u = .int .u8 (q : Int)
  | 6, u, _ => u = .int .u8 ((Pl.hexd q).toNat : Int)
  | 7, u, _ => u = .string dx
  | 8, u, _ => u = .string s
  | 9, u, _ => u = .int .i64 (k : Int)
  | 10, u, _ => u = .int .u8 (b.toNat : Int)
  | 11, u, _ => u = .int .u8 (r : Int)
  | 12, u, _ => u = .int .u8 ((Pl.hexd r).toNat : Int)
  | 13, u, W => ∃ B, u = .slice (some ⟨B, 0, none⟩) 3 3 ∧ W.heap[B]? = some (.cells #[.int .u8 92, .int .u8 ((Pl.hexd q).toNat : Int), .int .u8 ((Pl.hexd r).toNat : Int)] 5 (0, 0))
  | _, _, _ => True
theorem VEw_mono (va : Value) (dx s : ByteArray) (k q r : Nat) (b : UInt8) : ∀ j u W W', Below W.heap.size W W' → VEw va dx s k q r b j u W → VEw va dx s k q r b j u W' := by
  intro j u W W' hb h
  match j with
  | 0 => exact h
  | 1 => exact h
  | 2 => exact h
  | 3 => exact h
  | 4 => exact h
  | 5 => exact h
  | 6 => exact h
  | 7 => exact h
  | 8 => exact h
  | 9 => exact h
  | 10 => exact h
  | 11 => exact h
  | 12 => exact h
  | 13 =>
    obtain ⟨B, e, hB⟩ := h
    exact ⟨B, e, (hb.block B (Array.getElem?_eq_some_iff.1 hB).1).trans hB⟩
  | n + 14 => exact trivial
end Go.Proofs.Ytojcopamegmeeaa

namespace Go.Proofs.Ytojcopamegmeeaa
open Go.RowKit Go.Deep

theorem Try.underlying95' : Try.prog.underlying 95 = some (.slice 5) := by kernel_rfl

theorem one_digit (W : World) (B : Nat) (d : Nat) (hd : d < 10) (z : Int) (hz : z = 48 + (d : Int)) (hc : W.cell? ⟨B, 0, none⟩ = some (.int .u8 z)) :
    (convert 95 9 (.slice (some ⟨B, 0, none⟩) 1 1)).run Try.prog W = .ok (.string ⟨[UInt8.ofNat (48 + d)].toArray⟩) W := by
  have e : (UInt8.ofNat (48 + d)).toNat = 48 + d := by rw [UInt8.toNat_ofNat']; omega
  refine run_convert_bytes_back (P := Try.prog) W 95 9 5 ⟨B, 0, none⟩ 1 [UInt8.ofNat (48 + d)] Try.underlying95' Try.underlying5 Try.underlying9 fun j hj => ?_
  obtain rfl : j = 0 := by simpa using hj
  rw [show (Addr.add ⟨B, 0, none⟩ 0) = ⟨B, 0, none⟩ from rfl, hc, hz]
  simp only [List.getElem_cons_zero, e]
  rfl

theorem wrap_small (z : Int) (h0 : -9223372036854775808 ≤ z) (h1 : z ≤ 9223372036854775807) : IntKind.i64.wrap z = z := IntWalk.i64_in z ⟨h0, h1⟩
theorem dec_len (q : Nat) (h : q ≤ 1000000000) : (Lib.decDigits q).length ≤ 21 := by
  have := Lib.itoa_length_le (q : Int) (by omega) (by omega)
  rw [Lib.itoa_nonneg] at this
  exact this
theorem cat_list (a b : List UInt8) : (⟨(a ++ b).toArray⟩ : ByteArray) = ⟨a.toArray⟩ ++ ⟨b.toArray⟩ := by
  apply ByteArray.ext
  simp [ByteArray.data_append]

theorem ret_strl {a b : List UInt8} (h : a = b) : Ending.returned (.string ⟨a.toArray⟩) = .returned (.string ⟨b.toArray⟩) := by rw [h]

set_option maxRecDepth 8000 in
set_option maxHeartbeats 2000000 in
theorem l38Dec_small (n : Nat) (w : World) (h : n < 10) :
    Calls Try.prog 88 #[.int .i64 (n : Nat)] w fun e w' => e = .returned (.string ⟨(Lib.decDigits n).toArray⟩) ∧ Below w.heap.size w w' := by
  have HE : Hid (Lib.decDigits n = [UInt8.ofNat (48 + n)]) := Lib.decDigits_one h
  have hcv := one_digit (w.alloc (.cells #[.int .u8 (48 + (n : Int))] 5)) w.heap.size n h _ rfl (by simp)
  go_enter Try.func88, Try.ntmps88
  go_wp2
  go_ret
  exact ⟨ret_strl (by rw [HE.out]; simp), blw_alloc (Below.refl _ _) _⟩

set_option maxRecDepth 8000 in
set_option maxHeartbeats 4000000 in
theorem l38Dec_big (n : Nat) (w : World) (h : ¬ n < 10) (hb : n ≤ 1000000000) (ih : ∀ W : World, Calls Try.prog 88 #[.int .i64 ((n / 10 : Nat) : Int)] W fun e w' => e = .returned (.string ⟨(Lib.decDigits (n / 10)).toArray⟩) ∧ Below W.heap.size W w') :
    Calls Try.prog 88 #[.int .i64 (n : Nat)] w fun e w' => e = .returned (.string ⟨(Lib.decDigits n).toArray⟩) ∧ Below w.heap.size w w' := by
  have HE : Hid (Lib.decDigits n = Lib.decDigits (n / 10) ++ [UInt8.ofNat (48 + n % 10)]) := by show _ = _; rw [Lib.decDigits, dif_neg h]
  have HI : Hid (∀ W : World, Calls Try.prog 88 #[.int .i64 ((n / 10 : Nat) : Int)] W fun e w' => e = .returned (.string ⟨(Lib.decDigits (n / 10)).toArray⟩) ∧ Below W.heap.size W w') := ih
  have HCV : Hid (∀ (W : World) (B : Nat) (z : Int), z = 48 + ((n % 10 : Nat) : Int) → W.cell? ⟨B, 0, none⟩ = some (.int .u8 z) → (convert 95 9 (.slice (some ⟨B, 0, none⟩) 1 1)).run Try.prog W = .ok (.string ⟨[UInt8.ofNat (48 + n % 10)].toArray⟩) W) := fun W B z hz hc => one_digit W B (n % 10) (Nat.mod_lt _ (by decide)) z hz hc
  obtain ⟨q, hq⟩ : ∃ q, q = n / 10 := ⟨_, rfl⟩
  obtain ⟨m, hm⟩ : ∃ m, m = n % 10 := ⟨_, rfl⟩
  rw [← hq] at HI HE
  rw [← hm] at HCV HE
  have hm10 : m < 10 := by omega
  have hqb : q ≤ 1000000000 := by omega
  have e1 : IntKind.i64.wrap ((n : Int) / 10) = (q : Int) := by rw [wrap_small _ (by omega) (by omega)]; omega
  have e2 : (n : Int).tmod 10 = (m : Int) := by rw [Int.tmod_eq_emod_of_nonneg (by omega)]; omega
  have e3 : IntKind.i64.wrap (48 + (m : Int)) = 48 + m := wrap_small _ (by omega) (by omega)
  have e4 : IntKind.u8.wrap (48 + (m : Int)) = 48 + m := wrap_byte _ (by omega) (by omega)
  clear ih hq hm
  go_enter Try.func88, Try.ntmps88
  go_wp2_with fail
  have hlen : ¬ (9223372036854775807 < (Lib.decDigits q).length + 1) := by have := dec_len q hqb; omega
  have HCW : Hid (∀ W w6 : World, Below W.heap.size W w6 → (W.cell? ⟨w.heap.size, 0, none⟩ = some (.int .u8 (48 + (m : Int))) ∧ w.heap.size < W.heap.size) → (convert 95 9 (.slice (some ⟨w.heap.size, 0, none⟩) 1 1)).run Try.prog w6 = .ok (.string ⟨[UInt8.ofNat (48 + m)].toArray⟩) w6) :=
    fun W w6 hb hc => one_digit w6 w.heap.size m hm10 _ rfl ((hb.cell (p := ⟨w.heap.size, 0, none⟩) hc.2).trans hc.1)
  have hcA := one_digit ((w.alloc (.cells #[.int .u8 (48 + (m : Int))] 5)).drew) w.heap.size m hm10 _ rfl (by simp)
  go_region_with (first | (go_at_call 88; refine (HI.out _).mono ?_; rintro e w6 ⟨rfl, hb6⟩; have hc6 := one_digit (w6.alloc (.cells #[.int .u8 (48 + (m : Int))] 5)) w6.heap.size m hm10 _ rfl (by simp); have hc7 := HCW.out _ _ hb6; try (simp at hc7)))
  all_goals
    go_wp2
    go_ret
    refine ⟨?_, ?_⟩
    · show Ending.returned (.string (⟨(Lib.decDigits q).toArray⟩ ++ ⟨#[48 + UInt8.ofNat m]⟩)) = _
      rw [HE.out, cat_list]; simp
    · repeat (first | exact Below.refl _ _ | exact blw_trans (by repeat (first | exact Below.refl _ _ | refine Below.drew ?_ | refine blw_alloc ?_ _)) hb6 | refine Below.drew ?_ | refine blw_alloc ?_ _)

theorem l38Dec (n : Nat) (hb : n ≤ 1000000000) (w : World) :
    Calls Try.prog 88 #[.int .i64 (n : Nat)] w fun e w' => e = .returned (.string ⟨(Lib.decDigits n).toArray⟩) ∧ Below w.heap.size w w' := by
  induction n using Nat.strongRecOn generalizing w with
  | _ n ih =>
    by_cases h : n < 10
    · exact l38Dec_small n w h
    · exact l38Dec_big n w h hb fun W => ih (n / 10) (by omega) (by omega) W

end Go.Proofs.Ytojcopamegmeeaa

namespace Go.Proofs.Ytojcopamegmeeaa
open Go.RowKit Go.Deep

set_option maxHeartbeats 2000000 in
theorem l38NameOkS (s : ByteArray) (w : World) (hs : s.size ≤ maxLen) :
    Calls Try.prog 29 #[.string s] w fun e w' => e = .returned (.bool (Pl.nameOk20 s)) ∧ w = w' := by
  unfold maxLen at hs
  by_cases hin : 1 ≤ s.size ∧ s.size ≤ 20
  · obtain ⟨h1, h2⟩ := hin
    have hb : (decide ((1 : Int) ≤ (s.size : Int)) && decide ((s.size : Int) ≤ 20)) = true := by simp; omega
    go_enter Try.func29, Try.ntmps29
    go_wp2_with (go_at_call 50; refine (l37In_any _ _ _ _).mono ?_; rintro e w' ⟨rfl, rfl⟩)
    go_loop [3] (fun i => ∃ k : Nat, k ≤ s.size ∧ i = .int .i64 k ∧ (s.data.toList.take k).all Pl.nameByte = true) (fun i => s.size - (intOf i).toNat)
    case atStart => exact ⟨0, Nat.zero_le _, rfl, rfl⟩
    case round =>
      obtain ⟨k, hk, rfl, hall⟩ := hrel
      have HA : Hid ((s.data.toList.take k).all Pl.nameByte = true) := hall
      clear hall
      by_cases hlt : k < s.size
      · have HSN : Hid ((s.data.toList.take (k + 1)).all Pl.nameByte = Pl.nameByte s[k]) := by show _ = _; rw [Pl.all_snoc _ _ _ hlt, HA.out]; rfl
        have HFN : Hid (Pl.nameByte s[k] = false → Pl.nameOk20 s = false) := fun h => by simp [Pl.nameOk20, Pl.nameBytes, Pl.all_false _ s k hlt h]
        obtain ⟨b, hb'⟩ : ∃ b, b = s[k] := ⟨_, rfl⟩
        have hix : s[k] = b := hb'.symm
        clear hb'
        rw [hix] at HSN HFN
        go_wp2
        all_goals simp only [Bool.not_eq_eq_eq_not, Bool.not_true, Bool.not_false, beq_iff_eq, beq_eq_false_iff_ne, decide_eq_true_eq, decide_eq_false_iff_not] at *
        all_goals first
          | (have hn : Pl.nameByte b = false := by rw [Bool.eq_false_iff]; simp [Pl.nameByte]; omega
             go_ret
             exact ⟨Pl.ret_bool (HFN.out hn).symm, rfl⟩)
          | (have hn : Pl.nameByte b = true := by simp [Pl.nameByte]; omega
             go_round
             case rel => exact ⟨k + 1, by omega, by go_num, by rw [HSN.out, hn]⟩
             case measure => simp [intOf]; omega)
      · have HF : Hid (Pl.nameOk20 s = true) := by
          show Pl.nameOk20 s = true
          have := Pl.all_whole Pl.nameByte s k (by omega)
          simp only [Pl.nameOk20, Pl.nameBytes, ← this, HA.out]
          simp; omega
        go_wp2
        go_ret
        exact ⟨Pl.ret_bool HF.out.symm, rfl⟩
  · have HF : Hid (Pl.nameOk20 s = false) := by
      show Pl.nameOk20 s = false
      have : (decide (1 ≤ s.size) && decide (s.size ≤ 20)) = false := by
        rw [Bool.eq_false_iff]; simp; omega
      simp [Pl.nameOk20, this]
    have hb : (decide ((1 : Int) ≤ (s.size : Int)) && decide ((s.size : Int) ≤ 20)) = false := by
      rw [Bool.eq_false_iff]; simp; omega
    clear hin
    go_enter Try.func29, Try.ntmps29
    go_wp2_with (go_at_call 50; refine (l37In_any _ _ _ _).mono ?_; rintro e w' ⟨rfl, rfl⟩)
    go_ret
    exact ⟨Pl.ret_bool HF.out.symm, rfl⟩

end Go.Proofs.Ytojcopamegmeeaa

namespace Go.Proofs.Ytojcopamegmeeaa
open Go.RowKit Go.Deep

set_option maxHeartbeats 4000000 in
theorem l38NumberOkS (s : ByteArray) (w : World) (hs : s.size ≤ maxLen) :
    Calls Try.prog 81 #[.string s] w fun e w' => e = .returned (.bool (Pl.numOk s)) ∧ Below w.heap.size w w' := by
  unfold maxLen at hs
  by_cases hin : 1 ≤ s.size ∧ s.size ≤ 7
  · obtain ⟨h1, h7⟩ := hin
    have hb : (decide ((1 : Int) ≤ (s.size : Int)) && decide ((s.size : Int) ≤ 7)) = true := by simp; omega
    go_enter Try.func81, Try.ntmps81
    go_wp2_with (go_at_call 50; refine (l37In_any _ _ _ _).mono ?_; rintro e w' ⟨rfl, rfl⟩)
    go_loop [3, 4] (fun n i => ∃ k : Nat, k ≤ s.size ∧ i = .int .i64 k ∧ n = .int .i64 (Pl.decVal (s.data.toList.take k)) ∧ (s.data.toList.take k).all Pl.digit = true) (fun _ i => s.size - (intOf i).toNat)
    case atStart => exact ⟨0, Nat.zero_le _, rfl, rfl, rfl⟩
    case round =>
      obtain ⟨k, hk, rfl, rfl, hall⟩ := hrel
      have hbd := Pl.decVal_small s k hk (by omega) hall
      obtain ⟨b1, b2⟩ := hbd
      have HA : Hid ((s.data.toList.take k).all Pl.digit = true) := hall
      clear hall
      by_cases hlt : k < s.size
      · have HS : Hid (Pl.decVal (s.data.toList.take (k + 1)) = Pl.decVal (s.data.toList.take k) * 10 + ((s[k].toNat : Int) - 48)) := Pl.decVal_take s k hlt
        by_cases hd : 48 ≤ (s[k].toNat : Int) ∧ (s[k].toNat : Int) ≤ 57
        · obtain ⟨d1, d2⟩ := hd
          have d3 : ¬ (s[k].toNat : Int) < 48 := by omega
          have d4 : ¬ (57 : Int) < (s[k].toNat : Int) := by omega
          go_wp2
          go_round
          case rel => exact ⟨k + 1, by omega, by go_num, by first | (rw [HS.out]; go_num) | rw [HS.out], by rw [Pl.all_snoc _ _ _ hlt, HA.out]; simp [Pl.digit]; omega⟩
          case measure => simp [intOf]; omega
        · have HF : Hid (Pl.numOk s = false) := by
            show Pl.numOk s = false
            have : s.data.toList.all Pl.digit = false := Pl.all_false _ s k hlt (by rw [Bool.eq_false_iff]; simp [Pl.digit]; omega)
            simp [Pl.numOk, Pl.decOk, this]
          by_cases hd1 : (s[k].toNat : Int) < 48
          · go_wp2
            go_ret
            exact ⟨Pl.ret_bool HF.out.symm, Below.refl _ _⟩
          · have hd2 : (57 : Int) < (s[k].toNat : Int) := by omega
            go_wp2
            go_ret
            exact ⟨Pl.ret_bool HF.out.symm, Below.refl _ _⟩
      · have e : s.data.toList.take k = s.data.toList := List.take_of_length_le (by simp; omega)
        rw [e] at HA b1 b2
        rw [e]
        have HEQ := uh (Pl.num_eq s h1 HA.out)
        have HOK : Hid (Pl.numOk s = ((!Pl.lead s) && decide (Pl.decVal s.data.toList ≤ 1000000))) := by
          show _ = _
          simp [Pl.numOk, Pl.decOk, HA.out, h1, h7]
        obtain ⟨v, hv⟩ : ∃ v, v = (Pl.decVal s.data.toList).toNat := ⟨_, rfl⟩
        have hvv : Pl.decVal s.data.toList = (v : Int) := by omega
        rw [hvv] at HOK HEQ
        rw [hvv]
        have hv2 : v ≤ 1000000000 := by omega
        have HC := uh (fun W => l38Dec v hv2 W)
        obtain ⟨L, hL⟩ : ∃ L, L = Pl.lead s := ⟨_, rfl⟩
        rw [← hL] at HOK HEQ
        have hT : ((⟨(Lib.decDigits v).toArray⟩ : ByteArray).toList == s.toList) = !L := by
          rw [Pl.tl, Pl.tl]; simpa using HEQ.out
        obtain ⟨D, hD⟩ : ∃ D : ByteArray, D = ⟨(Lib.decDigits v).toArray⟩ := ⟨_, rfl⟩
        rw [← hD] at HC hT
        clear hD hL hvv hv e b1 b2 HA HEQ
        cases L
        · have hT2 : (D.toList == s.toList) = true := hT
          clear hT
          go_wp2_with (go_at_call 88; refine (HC.out _).mono ?_; rintro e w' ⟨rfl, hbl⟩)
          go_ret
          exact ⟨Pl.ret_bool (by rw [HOK.out]; simp), hbl⟩
        · have hT2 : (D.toList == s.toList) = false := hT
          clear hT
          have HF : Hid (Pl.numOk s = false) := by show _ = _; rw [HOK.out]; rfl
          go_wp2_with (go_at_call 88; refine (HC.out _).mono ?_; rintro e w' ⟨rfl, hbl⟩)
          go_ret
          exact ⟨Pl.ret_bool HF.out.symm, hbl⟩
  · have HF : Hid (Pl.numOk s = false) := by
      show Pl.numOk s = false
      have : (decide (1 ≤ s.size) && decide (s.size ≤ 7)) = false := by
        rw [Bool.eq_false_iff]; simp; omega
      simp [Pl.numOk, Pl.decOk, this]
    have hb : (decide ((1 : Int) ≤ (s.size : Int)) && decide ((s.size : Int) ≤ 7)) = false := by
      rw [Bool.eq_false_iff]; simp; omega
    clear hin
    go_enter Try.func81, Try.ntmps81
    go_wp2_with (go_at_call 50; refine (l37In_any _ _ _ _).mono ?_; rintro e w' ⟨rfl, rfl⟩)
    go_ret
    exact ⟨Pl.ret_bool HF.out.symm, Below.refl _ _⟩

end Go.Proofs.Ytojcopamegmeeaa

namespace Go.Proofs.Ytojcopamegmeeaa
open Go.RowKit Go.Deep

theorem head45 (s : ByteArray) (h : 0 < s.size) : (s.data.toList.headD 0 == 45) = ((s[0].toNat : Int) == 45) := by
  rw [Pl.head_eq s h, Pl.byte_beq]; rfl
set_option maxHeartbeats 4000000 in
theorem l38FitsSg (s : ByteArray) (w : World) (hs : s.size ≤ maxLen) :
    Calls Try.prog 71 #[.int .i64 2, .string s] w fun e w' => e = .returned (.bool (Pl.fitsT 2 s)) ∧ Below w.heap.size w w' := by
  have HF : Hid (Pl.fitsT 2 s = Pl.sgnOk s) := by show _ = _; unfold Pl.fitsT; rw [if_neg (by decide), if_pos rfl]
  have HC1 := uh (fun W => l38NumberOkS s W hs)
  have hxs : (s.extract 1 s.size).size ≤ maxLen := by rw [ByteArray.size_extract]; omega
  have HC2 := uh (fun W => l38NumberOkS (s.extract 1 s.size) W hxs)
  have HSG : Hid (Pl.sgnOk s = (Pl.numOk s || (decide (1 < s.size) && (s.data.toList.headD 0 == 45) && !((s.extract 1 s.size).toList == [48]) && Pl.numOk (s.extract 1 s.size)))) := rfl
  unfold maxLen at hs
  obtain ⟨n1, hn1⟩ : ∃ n, n = Pl.numOk s := ⟨_, rfl⟩
  obtain ⟨n2, hn2⟩ : ∃ n, n = Pl.numOk (s.extract 1 s.size) := ⟨_, rfl⟩
  rw [← hn1] at HC1 HSG
  rw [← hn2] at HC2 HSG
  clear hn1 hn2 hxs
  cases n1
  rotate_left
  · go_enter Try.func71, Try.ntmps71
    go_wp2_with (go_at_call 81; refine (HC1.out _).mono ?_; rintro e w' ⟨rfl, hb⟩)
    go_ret
    exact ⟨Pl.ret_bool (by rw [HF.out, HSG.out]; rfl), hb⟩
  by_cases h1 : 1 < s.size
  rotate_left
  · go_enter Try.func71, Try.ntmps71
    go_wp2_with (go_at_call 81; refine (HC1.out _).mono ?_; rintro e w' ⟨rfl, hb⟩)
    go_ret
    exact ⟨Pl.ret_bool (by rw [HF.out, HSG.out]; simp [h1]), hb⟩
  have HH := uh (head45 s (by omega))
  obtain ⟨X, hX⟩ : ∃ X, X = s.extract 1 s.size := ⟨_, rfl⟩
  have hXx : s.extract 1 s.size = X := hX.symm
  rw [hXx] at HC2 HSG
  clear hX
  cases h45 : ((s[0].toNat : Int) == 45)
  · go_enter Try.func71, Try.ntmps71
    go_wp2_with (go_at_call 81; refine (HC1.out _).mono ?_; rintro e w' ⟨rfl, hb⟩)
    go_ret
    exact ⟨Pl.ret_bool (by rw [HF.out, HSG.out, HH.out, h45]; simp), hb⟩
  cases h0 : (X.toList == [48])
  rotate_left
  · have h0' : (X.toList != [48]) = false := by rw [bne, h0]; rfl
    go_enter Try.func71, Try.ntmps71
    go_wp2_with (go_at_call 81; refine (HC1.out _).mono ?_; rintro e w' ⟨rfl, hb⟩)
    go_ret
    exact ⟨Pl.ret_bool (by rw [HF.out, HSG.out, h0]; simp), hb⟩
  have h0' : (X.toList != [48]) = true := by rw [bne, h0]; rfl
  go_enter Try.func71, Try.ntmps71
  go_wp2_with fail
  refine (HC1.out _).mono ?_
  rintro e w1 ⟨rfl, hb1⟩
  go_wp2_with fail
  refine (HC2.out _).mono ?_
  rintro e w2 ⟨rfl, hb2⟩
  go_wp2
  go_ret
  exact ⟨Pl.ret_bool (by rw [HF.out, HSG.out, HH.out, h45, h0]; simp [h1]), blw_trans hb1 hb2⟩

set_option maxHeartbeats 4000000 in
theorem l38FitsS (t : Int) (s : ByteArray) (w : World) (hs : s.size ≤ maxLen) :
    Calls Try.prog 71 #[.int .i64 t, .string s] w fun e w' => e = .returned (.bool (Pl.fitsT t s)) ∧ Below w.heap.size w w' := by
  by_cases t2 : t = 2
  · subst t2; exact l38FitsSg s w hs
  have e2 : (t == 2) = false := by simpa using t2
  by_cases t1 : t = 1
  · subst t1
    have HF : Hid (Pl.numOk s = Pl.fitsT 1 s) := by show _ = _; unfold Pl.fitsT; rw [if_pos rfl]
    clear e2
    go_enter Try.func71, Try.ntmps71
    go_wp2_with (go_at_call 81; refine (l38NumberOkS _ _ hs).mono ?_; rintro e w' ⟨rfl, hb⟩)
    go_ret
    exact ⟨Pl.ret_bool HF.out, hb⟩
  have e1 : (t == 1) = false := by simpa using t1
  by_cases t3 : t = 3
  · subst t3
    have HF : Hid (Pl.nameOk20 s = Pl.fitsT 3 s) := by show _ = _; unfold Pl.fitsT; rw [if_neg (by decide), if_neg (by decide), if_pos rfl]
    clear e1 e2
    go_enter Try.func71, Try.ntmps71
    go_wp2_with (go_at_call 29; refine (l38NameOkS _ _ hs).mono ?_; rintro e w' ⟨rfl, rfl⟩)
    go_ret
    exact ⟨Pl.ret_bool HF.out, Below.refl _ _⟩
  have e3 : (t == 3) = false := by simpa using t3
  by_cases t5 : t = 5
  · subst t5
    have HF : Hid (((s.toList == [121, 101, 115]) || (s.toList == [110, 111])) = Pl.fitsT 5 s) := by show _ = _; unfold Pl.fitsT; rw [if_neg (by decide), if_neg (by decide), if_neg (by decide), if_pos rfl]
    clear e1 e2 e3
    cases y : (s.toList == [121, 101, 115])
    all_goals
      rw [y] at HF
      go_enter Try.func71, Try.ntmps71
      go_wp2
      go_ret
      exact ⟨Pl.ret_bool (by first | exact HF.out | (rw [← HF.out]; simp)), Below.refl _ _⟩
  have e5 : (t == 5) = false := by simpa using t5
  by_cases t6 : t = 6
  · subst t6
    have HF : Hid (((s.toList == [110, 111, 110, 101]) || (s.toList == [98, 101, 114, 116, 104]) || (s.toList == [122, 111, 110, 101])) = Pl.fitsT 6 s) := by show _ = _; unfold Pl.fitsT; rw [if_neg (by decide), if_neg (by decide), if_neg (by decide), if_neg (by decide), if_pos rfl]
    clear e1 e2 e3 e5
    cases y1 : (s.toList == [110, 111, 110, 101])
    all_goals cases y2 : (s.toList == [98, 101, 114, 116, 104])
    all_goals
      rw [y1, y2] at HF
      go_enter Try.func71, Try.ntmps71
      go_wp2
      go_ret
      exact ⟨Pl.ret_bool (by first | exact HF.out | (rw [← HF.out]; simp)), Below.refl _ _⟩
  have e6 : (t == 6) = false := by simpa using t6
  have HF : Hid (decide (s.size ≤ 200) = Pl.fitsT t s) := by show _ = _; unfold Pl.fitsT; rw [if_neg t1, if_neg t2, if_neg t3, if_neg t5, if_neg t6]
  unfold maxLen at hs
  clear t1 t2 t3 t5 t6
  go_enter Try.func71, Try.ntmps71
  go_wp2
  go_ret
  exact ⟨Pl.ret_bool (by rw [← HF.out, Bool.eq_iff_iff]; simp <;> omega), Below.refl _ _⟩

end Go.Proofs.Ytojcopamegmeeaa

namespace Go.Proofs.Ytojcopamegmeeaa
open Go.RowKit Go.Deep

theorem ruD_len (r : Pl.Ru) : (ruD r).length = 4 := rfl
/-- One of the rules that were told. -/
theorem rule_at {W : World} {l : List Pl.Ru} {v : Value} (h : Raw W [.row 73 shSheetRule] [rulesD l] [v]) {k : Nat} (hk : k < l.length) : ∃ p o c a1 c1 v3, v = .slice (some ⟨p, o, none⟩) l.length c ∧ p < W.heap.size ∧ W.rangeAt p (o + k * 4) [.string (l.getD k Pl.ruNo).key, .slice a1 (l.getD k Pl.ruNo).args.length c1, .bool (l.getD k Pl.ruNo).many, v3] ∧ Raw W [.row 3 [.i]] [.row (l.getD k Pl.ruNo).args.length ((l.getD k Pl.ruNo).args.map .i)] [.slice a1 (l.getD k Pl.ruNo).args.length c1] ∧ Raw W [.row 9 [.s]] [.row (l.getD k Pl.ruNo).dflt.length (txD (l.getD k Pl.ruNo).dflt)] [v3] := by
  rcases h.slice with ⟨e0, _⟩ | ⟨p, o, c, hv, hp, _, vs, hr, hR⟩
  · omega
  · obtain ⟨ve, hE, hg⟩ := hR.el hk hr
    have e : el shSheetRule.length k (l.flatMap ruD) = ruD (l.getD k Pl.ruNo) := el_flat Pl.ruNo ruD 4 ruD_len l k hk
    rw [e] at hE
    obtain ⟨v1, v3, hc, r1, r3⟩ := rawSheetRule hE
    subst hc
    obtain ⟨a1, c1, h1⟩ := r1.len0
    subst h1
    exact ⟨p, o, c, a1, c1, v3, hv, hp, hg, r1, r3⟩

set_option maxHeartbeats 4000000 in
theorem l38RuleS (kind key : ByteArray) (w : World) :
    Calls Try.prog 53 #[.string kind, .string key] w fun e w' => e = .returned (.int .i64 (Pl.ixI (Pl.ruIx (Pl.rulesOf kind) key))) ∧ Below w.heap.size w w' := by
  have HC := uh (fun W => sheetRulesS kind W)
  obtain ⟨l, hl⟩ : ∃ l, l = Pl.rulesOf kind := ⟨_, rfl⟩
  have hl100 : l.length ≤ 100 := by
    rw [hl]; unfold Pl.rulesOf
    split
    · decide
    · split
      · decide
      · split <;> decide
  rw [← hl] at HC ⊢
  clear hl
  go_enter Try.func53, Try.ntmps53
  go_wp2_with fail
  refine (HC.out _).mono ?_
  rintro e w1 ⟨v, F, rfl, hr, nd, lo, hb⟩
  have HR := uh hr.raw
  have HB := uh hb
  obtain ⟨va, vc, hv⟩ := hr.raw.len0
  subst hv
  clear hr nd lo hb HC
  go_wp2
  go_loop [6] (fun i => ∃ k : Nat, k ≤ l.length ∧ i = .int .i64 k ∧ Pl.ruIx l key = Pl.ruIxF key (l.drop k) k) (fun i => l.length - (intOf i).toNat)
  case atStart => exact ⟨0, Nat.zero_le _, rfl, rfl⟩
  case round =>
    obtain ⟨k, hk, rfl, hI⟩ := hrel
    have HI := uh hI
    clear hI
    by_cases hlt : k < l.length
    · obtain ⟨p, o, c, a1, c1, v3, hv, hp, hg, _, _⟩ := rule_at HR.out hlt
      injection hv with e1 _ e3
      subst e1; subst e3
      have y0 : w1.cell? ⟨p, o + k * 4, none⟩ = some (.string (l.getD k Pl.ruNo).key) := rA_get hg 0 _ rfl
      have hk0 : (0 : Int) ≤ (k : Int) := by omega
      have hkn : (k : Int) < (l.length : Int) := by omega
      have HM := uh (fun h => Pl.ruIx_miss hlt HI.out h)
      have HH := uh (fun h => Pl.ruIx_hit hlt HI.out h)
      obtain ⟨x, hx⟩ : ∃ x, x = (l.getD k Pl.ruNo).key := ⟨_, rfl⟩
      rw [← hx] at y0 HM HH
      clear hx hg
      cases hq : (x.toList == key.toList)
      · have HX := uh (HM.out hq)
        go_wp2
        go_round
        case rel => exact ⟨k + 1, by omega, by go_num, HX.out⟩
        case measure => simp [intOf]; omega
      · have HX : Hid ((k : Int) = Pl.ixI (Pl.ruIx l key)) := by show _ = _; rw [HH.out hq]; rfl
        go_wp2
        go_ret
        exact ⟨Pl.ret_int HX.out, HB.out⟩
    · obtain rfl : k = l.length := by omega
      have HX : Hid (-1 = Pl.ixI (Pl.ruIx l key)) := by show _ = _; rw [Pl.ruIx_end HI.out]; rfl
      go_wp2
      go_ret
      exact ⟨Pl.ret_int HX.out, HB.out⟩
def VFi (va vb : Value) (p1 o1 p2 o2 k : Nat) (z : Int) (x : ByteArray) (b : Bool) : Nat → Value → World → Prop
  | 0, u, _ => u = va
  | 1, u, _ => u = .int .i64 (k : Int)
  | 2, u, _ => u = .pointer (some ⟨p1, o1 + k, none⟩)
  | 3, u, _ => u = .int .i64 z
  | 4, u, _ => u = vb
  | 5, u, _ => u = .int .i64 (k : Int)
  | 6, u, _ => u = .pointer (some ⟨p2, o2 + k, none⟩)
  | 7, u, _ => u = .string x
  | 8, u, _ => u = .bool b
  | 9, u, _ => u = .bool (!b)
  | _, _, _ => True
theorem VFi_mono (va vb : Value) (p1 o1 p2 o2 k : Nat) (z : Int) (x : ByteArray) (b : Bool) : ∀ j u W W', Below W.heap.size W W' → VFi va vb p1 o1 p2 o2 k z x b j u W → VFi va vb p1 o1 p2 o2 k z x b j u W' := by
  intro j u W W' hb h
  match j with
  | 0 => exact h
  | 1 => exact h
  | 2 => exact h
  | 3 => exact h
  | 4 => exact h
  | 5 => exact h
  | 6 => exact h
  | 7 => exact h
  | 8 => exact h
  | 9 => exact h
  | n + 10 => exact trivial

set_option maxRecDepth 8000 in
set_option maxHeartbeats 8000000 in
theorem sheetFitsS (kind key : ByteArray) (ws : List ByteArray) (wv : Value) (w : World) (hw : Raw w [.row 9 [.s]] [.row ws.length (txD ws)] [wv]) (hs : ∀ x ∈ ws, x.size ≤ maxLen) :
    Calls Try.prog 51 #[.string kind, .string key, wv] w fun e w' => e = .returned (.bool (Pl.sheetFits kind key ws)) ∧ Below w.heap.size w w' := by
  have HW := uh hw
  have HSZ := uh hs
  obtain ⟨wa2, wc2, hwv⟩ := hw.len0
  subst hwv
  have HCR := uh (fun W => l38RuleS kind key W)
  have HC := uh (fun W => sheetRulesS kind W)
  have HF : Hid (Pl.sheetFits kind key ws = match Pl.ruIx (Pl.rulesOf kind) key with
      | none => false
      | some j => Pl.fitsW ((Pl.rulesOf kind).getD j Pl.ruNo).args ws) := rfl
  obtain ⟨l, hl⟩ : ∃ l, l = Pl.rulesOf kind := ⟨_, rfl⟩
  rw [← hl] at HC HCR HF
  clear hl hw hs
  cases hix : Pl.ruIx l key with
  | none =>
    rw [hix] at HCR HF
    have hm : Pl.ixI none = -1 := rfl
    rw [hm] at HCR
    clear hm
    go_enter Try.func51, Try.ntmps51
    go_wp2_with (go_at_call 53; refine (HCR.out _).mono ?_; rintro e w1 ⟨rfl, hb⟩)
    go_ret
    exact ⟨Pl.ret_bool HF.out.symm, hb⟩
  | some j =>
    have hj := Pl.ruIx_lt hix
    rw [hix] at HCR HF
    have hm : Pl.ixI (some j) = (j : Int) := rfl
    rw [hm] at HCR
    clear hm hix
    have hj0 : ¬ (j : Int) < 0 := by omega
    have hj1 : (0 : Int) ≤ (j : Int) := by omega
    have hjn : (j : Int) < (l.length : Int) := by omega
    go_enter Try.func51, Try.ntmps51
    go_wp2_with fail
    refine (HCR.out _).mono ?_
    rintro e w1 ⟨rfl, hb1⟩
    go_wp2_with fail
    refine (HC.out _).mono ?_
    rintro e w2 ⟨v, F, rfl, hr, nd, lo, hb2⟩
    obtain ⟨p, o, c, a1, c1, v3, hv, hp, hg, hA, _⟩ := rule_at hr.raw hj
    subst hv
    have y1 : w2.cell? ⟨p, o + j * 4 + 1, none⟩ = some (.slice a1 (l.getD j Pl.ruNo).args.length c1) := rA_get hg 1 _ rfl
    have HA := uh hA
    have HB : Hid (Below w.heap.size w w2) := blw_trans hb1 hb2
    obtain ⟨ag, has⟩ : ∃ ag, ag = (l.getD j Pl.ruNo).args := ⟨_, rfl⟩
    have HF2 : Hid (Pl.sheetFits kind key ws = Pl.fitsW ag ws) := by show _ = _; rw [HF.out, has]
    rw [← has] at y1 HA
    clear has hr nd lo hb1 hb2 hg hA HC HCR HF
    by_cases hlen : ag.length = ws.length
    rotate_left
    · have hne : ((ag.length : Int) != (ws.length : Int)) = true := by simp; omega
      have HX : Hid (Pl.sheetFits kind key ws = false) := by show _ = _; rw [HF2.out, Pl.fitsW]; simp [hlen]
      clear hlen
      go_wp2
      go_ret
      exact ⟨Pl.ret_bool HX.out.symm, HB.out⟩
    have HX : Hid (Pl.sheetFits kind key ws = Pl.fitsA ag ws) := by show _ = _; rw [HF2.out, Pl.fitsW]; simp [hlen]
    rw [hlen] at y1 HA
    obtain ⟨n, hn⟩ : ∃ n, n = ws.length := ⟨_, rfl⟩
    have HWN : Hid (Raw w2 [.row 9 [.s]] [.row n (txD ws)] [.slice wa2 n wc2]) := by show Raw _ _ _ _; rw [hn]; exact HW.out.later HB.out
    rw [← hn] at y1 HA hlen ⊢
    have HLN : Hid (ag.length = n ∧ ws.length = n) := ⟨hlen, hn.symm⟩
    have hne : ((n : Int) != (n : Int)) = false := by simp
    clear hn hlen HF2 HW
    go_wp2
    go_loopw [9] (fun i wr => ∃ k : Nat, k ≤ n ∧ i = .int .i64 k ∧ Below w2.heap.size w2 wr ∧ Pl.fitsA ag ws = Pl.fitsA (ag.drop k) (ws.drop k)) (fun i _ => n - (intOf i).toNat)
    case atStart => exact ⟨0, Nat.zero_le _, rfl, Below.refl _ _, rfl⟩
    case round =>
      obtain ⟨k, hk, rfl, hbr, hI⟩ := hrel
      have HBR := uh hbr
      have HI := uh hI
      clear hbr hI y1
      by_cases hlt : k < n
      rotate_left
      · obtain rfl : k = n := by omega
        have HE : Hid (Pl.sheetFits kind key ws = true) := by
          show _ = _
          rw [HX.out, HI.out, List.drop_of_length_le (by have := HLN.out.1; omega), Pl.fitsA]
          intro _ _ _ _ h; cases h
        go_wp2
        go_ret
        exact ⟨Pl.ret_bool HE.out.symm, blw_trans HB.out HBR.out⟩
      have HS := uh (@Pl.fitsA_at ag ws k (by have := HLN.out.1; omega) (by have := HLN.out.2; omega))
      obtain ⟨z, hz⟩ : ∃ z, z = ag.getD k 0 := ⟨_, rfl⟩
      obtain ⟨x, hx⟩ : ∃ x, x = ws.getD k ⟨#[]⟩ := ⟨_, rfl⟩
      have hxs : x.size ≤ maxLen := by
        have hkl : k < ws.length := by have := HLN.out.2; omega
        have e : ws.getD k ⟨#[]⟩ = ws[k] := by simp [hkl]
        rw [hx, e]; exact HSZ.out _ (List.getElem_mem hkl)
      have HCF := uh (fun W => l38FitsS z x W hxs)
      rcases (HA.out.later HBR.out).slice with ⟨e0, _⟩ | ⟨p1, o1, c1', hv1, hp1, _, vs1, hr1, hR1⟩
      · omega
      rcases (HWN.out.later HBR.out).slice with ⟨e0, _⟩ | ⟨p2, o2, c2', hv2, hp2, hml, vs2, hr2, hR2⟩
      · omega
      have hmx := hml.1
      unfold maxLen at hmx
      clear hml
      injection hv1 with g1 _ g3
      injection hv2 with k1 _ k3
      subst g1; subst g3; subst k1; subst k3
      obtain ⟨ve1, hE1, hg1⟩ := hR1.el hlt hr1
      obtain ⟨ve2, hE2, hg2⟩ := hR2.el hlt hr2
      have hel1 : el 1 k (ag.map Dt.i) = [.i z] := by rw [hz]; exact el_map1 0 Dt.i ag k (by have := HLN.out.1; omega)
      have hel2 : el 1 k (txD ws) = [.s x] := by rw [hx]; exact el_map1 ⟨#[]⟩ Dt.s ws k (by have := HLN.out.2; omega)
      have hE1' : Raw wr [.i] [.i z] ve1 := by rw [← hel1]; exact hE1
      have hE2' : Raw wr [.s] [.s x] ve2 := by rw [← hel2]; exact hE2
      obtain rfl := rawN1 hE1'
      obtain rfl := rawT1 hE2'
      have y1 : wr.cell? ⟨p1, o1 + k, none⟩ = some (.int .i64 z) := by have := rA_get hg1 0 _ rfl; simpa using this
      have y2 : wr.cell? ⟨p2, o2 + k, none⟩ = some (.string x) := by have := rA_get hg2 0 _ rfl; simpa using this
      have HK : Hid (wr.cell? ⟨p1, o1 + k, none⟩ = some (.int .i64 z) ∧ wr.cell? ⟨p2, o2 + k, none⟩ = some (.string x) ∧ p1 < wr.heap.size ∧ p2 < wr.heap.size) := ⟨y1, y2, hp1, hp2⟩
      rw [← hz, ← hx] at HS
      obtain ⟨b, hbb⟩ : ∃ b, b = Pl.fitsT z x := ⟨_, rfl⟩
      rw [← hbb] at HS
      have HC : Hid (∀ W, Calls Try.prog 71 #[.int .i64 z, .string x] W fun e w' => e = .returned (.bool b) ∧ Below W.heap.size W w') := by rw [hbb]; exact HCF.out
      have hk0 : (0 : Int) ≤ (k : Int) := by omega
      have hkn : (k : Int) < (n : Int) := by omega
      clear hR1 hR2 hr1 hr2 hE1 hE2 hE1' hE2' hel1 hel2 hg1 hg2 hz hx hbb HCF y1 y2 hp1 hp2 hxs
      go_upto_region 10 with fail
      refine RY.region_past wr (Below.refl _ _) (VFi (.slice (some ⟨p1, o1, none⟩) n c1) (.slice (some ⟨p2, o2, none⟩) n wc2) p1 o1 p2 o2 k z x b) (VFi_mono _ _ _ _ _ _ _ _ _ _) (by kernel_rfl) (by kernel_rfl) (by kernel_rfl) (by kernel_rfl) ?_ ?_
      · intro i o' ho a X hX hk hd
        have ya : X.cell? ⟨p1, o1 + k, none⟩ = some (.int .i64 z) := (hX.cell (p := ⟨p1, o1 + k, none⟩) HK.out.2.2.1).trans HK.out.1
        have yb : X.cell? ⟨p2, o2 + k, none⟩ = some (.string x) := (hX.cell (p := ⟨p2, o2 + k, none⟩) HK.out.2.2.2).trans HK.out.2.1
        match i, ho with
        | 0, ho =>
          injection ho with ho; subst ho
          have e8 : a.tmps[8]?.getD undef = .slice (some ⟨p1, o1, none⟩) n c1 := (RY.ev_tmp a 8).trans ((hk 8 (by kernel_rfl)).trans rfl)
          exact Or.inl ⟨.slice (some ⟨p1, o1, none⟩) n c1, X, by simp [execOp, go_sem, e8], Below.refl _ _, rfl⟩
        | 1, ho =>
          injection ho with ho; subst ho
          have e9 : a.tmps[9]?.getD undef = .int .i64 (k : Int) := (RY.ev_tmp a 9).trans ((hk 9 (by kernel_rfl)).trans rfl)
          exact Or.inl ⟨.int .i64 (k : Int), X, by simp [execOp, go_sem, e9], Below.refl _ _, rfl⟩
        | 2, ho =>
          injection ho with ho; subst ho
          have e32 : a.tmps[32]?.getD undef = _ := (RY.ev_tmp a 32).trans (hd 0 _ 32 rfl rfl ⟨⟨0, .data⟩, by simp, rfl, rfl⟩)
          have e33 : a.tmps[33]?.getD undef = _ := (RY.ev_tmp a 33).trans (hd 1 _ 33 rfl rfl ⟨⟨1, .data⟩, by simp, rfl, rfl⟩)
          exact Or.inl ⟨.pointer (some ⟨p1, o1 + k, none⟩), X, by simp [execOp, go_sem, e32, e33, hk0, hkn], Below.refl _ _, rfl⟩
        | 3, ho =>
          injection ho with ho; subst ho
          have e34 : a.tmps[34]?.getD undef = _ := (RY.ev_tmp a 34).trans (hd 2 _ 34 rfl rfl ⟨⟨2, .data⟩, by simp, rfl, rfl⟩)
          exact Or.inl ⟨.int .i64 z, X, by simp [execOp, go_sem, e34, ya], Below.refl _ _, rfl⟩
        | 4, ho =>
          injection ho with ho; subst ho
          have e2 : a.tmps[2]?.getD undef = .slice (some ⟨p2, o2, none⟩) n wc2 := (RY.ev_tmp a 2).trans ((hk 2 (by kernel_rfl)).trans rfl)
          exact Or.inl ⟨.slice (some ⟨p2, o2, none⟩) n wc2, X, by simp [execOp, go_sem, e2], Below.refl _ _, rfl⟩
        | 5, ho =>
          injection ho with ho; subst ho
          have e9 : a.tmps[9]?.getD undef = .int .i64 (k : Int) := (RY.ev_tmp a 9).trans ((hk 9 (by kernel_rfl)).trans rfl)
          exact Or.inl ⟨.int .i64 (k : Int), X, by simp [execOp, go_sem, e9], Below.refl _ _, rfl⟩
        | 6, ho =>
          injection ho with ho; subst ho
          have e36 : a.tmps[36]?.getD undef = _ := (RY.ev_tmp a 36).trans (hd 4 _ 36 rfl rfl ⟨⟨4, .data⟩, by simp, rfl, rfl⟩)
          have e37 : a.tmps[37]?.getD undef = _ := (RY.ev_tmp a 37).trans (hd 5 _ 37 rfl rfl ⟨⟨5, .data⟩, by simp, rfl, rfl⟩)
          exact Or.inl ⟨.pointer (some ⟨p2, o2 + k, none⟩), X, by simp [execOp, go_sem, e36, e37, hk0, hkn], Below.refl _ _, rfl⟩
        | 7, ho =>
          injection ho with ho; subst ho
          have e38 : a.tmps[38]?.getD undef = _ := (RY.ev_tmp a 38).trans (hd 6 _ 38 rfl rfl ⟨⟨6, .data⟩, by simp, rfl, rfl⟩)
          exact Or.inl ⟨.string x, X, by simp [execOp, go_sem, e38, yb], Below.refl _ _, rfl⟩
        | 8, ho =>
          injection ho with ho; subst ho
          have e35 : a.tmps[35]?.getD undef = _ := (RY.ev_tmp a 35).trans (hd 3 _ 35 rfl rfl ⟨⟨3, .data⟩, by simp, rfl, rfl⟩)
          have e39 : a.tmps[39]?.getD undef = _ := (RY.ev_tmp a 39).trans (hd 7 _ 39 rfl rfl ⟨⟨7, .data⟩, by simp, rfl, rfl⟩)
          refine Or.inr ⟨71, #[.int .i64 z, .string x], by simp [go_sem, e35, e39], (HC.out X).mono ?_⟩
          rintro e W' ⟨rfl, hb⟩
          exact ⟨_, rfl, hb, rfl⟩
        | 9, ho =>
          injection ho with ho; subst ho
          have e40 : a.tmps[40]?.getD undef = _ := (RY.ev_tmp a 40).trans (hd 8 _ 40 rfl rfl ⟨⟨8, .data⟩, by simp, rfl, rfl⟩)
          exact Or.inl ⟨.bool (!b), X, by simp [execOp, go_sem, e40], Below.refl _ _, rfl⟩
        | n + 10, ho => simp at ho
      intro X vs hX hvs
      have q41 : vs 41 = _ := hvs 9 _ 41 rfl rfl
      simp only [RY.putAll, Act.put, List.setIfInBounds_toArray, List.set_cons_zero, List.set_cons_succ]
      rw [q41]
      generalize vs 32 = s32
      generalize vs 33 = s33
      generalize vs 34 = s34
      generalize vs 35 = s35
      generalize vs 36 = s36
      generalize vs 37 = s37
      generalize vs 38 = s38
      generalize vs 39 = s39
      generalize vs 40 = s40
      clear hvs q41
      replace HBR := uh (blw_trans HBR.out hX)
      clear hX HK
      cases b
      · have HE : Hid (Pl.sheetFits kind key ws = false) := by show _ = _; rw [HX.out, HI.out, HS.out]; rfl
        go_wp2
        go_ret
        exact ⟨Pl.ret_bool HE.out.symm, blw_trans HB.out HBR.out⟩
      · have HN : Hid (Pl.fitsA ag ws = Pl.fitsA (ag.drop (k + 1)) (ws.drop (k + 1))) := by show _ = _; rw [HI.out, HS.out]; rfl
        go_wp2
        go_roundw
        case rel => exact ⟨k + 1, by omega, by go_num, HBR.out, HN.out⟩
        case measure => simp [intOf]; omega

end Go.Proofs.Ytojcopamegmeeaa
