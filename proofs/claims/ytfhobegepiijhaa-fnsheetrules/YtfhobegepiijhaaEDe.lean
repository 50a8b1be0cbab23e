/-
  Walks: numbers in decimals: the specification.
-/
import Derived.Laws.IdiomStrings
import Derived.Lib.ItoaLen
import Derived.Deep.DeepCutAuto
import Derived.Test.YtfhobegepiijhaaEWb
import Derived.Test.YtfhobegepiijhaaEPn
namespace Go.Proofs.Ytfhobegepiijhaa
open Go.RowKit Go.Deep

theorem Try.underlying22' : Try.prog.underlying 22 = some (.slice 5) := by kernel_rfl

theorem one_digit (W : World) (B : Nat) (d : Nat) (hd : d < 10) (z : Int) (hz : z = 48 + (d : Int)) (hc : W.cell? ⟨B, 0, none⟩ = some (.int .u8 z)) :
    (convert 22 9 (.slice (some ⟨B, 0, none⟩) 1 1)).run Try.prog W = .ok (.string ⟨[UInt8.ofNat (48 + d)].toArray⟩) W := by
  have e : (UInt8.ofNat (48 + d)).toNat = 48 + d := by rw [UInt8.toNat_ofNat']; omega
  refine run_convert_bytes_back (P := Try.prog) W 22 9 5 ⟨B, 0, none⟩ 1 [UInt8.ofNat (48 + d)] Try.underlying22' Try.underlying5 Try.underlying9 fun j hj => ?_
  obtain rfl : j = 0 := by simpa using hj
  rw [show (Addr.add ⟨B, 0, none⟩ 0) = ⟨B, 0, none⟩ from rfl, hc, hz]
  simp only [List.getElem_cons_zero, e]
  rfl

theorem wrap_small (z : Int) (h0 : -9223372036854775808 ≤ z) (h1 : z ≤ 9223372036854775807) : IntKind.i64.wrap z = z := IntWalk.i64_in z ⟨h0, h1⟩
theorem dec_len (q : Nat) (h : q ≤ 1000000000) : (Lib.decDigits q).length ≤ 21 := by
  have := Lib.itoa_length_le (q : Int) (by omega) (by omega)
  rw [Lib.itoa_nonneg] at this
  exact this
theorem cat_list (a b : List UInt8) : (⟨(a ++ b).toArray⟩ : ByteArray) = ⟨a.toArray⟩ ++ ⟨b.toArray⟩ := by
  apply ByteArray.ext
  simp [ByteArray.data_append]

theorem ret_strl {a b : List UInt8} (h : a = b) : Ending.returned (.string ⟨a.toArray⟩) = .returned (.string ⟨b.toArray⟩) := by rw [h]

set_option maxRecDepth 8000 in
set_option maxHeartbeats 2000000 in
theorem l38Dec_small (n : Nat) (w : World) (h : n < 10) :
    Calls Try.prog 35 #[.int .i64 (n : Nat)] w fun e w' => e = .returned (.string ⟨(Lib.decDigits n).toArray⟩) ∧ Below w.heap.size w w' := by
  have HE : Hid (Lib.decDigits n = [UInt8.ofNat (48 + n)]) := Lib.decDigits_one h
  have hcv := one_digit (w.alloc (.cells #[.int .u8 (48 + (n : Int))] 5)) w.heap.size n h _ rfl (by simp)
  go_enter Try.func35, Try.ntmps35
  go_wp2
  go_ret
  exact ⟨ret_strl (by rw [HE.out]; simp), blw_alloc (Below.refl _ _) _⟩

set_option maxRecDepth 8000 in
set_option maxHeartbeats 4000000 in
theorem l38Dec_big (n : Nat) (w : World) (h : ¬ n < 10) (hb : n ≤ 1000000000) (ih : ∀ W : World, Calls Try.prog 35 #[.int .i64 ((n / 10 : Nat) : Int)] W fun e w' => e = .returned (.string ⟨(Lib.decDigits (n / 10)).toArray⟩) ∧ Below W.heap.size W w') :
    Calls Try.prog 35 #[.int .i64 (n : Nat)] w fun e w' => e = .returned (.string ⟨(Lib.decDigits n).toArray⟩) ∧ Below w.heap.size w w' := by
  have HE : Hid (Lib.decDigits n = Lib.decDigits (n / 10) ++ [UInt8.ofNat (48 + n % 10)]) := by show _ = _; rw [Lib.decDigits, dif_neg h]
  have HI : Hid (∀ W : World, Calls Try.prog 35 #[.int .i64 ((n / 10 : Nat) : Int)] W fun e w' => e = .returned (.string ⟨(Lib.decDigits (n / 10)).toArray⟩) ∧ Below W.heap.size W w') := ih
  have HCV : Hid (∀ (W : World) (B : Nat) (z : Int), z = 48 + ((n % 10 : Nat) : Int) → W.cell? ⟨B, 0, none⟩ = some (.int .u8 z) → (convert 22 9 (.slice (some ⟨B, 0, none⟩) 1 1)).run Try.prog W = .ok (.string ⟨[UInt8.ofNat (48 + n % 10)].toArray⟩) W) := fun W B z hz hc => one_digit W B (n % 10) (Nat.mod_lt _ (by decide)) z hz hc
  obtain ⟨q, hq⟩ : ∃ q, q = n / 10 := ⟨_, rfl⟩
  obtain ⟨m, hm⟩ : ∃ m, m = n % 10 := ⟨_, rfl⟩
  rw [← hq] at HI HE
  rw [← hm] at HCV HE
  have hm10 : m < 10 := by omega
  have hqb : q ≤ 1000000000 := by omega
  have e1 : IntKind.i64.wrap ((n : Int) / 10) = (q : Int) := by rw [wrap_small _ (by omega) (by omega)]; omega
  have e2 : (n : Int).tmod 10 = (m : Int) := by rw [Int.tmod_eq_emod_of_nonneg (by omega)]; omega
  have e3 : IntKind.i64.wrap (48 + (m : Int)) = 48 + m := wrap_small _ (by omega) (by omega)
  have e4 : IntKind.u8.wrap (48 + (m : Int)) = 48 + m := wrap_byte _ (by omega) (by omega)
  clear ih hq hm
  go_enter Try.func35, Try.ntmps35
  go_wp2_with fail
  have hlen : ¬ (9223372036854775807 < (Lib.decDigits q).length + 1) := by have := dec_len q hqb; omega
  have HCW : Hid (∀ W w6 : World, Below W.heap.size W w6 → (W.cell? ⟨w.heap.size, 0, none⟩ = some (.int .u8 (48 + (m : Int))) ∧ w.heap.size < W.heap.size) → (convert 22 9 (.slice (some ⟨w.heap.size, 0, none⟩) 1 1)).run Try.prog w6 = .ok (.string ⟨[UInt8.ofNat (48 + m)].toArray⟩) w6) :=
    fun W w6 hb hc => one_digit w6 w.heap.size m hm10 _ rfl ((hb.cell (p := ⟨w.heap.size, 0, none⟩) hc.2).trans hc.1)
  have hcA := one_digit ((w.alloc (.cells #[.int .u8 (48 + (m : Int))] 5)).drew) w.heap.size m hm10 _ rfl (by simp)
  go_region_with (first | (go_at_call 35; refine (HI.out _).mono ?_; rintro e w6 ⟨rfl, hb6⟩; have hc6 := one_digit (w6.alloc (.cells #[.int .u8 (48 + (m : Int))] 5)) w6.heap.size m hm10 _ rfl (by simp); have hc7 := HCW.out _ _ hb6; try (simp at hc7)))
  all_goals
    go_wp2
    go_ret
    refine ⟨?_, ?_⟩
    · show Ending.returned (.string (⟨(Lib.decDigits q).toArray⟩ ++ ⟨#[48 + UInt8.ofNat m]⟩)) = _
      rw [HE.out, cat_list]; simp
    · repeat (first | exact Below.refl _ _ | exact blw_trans (by repeat (first | exact Below.refl _ _ | refine Below.drew ?_ | refine blw_alloc ?_ _)) hb6 | refine Below.drew ?_ | refine blw_alloc ?_ _)

theorem l38Dec (n : Nat) (hb : n ≤ 1000000000) (w : World) :
    Calls Try.prog 35 #[.int .i64 (n : Nat)] w fun e w' => e = .returned (.string ⟨(Lib.decDigits n).toArray⟩) ∧ Below w.heap.size w w' := by
  induction n using Nat.strongRecOn generalizing w with
  | _ n ih =>
    by_cases h : n < 10
    · exact l38Dec_small n w h
    · exact l38Dec_big n w h hb fun W => ih (n / 10) (by omega) (by omega) W

end Go.Proofs.Ytfhobegepiijhaa
