/-
  Sheets: the words of a line: the program.
-/
import Derived.Lib.Bytealg
import Derived.Test.YtdllbcafbfkngaaGreatDoorEBy
import Derived.Test.YtdllbcafbfkngaaGreatDoorEPw
import Derived.Test.YtdllbcafbfkngaaGreatDoorEWe
namespace Go.Proofs.YtdllbcafbfkngaaGreatDoor.Pl

def sp (c : UInt8) : Bool := decide (c.toNat = 32)
/-- What is left from where the next word is to begin. -/
def nextT (l : List UInt8) : List UInt8 := match l.dropWhile sp with
  | [] => []
  | c :: r => if c.toNat = 35 then [] else c :: r
theorem dw_head : ∀ (l : List UInt8) (c : UInt8) (r : List UInt8), l.dropWhile sp = c :: r → c.toNat ≠ 32
  | [], c, r, h => by cases h
  | a :: l, c, r, h => by
    rw [List.dropWhile_cons] at h
    split at h
    · exact dw_head l c r h
    · rename_i hn
      injection h with h1 _
      subst h1
      simpa [sp] using hn
theorem nextT_cons {l : List UInt8} {c : UInt8} {r : List UInt8} (h : nextT l = c :: r) : c.toNat ≠ 32 ∧ c.toNat ≠ 35 := by
  unfold nextT at h
  split at h
  · cases h
  · rename_i c' r' h'
    split at h
    · cases h
    · rename_i hn
      injection h with h1 h2
      subst h1
      exact ⟨dw_head l _ _ h', hn⟩
theorem cut_dw : ∀ (l : List UInt8) (m : Nat), cutL (l.dropWhile sp) m = cutL l m
  | [], _ => rfl
  | a :: l, m => by
    rw [List.dropWhile_cons]
    split
    · rename_i h
      rw [cut_dw l m, cutL, if_pos (by simpa [sp] using h)]
    · rfl
theorem cut_next (l : List UInt8) (m : Nat) : cutL (nextT l) m = cutL l m := by
  rw [← cut_dw l m]
  unfold nextT
  split
  · rename_i h; rw [h]
  · rename_i c r h
    rw [h]
    split
    · rename_i h35
      rw [cutL, cutL, if_neg (by omega), if_pos h35]
    · rfl
/-- The byte that the beginning of a text in quotes stands for, and how many bytes stand for it. -/
def readB (c : UInt8) (l : List UInt8) : UInt8 × Nat :=
  if selfB c then (c, 1)
  else if c.toNat = 92 ∧ 2 ≤ l.length ∧ 0 ≤ hexV (l.getD 0 0) ∧ 0 ≤ hexV (l.getD 1 0) then (UInt8.ofNat (16 * hexV (l.getD 0 0) + hexV (l.getD 1 0)).toNat, 3)
  else (0, 0)
theorem quo_read (c : UInt8) (l : List UInt8) (h : c.toNat ≠ 34) : quoL (c :: l) = if (readB c l).2 = 0 then none else (quoL ((c :: l).drop (readB c l).2)).map fun p => ((readB c l).1 :: p.1, p.2 + (readB c l).2) := by
  rw [quoL, if_neg h]
  by_cases hs : selfB c = true
  · have hs' : 32 ≤ c.toNat ∧ c.toNat ≤ 126 ∧ c.toNat ≠ 92 := by
      simp only [selfB, Bool.and_eq_true, decide_eq_true_eq, bne_iff_ne] at hs; exact ⟨hs.1.1.1, hs.1.1.2, hs.2⟩
    have e : readB c l = (c, 1) := by unfold readB; rw [if_pos hs]
    rw [e, if_neg hs'.2.2, if_pos ⟨hs'.1, hs'.2.1⟩]
    simp
  · by_cases h92 : c.toNat = 92
    · rw [if_pos h92]
      by_cases hx : 2 ≤ l.length ∧ 0 ≤ hexV (l.getD 0 0) ∧ 0 ≤ hexV (l.getD 1 0)
      · have e : readB c l = (UInt8.ofNat (16 * hexV (l.getD 0 0) + hexV (l.getD 1 0)).toNat, 3) := by unfold readB; rw [if_neg hs, if_pos ⟨h92, hx⟩]
        rw [e, if_pos hx]
        simp
      · have e : readB c l = (0, 0) := by unfold readB; rw [if_neg hs, if_neg (fun e => hx e.2)]
        rw [e, if_neg hx]
        simp
    · have hs' : ¬ (32 ≤ c.toNat ∧ c.toNat ≤ 126) := by
        simp only [selfB, Bool.and_eq_true, decide_eq_true_eq, bne_iff_ne] at hs
        intro e; exact hs ⟨⟨⟨e.1, e.2⟩, h⟩, h92⟩
      have e : readB c l = (0, 0) := by unfold readB; rw [if_neg hs, if_neg (fun e => h92 e.1)]
      rw [e, if_neg h92, if_neg hs']
      simp
theorem hex_index (c : UInt8) : Lib.indexByte [48, 49, 50, 51, 52, 53, 54, 55, 56, 57, 97, 98, 99, 100, 101, 102] c = hexV c := by
  have key : ∀ n : Fin 256, Lib.indexByte [48, 49, 50, 51, 52, 53, 54, 55, 56, 57, 97, 98, 99, 100, 101, 102] (UInt8.ofNat n.1) = hexV (UInt8.ofNat n.1) := by decide +kernel
  have := key ⟨c.toNat, u8lt c⟩
  simpa using this
theorem ba_of {a : ByteArray} {l : List UInt8} (h : a.data.toList = l) : a = ⟨l.toArray⟩ := by rw [← h, back]
theorem ba_pos {a : ByteArray} {c : UInt8} {r : List UInt8} (h : a.data.toList = c :: r) : 1 ≤ a.size := by rw [← len_data, h]; simp
theorem ba_at {a : ByteArray} {c : UInt8} {r : List UInt8} (h : a.data.toList = c :: r) (h0 : 0 < a.size) : a[0] = c := by
  have : a.data.toList.headD 0 = a[0] := head_eq a h0
  rw [← this, h]; rfl

end Go.Proofs.YtdllbcafbfkngaaGreatDoor.Pl

namespace Go.Proofs.YtdllbcafbfkngaaGreatDoor
open Go.RowKit Go.Deep

set_option maxHeartbeats 1000000 in
theorem sheetIsPlainI (c : UInt8) (w : World) :
    Calls Tryz.prog 167 #[.int .u8 c.toNat] w fun e w' => e = .returned (.bool (Pl.selfB c)) ∧ w = w' := by
  go_enter Tryz.func167, Tryz.ntmps167
  go_wp2
  all_goals go_ret
  all_goals exact ⟨Pl.ret_bool (by rw [Bool.eq_iff_iff]; simp [Pl.selfB] at *; omega), rfl⟩

set_option maxHeartbeats 1000000 in
theorem sheetIsBareI (c : UInt8) (w : World) :
    Calls Tryz.prog 169 #[.int .u8 c.toNat] w fun e w' => e = .returned (.bool (Pl.bareB c)) ∧ w = w' := by
  have HE : Hid (Pl.bareB c = (Pl.selfB c && (c.toNat != 32) && (c.toNat != 35))) := by
    show _ = _
    rw [Bool.eq_iff_iff]; simp [Pl.bareB, Pl.selfB]; omega
  obtain ⟨B, hB⟩ : ∃ B, B = Pl.selfB c := ⟨_, rfl⟩
  have HC : Hid (Calls Tryz.prog 167 #[.int .u8 c.toNat] w fun e w' => e = .returned (.bool B) ∧ w = w') := by
    rw [hB]; exact sheetIsPlainI c w
  rw [← hB] at HE
  clear hB
  go_enter Tryz.func169, Tryz.ntmps169
  cases B
  all_goals go_wp2_with (go_at_call 167; refine HC.out.mono ?_; rintro e w' ⟨rfl, rfl⟩)
  all_goals go_ret
  all_goals exact ⟨Pl.ret_bool (by rw [HE.out, Bool.eq_iff_iff]; simp at *; try omega), rfl⟩

set_option maxRecDepth 8000 in
set_option maxHeartbeats 4000000 in
theorem bareScanI (s : ByteArray) (w : World) (hs : s.size ≤ 1048576) :
    Calls Tryz.prog 168 #[.agg #[], .string s] w fun e w' => ∃ p, p ≤ s.size ∧ s.data.toList.takeWhile Pl.bareB = s.data.toList.take p ∧ e = .returned (.tuple #[.string (s.extract 0 p), .string (s.extract p s.size), .bool (decide (0 < p))]) ∧ Below w.heap.size w w' := by
  go_enter Tryz.func168, Tryz.ntmps168
  go_wp2
  go_loop [7] (fun i => ∃ k : Nat, k ≤ s.size ∧ i = .int .i64 k ∧ Hid (∀ j (h : j < s.size), j < k → Pl.bareB s[j] = true)) (fun i => s.size - (intOf i).toNat)
  case atStart => exact ⟨0, Nat.zero_le _, rfl, fun j _ h => by omega⟩
  case round =>
    obtain ⟨k, hk, rfl, HA⟩ := hrel
    by_cases hlt : k < s.size
    · obtain ⟨c, hc⟩ : ∃ c, c = Pl.bareB s[k] := ⟨_, rfl⟩
      have HK := uh hc
      have HC : Hid (∀ w, Calls Tryz.prog 169 #[.int .u8 s[k].toNat] w fun e w' => e = .returned (.bool c) ∧ w = w') := by
        rw [hc]; exact fun w => sheetIsBareI _ w
      clear hc
      cases c
      · go_wp2_with (go_at_call 169; refine (HC.out _).mono ?_; rintro e w' ⟨rfl, rfl⟩)
        have HT : Hid (s.data.toList.takeWhile Pl.bareB = s.data.toList.take k) := Pl.tw_stop _ _ (by rw [Pl.len_data]; exact hk) (fun i hi hij => HA.out i (by rw [Pl.len_data] at hi; exact hi) hij) (fun hh => HK.out.symm)
        clear HA HK HC
        go_region
        all_goals go_wp2
        all_goals go_ret3
        all_goals refine ⟨k, hk, HT.out, rfl, ?_⟩
        all_goals repeat (first | exact Below.refl _ _ | refine blw_alloc ?_ _ | refine Below.drew ?_)
      · go_wp2_with (go_at_call 169; refine (HC.out _).mono ?_; rintro e w' ⟨rfl, rfl⟩)
        go_round
        case rel => exact ⟨k + 1, by omega, by go_num, fun j h hj => by rcases Nat.lt_succ_iff_lt_or_eq.1 hj with q | rfl; exact HA.out j h q; exact HK.out.symm⟩
        case measure => simp [intOf]; omega
    · have HT : Hid (s.data.toList.takeWhile Pl.bareB = s.data.toList.take k) := Pl.tw_stop _ _ (by rw [Pl.len_data]; exact hk) (fun i hi hij => HA.out i (by rw [Pl.len_data] at hi; exact hi) hij) (fun hh => absurd (show k < s.size by rw [Pl.len_data] at hh; exact hh) hlt)
      clear HA
      go_wp2
      go_region
      all_goals go_wp2
      all_goals go_ret3
      all_goals refine ⟨k, hk, HT.out, rfl, ?_⟩
      all_goals repeat (first | exact Below.refl _ _ | refine blw_alloc ?_ _ | refine Below.drew ?_)

end Go.Proofs.YtdllbcafbfkngaaGreatDoor

namespace Go.Proofs.YtdllbcafbfkngaaGreatDoor
open Go.RowKit Go.Deep

set_option maxHeartbeats 4000000 in
theorem trimByteI (s : ByteArray) (w : World) :
    Calls Tryz.prog 116 #[.string s, .int .u8 32] w fun e w' => ∃ x : ByteArray, e = .returned (.string x) ∧ x.data.toList = s.data.toList.dropWhile Pl.sp ∧ x.size ≤ s.size ∧ w = w' := by
  go_enter Tryz.func116, Tryz.ntmps116
  go_wp2
  go_loop [0] (fun v => ∃ x : ByteArray, v = .string x ∧ x.size ≤ s.size ∧ Hid (x.data.toList.dropWhile Pl.sp = s.data.toList.dropWhile Pl.sp)) (fun v => match v with | .string x => x.size | _ => 0)
  case atStart => exact ⟨s, rfl, Nat.le_refl _, rfl⟩
  case round =>
    obtain ⟨x, rfl, hx, HI⟩ := hrel
    by_cases h1 : 1 ≤ x.size
    · have d0 : decide ((0 : Int) < (x.size : Int)) = true := by simp; omega
      have hdr := Pl.drop_at x 0 (by omega)
      rw [List.drop_zero] at hdr
      by_cases h32 : x[0].toNat = 32
      · have d1 : ((x[0].toNat : Int) == 32) = true := by simp; omega
        have HN : Hid ((x.extract 1 x.size).data.toList.dropWhile Pl.sp = s.data.toList.dropWhile Pl.sp) := by
          show _ = _
          rw [← HI.out, Pl.ext_end, hdr, List.dropWhile_cons, if_pos (by simpa [Pl.sp] using h32)]; rfl
        clear hdr h32
        go_wp2
        go_round
        case rel => exact ⟨_, rfl, by simp [ByteArray.size_extract]; omega, HN⟩
        case measure => simp [ByteArray.size_extract]; omega
      · have d1 : ((x[0].toNat : Int) == 32) = false := by simp; omega
        have HN : Hid (x.data.toList = s.data.toList.dropWhile Pl.sp) := by
          show _ = _
          rw [← HI.out, hdr, List.dropWhile_cons, if_neg (by simpa [Pl.sp] using h32)]
        clear hdr h32
        go_wp2
        go_ret
        exact ⟨x, rfl, HN.out, hx, rfl⟩
    · have d0 : decide ((0 : Int) < (x.size : Int)) = false := by rw [decide_eq_false_iff_not]; omega
      have HN : Hid (x.data.toList = s.data.toList.dropWhile Pl.sp) := by
        show _ = _
        have e : x.data.toList = [] := List.eq_nil_of_length_eq_zero (by rw [Pl.len_data]; omega)
        rw [← HI.out, e]; rfl
      go_wp2
      go_ret
      exact ⟨x, rfl, HN.out, hx, rfl⟩

set_option maxRecDepth 8000 in
set_option maxHeartbeats 4000000 in
theorem trimLeftI (s : ByteArray) (w : World) :
    Calls Tryz.prog 102 #[.string s, .string { data := #[32] }] w fun e w' => ∃ x : ByteArray, e = .returned (.string x) ∧ x.data.toList = s.data.toList.dropWhile Pl.sp ∧ x.size ≤ s.size ∧ w = w' := by
  by_cases h1 : 1 ≤ s.size
  · have h0 := Pl.empty_no s h1
    have HC := uh (trimByteI s w)
    go_enter Tryz.func102, Tryz.ntmps102
    go_wp2_with (go_at_call 116; refine HC.out.mono ?_; rintro e w' ⟨x, rfl, hx, hz, rfl⟩)
    go_ret
    exact ⟨x, rfl, hx, hz, rfl⟩
  · have h0 := Pl.empty_yes s h1
    go_enter Tryz.func102, Tryz.ntmps102
    go_wp2
    go_ret
    refine ⟨s, rfl, ?_, Nat.le_refl _, rfl⟩
    have e : s.data.toList = [] := List.eq_nil_of_length_eq_zero (by rw [Pl.len_data]; omega)
    rw [e]; rfl

set_option maxHeartbeats 4000000 in
theorem nextWordI (s : ByteArray) (w : World) :
    Calls Tryz.prog 82 #[.string s] w fun e w' => ∃ x : ByteArray, e = .returned (.string x) ∧ x.data.toList = Pl.nextT s.data.toList ∧ x.size ≤ s.size ∧ w = w' := by
  have HC := uh (trimLeftI s w)
  go_enter Tryz.func82, Tryz.ntmps82
  go_wp2_with fail
  refine HC.out.mono ?_
  rintro e w' ⟨x, rfl, hx, hz, rfl⟩
  have HX := uh hx
  clear hx HC
  by_cases h1 : 1 ≤ x.size
  · have h0 := Pl.empty_no x h1
    have hdr := Pl.drop_at x 0 (by omega)
    rw [List.drop_zero] at hdr
    by_cases h35 : x[0].toNat = 35
    · have d1 : ((x[0].toNat : Int) == 35) = true := by simp; omega
      have HN : Hid (([] : List UInt8) = Pl.nextT s.data.toList) := by
        show _ = _
        unfold Pl.nextT
        rw [← HX.out, hdr]
        simp [h35]
      clear hdr h35
      go_wp2
      go_ret
      exact ⟨_, rfl, HN.out, by show 0 ≤ _; omega, rfl⟩
    · have d1 : ((x[0].toNat : Int) == 35) = false := by simp; omega
      have HN : Hid (x.data.toList = Pl.nextT s.data.toList) := by
        show _ = _
        unfold Pl.nextT
        rw [← HX.out, hdr]
        simp [h35]
      clear hdr h35
      go_wp2
      go_ret
      exact ⟨_, rfl, HN.out, hz, rfl⟩
  · have h0 := Pl.empty_yes x h1
    have HN : Hid (x.data.toList = Pl.nextT s.data.toList) := by
      show _ = _
      have e : x.data.toList = [] := List.eq_nil_of_length_eq_zero (by rw [Pl.len_data]; omega)
      unfold Pl.nextT
      rw [← HX.out, e]
    go_wp2
    go_ret
    exact ⟨_, rfl, HN.out, hz, rfl⟩

set_option maxHeartbeats 4000000 in
theorem partedI (s : ByteArray) (w : World) :
    Calls Tryz.prog 84 #[.string s] w fun e w' => e = .returned (.bool (Pl.behind s.data.toList)) ∧ w = w' := by
  by_cases h1 : 1 ≤ s.size
  · have h0 := Pl.empty_no s h1
    have hdr := Pl.drop_at s 0 (by omega)
    rw [List.drop_zero] at hdr
    have HB : Hid (Pl.behind s.data.toList = (((s[0].toNat : Int) == 32) || ((s[0].toNat : Int) == 35))) := by
      show _ = _
      rw [hdr]
      show (decide (s[0].toNat = 32) || decide (s[0].toNat = 35)) = _
      rw [Bool.eq_iff_iff]; simp; omega
    clear hdr
    cases h32 : ((s[0].toNat : Int) == 32)
    all_goals
      rw [h32] at HB
      go_enter Tryz.func84, Tryz.ntmps84
      go_wp2
      go_ret
      exact ⟨Pl.ret_bool (by rw [HB.out]; simp), rfl⟩
  · have h0 := Pl.empty_yes s h1
    have e : s.data.toList = [] := List.eq_nil_of_length_eq_zero (by rw [Pl.len_data]; omega)
    go_enter Tryz.func84, Tryz.ntmps84
    go_wp2
    go_ret
    exact ⟨Pl.ret_bool (by rw [e]; rfl), rfl⟩

set_option maxHeartbeats 4000000 in
theorem scannerOfI (s : ByteArray) (w : World) (h1 : 1 ≤ s.size) :
    Calls Tryz.prog 83 #[.string s] w fun e w' => e = .returned (if s[0].toNat = 34 then .iface 160 (.agg #[]) else .iface 161 (.agg #[])) ∧ w = w' := by
  by_cases h34 : s[0].toNat = 34
  · have d1 : ((s[0].toNat : Int) == 34) = true := by simp; omega
    rw [if_pos h34]
    clear h34
    go_enter Tryz.func83, Tryz.ntmps83
    go_wp2
    go_ret
    exact ⟨rfl, rfl⟩
  · have d1 : ((s[0].toNat : Int) == 34) = false := by simp; omega
    rw [if_neg h34]
    clear h34
    go_enter Tryz.func83, Tryz.ntmps83
    go_wp2
    go_ret
    exact ⟨rfl, rfl⟩

end Go.Proofs.YtdllbcafbfkngaaGreatDoor

namespace Go.Proofs.YtdllbcafbfkngaaGreatDoor
open Go.RowKit Go.Deep

set_option maxRecDepth 100000 in
set_option maxHeartbeats 4000000 in
theorem indexByteL (s : ByteArray) (c : UInt8) (w : World) :
    Calls Tryz.prog 112 #[.string s, .int .u8 c.toNat] w fun e w' => e = .returned (.int .i64 (Lib.indexByte s.data.toList c)) ∧ w = w' := by
  have hc : ((c.toNat : Int)).toNat.toUInt8 = c := by simp
  have HE := uh hc
  clear hc
  go_enter Tryz.func112, Tryz.ntmps112
  go_wp2
  rw [run_callFunc_extern Tryz.func124 (by kernel_rfl) (by kernel_rfl) (by kernel_rfl) (e := Extern.BytealgIndexByte.indexByte) (by kernel_rfl), Lib.run_indexByteString]
  simp only [Result.andThen]
  rw [Oper.upon_value]
  rw [HE.out]
  go_wp2
  go_ret
  exact ⟨rfl, rfl⟩
set_option maxHeartbeats 4000000 in
theorem hexIxI (c : UInt8) (w : World) :
    Calls Tryz.prog 131 #[.string { data := #[48, 49, 50, 51, 52, 53, 54, 55, 56, 57, 97, 98, 99, 100, 101, 102] }, .int .u8 c.toNat] w fun e w' => e = .returned (.int .i64 (Pl.hexV c)) ∧ w = w' := by
  have HC := uh (indexByteL { data := #[48, 49, 50, 51, 52, 53, 54, 55, 56, 57, 97, 98, 99, 100, 101, 102] } c w)
  have HE : Hid (Lib.indexByte ({ data := #[48, 49, 50, 51, 52, 53, 54, 55, 56, 57, 97, 98, 99, 100, 101, 102] } : ByteArray).data.toList c = Pl.hexV c) := Pl.hex_index c
  rw [HE.out] at HC
  go_enter Tryz.func131, Tryz.ntmps131
  go_wp2_with (go_at_call 112; refine HC.out.mono ?_; rintro e w' ⟨rfl, rfl⟩)
  go_ret
  exact ⟨rfl, rfl⟩

theorem or16 : ∀ a b : Fin 16, bits BinOp.or IntKind.i64 ((a.1 : Int) * 16) (b.1 : Int) % 256 = 16 * (a.1 : Int) + (b.1 : Int) := by decide +kernel
def VIq (s : ByteArray) (b1 b2 : UInt8) (x1 x2 : Int) : Nat → Value → World → Prop
  | 0, u, _ => u = .string s
  | 1, u, _ => u = .int .u8 (b1.toNat : Int)
  | 2, u, _ => u = .int .i64 x1
  | 3, u, _ => u = .string s
  | 4, u, _ => u = .int .u8 (b2.toNat : Int)
  | 5, u, _ => u = .int .i64 x2
  | 6, u, _ => u = .int .i64 x1
  | 7, u, _ => u = .int .i64 x2
  | _, _, _ => True
theorem VIq_mono (s : ByteArray) (b1 b2 : UInt8) (x1 x2 : Int) : ∀ j u W W', Below W.heap.size W W' → VIq s b1 b2 x1 x2 j u W → VIq s b1 b2 x1 x2 j u W' := by
  intro j u W W' hb h
  match j with
  | 0 => exact h
  | 1 => exact h
  | 2 => exact h
  | 3 => exact h
  | 4 => exact h
  | 5 => exact h
  | 6 => exact h
  | 7 => exact h
  | n + 8 => exact trivial
set_option maxRecDepth 8000 in
set_option maxHeartbeats 4000000 in
theorem readByteI (s : ByteArray) (c : UInt8) (l : List UInt8) (w : World) (hc : s.data.toList = c :: l) (hs : s.size ≤ 1048576) :
    Calls Tryz.prog 166 #[.string s] w fun e w' => e = .returned (.tuple #[.int .u8 (Pl.readB c l).1.toNat, .int .i64 ((Pl.readB c l).2 : Int)]) ∧ Below w.heap.size w w' := by
  have h1 := Pl.ba_pos hc
  have hat := Pl.ba_at hc (by omega)
  have hlen : l.length + 1 = s.size := by rw [← Pl.len_data, hc, List.length_cons]
  have HP := uh (fun w => sheetIsPlainI c w)
  have HC := uh hc
  clear hc
  cases hsf : Pl.selfB c
  rotate_left
  · have HR : Hid (Pl.readB c l = (c, 1)) := by show _ = _; unfold Pl.readB; rw [if_pos hsf]
    rw [hsf] at HP
    clear hsf
    go_enter Tryz.func166, Tryz.ntmps166
    go_wp2_with (go_at_call 167; refine (HP.out _).mono ?_; rintro e w' ⟨rfl, rfl⟩)
    go_ret2
    rw [HR.out]
    exact ⟨rfl, Below.refl _ _⟩
  have HSF := uh hsf
  rw [hsf] at HP
  clear hsf
  by_cases h92 : c.toNat = 92
  rotate_left
  · have HR : Hid (Pl.readB c l = (0, 0)) := by show _ = _; unfold Pl.readB; rw [if_neg (by rw [HSF.out]; decide), if_neg (fun e => h92 e.1)]
    have d1 : ((c.toNat : Int) != 92) = true := by simp; omega
    clear h92
    go_enter Tryz.func166, Tryz.ntmps166
    go_wp2_with (go_at_call 167; refine (HP.out _).mono ?_; rintro e w' ⟨rfl, rfl⟩)
    go_ret2
    rw [HR.out]
    exact ⟨rfl, Below.refl _ _⟩
  have d1 : ((c.toNat : Int) != 92) = false := by simp; omega
  by_cases h3 : 3 ≤ s.size
  rotate_left
  · have HR : Hid (Pl.readB c l = (0, 0)) := by show _ = _; unfold Pl.readB; rw [if_neg (by rw [HSF.out]; decide), if_neg (fun e => by have := e.2.1; omega)]
    have d3 : decide ((s.size : Int) < 3) = true := by simp; omega
    clear h92
    go_enter Tryz.func166, Tryz.ntmps166
    go_wp2_with (go_at_call 167; refine (HP.out _).mono ?_; rintro e w' ⟨rfl, rfl⟩)
    go_ret2
    rw [HR.out]
    exact ⟨rfl, Below.refl _ _⟩
  have d3 : decide ((s.size : Int) < 3) = false := by simp; omega
  have e1 : s[1] = l.getD 0 0 := by
    have := Pl.dropD s 0 1 (by omega)
    rw [List.drop_zero, HC.out] at this
    simpa using this.symm
  have e2 : s[2] = l.getD 1 0 := by
    have := Pl.dropD s 0 2 (by omega)
    rw [List.drop_zero, HC.out] at this
    simpa using this.symm
  have HR : Hid (Pl.readB c l = if 0 ≤ Pl.hexV (l.getD 0 0) ∧ 0 ≤ Pl.hexV (l.getD 1 0) then (UInt8.ofNat (16 * Pl.hexV (l.getD 0 0) + Pl.hexV (l.getD 1 0)).toNat, 3) else (0, 0)) := by
    show _ = _
    unfold Pl.readB
    rw [if_neg (by rw [HSF.out]; decide)]
    by_cases hx : 0 ≤ Pl.hexV (l.getD 0 0) ∧ 0 ≤ Pl.hexV (l.getD 1 0)
    · rw [if_pos hx, if_pos ⟨h92, by omega, hx⟩]
    · rw [if_neg hx, if_neg (fun e => hx e.2.2)]
  obtain ⟨b1, hb1⟩ : ∃ b, b = l.getD 0 0 := ⟨_, rfl⟩
  obtain ⟨b2, hb2⟩ : ∃ b, b = l.getD 1 0 := ⟨_, rfl⟩
  rw [← hb1] at e1 HR
  rw [← hb2] at e2 HR
  have HC1 := uh (fun w => hexIxI b1 w)
  have HC2 := uh (fun w => hexIxI b2 w)
  have g1 := Pl.hexV_bd b1
  have g2 := Pl.hexV_bd b2
  obtain ⟨x1, hx1⟩ : ∃ x, x = Pl.hexV b1 := ⟨_, rfl⟩
  obtain ⟨x2, hx2⟩ : ∃ x, x = Pl.hexV b2 := ⟨_, rfl⟩
  rw [← hx1] at HC1 HR g1
  rw [← hx2] at HC2 HR g2
  clear hb1 hb2 hx1 hx2 h92 HC HSF
  have HI1 : Hid (∀ w, (Instr.index 9 (.string s) (.int .i64 1)).run Tryz.prog w = .ok (.int .u8 b1.toNat) w) := fun w => by
    rw [run_index_string w 9 _ .i64 1 (by kernel_rfl), dif_pos ⟨by omega, by omega⟩, ← e1]; rfl
  have HI2 : Hid (∀ w, (Instr.index 9 (.string s) (.int .i64 2)).run Tryz.prog w = .ok (.int .u8 b2.toNat) w) := fun w => by
    rw [run_index_string w 9 _ .i64 2 (by kernel_rfl), dif_pos ⟨by omega, by omega⟩, ← e2]; rfl
  clear e1 e2
  go_enter Tryz.func166, Tryz.ntmps166
  go_upto_region 5 with (go_at_call 167; refine (HP.out _).mono ?_; rintro e w' ⟨rfl, rfl⟩)
  refine RY.region_past w (Below.refl _ _) (VIq s b1 b2 x1 x2) (VIq_mono _ _ _ _ _) (by kernel_rfl) (by kernel_rfl) (by kernel_rfl) (by kernel_rfl) ?_ ?_
  · intro i o' ho a X hX hk hd
    match i, ho with
    | 0, ho =>
      injection ho with ho; subst ho
      have e0 : a.tmps[0]?.getD undef = .string s := (RY.ev_tmp a 0).trans ((hk 0 (by kernel_rfl)).trans rfl)
      exact Or.inl ⟨.string s, X, by simp [execOp, go_sem, e0], Below.refl _ _, rfl⟩
    | 1, ho =>
      injection ho with ho; subst ho
      have e19 : a.tmps[19]?.getD undef = _ := (RY.ev_tmp a 19).trans (hd 0 _ 19 rfl rfl ⟨⟨0, .data⟩, by simp, rfl, rfl⟩)
      exact Or.inl ⟨.int .u8 (b1.toNat : Int), X, by simp [execOp, go_sem, e19, HI1.out X], Below.refl _ _, rfl⟩
    | 2, ho =>
      injection ho with ho; subst ho
      have e20 : a.tmps[20]?.getD undef = _ := (RY.ev_tmp a 20).trans (hd 1 _ 20 rfl rfl ⟨⟨1, .data⟩, by simp, rfl, rfl⟩)
      refine Or.inr ⟨131, #[.string { data := #[48, 49, 50, 51, 52, 53, 54, 55, 56, 57, 97, 98, 99, 100, 101, 102] }, .int .u8 b1.toNat], by simp [go_sem, e20], (HC1.out X).mono ?_⟩
      rintro e W' ⟨rfl, rfl⟩
      exact ⟨_, rfl, Below.refl _ _, rfl⟩
    | 3, ho =>
      injection ho with ho; subst ho
      have e0 : a.tmps[0]?.getD undef = .string s := (RY.ev_tmp a 0).trans ((hk 0 (by kernel_rfl)).trans rfl)
      exact Or.inl ⟨.string s, X, by simp [execOp, go_sem, e0], Below.refl _ _, rfl⟩
    | 4, ho =>
      injection ho with ho; subst ho
      have e22 : a.tmps[22]?.getD undef = _ := (RY.ev_tmp a 22).trans (hd 3 _ 22 rfl rfl ⟨⟨3, .data⟩, by simp, rfl, rfl⟩)
      exact Or.inl ⟨.int .u8 (b2.toNat : Int), X, by simp [execOp, go_sem, e22, HI2.out X], Below.refl _ _, rfl⟩
    | 5, ho =>
      injection ho with ho; subst ho
      have e23 : a.tmps[23]?.getD undef = _ := (RY.ev_tmp a 23).trans (hd 4 _ 23 rfl rfl ⟨⟨4, .data⟩, by simp, rfl, rfl⟩)
      refine Or.inr ⟨131, #[.string { data := #[48, 49, 50, 51, 52, 53, 54, 55, 56, 57, 97, 98, 99, 100, 101, 102] }, .int .u8 b2.toNat], by simp [go_sem, e23], (HC2.out X).mono ?_⟩
      rintro e W' ⟨rfl, rfl⟩
      exact ⟨_, rfl, Below.refl _ _, rfl⟩
    | 6, ho =>
      injection ho with ho; subst ho
      have e21 : a.tmps[21]?.getD undef = _ := (RY.ev_tmp a 21).trans (hd 2 _ 21 rfl rfl ⟨⟨2, .data⟩, by simp, rfl, rfl⟩)
      exact Or.inl ⟨.int .i64 x1, X, by simp [execOp, go_sem, e21], Below.refl _ _, rfl⟩
    | 7, ho =>
      injection ho with ho; subst ho
      have e24 : a.tmps[24]?.getD undef = _ := (RY.ev_tmp a 24).trans (hd 5 _ 24 rfl rfl ⟨⟨5, .data⟩, by simp, rfl, rfl⟩)
      exact Or.inl ⟨.int .i64 x2, X, by simp [execOp, go_sem, e24], Below.refl _ _, rfl⟩
    | n + 8, ho => simp at ho
  intro X vs hX hvs
  have q4 : vs 4 = _ := hvs 6 _ 4 rfl rfl
  have q5 : vs 5 = _ := hvs 7 _ 5 rfl rfl
  simp only [RY.putAll, Act.put, List.setIfInBounds_toArray, List.set_cons_zero, List.set_cons_succ]
  rw [q4, q5]
  generalize vs 19 = s19
  generalize vs 20 = s20
  generalize vs 21 = s21
  generalize vs 22 = s22
  generalize vs 23 = s23
  generalize vs 24 = s24
  clear hvs q4 q5
  replace hX := uh hX
  have HXW := hX
  clear hX
  by_cases p1 : x1 < 0
  · have HF : Hid (Pl.readB c l = (0, 0)) := by show _ = _; rw [HR.out, if_neg (by omega)]
    go_wp2
    go_ret2
    rw [HF.out]
    exact ⟨rfl, HXW.out⟩
  by_cases p2 : x2 < 0
  · have HF : Hid (Pl.readB c l = (0, 0)) := by show _ = _; rw [HR.out, if_neg (by omega)]
    go_wp2
    go_ret2
    rw [HF.out]
    exact ⟨rfl, HXW.out⟩
  have HF : Hid (Pl.readB c l = (UInt8.ofNat (16 * x1 + x2).toNat, 3)) := by show _ = _; rw [HR.out, if_pos (by omega)]
  go_wp2
  go_ret2
  rw [HF.out]
  refine ⟨?_, HXW.out⟩
  have e := or16 ⟨x1.toNat, by omega⟩ ⟨x2.toNat, by omega⟩
  have a1 : ((x1.toNat : Nat) : Int) = x1 := by omega
  have a2 : ((x2.toNat : Nat) : Int) = x2 := by omega
  simp only [a1, a2] at e
  have e' : ((UInt8.ofNat (16 * x1 + x2).toNat).toNat : Int) = 16 * x1 + x2 := by rw [UInt8.toNat_ofNat']; omega
  show Ending.returned (.tuple #[.int .u8 (bits BinOp.or IntKind.i64 (x1 * 16) x2 % 256), .int .i64 3]) = .returned (.tuple #[.int .u8 ((UInt8.ofNat (16 * x1 + x2).toNat).toNat : Int), .int .i64 3])
  rw [e, e']

def strLen (v : Value) : Nat := match v with
  | .string x => x.size
  | _ => 0
def QuoA (s : ByteArray) (r : List UInt8) (w : World) (e : Ending) (w' : World) : Prop :=
  Below w.heap.size w w' ∧ ((Pl.quoL r = none ∧ ∃ a b, e = .returned (.tuple #[.string a, .string b, .bool false])) ∨ ∃ x n b, Pl.quoL r = some (x, n) ∧ ByteArray.toList b = r.drop n ∧ b.size ≤ s.size ∧ e = .returned (.tuple #[.string ⟨x.toArray⟩, .string b, .bool true]))
set_option maxRecDepth 8000 in
set_option maxHeartbeats 4000000 in
theorem quotedScanI (s : ByteArray) (c0 : UInt8) (r : List UInt8) (w : World) (hc : s.data.toList = c0 :: r) (hs : s.size ≤ 1048576) :
    Calls Tryz.prog 165 #[.agg #[], .string s] w (QuoA s r w) := by
  have h1 := Pl.ba_pos hc
  have hlen : r.length + 1 = s.size := by rw [← Pl.len_data, hc, List.length_cons]
  have HT : Hid ((s.extract 1 s.size).data.toList = r) := by show _ = _; rw [Pl.ext_end, hc]; rfl
  clear hc
  go_enter Tryz.func165, Tryz.ntmps165
  go_wp2
  go_loopw [7, 8] (fun v u wr => ∃ (O : List UInt8) (x : ByteArray) (k : Nat), u = .string x ∧ By wr w.heap.size v O ∧ O.length ≤ k ∧ k + x.size = r.length ∧ x.data.toList = r.drop k ∧ Below w.heap.size w wr ∧ Pl.quoL r = (Pl.quoL (r.drop k)).map fun p => (O ++ p.1, k + p.2)) (fun _ u _ => strLen u)
  case atStart => exact ⟨[], s.extract 1 s.size, 0, rfl, By.nil _ _, Nat.le_refl _, by rw [← Pl.len_data, HT.out]; omega, HT.out, blw_alloc (Below.refl _ _) _, by simp⟩
  case round =>
    obtain ⟨O, x, k, rfl, hO, hll, hkx, hx, hW, hX⟩ := hrel
    have HLL := uh hll
    have HO := uh hO
    have HW := uh hW
    have HX := uh hX
    have HXD := uh hx
    obtain ⟨sa, sc, hv⟩ := hO.shape
    subst hv
    clear hO hW hll hX hx HT
    by_cases hx1 : 1 ≤ x.size
    rotate_left
    · have h0 := Pl.empty_yes x hx1
      have HR : Hid (Pl.quoL r = none) := by
        show _ = _
        have e : r.drop k = [] := by rw [← HXD.out]; exact List.eq_nil_of_length_eq_zero (by rw [Pl.len_data]; omega)
        rw [HX.out, e, Pl.quoL]; rfl
      go_wp2
      go_ret3
      exact ⟨HW.out, Or.inl ⟨HR.out, _, _, rfl⟩⟩
    have h0 := Pl.empty_no x hx1
    obtain ⟨c, hcx⟩ : ∃ c, c = x[0] := ⟨_, rfl⟩
    have hdr : x.data.toList = c :: x.data.toList.drop 1 := by
      have := Pl.drop_at x 0 (by omega)
      rw [List.drop_zero] at this
      rw [hcx]; exact this
    have hat : x[0] = c := hcx.symm
    clear hcx
    obtain ⟨l, hl⟩ : ∃ l, l = x.data.toList.drop 1 := ⟨_, rfl⟩
    rw [← hl] at hdr
    have HRD : Hid (r.drop k = c :: l) := by show _ = _; rw [← HXD.out, hdr]
    have HCX := uh (fun W => readByteI x c l W hdr (by omega))
    have HB8 := uh (Pl.u8lt c)
    have HD := uh hdr
    clear hdr hl
    by_cases c34 : c.toNat = 34
    · have d1 : ((c.toNat : Int) == 34) = true := by simp; omega
      have HR : Hid (Pl.quoL r = some (O, k + 1)) := by
        show _ = _
        rw [HX.out, HRD.out, Pl.quoL, if_pos c34]; simp
      have HE : Hid ((x.extract 1 x.size).toList = r.drop (k + 1)) := by
        show _ = _
        rw [Pl.tl, Pl.ext_end, HXD.out, List.drop_drop]
      have hcv := (HO.out.later (Below.drew (Below.refl wr.heap.size wr))).str_any
      clear c34 HCX
      go_wp2
      go_region
      all_goals go_wp2
      all_goals go_ret3
      all_goals refine ⟨?_, Or.inr ⟨O, k + 1, _, HR.out, HE.out, by simp [ByteArray.size_extract]; omega, rfl⟩⟩
      all_goals repeat (first | exact HW.out | refine blw_alloc ?_ _ | refine Below.drew ?_)
    have d1 : ((c.toNat : Int) == 34) = false := by simp; omega
    have HQ := uh (Pl.quo_read c l c34)
    obtain ⟨b, n, hbn⟩ : ∃ b n, Pl.readB c l = (b, n) := ⟨_, _, rfl⟩
    have hn : n = 0 ∨ n = 1 ∨ n = 3 ∧ 2 ≤ l.length := by
      unfold Pl.readB at hbn
      split at hbn
      · injection hbn with _ h; omega
      · split at hbn
        · rename_i hh; injection hbn with _ h; have := hh.2.1; omega
        · injection hbn with _ h; omega
    have hn' : n ≤ x.size := by
      have e : x.size = l.length + 1 := by rw [← Pl.len_data, HD.out, List.length_cons]
      omega
    rw [hbn] at HQ HCX
    simp only at HQ HCX
    clear c34 hbn
    by_cases hn0 : n = 0
    · subst hn0
      have HR : Hid (Pl.quoL r = none) := by show _ = _; rw [HX.out, HRD.out, HQ.out]; rfl
      go_wp2_with fail
      refine (HCX.out _).mono ?_
      rintro e w1 ⟨rfl, hb1⟩
      go_wp2
      go_ret3
      exact ⟨blw_trans HW.out hb1, Or.inl ⟨HR.out, _, _, rfl⟩⟩
    have d2 : ((n : Int) == 0) = false := by simp; omega
    have HN : Hid (Pl.quoL r = (Pl.quoL (r.drop (k + n))).map fun p => ((O ++ [b]) ++ p.1, (k + n) + p.2)) := by
      show _ = _
      rw [HX.out, HRD.out, HQ.out, if_neg hn0, ← HRD.out, List.drop_drop, Option.map_map]
      congr 1
      funext p
      simp only [Function.comp, Prod.mk.injEq]
      exact ⟨by simp, by omega⟩
    have HE : Hid ((x.extract n x.size).data.toList = r.drop (k + n)) := by
      show _ = _
      rw [Pl.ext_end, HXD.out, List.drop_drop]
    have hnn : (n : Int) ≤ (x.size : Int) := by omega
    have hn0' : (0 : Int) ≤ (n : Int) := by omega
    go_wp2_with fail
    refine (HCX.out _).mono ?_
    rintro e w1 ⟨rfl, hb1⟩
    replace HO := uh (HO.out.later hb1)
    replace HW := uh (blw_trans HW.out hb1)
    clear hb1
    go_wp2_with (refine by_push rfl _ _ rfl w.heap.size (.slice sa O.length sc) O rfl (HO.out.later (blw_alloc (Below.refl _ _) _)) w1.heap.size 1 1 [b] rfl rfl (World.news_of_block (cs := #[.int .u8 (b.toNat : Int)]) (heap_alloc_new w1 _)) (by decide) (by have := HLL.out; omega) (by have := HW.out.size; simp; omega) ?_; intro g1 c1 w2 q1 q2)
    go_roundw
    case rel => exact ⟨O ++ [b], _, k + n, rfl, by simpa using q1, by have := HLL.out; simp; omega, by simp [ByteArray.size_extract]; omega, HE.out, (HO.out.later (blw_alloc (Below.refl _ _) _)).below (blw_alloc HW.out _) q2 (Nat.le_refl _), HN.out⟩
    case measure => simp [strLen, ByteArray.size_extract]; omega

end Go.Proofs.YtdllbcafbfkngaaGreatDoor

namespace Go.Proofs.YtdllbcafbfkngaaGreatDoor
open Go.RowKit Go.Deep

/-- What a scanner answers at a text that begins with c. -/
def ScA (c : UInt8) (r : List UInt8) (w : World) (e : Ending) (w' : World) : Prop :=
  Below w.heap.size w w' ∧ ((Pl.nextW c r = none ∧ ∃ a b, e = .returned (.tuple #[.string a, .string b, .bool false])) ∨ ∃ y n b, Pl.nextW c r = some (y, n) ∧ ByteArray.toList b = r.drop n ∧ e = .returned (.tuple #[.string ⟨y.toArray⟩, .string b, .bool true]))
theorem quotedI (s : ByteArray) (c : UInt8) (r : List UInt8) (w : World) (hc : s.data.toList = c :: r) (hs : s.size ≤ 1048576) (h34 : c.toNat = 34) :
    Calls Tryz.prog 165 #[.agg #[], .string s] w (ScA c r w) := by
  refine (quotedScanI s c r w hc hs).mono ?_
  have e0 : Pl.nextW c r = Pl.quoL r := by unfold Pl.nextW; rw [if_pos h34]
  rintro e w' ⟨hb, ⟨h1, h2⟩ | ⟨x, n, b, h1, h2, _, h3⟩⟩
  · exact ⟨hb, Or.inl ⟨by rw [e0, h1], h2⟩⟩
  · exact ⟨hb, Or.inr ⟨x, n, b, by rw [e0, h1], h2, h3⟩⟩
theorem bareI (s : ByteArray) (c : UInt8) (r : List UInt8) (w : World) (hc : s.data.toList = c :: r) (hs : s.size ≤ 1048576) (h34 : c.toNat ≠ 34) :
    Calls Tryz.prog 168 #[.agg #[], .string s] w (ScA c r w) := by
  refine (bareScanI s w hs).mono ?_
  rintro e w' ⟨p, hp, ht, he, hb⟩
  rw [hc] at ht
  have hlen : r.length + 1 = s.size := by rw [← Pl.len_data, hc, List.length_cons]
  refine ⟨hb, ?_⟩
  cases p with
  | zero =>
    left
    refine ⟨?_, _, _, he⟩
    have hbc : Pl.bareB c = false := by
      rw [List.takeWhile_cons] at ht
      cases hq : Pl.bareB c
      · rfl
      · rw [hq] at ht; simp at ht
    unfold Pl.nextW
    rw [if_neg h34, hbc]; rfl
  | succ p =>
    right
    have hbc : Pl.bareB c = true := by
      rw [List.takeWhile_cons] at ht
      cases hq : Pl.bareB c
      · rw [hq] at ht; simp at ht
      · rfl
    have hl : ((c :: r).takeWhile Pl.bareB).length = p + 1 := by rw [ht, List.length_take, List.length_cons]; omega
    have e1 : s.extract 0 (p + 1) = ⟨((c :: r).takeWhile Pl.bareB).toArray⟩ := Pl.ba_of (by rw [Pl.ext_list, hc, ht]; rfl)
    refine ⟨(c :: r).takeWhile Pl.bareB, p, s.extract (p + 1) s.size, ?_, ?_, ?_⟩
    · unfold Pl.nextW
      rw [if_neg h34, hbc, hl]; rfl
    · rw [Pl.tl, Pl.ext_end, hc]; rfl
    · rw [he, e1]
      have : decide (0 < p + 1) = true := by simp
      rw [this]
theorem ansCut1 (w : World) (l : List UInt8) (ws : List ByteArray) (v : Value) (h : Pl.cutL l 0 = some ws) (we : World) (hb : Below w.heap.size w we) (hr : TxR we (w.heap.size + 1) v ws) : Ans shSheetCut (cutD l) w (.returned (.agg [v, .bool false].toArray)) we := by
  rw [cutD, h]
  obtain ⟨F, h1, h2, h3⟩ := hr.done
  exact ⟨[v, .bool false], F ++ [], rfl, h1.app (.b false .nil), by rw [List.append_nil]; exact h2, fun b hb' => by rw [List.append_nil] at hb'; have := h3 b hb'; omega, hb⟩
theorem methQ (w : World) : (method 320 160 (.agg #[]) "loop.example/wharfdesk/impl.scan").run Tryz.prog w = .ok (165, .agg #[]) w := by kernel_rfl
theorem methB (w : World) : (method 320 161 (.agg #[]) "loop.example/wharfdesk/impl.scan").run Tryz.prog w = .ok (168, .agg #[]) w := by kernel_rfl
/-- While a line is cut: the answer's variable, the words so far. -/
structure WI (w wr : World) (v : Value) (ws : List ByteArray) : Prop where
  bel : Below w.heap.size w wr
  res : WBox wr w.heap.size 39 [.slice none 0 0, .bool false]
  row : TxR wr (w.heap.size + 1) v ws
theorem WI.later {w wr wr' : World} {v : Value} {ws : List ByteArray} (h : WI w wr v ws) (hb : Below wr.heap.size wr wr') : WI w wr' v ws := ⟨blw_trans h.bel hb, h.res.later hb, h.row.later hb⟩

set_option maxRecDepth 8000 in
set_option maxHeartbeats 8000000 in
theorem sheetWordsI (s : ByteArray) (w : World) (hs : s.size ≤ 1048576) :
    Calls Tryz.prog 65 #[.string s] w (Ans shSheetCut (cutD s.data.toList) w) := by
  have HNX := uh (fun (x : ByteArray) W => nextWordI x W)
  go_enter Tryz.func65, Tryz.ntmps65
  go_wp2_with fail
  refine (HNX.out _ _).mono ?_
  rintro e w1 ⟨x0, rfl, hx0, hz0, hw1⟩
  subst hw1
  have H0 : Hid (Pl.cutL s.data.toList 0 = (Pl.cutL x0.data.toList 0).map ([] ++ ·) ∧ ∀ c r, x0.data.toList = c :: r → c.toNat ≠ 32 ∧ c.toNat ≠ 35) := by
    refine ⟨?_, fun c r h => Pl.nextT_cons (l := s.data.toList) (by rw [← hx0, h])⟩
    rw [hx0, Pl.cut_next]; simp
  clear hx0
  go_wp2
  go_loopw [3, 4] (fun v u wr => ∃ (ws : List ByteArray) (x : ByteArray), u = .string x ∧ x.size ≤ s.size ∧ ws.length ≤ 8 ∧ WI w wr v ws ∧ Pl.cutL s.data.toList 0 = (Pl.cutL x.data.toList ws.length).map (ws ++ ·) ∧ ∀ c r, x.data.toList = c :: r → c.toNat ≠ 32 ∧ c.toNat ≠ 35) (fun _ u _ => strLen u)
  case atStart => exact ⟨[], x0, rfl, hz0, by simp, ⟨blw_alloc (Below.refl _ _) _, WBox.new _ [.slice none 0 0, .bool false] _ _ rfl, TxR.nil _ _⟩, H0.out.1, H0.out.2⟩
  case round =>
    obtain ⟨ws, x, rfl, hxs, hw8, hWI, hcu, hcr⟩ := hrel
    have HWI := uh hWI
    have HCU := uh hcu
    obtain ⟨va, vc, hv⟩ := hWI.row.shape
    subst hv
    clear hWI hcu H0
    by_cases hx1 : 1 ≤ x.size
    rotate_left
    · have h0 := Pl.empty_yes x hx1
      have HR : Hid (Pl.cutL s.data.toList 0 = some ws) := by
        show _ = _
        have e : x.data.toList = [] := List.eq_nil_of_length_eq_zero (by rw [Pl.len_data]; omega)
        rw [HCU.out, e, Pl.cutL]; simp
      have hth : wr.there w.heap.size 0 (#[.slice va ws.length vc, .bool false] : Array Value).size := uthere HWI.out.res.own _ _ (by simp)
      obtain ⟨we, hwe⟩ : ∃ we, we = wr.setCells w.heap.size 0 [.slice va ws.length vc, .bool false] := ⟨_, rfl⟩
      have hrt : we.rangeAt w.heap.size 0 [.slice va ws.length vc, .bool false] := by rw [hwe]; exact World.rangeAt_setCells_same _ _ _ _ hth
      have HBB : Hid (Below w.heap.size w we) := by show Below _ _ _; rw [hwe]; exact blw_scs (Nat.le_refl _) _ _ _ HWI.out.bel
      have HWE : Hid (TxR we (w.heap.size + 1) (.slice va ws.length vc) ws) := by show TxR _ _ _ _; rw [hwe]; exact owns_scs_lo HWI.out.row (by omega) _
      clear hcr
      go_wp2_with (refine wpList_store_mid rfl 39 _ _ rfl w.heap.size 0 #[.slice va ws.length vc, .bool false] rfl rfl hth (by kernel_rfl) (by simp [Value.oneCell']) ?_)
      first | rw [← hwe] | (simp only [List.toList_toArray]; rw [← hwe])
      try simp only [Act.put]
      refine bodyPost_ret (v := .agg #[.slice va ws.length vc, .bool false]) (by simp [results, Tryz.results65, asAddr, run_loadVar_mid (P := Tryz.prog) _ _ _ 39 [.slice va ws.length vc, .bool false] _ hrt Tryz.underlying39 rfl (by kernel_rfl)]) rfl ?_
      exact ansCut1 w _ ws _ HR.out we HBB.out HWE.out
    have h0 := Pl.empty_no x hx1
    obtain ⟨c, hcx⟩ : ∃ c, c = x[0] := ⟨_, rfl⟩
    obtain ⟨r, hr⟩ : ∃ r, r = x.data.toList.drop 1 := ⟨_, rfl⟩
    have hdr : x.data.toList = c :: r := by
      have := Pl.drop_at x 0 (by omega)
      rw [List.drop_zero] at this
      rw [hcx, hr]; exact this
    have HCN := uh (hcr c r hdr)
    have hrl : r.length + 1 = x.size := by rw [← Pl.len_data, hdr, List.length_cons]
    have HSO : Hid (∀ W, Calls Tryz.prog 83 #[.string x] W fun e w' => e = .returned (if c.toNat = 34 then .iface 160 (.agg #[]) else .iface 161 (.agg #[])) ∧ W = w') := by rw [hcx]; exact fun W => scannerOfI x W hx1
    rw [hdr] at HCU
    have hcase : ((if c.toNat = 34 then Value.iface 160 (.agg #[]) else .iface 161 (.agg #[])) = .iface 160 (.agg #[]) ∧ ∀ W, Calls Tryz.prog 165 #[.agg #[], .string x] W (ScA c r W)) ∨ ((if c.toNat = 34 then Value.iface 160 (.agg #[]) else .iface 161 (.agg #[])) = .iface 161 (.agg #[]) ∧ ∀ W, Calls Tryz.prog 168 #[.agg #[], .string x] W (ScA c r W)) := by
      by_cases h34 : c.toNat = 34
      · exact Or.inl ⟨by rw [if_pos h34], fun W => quotedI x c r W hdr (by omega) h34⟩
      · exact Or.inr ⟨by rw [if_neg h34], fun W => bareI x c r W hdr (by omega) h34⟩
    have hme := methQ
    have hmf := methB
    rcases hcase with ⟨hif, hsc⟩ | ⟨hif, hsc⟩
    all_goals
      rw [hif] at HSO
      have HSC := uh hsc
      clear hif hsc hdr hcx hr hcr
      go_wp2_with fail
      refine (HSO.out _).mono ?_
      rintro e w1 ⟨rfl, hw1⟩
      subst hw1
      go_wp2_with fail
      refine (HSC.out _).mono ?_
      rintro e w1 ⟨hb1, ⟨hno, a1, a2, rfl⟩ | ⟨y, n, b, hye, hbd, rfl⟩⟩
      · have HNO : Hid (Pl.cutL s.data.toList 0 = none) := by show _ = _; rw [HCU.out, Pl.cutN r c _ HCN.out.1 HCN.out.2 hno]; rfl
        have HWJ := uh (HWI.out.later hb1)
        clear hno hb1 HWI HSC hme hmf
        have hth : w1.there w.heap.size 0 (#[.slice none 0 0, .bool true] : Array Value).size := uthere HWJ.out.res.own _ _ (by simp)
        obtain ⟨we, hwe⟩ : ∃ we, we = w1.setCells w.heap.size 0 [.slice none 0 0, .bool true] := ⟨_, rfl⟩
        have hrt : we.rangeAt w.heap.size 0 [.slice none 0 0, .bool true] := by rw [hwe]; exact World.rangeAt_setCells_same _ _ _ _ hth
        have HBB : Hid (Below w.heap.size w we) := by show Below _ _ _; rw [hwe]; exact blw_scs (Nat.le_refl _) _ _ _ HWJ.out.bel
        go_wp2_with (refine wpList_store_mid rfl 39 _ _ rfl w.heap.size 0 #[.slice none 0 0, .bool true] rfl rfl hth (by kernel_rfl) (by simp [Value.oneCell']) ?_)
        first | rw [← hwe] | (simp only [List.toList_toArray]; rw [← hwe])
        try simp only [Act.put]
        refine bodyPost_ret (v := .agg #[.slice none 0 0, .bool true]) (by simp [results, Tryz.results65, asAddr, run_loadVar_mid (P := Tryz.prog) _ _ _ 39 [.slice none 0 0, .bool true] _ hrt Tryz.underlying39 rfl (by kernel_rfl)]) rfl ?_
        exact ansBad w _ HNO.out we HBB.out
      have HWJ := uh (HWI.out.later hb1)
      have HYE := uh hye
      have HBD := uh hbd
      have hbs : b.size ≤ r.length := by
        have e : b.data.toList = r.drop n := by rw [← Pl.tl]; exact hbd
        rw [← Pl.len_data, e, List.length_drop]; omega
      have HPT := uh (fun W => partedI b W)
      have HBE : Hid (b.data.toList = r.drop n) := by show _ = _; rw [← Pl.tl]; exact hbd
      rw [HBE.out] at HPT
      obtain ⟨X, hX⟩ : ∃ X : ByteArray, X = ⟨y.toArray⟩ := ⟨_, rfl⟩
      have HXE := uh hX
      have hXl : X.size = y.length := by rw [hX]; rfl
      rw [← hX]
      clear hX hye hbd hb1 HWI HSC hme hmf
      have HXX := uh (fun h => Pl.cutX r c ws.length y n HCN.out.1 HCN.out.2 HYE.out h)
      have HYY := uh (fun h => Pl.cutY r c ws.length y n HCN.out.1 HCN.out.2 HYE.out h)
      cases hA : Pl.behind (r.drop n)
      · have HNO : Hid (Pl.cutL s.data.toList 0 = none) := by show _ = _; rw [HCU.out, HXX.out (by simp [hA])]; rfl
        rw [hA] at HPT
        clear hA
        go_wp2_with fail
        refine (HPT.out _).mono ?_
        rintro e w2 ⟨rfl, hw2⟩
        subst hw2
        have hth : w1.there w.heap.size 0 (#[.slice none 0 0, .bool true] : Array Value).size := uthere HWJ.out.res.own _ _ (by simp)
        obtain ⟨we, hwe⟩ : ∃ we, we = w1.setCells w.heap.size 0 [.slice none 0 0, .bool true] := ⟨_, rfl⟩
        have hrt : we.rangeAt w.heap.size 0 [.slice none 0 0, .bool true] := by rw [hwe]; exact World.rangeAt_setCells_same _ _ _ _ hth
        have HBB : Hid (Below w.heap.size w we) := by show Below _ _ _; rw [hwe]; exact blw_scs (Nat.le_refl _) _ _ _ HWJ.out.bel
        go_wp2_with (refine wpList_store_mid rfl 39 _ _ rfl w.heap.size 0 #[.slice none 0 0, .bool true] rfl rfl hth (by kernel_rfl) (by simp [Value.oneCell']) ?_)
        first | rw [← hwe] | (simp only [List.toList_toArray]; rw [← hwe])
        try simp only [Act.put]
        refine bodyPost_ret (v := .agg #[.slice none 0 0, .bool true]) (by simp [results, Tryz.results65, asAddr, run_loadVar_mid (P := Tryz.prog) _ _ _ 39 [.slice none 0 0, .bool true] _ hrt Tryz.underlying39 rfl (by kernel_rfl)]) rfl ?_
        exact ansBad w _ HNO.out we HBB.out
      have HAA := uh hA
      rw [hA] at HPT
      clear hA
      by_cases hB : (200 : Int) < (X.size : Int)
      · have HNO : Hid (Pl.cutL s.data.toList 0 = none) := by show _ = _; rw [HCU.out, HXX.out (by simp; omega)]; rfl
        go_wp2_with fail
        refine (HPT.out _).mono ?_
        rintro e w2 ⟨rfl, hw2⟩
        subst hw2
        have hth : w1.there w.heap.size 0 (#[.slice none 0 0, .bool true] : Array Value).size := uthere HWJ.out.res.own _ _ (by simp)
        obtain ⟨we, hwe⟩ : ∃ we, we = w1.setCells w.heap.size 0 [.slice none 0 0, .bool true] := ⟨_, rfl⟩
        have hrt : we.rangeAt w.heap.size 0 [.slice none 0 0, .bool true] := by rw [hwe]; exact World.rangeAt_setCells_same _ _ _ _ hth
        have HBB : Hid (Below w.heap.size w we) := by show Below _ _ _; rw [hwe]; exact blw_scs (Nat.le_refl _) _ _ _ HWJ.out.bel
        go_wp2_with (refine wpList_store_mid rfl 39 _ _ rfl w.heap.size 0 #[.slice none 0 0, .bool true] rfl rfl hth (by kernel_rfl) (by simp [Value.oneCell']) ?_)
        first | rw [← hwe] | (simp only [List.toList_toArray]; rw [← hwe])
        try simp only [Act.put]
        refine bodyPost_ret (v := .agg #[.slice none 0 0, .bool true]) (by simp [results, Tryz.results65, asAddr, run_loadVar_mid (P := Tryz.prog) _ _ _ 39 [.slice none 0 0, .bool true] _ hrt Tryz.underlying39 rfl (by kernel_rfl)]) rfl ?_
        exact ansBad w _ HNO.out we HBB.out
      by_cases hC : ws.length = 8
      · have HNO : Hid (Pl.cutL s.data.toList 0 = none) := by show _ = _; rw [HCU.out, HXX.out (by simp; omega)]; rfl
        have d8 : ((ws.length : Int) == 8) = true := by simp; omega
        go_wp2_with fail
        refine (HPT.out _).mono ?_
        rintro e w2 ⟨rfl, hw2⟩
        subst hw2
        have hth : w1.there w.heap.size 0 (#[.slice none 0 0, .bool true] : Array Value).size := uthere HWJ.out.res.own _ _ (by simp)
        obtain ⟨we, hwe⟩ : ∃ we, we = w1.setCells w.heap.size 0 [.slice none 0 0, .bool true] := ⟨_, rfl⟩
        have hrt : we.rangeAt w.heap.size 0 [.slice none 0 0, .bool true] := by rw [hwe]; exact World.rangeAt_setCells_same _ _ _ _ hth
        have HBB : Hid (Below w.heap.size w we) := by show Below _ _ _; rw [hwe]; exact blw_scs (Nat.le_refl _) _ _ _ HWJ.out.bel
        go_wp2_with (refine wpList_store_mid rfl 39 _ _ rfl w.heap.size 0 #[.slice none 0 0, .bool true] rfl rfl hth (by kernel_rfl) (by simp [Value.oneCell']) ?_)
        first | rw [← hwe] | (simp only [List.toList_toArray]; rw [← hwe])
        try simp only [Act.put]
        refine bodyPost_ret (v := .agg #[.slice none 0 0, .bool true]) (by simp [results, Tryz.results65, asAddr, run_loadVar_mid (P := Tryz.prog) _ _ _ 39 [.slice none 0 0, .bool true] _ hrt Tryz.underlying39 rfl (by kernel_rfl)]) rfl ?_
        exact ansBad w _ HNO.out we HBB.out
      have d8 : ((ws.length : Int) == 8) = false := by simp; omega
      have HNW : Hid (Pl.cutL s.data.toList 0 = (Pl.cutL (r.drop n) (ws ++ [X]).length).map ((ws ++ [X]) ++ ·)) := Pl.cutC HCU.out (by rw [HYY.out (by rw [HAA.out]; simp; omega), HXE.out])
      go_wp2_with fail
      refine (HPT.out _).mono ?_
      rintro e w2 ⟨rfl, hw2⟩
      subst hw2
      go_wp2_with (refine tx_push rfl _ _ rfl (w.heap.size + 1) (.slice va ws.length vc) ws rfl (HWJ.out.row.later (blw_alloc (Below.refl _ _) _)) w1.heap.size 1 1 [X] rfl rfl (World.news_of_block (cs := #[.string X]) (heap_alloc_new w1 _)) (by decide) (by omega) (by have := HWJ.out.bel.size; have := HWJ.out.res.own.lt; simp; omega) ?_; intro g1 c1 w3 q1 q2)
      refine (HNX.out _ _).mono ?_
      rintro e w4 ⟨x', rfl, hx', hz', hw4⟩
      subst hw4
      have HWA := HWJ.out.later (blw_alloc (Below.refl _ _) (.cells #[.string X] 9))
      have hnb : (Value.slice va ws.length vc).ownBlock ≠ some w.heap.size := fun e => by have := (owns_blk_lt HWA.row e).1; omega
      have HW3 : Hid (WI w w3 (.slice (some ⟨g1, 0, none⟩) (ws.length + 1) c1) (ws ++ [X])) := ⟨HWA.row.below HWA.bel q2 (by omega), HWA.res.grow q2 hnb, q1⟩
      have HCC : Hid (Pl.cutL s.data.toList 0 = (Pl.cutL x'.data.toList (ws ++ [X]).length).map ((ws ++ [X]) ++ ·) ∧ ∀ c r, x'.data.toList = c :: r → c.toNat ≠ 32 ∧ c.toNat ≠ 35) := by
        refine ⟨?_, fun c' r' h => Pl.nextT_cons (l := b.data.toList) (by rw [← hx', h])⟩
        rw [HNW.out, hx', Pl.cut_next, HBE.out]
      clear hx' q1 q2 hnb HWA
      go_wp2
      go_roundw
      case rel => exact ⟨ws ++ [X], x', rfl, by omega, by simp; omega, HW3.out, HCC.out.1, HCC.out.2⟩
      case measure => simp [strLen]; omega

end Go.Proofs.YtdllbcafbfkngaaGreatDoor
