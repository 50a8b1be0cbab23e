/-
  Sheets: lists that ascend: the program.
-/
import Derived.Test.YtojcopamegmeeaaProg
import Derived.RowKit
import Derived.WalkKit
import Derived.WalkSpells
import Derived.WalkLawsBesides
import Derived.StillTailTactics
import Derived.Test.YtojcopamegmeeaaEIk
import Derived.Test.YtojcopamegmeeaaPlain
import Derived.Test.YtojcopamegmeeaaEPn
import Derived.Test.YtojcopamegmeeaaEPl
import Derived.Test.YtojcopamegmeeaaEFd
import Derived.Test.YtojcopamegmeeaaEPs
import Derived.Test.YtojcopamegmeeaaESd
import Derived.Test.YtojcopamegmeeaaETx
namespace Go.Proofs.Ytojcopamegmeeaa
open Go.RowKit Go.Deep

theorem ans_nil (w W : World) (hb : Below w.heap.size w W) : AnsL [.row 73 shSheetRule] (rulesD []) w (.returned (.slice none 0 0)) W :=
  ⟨_, [], rfl, .emp _ _ none rfl .nil, List.nodup_nil, by simp, hb⟩
/-- What stands in the table for a kind. -/
def kindV (kind : ByteArray) (vt vb vs : Value) : Value :=
  if kind.toList == [116, 101, 97, 109] then vt else if kind.toList == [98, 101, 114, 116, 104] then vb else if kind.toList == [115, 101, 114, 118, 105, 99, 101] then vs else .slice none 0 0
theorem beq_text (a : ByteArray) (x : List UInt8) (y : ByteArray) (h : y.toList = x) : (a == y) = (a.toList == x) := by
  subst h
  cases a with
  | mk a =>
    cases y with
    | mk y =>
      rw [Pl.tl, Pl.tl]
      show (a == y) = (a.toList == y.toList)
      rw [Bool.eq_iff_iff, beq_iff_eq, beq_iff_eq]
      exact ⟨fun h => by rw [h], fun h => Array.toList_inj.1 h⟩
theorem look_kind {W : World} {mb : Nat} {vt vb vs : Value} (hb : W.heap[mb]? = some (.map #[⟨.string { data := #[116, 101, 97, 109] }, .agg #[vt], 0⟩, ⟨.string { data := #[98, 101, 114, 116, 104] }, .agg #[vb], 1⟩, ⟨.string { data := #[115, 101, 114, 118, 105, 99, 101] }, .agg #[vs], 2⟩] 3)) (kind : ByteArray) :
    (Instr.lookup 78 (.map (some mb)) (.string kind) false).run Try.prog W = .ok (.agg #[kindV kind vt vb vs]) W := by
  have hz : (zeroValue 81).run Try.prog W = .ok (.agg #[.slice none 0 0]) W := by kernel_rfl
  have e1 := beq_text kind [116, 101, 97, 109] { data := #[116, 101, 97, 109] } (by decide +kernel)
  have e2 := beq_text kind [98, 101, 114, 116, 104] { data := #[98, 101, 114, 116, 104] } (by decide +kernel)
  have e3 := beq_text kind [115, 101, 114, 118, 105, 99, 101] { data := #[115, 101, 114, 118, 105, 99, 101] } (by decide +kernel)
  obtain ⟨r, hr, hv⟩ : ∃ r, Instr.findNow .string (.string kind) [⟨.string { data := #[116, 101, 97, 109] }, .agg #[vt], 0⟩, ⟨.string { data := #[98, 101, 114, 116, 104] }, .agg #[vb], 1⟩, ⟨.string { data := #[115, 101, 114, 118, 105, 99, 101] }, .agg #[vs], 2⟩] 0 = some r ∧ (match r with | some (_, v) => v | none => .agg #[.slice none 0 0]) = .agg #[kindV kind vt vb vs] := by
    simp only [Instr.findNow, Instr.sameNow, e1, e2, e3, kindV]
    cases (kind.toList == [116, 101, 97, 109]) <;> cases (kind.toList == [98, 101, 114, 116, 104]) <;> cases (kind.toList == [115, 101, 114, 118, 105, 99, 101]) <;> exact ⟨_, rfl, rfl⟩
  have hf := find_text W kind _ r hr
  cases r with
  | none =>
    simp only at hv
    simp [Instr.lookup, run_underlying Try.und_kinds, MapKept.run_getObj_map hb, check_text, hf, hz, Result.andThen, hv]
  | some p =>
    obtain ⟨j, v⟩ := p
    simp only at hv
    subst hv
    simp [Instr.lookup, run_underlying Try.und_kinds, MapKept.run_getObj_map hb, check_text, hf, Result.andThen]
theorem kind_ans {w w0 W : World} {vt vb vs : Value} (kind : ByteArray) (h0 : w.heap.size ≤ w0.heap.size) (ht : Kp w0 Pl.kTeamR vt W) (hb : Kp w0 Pl.kBerthR vb W) (hs : Kp w0 Pl.kServiceR vs W) (hB : Below w.heap.size w W) :
    AnsL [.row 73 shSheetRule] (rulesD (Pl.rulesOf kind)) w (.returned (kindV kind vt vb vs)) W := by
  unfold kindV Pl.rulesOf
  split
  · exact ht.ans h0 hB
  · split
    · exact hb.ans h0 hB
    · split
      · exact hs.ans h0 hB
      · exact ans_nil w W hB

end Go.Proofs.Ytojcopamegmeeaa

namespace Go.Proofs.Ytojcopamegmeeaa
open Go.RowKit

set_option maxHeartbeats 1000000 in
theorem nameBytes_any (s : ByteArray) (w : World) (hs : s.size ≤ maxLen) :
    Calls Try.prog 59 #[.string s] w fun e w' => e = .returned (.bool (Pl.nameBytes s)) ∧ w = w' := by
  unfold maxLen at hs
  go_enter Try.func59, Try.ntmps59
  go_wp2
  go_loop [7] (fun i => ∃ k : Nat, k ≤ s.size ∧ i = .int .i64 k ∧ (s.data.toList.take k).all Pl.nameByte = true) (fun i => s.size - (intOf i).toNat)
  case atStart => exact ⟨0, Nat.zero_le _, rfl, rfl⟩
  case round =>
    obtain ⟨k, hk, rfl, hall⟩ := hrel
    have HA : Hid ((s.data.toList.take k).all Pl.nameByte = true) := hall
    clear hall
    by_cases hlt : k < s.size
    · go_wp2
      all_goals simp only [Bool.not_eq_eq_eq_not, Bool.not_true, Bool.not_false, beq_iff_eq, beq_eq_false_iff_ne, decide_eq_true_eq, decide_eq_false_iff_not] at *
      all_goals first
        | (go_ret
           have hn : Pl.nameByte s[k] = false := by rw [Bool.eq_false_iff]; simp [Pl.nameByte]; omega
           exact ⟨Pl.ret_bool (Pl.all_false _ s k hlt hn).symm, rfl⟩)
        | (have hn : Pl.nameByte s[k] = true := by simp [Pl.nameByte]; omega
           go_round
           case rel => exact ⟨k + 1, by omega, by go_num, by rw [Pl.all_snoc _ _ _ hlt, HA.out, hn]; rfl⟩
           case measure => simp [intOf]; omega)
    · have HF : Hid (Pl.nameBytes s = true) := by
        show Pl.nameBytes s = true
        have := Pl.all_whole Pl.nameByte s k (by omega)
        simp only [Pl.nameBytes, ← this, HA.out]
      go_wp2
      go_ret
      exact ⟨Pl.ret_bool HF.out.symm, rfl⟩

end Go.Proofs.Ytojcopamegmeeaa

namespace Go.Proofs.Ytojcopamegmeeaa
open Go.RowKit

theorem ret_dec {a b : Int} {c d : Bool} (h : a = b) (g : c = d) : Ending.returned (.tuple #[.int .i64 a, .bool c]) = .returned (.tuple #[.int .i64 b, .bool d]) := by rw [h, g]

def decOut (s : ByteArray) : Int := if Pl.decOk s then Pl.decVal s.data.toList else 0

set_option maxHeartbeats 1000000 in
theorem decimal_loop (s : ByteArray) (w : World) (h1 : 1 ≤ s.size) (h7 : s.size ≤ 7) (hl : Pl.lead s = false) :
    Calls Try.prog 89 #[.string s] w fun e w' => e = .returned (.tuple #[.int .i64 (decOut s), .bool (Pl.decOk s)]) ∧ w = w' := by
  have hemp := Pl.empty_no s h1
  have HN : Hid (Pl.lead s = false) := hl
  have HB : Hid ((s[0].toNat : Int) = 48 → (s.toList == [48]) = true) := by
    intro h0
    rw [Pl.lead_of s (by omega), Pl.byte_beq] at hl
    have hne : ¬ 1 < s.size := by
      intro h2
      simp [h2] at hl
      omega
    refine Pl.one_byte s (by omega) 48 ?_
    rw [Pl.head_eq s (by omega)]
    have : s[0].toNat = 48 := by omega
    exact UInt8.toNat_inj.1 (by simpa using this)
  clear hl
  have hd7 : decide ((7 : Int) < (s.size : Int)) = false := by simp; omega
  have H0 : Hid ((((s[0].toNat : Int) == 48) = true ∧ (s.toList == [48]) = true) ∨ ((s[0].toNat : Int) == 48) = false) := by
    by_cases h0 : (s[0].toNat : Int) = 48
    · exact Or.inl ⟨by simp [h0], HB.out h0⟩
    · exact Or.inr (by simp [h0])
  clear HB
  rcases H0.out with ⟨h0b, hb⟩ | h0b
  all_goals
    clear H0
    go_enter Try.func89, Try.ntmps89
    go_wp2
    go_loop [4, 24] (fun n i => ∃ k : Nat, k ≤ s.size ∧ i = .int .i64 k ∧ n = .int .i64 (Pl.decVal (s.data.toList.take k)) ∧ (s.data.toList.take k).all Pl.digit = true) (fun _ i => s.size - (intOf i).toNat)
    case atStart => exact ⟨0, Nat.zero_le _, rfl, rfl, rfl⟩
    case round =>
      obtain ⟨k, hk, rfl, rfl, hall⟩ := hrel
      have hbd := Pl.decVal_small s k hk (by omega) hall
      obtain ⟨b1, b2⟩ := hbd
      have HA : Hid ((s.data.toList.take k).all Pl.digit = true) := hall
      clear hall
      by_cases hlt : k < s.size
      · have HS : Hid (Pl.decVal (s.data.toList.take (k + 1)) = Pl.decVal (s.data.toList.take k) * 10 + ((s[k].toNat : Int) - 48)) := Pl.decVal_take s k hlt
        by_cases hd : 48 ≤ (s[k].toNat : Int) ∧ (s[k].toNat : Int) ≤ 57
        · obtain ⟨d1, d2⟩ := hd
          go_wp2
          go_round
          case rel => exact ⟨k + 1, by omega, by go_num, by rw [HS.out], by rw [Pl.all_snoc _ _ _ hlt, HA.out]; simp [Pl.digit]; omega⟩
          case measure => simp [intOf]; omega
        · have HF : Hid (Pl.decOk s = false) := by
            show Pl.decOk s = false
            have : s.data.toList.all Pl.digit = false := Pl.all_false _ s k hlt (by rw [Bool.eq_false_iff]; simp [Pl.digit]; omega)
            simp [Pl.decOk, this]
          by_cases hd1 : 48 ≤ (s[k].toNat : Int)
          all_goals
            go_wp2
            go_ret2
            exact ⟨ret_dec (by simp [decOut, HF.out]) HF.out.symm, rfl⟩
      · have HF : Hid (Pl.decOk s = true ∧ Pl.decVal s.data.toList = Pl.decVal (s.data.toList.take k)) := by
          show Pl.decOk s = true ∧ Pl.decVal s.data.toList = Pl.decVal (s.data.toList.take k)
          have e : s.data.toList.take k = s.data.toList := List.take_of_length_le (by simp; omega)
          have ha := HA.out
          rw [e] at ha ⊢
          refine ⟨?_, rfl⟩
          simp [Pl.decOk, ha, HN.out]
          omega
        go_wp2
        go_ret2
        exact ⟨ret_dec (by simp [decOut, HF.out.1, HF.out.2]) HF.out.1.symm, rfl⟩

set_option maxHeartbeats 1000000 in
theorem decimal_any (s : ByteArray) (w : World) (hs : s.size ≤ maxLen) :
    Calls Try.prog 89 #[.string s] w fun e w' => e = .returned (.tuple #[.int .i64 (decOut s), .bool (Pl.decOk s)]) ∧ w = w' := by
  unfold maxLen at hs
  by_cases h1 : 1 ≤ s.size
  · have hemp := Pl.empty_no s h1
    by_cases h7 : s.size ≤ 7
    · cases hl : Pl.lead s
      · exact decimal_loop s w h1 h7 hl
      · have HF : Hid (Pl.decOk s = false) := by show Pl.decOk s = false; simp [Pl.decOk, hl]
        have hd7 : decide ((7 : Int) < (s.size : Int)) = false := by simp; omega
        rw [Pl.lead_of s (by omega), Pl.byte_beq] at hl
        simp only [Bool.and_eq_true, decide_eq_true_eq] at hl
        obtain ⟨h2, h0⟩ := hl
        have h0' : ((s[0].toNat : Int) == 48) = true := h0
        have hb := Pl.more_bytes s h2 48
        clear h0
        go_enter Try.func89, Try.ntmps89
        go_wp2
        go_ret2
        exact ⟨ret_dec (by simp [decOut, HF.out]) HF.out.symm, rfl⟩
    · have HF : Hid (Pl.decOk s = false) := by show Pl.decOk s = false; simp [Pl.decOk, h7]
      have hd7 : decide ((7 : Int) < (s.size : Int)) = true := by simp; omega
      go_enter Try.func89, Try.ntmps89
      go_wp2
      go_ret2
      exact ⟨ret_dec (by simp [decOut, HF.out]) HF.out.symm, rfl⟩
  · have HF : Hid (Pl.decOk s = false) := by show Pl.decOk s = false; simp [Pl.decOk, h1]
    have hemp := Pl.empty_yes s h1
    go_enter Try.func89, Try.ntmps89
    go_wp2
    go_ret2
    exact ⟨ret_dec (by simp [decOut, HF.out]) HF.out.symm, rfl⟩
end Go.Proofs.Ytojcopamegmeeaa

namespace Go.Proofs.Ytojcopamegmeeaa
open Go.RowKit Go.Deep

set_option maxHeartbeats 1000000 in
theorem gateWithinE (n lo hi : Int) (w : World) :
    Calls Try.prog 58 #[.int .i64 n, .int .i64 lo, .int .i64 hi] w fun e w' => e = .returned (.bool (decide (lo ≤ n) && decide (n ≤ hi))) ∧ w = w' := by
  by_cases h : lo ≤ n
  all_goals
    go_enter Try.func58, Try.ntmps58
    go_wp2
    go_ret
    exact ⟨Pl.ret_bool (by rw [Bool.eq_iff_iff]; simp; try omega), rfl⟩

set_option maxHeartbeats 1000000 in
theorem sheetIsNumberI (s : ByteArray) (w : World) (hs : s.size ≤ maxLen) :
    Calls Try.prog 85 #[.string s] w fun e w' => e = .returned (.bool (Pl.numOk s)) ∧ w = w' := by
  have HC := uh (decimal_any s w hs)
  have HN : Hid (Pl.numOk s = (Pl.decOk s && decide (decOut s ≤ 1000000))) := by
    show _ = _
    unfold Pl.numOk decOut
    cases Pl.decOk s <;> simp
  obtain ⟨d, hd⟩ : ∃ d, d = decOut s := ⟨_, rfl⟩
  obtain ⟨b, hb⟩ : ∃ b, b = Pl.decOk s := ⟨_, rfl⟩
  rw [← hd, ← hb] at HC HN
  clear hd hb
  go_enter Try.func85, Try.ntmps85
  cases b
  all_goals go_wp2_with (go_at_call 89; refine HC.out.mono ?_; rintro e w' ⟨rfl, rfl⟩)
  all_goals go_ret
  all_goals exact ⟨Pl.ret_bool (by rw [HN.out]; simp), rfl⟩

set_option maxHeartbeats 1000000 in
theorem sheetIsNameI (s : ByteArray) (w : World) (hs : s.size ≤ maxLen) :
    Calls Try.prog 38 #[.string s] w fun e w' => e = .returned (.bool (Pl.nameOk20 s)) ∧ w = w' := by
  have HC := uh (nameBytes_any s w hs)
  have HG := uh (gateWithinE s.size 1 20 w)
  have HN : Hid (Pl.nameOk20 s = ((decide ((1 : Int) ≤ (s.size : Int)) && decide ((s.size : Int) ≤ 20)) && Pl.nameBytes s)) := by
    show _ = _
    unfold Pl.nameOk20
    congr 1
    rw [Bool.eq_iff_iff]; simp; omega
  obtain ⟨b, hb⟩ : ∃ b, b = (decide ((1 : Int) ≤ (s.size : Int)) && decide ((s.size : Int) ≤ 20)) := ⟨_, rfl⟩
  rw [← hb] at HG HN
  clear hb
  unfold maxLen at hs
  go_enter Try.func38, Try.ntmps38
  cases b
  all_goals go_wp2_with (first | (go_at_call 58; refine HG.out.mono ?_; rintro e w' ⟨rfl, rfl⟩) | (go_at_call 59; refine HC.out.mono ?_; rintro e w' ⟨rfl, rfl⟩))
  all_goals go_ret
  all_goals exact ⟨Pl.ret_bool (by rw [HN.out]; simp), rfl⟩

def Pl.minus (s : ByteArray) : Bool := decide (1 ≤ s.size) && (s.data.toList.headD 0 == 45)
theorem Pl.minus_no (s : ByteArray) (h : ¬ 1 ≤ s.size) : Pl.minus s = false := by unfold Pl.minus; simp [h]
theorem Pl.minus_eq (s : ByteArray) (h : 1 ≤ s.size) : ((s.extract 0 1).toList == [45]) = Pl.minus s := by
  unfold Pl.minus
  rw [Pl.tl]
  have e : (s.extract 0 1).data.toList = s.data.toList.take 1 := by simp [ByteArray.data_extract]
  rw [e]
  cases hl : s.data.toList with
  | nil =>
    have := Pl.len_data s
    rw [hl] at this; simp at this; omega
  | cons c l => simp [h]

set_option maxHeartbeats 1000000 in
theorem hasMinusI (s : ByteArray) (w : World) (hs : s.size ≤ maxLen) :
    Calls Try.prog 92 #[.string s, .string { data := #[45] }] w fun e w' => e = .returned (.bool (Pl.minus s)) ∧ w = w' := by
  unfold maxLen at hs
  by_cases h1 : 1 ≤ s.size
  · have HE := uh (Pl.minus_eq s h1)
    have h2 : decide ((1 : Int) ≤ (s.size : Int)) = true := by simp; omega
    go_enter Try.func92, Try.ntmps92
    go_wp2
    go_ret
    exact ⟨Pl.ret_bool HE.out, rfl⟩
  · have HE := uh (Pl.minus_no s h1)
    have h2 : decide ((1 : Int) ≤ (s.size : Int)) = false := by simp; omega
    go_enter Try.func92, Try.ntmps92
    go_wp2
    go_ret
    exact ⟨Pl.ret_bool HE.out.symm, rfl⟩

theorem Pl.minus_size {s : ByteArray} (h : Pl.minus s = true) : 1 ≤ s.size := by
  unfold Pl.minus at h; simp at h; exact h.1
def Pl.rest (s : ByteArray) : ByteArray := if Pl.minus s then s.extract 1 s.size else s
set_option maxHeartbeats 1000000 in
theorem cutMinusL (s : ByteArray) (w : World) (hs : s.size ≤ maxLen) :
    Calls Try.prog 91 #[.string s, .string { data := #[45] }] w fun e w' => e = .returned (.tuple #[.string (Pl.rest s), .bool (Pl.minus s)]) ∧ w = w' := by
  have HC := uh (hasMinusI s w hs)
  unfold maxLen at hs
  cases hm : Pl.minus s
  · rw [hm] at HC
    have HR : Hid (Pl.rest s = s) := by show _ = _; unfold Pl.rest; rw [hm]; rfl
    go_enter Try.func91, Try.ntmps91
    go_wp2_with (go_at_call 92; refine HC.out.mono ?_; rintro e w' ⟨rfl, rfl⟩)
    go_ret2
    rw [HR.out]
    exact ⟨rfl, rfl⟩
  · have h1 := Pl.minus_size hm
    rw [hm] at HC
    have HR : Hid (Pl.rest s = s.extract 1 s.size) := by show _ = _; unfold Pl.rest; rw [hm]; rfl
    go_enter Try.func91, Try.ntmps91
    go_wp2_with (go_at_call 92; refine HC.out.mono ?_; rintro e w' ⟨rfl, rfl⟩)
    go_ret2
    rw [HR.out]
    exact ⟨rfl, rfl⟩
set_option maxHeartbeats 1000000 in
theorem cutMinusI (s : ByteArray) (w : World) (hs : s.size ≤ maxLen) :
    Calls Try.prog 90 #[.string s, .string { data := #[45] }] w fun e w' => e = .returned (.tuple #[.string (Pl.rest s), .bool (Pl.minus s)]) ∧ w = w' := by
  have HC := uh (cutMinusL s w hs)
  go_enter Try.func90, Try.ntmps90
  go_wp2_with (go_at_call 91; refine HC.out.mono ?_; rintro e w' ⟨rfl, rfl⟩)
  go_ret2
  exact ⟨rfl, rfl⟩

theorem Pl.sgn_eq (s : ByteArray) : Pl.sgnOk s = (Pl.numOk (Pl.rest s) && !(Pl.minus s && ((Pl.rest s).toList == [48]))) := by
  unfold Pl.sgnOk Pl.rest
  cases hm : Pl.minus s
  · have : (decide (1 < s.size) && (s.data.toList.headD 0 == 45)) = false := by
      unfold Pl.minus at hm
      rw [Bool.eq_false_iff] at hm ⊢
      intro h
      apply hm
      simp only [Bool.and_eq_true, decide_eq_true_eq] at h ⊢
      exact ⟨by omega, h.2⟩
    rw [this]; simp
  · have h1 := Pl.minus_size hm
    have h45 : (s.data.toList.headD 0 == 45) = true := by unfold Pl.minus at hm; rw [Bool.and_eq_true] at hm; exact hm.2
    have hn : Pl.numOk s = false := by
      unfold Pl.numOk Pl.decOk
      have : s.data.toList.all Pl.digit = false := by
        cases hl : s.data.toList with
        | nil => have := Pl.len_data s; rw [hl] at this; simp at this; omega
        | cons c l =>
          rw [hl] at h45
          simp at h45
          rw [h45]; rfl
      simp [this]
    rw [hn, h45]
    by_cases h2 : 1 < s.size
    · simp [h2, Bool.and_comm]
    · have e0 : (s.extract 1 s.size).size = 0 := by simp [ByteArray.size_extract]; omega
      have hr : Pl.numOk (s.extract 1 s.size) = false := by unfold Pl.numOk Pl.decOk; rw [e0]; simp
      simp [h2, hr]

set_option maxHeartbeats 1000000 in
theorem sheetIsSignedI (s : ByteArray) (w : World) (hs : s.size ≤ maxLen) :
    Calls Try.prog 86 #[.string s] w fun e w' => e = .returned (.bool (Pl.sgnOk s)) ∧ w = w' := by
  have HC := uh (cutMinusI s w hs)
  have hr : (Pl.rest s).size ≤ maxLen := by
    unfold Pl.rest; split
    · simp [ByteArray.size_extract]; omega
    · exact hs
  have HN := uh (sheetIsNumberI (Pl.rest s) w hr)
  have HE := uh (Pl.sgn_eq s)
  obtain ⟨r, hr'⟩ : ∃ r, r = Pl.rest s := ⟨_, rfl⟩
  obtain ⟨m, hm⟩ : ∃ m, m = Pl.minus s := ⟨_, rfl⟩
  obtain ⟨b, hb⟩ : ∃ b, b = Pl.numOk r := ⟨_, rfl⟩
  rw [← hr', ← hm] at HC HE
  rw [← hr', ← hb] at HN
  rw [← hb] at HE
  clear hr' hm hb hr
  go_enter Try.func86, Try.ntmps86
  cases b <;> cases m
  all_goals go_wp2_with (first | (go_at_call 90; refine HC.out.mono ?_; rintro e w' ⟨rfl, rfl⟩) | (go_at_call 85; refine HN.out.mono ?_; rintro e w' ⟨rfl, rfl⟩))
  all_goals go_ret
  all_goals exact ⟨Pl.ret_bool (by rw [HE.out]; simp), rfl⟩

set_option maxRecDepth 8000 in
set_option maxHeartbeats 4000000 in
theorem sheetTypeFitsI (t : Int) (s : ByteArray) (w : World) (hs : s.size ≤ maxLen) (ht : 1 ≤ t ∧ t ≤ 6) :
    Calls Try.prog 76 #[.int .i64 t, .string s] w fun e w' => e = .returned (.bool (Pl.fitsT t s)) ∧ w = w' := by
  have H1 := uh (sheetIsNumberI s w hs)
  have H2 := uh (sheetIsSignedI s w hs)
  have H3 := uh (sheetIsNameI s w hs)
  unfold maxLen at hs
  have hc : t = 1 ∨ t = 2 ∨ t = 3 ∨ t = 4 ∨ t = 5 ∨ t = 6 := by omega
  clear ht
  rcases hc with rfl | rfl | rfl | rfl | rfl | rfl
  · go_enter Try.func76, Try.ntmps76
    go_wp2_with (go_at_call 85; refine H1.out.mono ?_; rintro e w' ⟨rfl, rfl⟩)
    go_ret
    exact ⟨rfl, rfl⟩
  · go_enter Try.func76, Try.ntmps76
    go_wp2_with (go_at_call 86; refine H2.out.mono ?_; rintro e w' ⟨rfl, rfl⟩)
    go_ret
    exact ⟨rfl, rfl⟩
  · go_enter Try.func76, Try.ntmps76
    go_wp2_with (go_at_call 38; refine H3.out.mono ?_; rintro e w' ⟨rfl, rfl⟩)
    go_ret
    exact ⟨rfl, rfl⟩
  · go_enter Try.func76, Try.ntmps76
    go_wp2
    go_ret
    exact ⟨Pl.ret_bool (by show _ = decide (s.size ≤ 200); rw [Bool.eq_iff_iff]; simp; omega), rfl⟩
  · have HF : Hid (Pl.fitsT 5 s = ((s.toList == [121, 101, 115]) || (s.toList == [110, 111]))) := rfl
    cases h1 : (s.toList == [121, 101, 115])
    all_goals
      rw [h1] at HF
      go_enter Try.func76, Try.ntmps76
      go_wp2
      go_ret
      exact ⟨Pl.ret_bool (by rw [HF.out]; simp), rfl⟩
  · have HF : Hid (Pl.fitsT 6 s = ((s.toList == [110, 111, 110, 101]) || (s.toList == [98, 101, 114, 116, 104]) || (s.toList == [122, 111, 110, 101]))) := rfl
    cases h1 : (s.toList == [110, 111, 110, 101]) <;> cases h2 : (s.toList == [98, 101, 114, 116, 104])
    all_goals
      rw [h1, h2] at HF
      go_enter Try.func76, Try.ntmps76
      go_wp2
      go_ret
      exact ⟨Pl.ret_bool (by rw [HF.out]; simp), rfl⟩

end Go.Proofs.Ytojcopamegmeeaa

namespace Go.Proofs.Ytojcopamegmeeaa
open Go.RowKit Go.Deep

theorem Pl.rules_args (kind : ByteArray) : ∀ r ∈ Pl.rulesOf kind, ∀ z ∈ r.args, 1 ≤ z ∧ z ≤ 6 := by
  unfold Pl.rulesOf
  split
  · decide
  · split
    · decide
    · split
      · decide
      · intro r hr; cases hr
theorem Pl.rules_len (kind : ByteArray) : (Pl.rulesOf kind).length ≤ 100 := by
  unfold Pl.rulesOf
  split
  · decide
  · split
    · decide
    · split <;> decide

set_option maxHeartbeats 1000000 in
/-- The closure: is it the rule of this key? -/
theorem keyIsI (x key : ByteArray) (v1 v3 : Value) (m : Bool) (B : Nat) (w : World) (hB : w.cell? ⟨B, 0, none⟩ = some (.string key)) (hlt : B < w.heap.size) :
    Calls Try.prog 84 #[.agg #[.string x, v1, .bool m, v3], .pointer (some ⟨B, 0, none⟩)] w fun e w' => e = .returned (.bool (x.toList == key.toList)) ∧ Below w.heap.size w w' := by
  have hne : B ≠ w.heap.size := by omega
  go_enter Try.func84, Try.ntmps84
  go_wp2
  go_ret
  refine ⟨rfl, ?_⟩
  repeat (first | exact Below.refl _ _ | refine blw_alloc ?_ _ | refine Below.drew ?_)

set_option maxRecDepth 8000 in
set_option maxHeartbeats 4000000 in
theorem ruleIxI (l : List Pl.Ru) (va : Option Addr) (vc : Nat) (key : ByteArray) (B : Nat) (w : World) (hl : l.length ≤ 100) (h : Raw w [.row 73 shSheetRule] [rulesD l] [.slice va l.length vc]) (hB : w.cell? ⟨B, 0, none⟩ = some (.string key)) (hBl : B < w.heap.size) :
    Calls Try.prog 83 #[.slice va l.length vc, .func (.func 84) #[] #[.pointer (some ⟨B, 0, none⟩)]] w fun e w' => e = .returned (.int .i64 (Pl.ixI (Pl.ruIx l key))) ∧ Below w.heap.size w w' := by
  have HR := uh h
  have HK := uh (And.intro hB hBl)
  clear h hB hBl
  go_enter Try.func83, Try.ntmps83
  go_wp2
  go_loopw [8] (fun i wr => ∃ k : Nat, k ≤ l.length ∧ i = .int .i64 k ∧ Pl.ruIx l key = Pl.ruIxF key (l.drop k) k ∧ Below w.heap.size w wr) (fun i _ => l.length - (intOf i).toNat)
  case atStart => exact ⟨0, Nat.zero_le _, rfl, rfl, Below.refl _ _⟩
  case round =>
    obtain ⟨k, hk, rfl, hI, hW⟩ := hrel
    have HI := uh hI
    have HW := uh hW
    clear hI hW
    by_cases hlt : k < l.length
    · obtain ⟨p, o, c, a1, c1, v3, hv, hp, hg, _, _⟩ := rule_at (HR.out.later HW.out) hlt
      injection hv with e1 _ e3
      subst e1; subst e3
      have y0 : wr.cell? ⟨p, o + k * 4, none⟩ = some (.string (l.getD k Pl.ruNo).key) := rA_get hg 0 _ rfl
      have y1 := rA_get hg 1 _ rfl
      have y2 := rA_get hg 2 _ rfl
      have y3 := rA_get hg 3 _ rfl
      have hk0 : (0 : Int) ≤ (k : Int) := by omega
      have hkn : (k : Int) < (l.length : Int) := by omega
      have HM := uh (fun h => Pl.ruIx_miss hlt HI.out h)
      have HH := uh (fun h => Pl.ruIx_hit hlt HI.out h)
      obtain ⟨x, hx⟩ : ∃ x, x = (l.getD k Pl.ruNo).key := ⟨_, rfl⟩
      obtain ⟨m, hm⟩ : ∃ m, m = (l.getD k Pl.ruNo).many := ⟨_, rfl⟩
      obtain ⟨n1, hn1⟩ : ∃ n1, n1 = (l.getD k Pl.ruNo).args.length := ⟨_, rfl⟩
      rw [← hx] at y0 HM HH
      rw [← hn1] at y1
      rw [← hm] at y2
      have HC := uh (keyIsI x key (.slice a1 n1 c1) v3 m B wr ((HW.out.cell (p := ⟨B, 0, none⟩) HK.out.2).trans HK.out.1) (Nat.lt_of_lt_of_le HK.out.2 HW.out.size))
      clear hx hm hn1 hg
      cases hq : (x.toList == key.toList)
      · have HX := uh (HM.out hq)
        rw [hq] at HC
        clear hq
        go_wp2_with fail
        refine HC.out.mono ?_
        rintro e w1 ⟨rfl, hb⟩
        go_wp2
        go_roundw
        case rel => exact ⟨k + 1, by omega, by go_num, HX.out, blw_trans HW.out hb⟩
        case measure => simp [intOf]; omega
      · have HX : Hid ((k : Int) = Pl.ixI (Pl.ruIx l key)) := by show _ = _; rw [HH.out hq]; rfl
        rw [hq] at HC
        clear hq
        go_wp2_with fail
        refine HC.out.mono ?_
        rintro e w1 ⟨rfl, hb⟩
        go_wp2
        go_ret
        exact ⟨Pl.ret_int HX.out, blw_trans HW.out hb⟩
    · obtain rfl : k = l.length := by omega
      have HX : Hid (-1 = Pl.ixI (Pl.ruIx l key)) := by show _ = _; rw [Pl.ruIx_end HI.out]; rfl
      go_wp2
      go_ret
      exact ⟨Pl.ret_int HX.out, HW.out⟩

set_option maxRecDepth 8000 in
set_option maxHeartbeats 8000000 in
theorem sheetTakesI (x : ByteArray) (m : Bool) (ag : List Int) (a1 : Option Addr) (c1 : Nat) (v3 : Value) (ws : List ByteArray) (wv : Value) (w : World) (hA : Raw w [.row 3 [.i]] [.row ag.length (ag.map .i)] [.slice a1 ag.length c1]) (hw : Raw w [.row 9 [.s]] [.row ws.length (txD ws)] [wv]) (hz : ∀ z ∈ ag, 1 ≤ z ∧ z ≤ 6) (hs : ∀ x ∈ ws, x.size ≤ maxLen) :
    Calls Try.prog 61 #[.agg #[.string x, .slice a1 ag.length c1, .bool m, v3], wv] w fun e w' => e = .returned (.bool (Pl.fitsW ag ws)) ∧ Below w.heap.size w w' := by
  obtain ⟨wa2, wc2, hwv⟩ := hw.len0
  subst hwv
  have HSZ := uh hs
  have HZ := uh hz
  by_cases hlen : ag.length = ws.length
  rotate_left
  · have hne : ((ws.length : Int) != (ag.length : Int)) = true := by simp; omega
    have HX : Hid (Pl.fitsW ag ws = false) := by show _ = _; rw [Pl.fitsW]; simp [hlen]
    clear hlen hA hw
    go_enter Try.func61, Try.ntmps61
    go_wp2
    go_ret
    rw [HX.out]
    exact ⟨rfl, blw_alloc (Below.refl _ _) _⟩
  have HX : Hid (Pl.fitsW ag ws = Pl.fitsA ag ws) := by show _ = _; rw [Pl.fitsW]; simp [hlen]
  rw [hlen] at hA ⊢
  obtain ⟨n, hn⟩ : ∃ n, n = ws.length := ⟨_, rfl⟩
  rw [← hn] at hA hw hlen ⊢
  have HLN : Hid (ag.length = n ∧ ws.length = n) := ⟨hlen, hn.symm⟩
  have HA := uh hA
  have HWN := uh hw
  have hne : ((n : Int) != (n : Int)) = false := by simp
  clear hn hlen hA hw hz hs
  go_enter Try.func61, Try.ntmps61
  go_wp2
  go_loop [16] (fun i => ∃ k : Nat, k ≤ n ∧ i = .int .i64 k ∧ Hid (Pl.fitsA ag ws = Pl.fitsA (ag.drop k) (ws.drop k))) (fun i => n - (intOf i).toNat)
  case atStart => exact ⟨0, Nat.zero_le _, rfl, rfl⟩
  case round =>
    obtain ⟨k, hk, rfl, HI⟩ := hrel
    by_cases hlt : k < n
    rotate_left
    · obtain rfl : k = n := by omega
      have HE : Hid (Pl.fitsW ag ws = true) := by
        show _ = _
        rw [HX.out, HI.out, List.drop_of_length_le (by have := HLN.out.1; omega), Pl.fitsA]
        intro _ _ _ _ h; cases h
      go_wp2
      go_ret
      rw [HE.out]
      exact ⟨rfl, blw_alloc (Below.refl _ _) _⟩
    have HS := uh (@Pl.fitsA_at ag ws k (by have := HLN.out.1; omega) (by have := HLN.out.2; omega))
    obtain ⟨z, hz⟩ : ∃ z, z = ag.getD k 0 := ⟨_, rfl⟩
    obtain ⟨y, hy⟩ : ∃ y, y = ws.getD k ⟨#[]⟩ := ⟨_, rfl⟩
    have hys : y.size ≤ maxLen := by
      have hkl : k < ws.length := by have := HLN.out.2; omega
      have e : ws.getD k ⟨#[]⟩ = ws[k] := by simp [hkl]
      rw [hy, e]; exact HSZ.out _ (List.getElem_mem hkl)
    have hzz : 1 ≤ z ∧ z ≤ 6 := by
      have hkl : k < ag.length := by have := HLN.out.1; omega
      have e : ag.getD k 0 = ag[k] := by simp [hkl]
      rw [hz, e]; exact HZ.out _ (List.getElem_mem hkl)
    have HCF := uh (fun W => sheetTypeFitsI z y W hys hzz)
    rcases HA.out.slice with ⟨e0, _⟩ | ⟨p1, o1, c1', hv1, hp1, _, vs1, hr1, hR1⟩
    · omega
    rcases HWN.out.slice with ⟨e0, _⟩ | ⟨p2, o2, c2', hv2, hp2, hml, vs2, hr2, hR2⟩
    · omega
    have hmx := hml.1
    unfold maxLen at hmx
    clear hml
    injection hv1 with g1 _ g3
    injection hv2 with k1 _ k3
    subst g1; subst g3; subst k1; subst k3
    obtain ⟨ve1, hE1, hg1⟩ := hR1.el hlt hr1
    obtain ⟨ve2, hE2, hg2⟩ := hR2.el hlt hr2
    have hel1 : el 1 k (ag.map Dt.i) = [.i z] := by rw [hz]; exact el_map1 0 Dt.i ag k (by have := HLN.out.1; omega)
    have hel2 : el 1 k (txD ws) = [.s y] := by rw [hy]; exact el_map1 ⟨#[]⟩ Dt.s ws k (by have := HLN.out.2; omega)
    have hE1' : Raw w [.i] [.i z] ve1 := by rw [← hel1]; exact hE1
    have hE2' : Raw w [.s] [.s y] ve2 := by rw [← hel2]; exact hE2
    obtain rfl := rawN1 hE1'
    obtain rfl := rawT1 hE2'
    have y1 : w.cell? ⟨p1, o1 + k, none⟩ = some (.int .i64 z) := by have := rA_get hg1 0 _ rfl; simpa using this
    have y2 : w.cell? ⟨p2, o2 + k, none⟩ = some (.string y) := by have := rA_get hg2 0 _ rfl; simpa using this
    have z1 : (w.alloc (.cells #[.string x, .slice (some ⟨p1, o1, none⟩) n c1, .bool m, v3] 73)).cell? ⟨p1, o1 + k, none⟩ = some (.int .i64 z) := ((blw_alloc (Below.refl _ _) _).cell (p := ⟨p1, o1 + k, none⟩) hp1).trans y1
    have z2 : (w.alloc (.cells #[.string x, .slice (some ⟨p1, o1, none⟩) n c1, .bool m, v3] 73)).cell? ⟨p2, o2 + k, none⟩ = some (.string y) := ((blw_alloc (Below.refl _ _) _).cell (p := ⟨p2, o2 + k, none⟩) hp2).trans y2
    clear y1 y2
    rw [← hz, ← hy] at HS
    obtain ⟨b, hbb⟩ : ∃ b, b = Pl.fitsT z y := ⟨_, rfl⟩
    rw [← hbb] at HS
    have HC : Hid (∀ W, Calls Try.prog 76 #[.int .i64 z, .string y] W fun e w' => e = .returned (.bool b) ∧ W = w') := by rw [hbb]; exact HCF.out
    have hk0 : (0 : Int) ≤ (k : Int) := by omega
    have hkn : (k : Int) < (n : Int) := by omega
    clear hR1 hR2 hr1 hr2 hE1 hE2 hE1' hE2' hel1 hel2 hg1 hg2 hz hy hbb HCF hp1 hp2 hys hzz
    cases b
    · have HE : Hid (Pl.fitsW ag ws = false) := by show _ = _; rw [HX.out, HI.out, HS.out]; rfl
      go_wp2_with (go_at_call 76; refine (HC.out _).mono ?_; rintro e w' ⟨rfl, rfl⟩)
      go_ret
      rw [HE.out]
      exact ⟨rfl, blw_alloc (Below.refl _ _) _⟩
    · have HN : Hid (Pl.fitsA ag ws = Pl.fitsA (ag.drop (k + 1)) (ws.drop (k + 1))) := by show _ = _; rw [HI.out, HS.out]; rfl
      go_wp2_with (go_at_call 76; refine (HC.out _).mono ?_; rintro e w' ⟨rfl, rfl⟩)
      go_round
      case rel => exact ⟨k + 1, by omega, by go_num, HN⟩
      case measure => simp [intOf]; omega


set_option maxRecDepth 8000 in
set_option maxHeartbeats 4000000 in
theorem placeI (l : List Pl.Ru) (va : Option Addr) (vc : Nat) (key : ByteArray) (w : World) (hl : l.length ≤ 100) (h : Raw w [.row 73 shSheetRule] [rulesD l] [.slice va l.length vc]) :
    Calls Try.prog 75 #[.agg #[.slice va l.length vc], .string key] w fun e w' => e = .returned (.int .i64 (Pl.ixI (Pl.ruIx l key))) ∧ Below w.heap.size w w' := by
  obtain ⟨wa, hwa⟩ : ∃ wa, wa = (w.alloc (.cells #[.slice va l.length vc] 81)).alloc (.cells #[.string key] 9) := ⟨_, rfl⟩
  have HB : Hid (Below w.heap.size w wa) := by show Below _ _ _; rw [hwa]; exact blw_alloc (blw_alloc (Below.refl _ _) _) _
  have x0 : wa.cell? ⟨w.heap.size, 0, none⟩ = some (.slice va l.length vc) := by rw [hwa]; exact ((LBox.new w #[.slice va l.length vc] 81 _ rfl).past _).get 0 _ rfl
  have HK : LBox wa (w.heap.size + 1) [.string key] := by rw [hwa]; exact LBox.new _ #[.string key] _ _ (by simp)
  have HC := uh (ruleIxI l va vc key (w.heap.size + 1) wa hl (h.later HB.out) (HK.get 0 _ rfl) HK.lt)
  have z : w.heap.size < wa.heap.size := by rw [hwa]; simp; omega
  clear h HK
  go_enter Try.func75, Try.ntmps75
  go_upto_region 1 with fail
  rw [← hwa]
  clear hwa
  go_wp2_with (go_at_call 83; refine HC.out.mono ?_; rintro e w' ⟨rfl, hb⟩)
  go_ret
  exact ⟨rfl, blw_trans HB.out hb⟩

/-- What 'rule' answers. -/
def RuAns (l : List Pl.Ru) (key : ByteArray) (W : World) (e : Ending) : Prop := match Pl.ruIx l key with
  | none => e = .returned (.tuple #[.agg #[.string ⟨#[]⟩, .slice none 0 0, .bool false, .slice none 0 0], .bool false])
  | some j => ∃ a1 c1 a3 c3, e = .returned (.tuple #[.agg #[.string (l.getD j Pl.ruNo).key, .slice a1 (l.getD j Pl.ruNo).args.length c1, .bool (l.getD j Pl.ruNo).many, .slice a3 (l.getD j Pl.ruNo).dflt.length c3], .bool true]) ∧
      Raw W [.row 3 [.i]] [.row (l.getD j Pl.ruNo).args.length ((l.getD j Pl.ruNo).args.map .i)] [.slice a1 (l.getD j Pl.ruNo).args.length c1] ∧
      Raw W [.row 9 [.s]] [.row (l.getD j Pl.ruNo).dflt.length (txD (l.getD j Pl.ruNo).dflt)] [.slice a3 (l.getD j Pl.ruNo).dflt.length c3]

set_option maxRecDepth 8000 in
set_option maxHeartbeats 8000000 in
theorem ruleJ (l : List Pl.Ru) (va : Option Addr) (vc : Nat) (key : ByteArray) (w0 w : World) (hw0 : Below w0.heap.size w0 w) (hl : l.length ≤ 100) (h : Raw w0 [.row 73 shSheetRule] [rulesD l] [.slice va l.length vc]) :
    Calls Try.prog 60 #[.agg #[.slice va l.length vc], .string key] w fun e w' => RuAns l key w0 e ∧ Below w.heap.size w w' := by
  obtain ⟨wa, hwa⟩ : ∃ wa, wa = (w.alloc (.cells #[.slice va l.length vc] 81)).alloc (.cells #[.string ⟨#[]⟩, .slice none 0 0, .bool false, .slice none 0 0] 73) := ⟨_, rfl⟩
  have HB : Hid (Below w.heap.size w wa) := by show Below _ _ _; rw [hwa]; exact blw_alloc (blw_alloc (Below.refl _ _) _) _
  have HK : LBox wa w.heap.size [.slice va l.length vc] := by rw [hwa]; exact (LBox.new w #[.slice va l.length vc] 81 _ rfl).past _
  have HRB : Hid (WBox wa (w.heap.size + 1) 73 [.string ⟨#[]⟩, .slice none 0 0, .bool false, .slice none 0 0]) := by show WBox _ _ _ _; rw [hwa]; exact WBox.new (w.alloc (.cells #[.slice va l.length vc] 81)) [.string ⟨#[]⟩, .slice none 0 0, .bool false, .slice none 0 0] 73 _ (by simp)
  have HC := uh (placeI l va vc key wa hl (h.later (blw_trans hw0 HB.out)))
  have HR := uh h
  have HW0 := uh hw0
  have HKK := uh HK
  have x0 := HK.get 0 _ rfl
  have xl := HK.lt
  obtain ⟨b0, hb0⟩ : ∃ b0, b0 = w.heap.size := ⟨_, rfl⟩
  have HBZ := uh hb0
  clear h HK hw0
  go_enter Try.func60, Try.ntmps60
  go_upto_region 1 with fail
  rw [← hwa]
  clear hwa
  rw [← hb0] at HRB HKK x0 xl
  rw [← hb0]
  clear hb0
  go_wp2_with fail
  refine HC.out.mono ?_
  rintro e w1 ⟨rfl, hb⟩
  have x1 := (HKK.out.later hb).get 0 _ rfl
  have xl1 := (HKK.out.later hb).lt
  have HR1 := uh (HRB.out.later hb)
  have HB1 : Hid (Below w.heap.size w w1) := blw_trans HB.out hb
  clear hb HC HRB HKK x0 xl
  cases hix : Pl.ruIx l key with
  | none =>
    have hmi : Pl.ixI none = -1 := rfl
    rw [hmi]
    clear hmi
    have HX : Hid (∀ e, e = .returned (.tuple #[.agg #[.string ⟨#[]⟩, .slice none 0 0, .bool false, .slice none 0 0], .bool false]) → RuAns l key w0 e) := fun e he => by unfold RuAns; rw [hix]; exact he
    have hth1 : w1.there (b0 + 1) 0 (#[.string ⟨#[]⟩, .slice none 0 0, .bool false, .slice none 0 0] : Array Value).size := uthere (HR1.out).own _ _ (by simp)
    obtain ⟨we1, hwe1⟩ : ∃ we1, we1 = w1.setCells (b0 + 1) 0 [.string ⟨#[]⟩, .slice none 0 0, .bool false, .slice none 0 0] := ⟨_, rfl⟩
    have HW1 := uh hwe1
    have hr1 : we1.rangeAt (b0 + 1) 0 [.string ⟨#[]⟩, .slice none 0 0, .bool false, .slice none 0 0] := by rw [hwe1]; exact World.rangeAt_setCells_same _ _ _ _ hth1
    clear hwe1 hix
    go_wp2_with (refine wpList_store_mid rfl 73 _ _ rfl (b0 + 1) 0 #[.string ⟨#[]⟩, .slice none 0 0, .bool false, .slice none 0 0] rfl rfl hth1 (by kernel_rfl) (by simp [Value.oneCell']) ?_; first | rw [← HW1.out] | (simp only [List.toList_toArray]; rw [← HW1.out]))
    try simp only [Act.put, List.setIfInBounds_toArray, List.set_cons_zero, List.set_cons_succ]
    refine bodyPost_ret (v := .tuple #[.agg #[.string ⟨#[]⟩, .slice none 0 0, .bool false, .slice none 0 0], .bool false]) (by simp [results, Try.results60, asAddr, run_loadVar_mid (P := Try.prog) _ _ _ 73 [.string ⟨#[]⟩, .slice none 0 0, .bool false, .slice none 0 0] _ hr1 Try.underlying73 rfl (by kernel_rfl)]) rfl ?_
    rw [HW1.out]
    exact ⟨HX.out _ rfl, blw_scs (by have := HBZ.out; omega) _ _ _ HB1.out⟩
  | some j =>
    have hj := Pl.ruIx_lt hix
    have hmi : Pl.ixI (some j) = (j : Int) := rfl
    rw [hmi]
    clear hmi
    have hj0 : (0 : Int) ≤ (j : Int) := by omega
    have hjn : (j : Int) < (l.length : Int) := by omega
    obtain ⟨p, o, c, a1, c1, v3, hv, hp, hg, hA, hD⟩ := rule_at HR.out hj
    injection hv with e1 _ e3
    subst e1; subst e3
    obtain ⟨a3, c3, e5⟩ := hD.len0
    subst e5
    have HX : Hid (∀ e, e = .returned (.tuple #[.agg #[.string (l.getD j Pl.ruNo).key, .slice a1 (l.getD j Pl.ruNo).args.length c1, .bool (l.getD j Pl.ruNo).many, .slice a3 (l.getD j Pl.ruNo).dflt.length c3], .bool true]) → RuAns l key w0 e) := fun e he => by unfold RuAns; rw [hix]; exact ⟨_, _, _, _, he, hA, hD⟩
    have HG := uh (rA_later hg hp (blw_trans HW0.out HB1.out))
    clear hg hA hD hix
    obtain ⟨r0, h0⟩ : ∃ r0, r0 = (l.getD j Pl.ruNo).key := ⟨_, rfl⟩
    obtain ⟨n1, h1⟩ : ∃ n1, n1 = (l.getD j Pl.ruNo).args.length := ⟨_, rfl⟩
    obtain ⟨m, h2⟩ : ∃ m, m = (l.getD j Pl.ruNo).many := ⟨_, rfl⟩
    obtain ⟨n3, h3⟩ : ∃ n3, n3 = (l.getD j Pl.ruNo).dflt.length := ⟨_, rfl⟩
    rw [← h0, ← h1, ← h2, ← h3] at HX HG
    clear h0 h1 h2 h3
    have hth1 : w1.there (b0 + 1) 0 (#[.string r0, .slice a1 n1 c1, .bool m, .slice a3 n3 c3] : Array Value).size := uthere (HR1.out).own _ _ (by simp)
    obtain ⟨we1, hwe1⟩ : ∃ we1, we1 = w1.setCells (b0 + 1) 0 [.string r0, .slice a1 n1 c1, .bool m, .slice a3 n3 c3] := ⟨_, rfl⟩
    have HW1 := uh hwe1
    have hr1 : we1.rangeAt (b0 + 1) 0 [.string r0, .slice a1 n1 c1, .bool m, .slice a3 n3 c3] := by rw [hwe1]; exact World.rangeAt_setCells_same _ _ _ _ hth1
    clear hwe1
    go_wp2_with (first | (refine wpList_load_mid rfl 73 _ rfl p (o + j * 4) rfl [.string r0, .slice a1 n1 c1, .bool m, .slice a3 n3 c3] _ HG.out Try.underlying73 rfl (by kernel_rfl) ?_) | (refine wpList_store_mid rfl 73 _ _ rfl (b0 + 1) 0 #[.string r0, .slice a1 n1 c1, .bool m, .slice a3 n3 c3] rfl rfl hth1 (by kernel_rfl) (by simp [Value.oneCell']) ?_; first | rw [← HW1.out] | (simp only [List.toList_toArray]; rw [← HW1.out])))
    try simp only [Act.put, List.setIfInBounds_toArray, List.set_cons_zero, List.set_cons_succ]
    refine bodyPost_ret (v := .tuple #[.agg #[.string r0, .slice a1 n1 c1, .bool m, .slice a3 n3 c3], .bool true]) (by simp [results, Try.results60, asAddr, run_loadVar_mid (P := Try.prog) _ _ _ 73 [.string r0, .slice a1 n1 c1, .bool m, .slice a3 n3 c3] _ hr1 Try.underlying73 rfl (by kernel_rfl)]) rfl ?_
    rw [HW1.out]
    exact ⟨HX.out _ rfl, blw_scs (by have := HBZ.out; omega) _ _ _ HB1.out⟩

theorem ruleI (l : List Pl.Ru) (va : Option Addr) (vc : Nat) (key : ByteArray) (w : World) (hl : l.length ≤ 100) (h : Raw w [.row 73 shSheetRule] [rulesD l] [.slice va l.length vc]) :
    Calls Try.prog 60 #[.agg #[.slice va l.length vc], .string key] w fun e w' => RuAns l key w e ∧ Below w.heap.size w w' := ruleJ l va vc key w w (Below.refl _ _) hl h

theorem tx_small : ∀ (ws : List ByteArray) (n : Nat), wtL (txD ws) ≤ n → ∀ x ∈ ws, x.size ≤ n
  | [], _, _, x, h => by cases h
  | y :: ws, n, h, x, hx => by
    have h' : y.size + wtL (txD ws) ≤ n := by
      have e : wtL (txD (y :: ws)) = y.size + wtL (txD ws) := by rw [txD, List.map_cons, wtL]; rfl
      omega
    rcases List.mem_cons.1 hx with rfl | q
    · omega
    · exact tx_small ws n (by omega) x q
end Go.Proofs.Ytojcopamegmeeaa

namespace Go.Proofs.Ytojcopamegmeeaa
open Go.RowKit Go.Deep

def keyCmp (a b : ByteArray) : Int := if Pl.txLt a b then -1 else if a.toList == b.toList then 0 else 1
def numCmp (a b : Int) : Int := if a < b then -1 else if b < a then 1 else 0
def firstNZ : List Int → Int
  | [] => 0
  | x :: l => if x = 0 then firstNZ l else x
def pick2 (x y : Int) : Int := if x = 0 then y else x

theorem firstNZ_drop (l : List Int) (k : Nat) (hk : k < l.length) : firstNZ (l.drop k) = if l.getD k 0 = 0 then firstNZ (l.drop (k + 1)) else l.getD k 0 := by
  have e : l.drop k = l[k] :: l.drop (k + 1) := List.drop_eq_getElem_cons hk
  have e2 : l.getD k 0 = l[k] := by simp [hk]
  rw [e, e2]; rfl

set_option maxHeartbeats 400000 in
theorem isNaNs (a : ByteArray) (w : World) : Calls Try.prog 74 #[.string a] w fun e w' => e = .returned (.bool false) ∧ w = w' := by
  go_enter Try.func74, Try.ntmps74
  go_wp2
  go_ret
  exact ⟨Pl.ret_bool (by simp), rfl⟩

set_option maxHeartbeats 400000 in
theorem isNaNi (a : Int) (w : World) : Calls Try.prog 87 #[.int .i64 a] w fun e w' => e = .returned (.bool false) ∧ w = w' := by
  go_enter Try.func87, Try.ntmps87
  go_wp2
  go_ret
  exact ⟨Pl.ret_bool (by simp), rfl⟩

set_option maxHeartbeats 1000000 in
theorem cmpS (a b : ByteArray) (w : World) : Calls Try.prog 57 #[.string a, .string b] w fun e w' => e = .returned (.int .i64 (keyCmp a b)) ∧ w = w' := by
  obtain ⟨R, hR⟩ : ∃ R, R = keyCmp a b := ⟨_, rfl⟩
  have HR : Hid (R = keyCmp a b) := hR
  rw [← hR]
  clear hR
  go_enter Try.func57, Try.ntmps57
  cases h1 : Op.bytesLess a.toList b.toList <;> cases h2 : (a.toList == b.toList)
  all_goals
    have HE : Hid (R = if Op.bytesLess a.toList b.toList = true then (-1 : Int) else if (a.toList == b.toList) = true then 0 else 1) := HR.out
    have HE' : Hid (Op.bytesLess a.toList b.toList = _ ∧ (a.toList == b.toList) = _) := ⟨h1, h2⟩
    go_wp2_with (go_at_call 74; refine (isNaNs _ _).mono ?_; rintro e w' ⟨rfl, rfl⟩)
    go_ret
    exact ⟨Pl.ret_int (by rw [HE.out, HE'.out.1, HE'.out.2]; rfl), rfl⟩

set_option maxHeartbeats 1000000 in
theorem cmpI (a b : Int) (w : World) : Calls Try.prog 77 #[.int .i64 a, .int .i64 b] w fun e w' => e = .returned (.int .i64 (numCmp a b)) ∧ w = w' := by
  obtain ⟨R, hR⟩ : ∃ R, R = numCmp a b := ⟨_, rfl⟩
  have HR : Hid (R = numCmp a b) := hR
  rw [← hR]
  clear hR
  go_enter Try.func77, Try.ntmps77
  by_cases h1 : a < b
  · have HE : Hid (R = -1) := by show R = _; rw [HR.out]; unfold numCmp; rw [if_pos h1]
    go_wp2_with (go_at_call 87; refine (isNaNi _ _).mono ?_; rintro e w' ⟨rfl, rfl⟩)
    go_ret
    exact ⟨Pl.ret_int HE.out.symm, rfl⟩
  · by_cases h2 : b < a
    · have HE : Hid (R = 1) := by show R = _; rw [HR.out]; unfold numCmp; rw [if_neg h1, if_pos h2]
      go_wp2_with (go_at_call 87; refine (isNaNi _ _).mono ?_; rintro e w' ⟨rfl, rfl⟩)
      go_ret
      exact ⟨Pl.ret_int HE.out.symm, rfl⟩
    · have HE : Hid (R = 0) := by show R = _; rw [HR.out]; unfold numCmp; rw [if_neg h1, if_neg h2]
      go_wp2_with (go_at_call 87; refine (isNaNi _ _).mono ?_; rintro e w' ⟨rfl, rfl⟩)
      go_ret
      exact ⟨Pl.ret_int HE.out.symm, rfl⟩

set_option maxHeartbeats 1000000 in
theorem cmpOr (g c : Nat) (l : List Int) (w : World) (hl : l.length ≤ 1048576) (hc : ∀ i, i < l.length → w.cell? ⟨g, i, none⟩ = some (.int .i64 (l.getD i 0))) :
    Calls Try.prog 56 #[.slice (some ⟨g, 0, none⟩) l.length c] w fun e w' => e = .returned (.int .i64 (firstNZ l)) ∧ w = w' := by
  obtain ⟨R, hR⟩ : ∃ R, R = firstNZ l := ⟨_, rfl⟩
  have HR : Hid (R = firstNZ l) := hR
  rw [← hR]
  clear hR
  go_enter Try.func56, Try.ntmps56
  go_wp2
  go_loop [8] (fun i => ∃ k : Nat, k ≤ l.length ∧ i = .int .i64 k ∧ R = firstNZ (l.drop k)) (fun i => l.length - (intOf i).toNat)
  case atStart => exact ⟨0, Nat.zero_le _, rfl, HR.out⟩
  case round =>
    obtain ⟨k, hk, rfl, hq⟩ := hrel
    have HQ : Hid (R = firstNZ (l.drop k)) := hq
    clear hq
    by_cases hlt : k < l.length
    · have hck := hc k hlt
      obtain ⟨y, hy⟩ : ∃ y, y = l.getD k 0 := ⟨_, rfl⟩
      rw [← hy] at hck
      have HY : Hid (R = if y = 0 then firstNZ (l.drop (k + 1)) else y) := by show R = _; rw [HQ.out, firstNZ_drop l k hlt, hy]
      clear hy hc
      by_cases hz : y = 0
      · have HE : Hid (R = firstNZ (l.drop (k + 1))) := by show R = _; rw [HY.out, if_pos hz]
        go_wp2
        go_round
        case rel => exact ⟨k + 1, by omega, by go_num, HE.out⟩
        case measure => simp [intOf]; omega
      · have HE : Hid (R = y) := by show R = _; rw [HY.out, if_neg hz]
        go_wp2
        go_ret
        exact ⟨Pl.ret_int HE.out.symm, rfl⟩
    · have HE : Hid (R = 0) := by show R = _; rw [HQ.out, List.drop_eq_nil_of_le (by omega)]; rfl
      go_wp2
      go_ret
      exact ⟨Pl.ret_int HE.out.symm, rfl⟩

theorem nz2 (x y : Int) : firstNZ [x, y] = pick2 x y := by
  unfold firstNZ pick2; split
  · unfold firstNZ; split
    · rename_i h; rw [h]; rfl
    · rfl
  · rfl

theorem cmpOr2 (g c : Nat) (x y : Int) (w : World) (h0 : w.cell? ⟨g, 0, none⟩ = some (.int .i64 x)) (h1 : w.cell? ⟨g, 1, none⟩ = some (.int .i64 y)) :
    Calls Try.prog 56 #[.slice (some ⟨g, 0, none⟩) 2 c] w fun e w' => e = .returned (.int .i64 (pick2 x y)) ∧ w = w' := by
  have := cmpOr g c [x, y] w (by simp) (fun i hi => by
    match i, hi with
    | 0, _ => exact h0
    | 1, _ => exact h1
    | n + 2, h => simp at h; omega)
  rw [nz2] at this
  exact this

/-- A region that draws its order: a head that leaves the world, then a tail that is forced. -/
theorem region_tail {P : Program} {id : Nat} {Q : Exit → Act → World → Prop} {a : Act} {w : World} {l : List Oper} (n : Nat) (hm : P.follows .mixedOrders = true) (hB : Region.lexTailB .any l.toArray n = true)
    (h : ∀ W, W = w.drew → wpStill P l.toArray W (fun a' => wpList P l.toArray Q (l.drop n) a' W) (l.take n) a) : (Code.region id l.toArray true).wp P Q a w :=
  wp_region_still_tail n hm hB (h _ rfl)

theorem cmpS' (a b : ByteArray) (w : World) : Calls Try.prog 57 #[.string a, .string b] w fun e w' => e = .returned (.int .i64 (keyCmp a b)) ∧ w' = w := (cmpS a b w).mono (fun _ _ h => ⟨h.1, h.2.symm⟩)

theorem wrapI (n : Int) (h0 : 0 ≤ n) (h1 : n ≤ 9223372036854775807) : IntKind.i64.wrap n = n := by
  simp [IntKind.wrap, IntKind.bits, IntKind.signed]; omega

def cmpBl (x y : Pl.Bl) : Int := pick2 (keyCmp x.kind y.kind) (keyCmp x.name y.name)
set_option maxRecDepth 8000 in
set_option maxHeartbeats 2000000 in
theorem cmpBlI (k0 k1 j0 j1 : ByteArray) (p2 q2 : Value) (w : World) : Calls Try.prog 36 #[.agg #[.string k0, .string k1, p2], .agg #[.string j0, .string j1, q2]] w fun e w' => e = .returned (.int .i64 (pick2 (keyCmp k0 j0) (keyCmp k1 j1))) ∧ Below w.heap.size w w' := by
  obtain ⟨wa, hwa⟩ : ∃ wa, wa = (w.alloc (.cells #[.string k0, .string k1, p2] 42)).alloc (.cells #[.string j0, .string j1, q2] 42) := ⟨_, rfl⟩
  have HB : Hid (Below w.heap.size w wa.drew) := by show Below _ _ _; rw [hwa]; exact Below.drew (blw_alloc (blw_alloc (Below.refl _ _) _) _)
  have x0 : ∀ j, wa.drew.cell? ⟨w.heap.size, j, none⟩ = (#[.string k0, .string k1, p2] : Array Value)[j]? := fun j => by
    show wa.cell? _ = _
    rw [hwa]; exact (World.cell?_alloc_past _ _ _ (by simp)).trans (World.cell?_alloc_at _ _ _ _ rfl)
  have x1 : ∀ j, wa.drew.cell? ⟨w.heap.size + 1, j, none⟩ = (#[.string j0, .string j1, q2] : Array Value)[j]? := fun j => by
    show wa.cell? _ = _
    rw [hwa]; exact (World.cell?_alloc_at _ _ _ _ (by simp))
  have z : w.heap.size + 1 < wa.drew.heap.size := by show _ < wa.heap.size; rw [hwa]; simp
  go_enter Try.func36, Try.ntmps36
  go_upto_region 1 with fail
  rw [← hwa]
  refine region_tail 10 (by kernel_rfl) (by kernel_rfl) ?_
  intro W hW
  rw [← hW] at HB x0 x1 z
  simp only [List.take_succ_cons, List.take_zero, List.drop_succ_cons, List.drop_zero]
  have a0 := x0 0
  have b0 := x1 0
  have a1 := x0 1
  have b1 := x1 1
  simp at a0 b0 a1 b1
  clear x0 x1 hwa hW
  still_step
  still_step
  still_step
  still_step
  still_call (cmpS' _ _ _)
  still_step
  still_step
  still_step
  still_step
  still_call (cmpS' _ _ _)
  refine wpStill_nil ?_
  go_wp2_with (go_at_call 56; refine (cmpOr2 _ _ (keyCmp k0 j0) (keyCmp k1 j1) _ (by simp) (by simp)).mono ?_; rintro e w' ⟨rfl, rfl⟩)
  go_ret
  exact ⟨rfl, blw_alloc HB.out _⟩

/-- Words, one after the other. -/
def cmpW : List ByteArray → List ByteArray → Int
  | [], [] => 0
  | [], _ :: _ => -1
  | _ :: _, [] => 1
  | a :: x, b :: y => if keyCmp a b = 0 then cmpW x y else keyCmp a b
theorem cmpW_at {A B : List ByteArray} {k : Nat} (h1 : k < A.length) (h2 : k < B.length) : cmpW (A.drop k) (B.drop k) = if keyCmp (A.getD k Pl.txNo) (B.getD k Pl.txNo) = 0 then cmpW (A.drop (k + 1)) (B.drop (k + 1)) else keyCmp (A.getD k Pl.txNo) (B.getD k Pl.txNo) := by
  have e1 : A.getD k Pl.txNo = A[k] := by simp [h1]
  have e2 : B.getD k Pl.txNo = B[k] := by simp [h2]
  rw [List.drop_eq_getElem_cons h1, List.drop_eq_getElem_cons h2, cmpW, e1, e2]
theorem cmpW_long {A B : List ByteArray} {k : Nat} (h1 : k < A.length) (h2 : B.length ≤ k) : cmpW (A.drop k) (B.drop k) = 1 := by
  rw [List.drop_eq_getElem_cons h1, List.drop_of_length_le h2]; rfl
theorem cmpW_end {A B : List ByteArray} {k : Nat} (h1 : A.length ≤ k) (h2 : k < B.length) : cmpW (A.drop k) (B.drop k) = -1 := by
  rw [List.drop_eq_getElem_cons h2, List.drop_of_length_le h1]; rfl
theorem cmpW_same {A B : List ByteArray} {k : Nat} (h1 : A.length ≤ k) (h2 : B.length ≤ k) : cmpW (A.drop k) (B.drop k) = 0 := by
  rw [List.drop_of_length_le h2, List.drop_of_length_le h1]; rfl

set_option maxRecDepth 8000 in
set_option maxHeartbeats 4000000 in
theorem cmpWsI (A B : List ByteArray) (va vb : Value) (w : World) (hA : Raw w shTxs [.row A.length (txD A)] [va]) (hB : Raw w shTxs [.row B.length (txD B)] [vb]) :
    Calls Try.prog 78 #[va, vb] w fun e w' => e = .returned (.int .i64 (cmpW A B)) ∧ w = w' := by
  obtain ⟨a1, c1, rfl⟩ := hA.len0
  obtain ⟨a2, c2, rfl⟩ := hB.len0
  obtain ⟨R, hR⟩ : ∃ R, R = cmpW A B := ⟨_, rfl⟩
  have HR : Hid (R = cmpW A B) := hR
  rw [← hR]
  have HA := uh (txs_open hA)
  have HB := uh (txs_open hB)
  obtain ⟨n, hn⟩ : ∃ n, n = A.length := ⟨_, rfl⟩
  obtain ⟨m, hm⟩ : ∃ m, m = B.length := ⟨_, rfl⟩
  rw [← hn] at HA
  rw [← hm] at HB
  rw [← hn, ← hm]
  have HN := uh (And.intro hn hm)
  have hnm : n ≤ maxLen := by
    rcases HA.out with h | ⟨_, _, _, _, _, h, _⟩
    · omega
    · exact h
  unfold maxLen at hnm
  clear hR hA hB hn hm
  go_enter Try.func78, Try.ntmps78
  go_wp2
  go_loop [11] (fun i => ∃ k : Nat, k ≤ n ∧ k ≤ m ∧ i = .int .i64 k ∧ Hid (R = cmpW (A.drop k) (B.drop k))) (fun i => n - (intOf i).toNat)
  case atStart => exact ⟨0, Nat.zero_le _, Nat.zero_le _, rfl, HR⟩
  case round =>
    obtain ⟨k, hk, hkm, rfl, HI⟩ := hrel
    by_cases hlt : k < n
    rotate_left
    · obtain rfl : k = n := by omega
      by_cases hlm : k < m
      · have HE : Hid (R = -1) := by show R = _; rw [HI.out]; exact cmpW_end (by rw [← HN.out.1]; exact Nat.le_refl _) (by rw [← HN.out.2]; exact hlm)
        go_wp2
        go_ret
        exact ⟨Pl.ret_int HE.out.symm, rfl⟩
      · have HE : Hid (R = 0) := by show R = _; rw [HI.out]; exact cmpW_same (by rw [← HN.out.1]; exact Nat.le_refl _) (by rw [← HN.out.2]; omega)
        go_wp2
        go_ret
        exact ⟨Pl.ret_int HE.out.symm, rfl⟩
    rcases HA.out with ⟨e0, _⟩ | ⟨p, o, c, hv, hp, _, hc⟩
    · omega
    injection hv with g1 _ g3
    subst g1; subst g3
    have x0 := hc k hlt
    have hk0 : (0 : Int) ≤ (k : Int) := by omega
    have hkn : (k : Int) < (n : Int) := by omega
    by_cases hlm : k < m
    rotate_left
    · have HE : Hid (R = 1) := by show R = _; rw [HI.out]; exact cmpW_long (by rw [← HN.out.1]; exact hlt) (by rw [← HN.out.2]; omega)
      go_wp2
      go_ret
      exact ⟨Pl.ret_int HE.out.symm, rfl⟩
    rcases HB.out with ⟨e0, _⟩ | ⟨p2, o2, c2', hv2, hp2, _, hc2⟩
    · omega
    injection hv2 with k1 _ k3
    subst k1; subst k3
    have y0 := hc2 k hlm
    have hkm2 : (k : Int) < (m : Int) := by omega
    have HS : Hid _ := uh (cmpW_at (A := A) (B := B) (k := k) (by rw [← HN.out.1]; exact hlt) (by rw [← HN.out.2]; exact hlm))
    obtain ⟨x, hx⟩ : ∃ x, x = A.getD k Pl.txNo := ⟨_, rfl⟩
    obtain ⟨y, hy⟩ : ∃ y, y = B.getD k Pl.txNo := ⟨_, rfl⟩
    rw [← hx] at HS x0
    rw [← hy] at HS y0
    obtain ⟨r, hr⟩ : ∃ r, r = keyCmp x y := ⟨_, rfl⟩
    have HC : Hid (∀ W, Calls Try.prog 57 #[.string x, .string y] W fun e w' => e = .returned (.int .i64 r) ∧ W = w') := fun W => by rw [hr]; exact cmpS x y W
    rw [← hr] at HS
    clear hx hy hr hc hc2 hp hp2
    by_cases hz : r = 0
    · have HE : Hid (R = cmpW (A.drop (k + 1)) (B.drop (k + 1))) := by show R = _; rw [HI.out, HS.out, if_pos hz]
      subst hz
      go_wp2_with (go_at_call 57; refine (HC.out _).mono ?_; rintro e w' ⟨rfl, rfl⟩)
      go_round
      case rel => exact ⟨k + 1, by omega, by omega, by go_num, HE⟩
      case measure => simp [intOf]; omega
    · have HE : Hid (R = r) := by show R = _; rw [HI.out, HS.out, if_neg hz]
      have hb : ((r : Int) != 0) = true := by simp [hz]
      go_wp2_with (go_at_call 57; refine (HC.out _).mono ?_; rintro e w' ⟨rfl, rfl⟩)
      go_ret
      exact ⟨Pl.ret_int HE.out.symm, rfl⟩

end Go.Proofs.Ytojcopamegmeeaa

namespace Go.Proofs.Ytojcopamegmeeaa
open Go.RowKit Go.Deep

def cmpLn (l : List Pl.Ru) (x y : Pl.Ln) : Int := pick2 (numCmp (Pl.ixI (Pl.ruIx l x.key)) (Pl.ixI (Pl.ruIx l y.key))) (cmpW x.ws y.ws)
def VCl9 (b0 : Nat) (vc : Nat) (c1 : Nat) (c2 : Nat) (va : Option Addr) (a1 : Option Addr) (a2 : Option Addr) (l : List Pl.Ru) (x : Pl.Ln) (y : Pl.Ln) : Nat → Value → World → Prop
  | 0, vv, _ => vv = .agg #[.slice va l.length vc]
  | 1, vv, _ => vv = .pointer (some ⟨(b0 + 1), 0, none⟩)
  | 2, vv, _ => vv = .string x.key
  | 3, vv, _ => vv = .int .i64 (Pl.ixI (Pl.ruIx l x.key))
  | 4, vv, _ => vv = .agg #[.slice va l.length vc]
  | 5, vv, _ => vv = .pointer (some ⟨(b0 + 2), 0, none⟩)
  | 6, vv, _ => vv = .string y.key
  | 7, vv, _ => vv = .int .i64 (Pl.ixI (Pl.ruIx l y.key))
  | 8, vv, _ => vv = .int .i64 (numCmp (Pl.ixI (Pl.ruIx l x.key)) (Pl.ixI (Pl.ruIx l y.key)))
  | 9, vv, _ => vv = .pointer (some ⟨(b0 + 1), 1, none⟩)
  | 10, vv, _ => vv = .slice a1 x.ws.length c1
  | 11, vv, _ => vv = .pointer (some ⟨(b0 + 2), 1, none⟩)
  | 12, vv, _ => vv = .slice a2 y.ws.length c2
  | 13, vv, _ => vv = .int .i64 (cmpW x.ws y.ws)
  | 14, vv, W => ∃ g, vv = .slice (some ⟨g, 0, none⟩) 2 2 ∧ W.cell? ⟨g, 0, none⟩ = some (.int .i64 (numCmp (Pl.ixI (Pl.ruIx l x.key)) (Pl.ixI (Pl.ruIx l y.key)))) ∧ W.cell? ⟨g, 1, none⟩ = some (.int .i64 (cmpW x.ws y.ws)) ∧ g < W.heap.size
  | 15, vv, _ => vv = .int .i64 (cmpLn l x y)
  | 16, vv, _ => vv = .int .i64 (cmpLn l x y)
  | _, _, _ => True
theorem VCl9_mono (b0 : Nat) (vc : Nat) (c1 : Nat) (c2 : Nat) (va : Option Addr) (a1 : Option Addr) (a2 : Option Addr) (l : List Pl.Ru) (x : Pl.Ln) (y : Pl.Ln) : ∀ jj vv W W', Below W.heap.size W W' → VCl9 b0 vc c1 c2 va a1 a2 l x y jj vv W → VCl9 b0 vc c1 c2 va a1 a2 l x y jj vv W' := by
  intro jj vv W W' hb h
  match jj with
  | 0 => exact h
  | 1 => exact h
  | 2 => exact h
  | 3 => exact h
  | 4 => exact h
  | 5 => exact h
  | 6 => exact h
  | 7 => exact h
  | 8 => exact h
  | 9 => exact h
  | 10 => exact h
  | 11 => exact h
  | 12 => exact h
  | 13 => exact h
  | 14 =>
    obtain ⟨g, h1, h2, h3, h4⟩ := h
    exact ⟨g, h1, (hb.cell (p := ⟨g, 0, none⟩) h4).trans h2, (hb.cell (p := ⟨g, 1, none⟩) h4).trans h3, Nat.lt_of_lt_of_le h4 hb.size⟩
  | 15 => exact h
  | 16 => exact h
  | n + 17 => exact trivial

set_option maxRecDepth 8000 in
set_option maxHeartbeats 8000000 in
theorem cmpLnI (l : List Pl.Ru) (va : Option Addr) (vc : Nat) (x y : Pl.Ln) (a1 a2 : Option Addr) (c1 c2 : Nat) (w : World) (hl : l.length ≤ 100) (h : Raw w [.row 73 shSheetRule] [rulesD l] [.slice va l.length vc]) (hx : Raw w shTxs [.row x.ws.length (txD x.ws)] [.slice a1 x.ws.length c1]) (hy : Raw w shTxs [.row y.ws.length (txD y.ws)] [.slice a2 y.ws.length c2]) :
    Calls Try.prog 64 #[.agg #[.slice va l.length vc], .agg #[.string x.key, .slice a1 x.ws.length c1], .agg #[.string y.key, .slice a2 y.ws.length c2]] w fun e w' => e = .returned (.int .i64 (cmpLn l x y)) ∧ Below w.heap.size w w' := by
  obtain ⟨wa, hwa⟩ : ∃ wa, wa = ((w.alloc (.cells #[.slice va l.length vc] 81)).alloc (.cells #[.string x.key, .slice a1 x.ws.length c1] 69)).alloc (.cells #[.string y.key, .slice a2 y.ws.length c2] 69) := ⟨_, rfl⟩
  obtain ⟨b0, hb0⟩ : ∃ b0, b0 = w.heap.size := ⟨_, rfl⟩
  have HB : Hid (Below w.heap.size w wa) := by show Below _ _ _; rw [hwa]; exact blw_alloc (blw_alloc (blw_alloc (Below.refl _ _) _) _) _
  have HK0 : Hid (LBox wa b0 [.slice va l.length vc]) := by show LBox _ _ _; rw [hwa, hb0]; exact ((LBox.new w #[.slice va l.length vc] _ _ rfl).past _).past _
  have HK1 : Hid (LBox wa (b0 + 1) [.string x.key, .slice a1 x.ws.length c1]) := by show LBox _ _ _; rw [hwa, hb0]; exact (LBox.new (w.alloc (.cells #[.slice va l.length vc] 81)) #[.string x.key, .slice a1 x.ws.length c1] _ _ (by simp)).past _
  have HK2 : Hid (LBox wa (b0 + 2) [.string y.key, .slice a2 y.ws.length c2]) := by show LBox _ _ _; rw [hwa, hb0]; exact LBox.new ((w.alloc (.cells #[.slice va l.length vc] 81)).alloc (.cells #[.string x.key, .slice a1 x.ws.length c1] 69)) #[.string y.key, .slice a2 y.ws.length c2] _ _ (by simp)
  have HRW := uh (h.later HB.out)
  have HXW := uh (hx.later HB.out)
  have HYW := uh (hy.later HB.out)
  have HL := uh hl
  clear h hx hy hl
  go_enter Try.func64, Try.ntmps64
  go_upto_region 1 with fail
  rw [← hwa, ← hb0]
  clear hwa hb0
  refine RY.region_past wa (Below.refl _ _) (VCl9 b0 vc c1 c2 va a1 a2 l x y) (VCl9_mono _ _ _ _ _ _ _ _ _ _) (by kernel_rfl) (by kernel_rfl) (by kernel_rfl) (by kernel_rfl) ?_ ?_
  · intro ii o' ho a X hX hk hd
    have zb0 := HK0.out.later hX
    have zb0l := zb0.lt
    have z_b0___1_ := HK1.out.later hX
    have z_b0___1_l := z_b0___1_.lt
    have z_b0___2_ := HK2.out.later hX
    have z_b0___2_l := z_b0___2_.lt
    match ii, ho with
    | 0, ho =>
      injection ho with ho; subst ho
      have v3 : a.eval (.tmp 3) = .pointer (some ⟨b0, 0, none⟩) := (hk 3 (by kernel_rfl)).trans rfl
      exact Or.inl ⟨_, X, exec_load_mid 81 _ rfl b0 0 v3 [.slice va l.length vc] _ zb0.at_ Try.underlying81 rfl (by kernel_rfl), Below.refl _ _, rfl⟩
    | 1, ho =>
      injection ho with ho; subst ho
      have e4 : a.tmps[4]?.getD undef = .pointer (some ⟨(b0 + 1), 0, none⟩) := (RY.ev_tmp a 4).trans ((hk 4 (by kernel_rfl)).trans rfl)
      exact Or.inl ⟨.pointer (some ⟨(b0 + 1), 0, none⟩), X, by simp [execOp, go_sem, e4], Below.refl _ _, rfl⟩
    | 2, ho =>
      injection ho with ho; subst ho
      have e8 : a.tmps[8]?.getD undef = .pointer (some ⟨(b0 + 1), 0, none⟩) := (RY.ev_tmp a 8).trans (hd 1 _ 8 rfl rfl ⟨⟨1, .data⟩, by simp, rfl, rfl⟩)
      have ycl_ := z_b0___1_.get 0 _ rfl
      exact Or.inl ⟨.string x.key, X, by simp [execOp, go_sem, e8, ycl_], Below.refl _ _, rfl⟩
    | 3, ho =>
      injection ho with ho; subst ho
      have e7 : a.tmps[7]?.getD undef = .agg #[.slice va l.length vc] := (RY.ev_tmp a 7).trans (hd 0 _ 7 rfl rfl ⟨⟨0, .data⟩, by simp, rfl, rfl⟩)
      have e9 : a.tmps[9]?.getD undef = .string x.key := (RY.ev_tmp a 9).trans (hd 2 _ 9 rfl rfl ⟨⟨2, .data⟩, by simp, rfl, rfl⟩)
      refine Or.inr ⟨75, #[.agg #[.slice va l.length vc], .string x.key], by simp [go_sem, e7, e9], (placeI l va vc x.key X HL.out (HRW.out.later hX)).mono ?_⟩
      rintro e W' ⟨rfl, hb⟩
      exact ⟨_, rfl, hb, rfl⟩
    | 4, ho =>
      injection ho with ho; subst ho
      have v3 : a.eval (.tmp 3) = .pointer (some ⟨b0, 0, none⟩) := (hk 3 (by kernel_rfl)).trans rfl
      exact Or.inl ⟨_, X, exec_load_mid 81 _ rfl b0 0 v3 [.slice va l.length vc] _ zb0.at_ Try.underlying81 rfl (by kernel_rfl), Below.refl _ _, rfl⟩
    | 5, ho =>
      injection ho with ho; subst ho
      have e5 : a.tmps[5]?.getD undef = .pointer (some ⟨(b0 + 2), 0, none⟩) := (RY.ev_tmp a 5).trans ((hk 5 (by kernel_rfl)).trans rfl)
      exact Or.inl ⟨.pointer (some ⟨(b0 + 2), 0, none⟩), X, by simp [execOp, go_sem, e5], Below.refl _ _, rfl⟩
    | 6, ho =>
      injection ho with ho; subst ho
      have e12 : a.tmps[12]?.getD undef = .pointer (some ⟨(b0 + 2), 0, none⟩) := (RY.ev_tmp a 12).trans (hd 5 _ 12 rfl rfl ⟨⟨5, .data⟩, by simp, rfl, rfl⟩)
      have ycl_ := z_b0___2_.get 0 _ rfl
      exact Or.inl ⟨.string y.key, X, by simp [execOp, go_sem, e12, ycl_], Below.refl _ _, rfl⟩
    | 7, ho =>
      injection ho with ho; subst ho
      have e11 : a.tmps[11]?.getD undef = .agg #[.slice va l.length vc] := (RY.ev_tmp a 11).trans (hd 4 _ 11 rfl rfl ⟨⟨4, .data⟩, by simp, rfl, rfl⟩)
      have e13 : a.tmps[13]?.getD undef = .string y.key := (RY.ev_tmp a 13).trans (hd 6 _ 13 rfl rfl ⟨⟨6, .data⟩, by simp, rfl, rfl⟩)
      refine Or.inr ⟨75, #[.agg #[.slice va l.length vc], .string y.key], by simp [go_sem, e11, e13], (placeI l va vc y.key X HL.out (HRW.out.later hX)).mono ?_⟩
      rintro e W' ⟨rfl, hb⟩
      exact ⟨_, rfl, hb, rfl⟩
    | 8, ho =>
      injection ho with ho; subst ho
      have e10 : a.tmps[10]?.getD undef = .int .i64 (Pl.ixI (Pl.ruIx l x.key)) := (RY.ev_tmp a 10).trans (hd 3 _ 10 rfl rfl ⟨⟨3, .data⟩, by simp, rfl, rfl⟩)
      have e14 : a.tmps[14]?.getD undef = .int .i64 (Pl.ixI (Pl.ruIx l y.key)) := (RY.ev_tmp a 14).trans (hd 7 _ 14 rfl rfl ⟨⟨7, .data⟩, by simp, rfl, rfl⟩)
      refine Or.inr ⟨77, #[.int .i64 (Pl.ixI (Pl.ruIx l x.key)), .int .i64 (Pl.ixI (Pl.ruIx l y.key))], by simp [go_sem, e10, e14], (cmpI (Pl.ixI (Pl.ruIx l x.key)) (Pl.ixI (Pl.ruIx l y.key)) X).mono ?_⟩
      rintro e W' ⟨rfl, rfl⟩
      exact ⟨_, rfl, Below.refl _ _, rfl⟩
    | 9, ho =>
      injection ho with ho; subst ho
      have e4 : a.tmps[4]?.getD undef = .pointer (some ⟨(b0 + 1), 0, none⟩) := (RY.ev_tmp a 4).trans ((hk 4 (by kernel_rfl)).trans rfl)
      exact Or.inl ⟨.pointer (some ⟨(b0 + 1), 1, none⟩), X, by simp [execOp, go_sem, e4], Below.refl _ _, rfl⟩
    | 10, ho =>
      injection ho with ho; subst ho
      have e16 : a.tmps[16]?.getD undef = .pointer (some ⟨(b0 + 1), 1, none⟩) := (RY.ev_tmp a 16).trans (hd 9 _ 16 rfl rfl ⟨⟨9, .data⟩, by simp, rfl, rfl⟩)
      have ycl_ := z_b0___1_.get 1 _ rfl
      exact Or.inl ⟨.slice a1 x.ws.length c1, X, by simp [execOp, go_sem, e16, ycl_], Below.refl _ _, rfl⟩
    | 11, ho =>
      injection ho with ho; subst ho
      have e5 : a.tmps[5]?.getD undef = .pointer (some ⟨(b0 + 2), 0, none⟩) := (RY.ev_tmp a 5).trans ((hk 5 (by kernel_rfl)).trans rfl)
      exact Or.inl ⟨.pointer (some ⟨(b0 + 2), 1, none⟩), X, by simp [execOp, go_sem, e5], Below.refl _ _, rfl⟩
    | 12, ho =>
      injection ho with ho; subst ho
      have e18 : a.tmps[18]?.getD undef = .pointer (some ⟨(b0 + 2), 1, none⟩) := (RY.ev_tmp a 18).trans (hd 11 _ 18 rfl rfl ⟨⟨11, .data⟩, by simp, rfl, rfl⟩)
      have ycl_ := z_b0___2_.get 1 _ rfl
      exact Or.inl ⟨.slice a2 y.ws.length c2, X, by simp [execOp, go_sem, e18, ycl_], Below.refl _ _, rfl⟩
    | 13, ho =>
      injection ho with ho; subst ho
      have e17 : a.tmps[17]?.getD undef = .slice a1 x.ws.length c1 := (RY.ev_tmp a 17).trans (hd 10 _ 17 rfl rfl ⟨⟨10, .data⟩, by simp, rfl, rfl⟩)
      have e19 : a.tmps[19]?.getD undef = .slice a2 y.ws.length c2 := (RY.ev_tmp a 19).trans (hd 12 _ 19 rfl rfl ⟨⟨12, .data⟩, by simp, rfl, rfl⟩)
      refine Or.inr ⟨78, #[.slice a1 x.ws.length c1, .slice a2 y.ws.length c2], by simp [go_sem, e17, e19], (cmpWsI x.ws y.ws _ _ X (HXW.out.later hX) (HYW.out.later hX)).mono ?_⟩
      rintro e W' ⟨rfl, rfl⟩
      exact ⟨_, rfl, Below.refl _ _, rfl⟩
    | 14, ho =>
      injection ho with ho; subst ho
      have e15 : a.tmps[15]?.getD undef = .int .i64 (numCmp (Pl.ixI (Pl.ruIx l x.key)) (Pl.ixI (Pl.ruIx l y.key))) := (RY.ev_tmp a 15).trans (hd 8 _ 15 rfl rfl ⟨⟨8, .data⟩, by simp, rfl, rfl⟩)
      have e20 : a.tmps[20]?.getD undef = .int .i64 (cmpW x.ws y.ws) := (RY.ev_tmp a 20).trans (hd 13 _ 20 rfl rfl ⟨⟨13, .data⟩, by simp, rfl, rfl⟩)
      exact Or.inl ⟨.slice (some ⟨X.heap.size, 0, none⟩) 2 2, X.alloc (.cells #[.int .i64 (numCmp (Pl.ixI (Pl.ruIx l x.key)) (Pl.ixI (Pl.ruIx l y.key))), .int .i64 (cmpW x.ws y.ws)] 3), by simp [execOp, go_sem, e15, e20], blw_alloc (Below.refl _ _) _, X.heap.size, rfl, World.cell?_alloc_at _ _ _ _ rfl, World.cell?_alloc_at _ _ _ _ rfl, by simp⟩
    | 15, ho =>
      injection ho with ho; subst ho
      obtain ⟨g21, q21, qa21, qb21, _⟩ := hd 14 _ 21 rfl rfl ⟨⟨14, .data⟩, by simp, rfl, rfl⟩
      have e21 : a.tmps[21]?.getD undef = .slice (some ⟨g21, 0, none⟩) 2 2 := (RY.ev_tmp a 21).trans q21
      refine Or.inr ⟨56, #[.slice (some ⟨g21, 0, none⟩) 2 2], by simp [go_sem, e21], (cmpOr2 g21 2 (numCmp (Pl.ixI (Pl.ruIx l x.key)) (Pl.ixI (Pl.ruIx l y.key))) (cmpW x.ws y.ws) X qa21 qb21).mono ?_⟩
      rintro e W' ⟨rfl, rfl⟩
      exact ⟨_, rfl, Below.refl _ _, rfl⟩
    | 16, ho =>
      injection ho with ho; subst ho
      have e22 : a.tmps[22]?.getD undef = .int .i64 (cmpLn l x y) := (RY.ev_tmp a 22).trans (hd 15 _ 22 rfl rfl ⟨⟨15, .data⟩, by simp, rfl, rfl⟩)
      exact Or.inl ⟨.int .i64 (cmpLn l x y), X, by simp [execOp, go_sem, e22], Below.refl _ _, rfl⟩
    | n + 17, ho => simp at ho
  intro X vs hX hvs
  have q6 : vs 6 = _ := hvs 16 _ 6 rfl rfl
  simp only [RY.putAll, Act.put, List.setIfInBounds_toArray, List.set_cons_zero, List.set_cons_succ]
  rw [q6]
  generalize vs 7 = s7
  generalize vs 8 = s8
  generalize vs 9 = s9
  generalize vs 10 = s10
  generalize vs 11 = s11
  generalize vs 12 = s12
  generalize vs 13 = s13
  generalize vs 14 = s14
  generalize vs 15 = s15
  generalize vs 16 = s16
  generalize vs 17 = s17
  generalize vs 18 = s18
  generalize vs 19 = s19
  generalize vs 20 = s20
  generalize vs 21 = s21
  generalize vs 22 = s22
  clear hvs q6
  go_wp2
  go_ret
  exact ⟨rfl, blw_trans HB.out hX⟩

end Go.Proofs.Ytojcopamegmeeaa

namespace Go.Proofs.Ytojcopamegmeeaa
open Go.RowKit Go.Deep

def ascLn (l : List Pl.Ru) (L : List Pl.Ln) : Bool := (List.range (L.length - 1)).all fun i => decide (cmpLn l (L.getD i Pl.lnNo) (L.getD (i + 1) Pl.lnNo) < 0)
set_option maxRecDepth 8000 in
set_option maxHeartbeats 8000000 in
theorem ascLnI (l : List Pl.Ru) (va : Option Addr) (vc : Nat) (hl0 : l.length ≤ 100) (L : List Pl.Ln) (v : Value) (w : World) (hr0 : Raw w [.row 73 shSheetRule] [rulesD l] [.slice va l.length vc]) (h : Raw w shLns [lnsD L] [v]) :
    Calls Try.prog 63 #[v, .func (.func 64) #[.agg #[.slice va l.length vc]] #[]] w fun e w' => e = .returned (.bool (ascLn l L)) ∧ Below w.heap.size w w' := by
  have HH := uh h
  have HRL := uh hr0
  obtain ⟨a, c, ev⟩ := h.len0
  subst ev
  have hl : L.length ≤ maxLen := by
    rcases lns_open h with ⟨e, _⟩ | ⟨_, _, _, _, _, e, _⟩
    · omega
    · exact e
  unfold maxLen at hl
  obtain ⟨R, hR⟩ : ∃ R, R = ascLn l L := ⟨_, rfl⟩
  have HR : Hid (R = ascLn l L) := hR
  rw [← hR]
  clear h hR hr0
  go_enter Try.func63, Try.ntmps63
  go_wp2
  go_loopw [5] (fun i wr => ∃ j : Nat, j ≤ L.length - 1 ∧ i = .int .i64 ((j + 1 : Nat) : Int) ∧ (List.range j).all (fun i => decide (cmpLn l (L.getD i Pl.lnNo) (L.getD (i + 1) Pl.lnNo) < 0)) = true ∧ Below w.heap.size w wr) (fun i _ => L.length - (intOf i).toNat)
  case atStart => exact ⟨0, Nat.zero_le _, rfl, rfl, Below.refl _ _⟩
  case round =>
    obtain ⟨j, hj, rfl, hq, hW⟩ := hrel
    have HQ := uh hq
    clear hq
    by_cases hlt : j + 1 < L.length
    · obtain ⟨x, hx⟩ : ∃ x, x = L.getD j Pl.lnNo := ⟨_, rfl⟩
      obtain ⟨y, hy⟩ : ∃ y, y = L.getD (j + 1) Pl.lnNo := ⟨_, rfl⟩
      have HWD := uh hW.drew
      rcases lns_open (HH.out.later hW.drew) with ⟨e0, _⟩ | ⟨p, o, c', hv, hp, _, hopen⟩
      · omega
      injection hv with g1 _ g3
      subst g1; subst g3
      obtain ⟨ax, cx, hgx, hrx⟩ := hopen j (by omega)
      obtain ⟨ay, cy, hgy, hry⟩ := hopen (j + 1) hlt
      rw [← hx] at hgx hrx
      rw [← hy] at hgy hry
      have x0 : wr.drew.cell? ⟨p, o + j * 2, none⟩ = some (.string x.key) := rA_get hgx 0 _ rfl
      have x1 : wr.drew.cell? ⟨p, o + j * 2 + 1, none⟩ = some (.slice ax x.ws.length cx) := rA_get hgx 1 _ rfl
      have y0 : wr.drew.cell? ⟨p, o + (j + 1) * 2, none⟩ = some (.string y.key) := rA_get hgy 0 _ rfl
      have y1 : wr.drew.cell? ⟨p, o + (j + 1) * 2 + 1, none⟩ = some (.slice ay y.ws.length cy) := rA_get hgy 1 _ rfl
      clear hW hopen hgx hgy
      obtain ⟨r, hr⟩ : ∃ r, r = cmpLn l x y := ⟨_, rfl⟩
      have HXX : Hid (∀ W, Below w.heap.size w W → Below wr.drew.heap.size wr.drew W → Calls Try.prog 64 #[.agg #[.slice va l.length vc], .agg #[.string x.key, .slice ax x.ws.length cx], .agg #[.string y.key, .slice ay y.ws.length cy]] W fun e w' => e = .returned (.int .i64 r) ∧ Below W.heap.size W w') := fun W hb => by
        rw [hr]
        exact fun h2 => cmpLnI l va vc x y ax ay cx cy W hl0 (HRL.out.later hb) (hrx.later h2) (hry.later h2)
      have HP : Hid ((fun i => decide (cmpLn l (L.getD i Pl.lnNo) (L.getD (i + 1) Pl.lnNo) < 0)) j = decide (r < 0)) := by show decide _ = _; rw [hr, hx, hy]
      clear hr hx hy hrx hry
      by_cases hz : r < 0
      · have HE := uh (Pl.rall_step HQ.out (HP.out.trans (decide_eq_true hz)))
        go_wp2_with fail
        refine region_tail 10 (by kernel_rfl) (by kernel_rfl) ?_
        intro W hWd
        rw [← hWd] at hp HWD x0 x1 y0 y1
        simp only [List.take_succ_cons, List.take_zero, List.drop_succ_cons, List.drop_zero]
        have HWX : Hid (W = wr.drew) := hWd
        clear hWd
        have hj0 : (0 : Int) ≤ (j : Int) := by omega
        have hj1 : (j : Int) < (L.length : Int) := by omega
        have hj2 : (0 : Int) ≤ (j : Int) + 1 := by omega
        have hj3 : (j : Int) + 1 < (L.length : Int) := by omega
        have hjw : IntKind.i64.wrap (j : Int) = (j : Int) := wrapI _ (by omega) (by omega)
        have HX := uh (HXX.out W HWD.out (by rw [HWX.out]; exact Below.refl _ _))
        repeat still_step
        refine wpStill_nil ?_
        go_wp2_with (go_at_call 64; refine HX.out.mono ?_; rintro e w2 ⟨rfl, hb2⟩)
        go_roundw
        case rel => exact ⟨j + 1, by omega, by go_num, HE.out, blw_trans HWD.out hb2⟩
        case measure => simp [intOf]; omega
      · have HE : Hid (R = false) := by show R = false; rw [HR.out]; exact Pl.rall_false (k := j) (by omega) (HP.out.trans (decide_eq_false hz))
        go_wp2_with fail
        refine region_tail 10 (by kernel_rfl) (by kernel_rfl) ?_
        intro W hWd
        rw [← hWd] at hp HWD x0 x1 y0 y1
        simp only [List.take_succ_cons, List.take_zero, List.drop_succ_cons, List.drop_zero]
        have HWX : Hid (W = wr.drew) := hWd
        clear hWd
        have hj0 : (0 : Int) ≤ (j : Int) := by omega
        have hj1 : (j : Int) < (L.length : Int) := by omega
        have hj2 : (0 : Int) ≤ (j : Int) + 1 := by omega
        have hj3 : (j : Int) + 1 < (L.length : Int) := by omega
        have hjw : IntKind.i64.wrap (j : Int) = (j : Int) := wrapI _ (by omega) (by omega)
        have HX := uh (HXX.out W HWD.out (by rw [HWX.out]; exact Below.refl _ _))
        repeat still_step
        refine wpStill_nil ?_
        go_wp2_with (go_at_call 64; refine HX.out.mono ?_; rintro e w2 ⟨rfl, hb2⟩)
        go_ret
        exact ⟨Pl.ret_bool HE.out.symm, blw_trans HWD.out hb2⟩
    · have HE : Hid (R = true) := by
        show R = true
        rw [HR.out]
        have : j = L.length - 1 := by omega
        rw [this] at HQ; exact HQ.out
      go_wp2
      go_ret
      exact ⟨Pl.ret_bool HE.out.symm, hW⟩

def ascBl  (L : List Pl.Bl) : Bool := (List.range (L.length - 1)).all fun i => decide (cmpBl (L.getD i Pl.blNo) (L.getD (i + 1) Pl.blNo) < 0)
set_option maxRecDepth 8000 in
set_option maxHeartbeats 8000000 in
theorem ascBlI  (L : List Pl.Bl) (v : Value) (w : World) (h : Raw w shBls [blsD L] [v]) :
    Calls Try.prog 35 #[v, .func (.func 36) #[] #[]] w fun e w' => e = .returned (.bool (ascBl L)) ∧ Below w.heap.size w w' := by
  have HH := uh h
  obtain ⟨a, c, ev⟩ := h.len0
  subst ev
  have hl : L.length ≤ maxLen := by
    rcases bls_open h with ⟨e, _⟩ | ⟨_, _, _, _, _, e, _⟩
    · omega
    · exact e
  unfold maxLen at hl
  obtain ⟨R, hR⟩ : ∃ R, R = ascBl L := ⟨_, rfl⟩
  have HR : Hid (R = ascBl L) := hR
  rw [← hR]
  clear h hR
  go_enter Try.func35, Try.ntmps35
  go_wp2
  go_loopw [5] (fun i wr => ∃ j : Nat, j ≤ L.length - 1 ∧ i = .int .i64 ((j + 1 : Nat) : Int) ∧ (List.range j).all (fun i => decide (cmpBl (L.getD i Pl.blNo) (L.getD (i + 1) Pl.blNo) < 0)) = true ∧ Below w.heap.size w wr) (fun i _ => L.length - (intOf i).toNat)
  case atStart => exact ⟨0, Nat.zero_le _, rfl, rfl, Below.refl _ _⟩
  case round =>
    obtain ⟨j, hj, rfl, hq, hW⟩ := hrel
    have HQ := uh hq
    clear hq
    by_cases hlt : j + 1 < L.length
    · obtain ⟨x, hx⟩ : ∃ x, x = L.getD j Pl.blNo := ⟨_, rfl⟩
      obtain ⟨y, hy⟩ : ∃ y, y = L.getD (j + 1) Pl.blNo := ⟨_, rfl⟩
      have HWD := uh hW.drew
      rcases bls_open (HH.out.later hW.drew) with ⟨e0, _⟩ | ⟨p, o, c', hv, hp, _, hopen⟩
      · omega
      injection hv with g1 _ g3
      subst g1; subst g3
      obtain ⟨ax, cx, hgx, hrx⟩ := hopen j (by omega)
      obtain ⟨ay, cy, hgy, hry⟩ := hopen (j + 1) hlt
      rw [← hx] at hgx hrx
      rw [← hy] at hgy hry
      have x0 : wr.drew.cell? ⟨p, o + j * 3, none⟩ = some (.string x.kind) := rA_get hgx 0 _ rfl
      have x1 : wr.drew.cell? ⟨p, o + j * 3 + 1, none⟩ = some (.string x.name) := rA_get hgx 1 _ rfl
      have x2 : wr.drew.cell? ⟨p, o + j * 3 + 2, none⟩ = some (.slice ax x.lines.length cx) := rA_get hgx 2 _ rfl
      have y0 : wr.drew.cell? ⟨p, o + (j + 1) * 3, none⟩ = some (.string y.kind) := rA_get hgy 0 _ rfl
      have y1 : wr.drew.cell? ⟨p, o + (j + 1) * 3 + 1, none⟩ = some (.string y.name) := rA_get hgy 1 _ rfl
      have y2 : wr.drew.cell? ⟨p, o + (j + 1) * 3 + 2, none⟩ = some (.slice ay y.lines.length cy) := rA_get hgy 2 _ rfl
      clear hW hopen hgx hgy
      obtain ⟨r, hr⟩ : ∃ r, r = cmpBl x y := ⟨_, rfl⟩
      have HXX : Hid (∀ W, Below w.heap.size w W → Calls Try.prog 36 #[.agg #[.string x.kind, .string x.name, .slice ax x.lines.length cx], .agg #[.string y.kind, .string y.name, .slice ay y.lines.length cy]] W fun e w' => e = .returned (.int .i64 r) ∧ Below W.heap.size W w') := fun W _ => by rw [hr]; exact cmpBlI _ _ _ _ _ _ W
      have HP : Hid ((fun i => decide (cmpBl (L.getD i Pl.blNo) (L.getD (i + 1) Pl.blNo) < 0)) j = decide (r < 0)) := by show decide _ = _; rw [hr, hx, hy]
      clear hr hx hy hrx hry
      by_cases hz : r < 0
      · have HE := uh (Pl.rall_step HQ.out (HP.out.trans (decide_eq_true hz)))
        go_wp2_with fail
        refine region_tail 10 (by kernel_rfl) (by kernel_rfl) ?_
        intro W hWd
        rw [← hWd] at hp HWD x0 x1 x2 y0 y1 y2
        simp only [List.take_succ_cons, List.take_zero, List.drop_succ_cons, List.drop_zero]
        clear hWd
        have hj0 : (0 : Int) ≤ (j : Int) := by omega
        have hj1 : (j : Int) < (L.length : Int) := by omega
        have hj2 : (0 : Int) ≤ (j : Int) + 1 := by omega
        have hj3 : (j : Int) + 1 < (L.length : Int) := by omega
        have hjw : IntKind.i64.wrap (j : Int) = (j : Int) := wrapI _ (by omega) (by omega)
        have HX := uh (HXX.out W HWD.out)
        repeat still_step
        refine wpStill_nil ?_
        go_wp2_with (go_at_call 36; refine HX.out.mono ?_; rintro e w2 ⟨rfl, hb2⟩)
        go_roundw
        case rel => exact ⟨j + 1, by omega, by go_num, HE.out, blw_trans HWD.out hb2⟩
        case measure => simp [intOf]; omega
      · have HE : Hid (R = false) := by show R = false; rw [HR.out]; exact Pl.rall_false (k := j) (by omega) (HP.out.trans (decide_eq_false hz))
        go_wp2_with fail
        refine region_tail 10 (by kernel_rfl) (by kernel_rfl) ?_
        intro W hWd
        rw [← hWd] at hp HWD x0 x1 x2 y0 y1 y2
        simp only [List.take_succ_cons, List.take_zero, List.drop_succ_cons, List.drop_zero]
        clear hWd
        have hj0 : (0 : Int) ≤ (j : Int) := by omega
        have hj1 : (j : Int) < (L.length : Int) := by omega
        have hj2 : (0 : Int) ≤ (j : Int) + 1 := by omega
        have hj3 : (j : Int) + 1 < (L.length : Int) := by omega
        have hjw : IntKind.i64.wrap (j : Int) = (j : Int) := wrapI _ (by omega) (by omega)
        have HX := uh (HXX.out W HWD.out)
        repeat still_step
        refine wpStill_nil ?_
        go_wp2_with (go_at_call 36; refine HX.out.mono ?_; rintro e w2 ⟨rfl, hb2⟩)
        go_ret
        exact ⟨Pl.ret_bool HE.out.symm, blw_trans HWD.out hb2⟩
    · have HE : Hid (R = true) := by
        show R = true
        rw [HR.out]
        have : j = L.length - 1 := by omega
        rw [this] at HQ; exact HQ.out
      go_wp2
      go_ret
      exact ⟨Pl.ret_bool HE.out.symm, hW⟩

end Go.Proofs.Ytojcopamegmeeaa
