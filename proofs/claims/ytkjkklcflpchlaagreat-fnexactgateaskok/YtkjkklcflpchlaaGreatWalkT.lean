/-
  Walks: gateFieldOk.
-/
import Derived.Deep.Light
import Derived.Test.YtkjkklcflpchlaaGreatMap
import Derived.Test.YtkjkklcflpchlaaGreatPlainC
import Derived.Test.YtkjkklcflpchlaaGreatWalkA
import Derived.Test.YtkjkklcflpchlaaGreatWalkS
import Derived.Test.YtkjkklcflpchlaaGreatWalkJ
namespace Go.Proofs.YtkjkklcflpchlaaGreat
open Go.RowKit

theorem ret_dec {a b : Int} {c d : Bool} (h : a = b) (g : c = d) : Ending.returned (.tuple #[.int .i64 a, .bool c]) = .returned (.tuple #[.int .i64 b, .bool d]) := by rw [h, g]

def decOut (s : ByteArray) : Int := if Pl.decOk s then Pl.decVal s.data.toList else 0

set_option maxHeartbeats 1000000 in
theorem decimal_loop (s : ByteArray) (w : World) (h1 : 1 ≤ s.size) (h7 : s.size ≤ 7) (hl : Pl.lead s = false) :
    Calls Tryz.prog 171 #[.string s] w fun e w' => e = .returned (.tuple #[.int .i64 (decOut s), .bool (Pl.decOk s)]) ∧ w = w' := by
  have hemp := Pl.empty_no s h1
  have HN : Hid (Pl.lead s = false) := hl
  have HB : Hid ((s[0].toNat : Int) = 48 → (s.toList == [48]) = true) := by
    intro h0
    rw [Pl.lead_of s (by omega), Pl.byte_beq] at hl
    have hne : ¬ 1 < s.size := by
      intro h2
      simp [h2] at hl
      omega
    refine Pl.one_byte s (by omega) 48 ?_
    rw [Pl.head_eq s (by omega)]
    have : s[0].toNat = 48 := by omega
    exact UInt8.toNat_inj.1 (by simpa using this)
  clear hl
  have hd7 : decide ((7 : Int) < (s.size : Int)) = false := by simp; omega
  have H0 : Hid ((((s[0].toNat : Int) == 48) = true ∧ (s.toList == [48]) = true) ∨ ((s[0].toNat : Int) == 48) = false) := by
    by_cases h0 : (s[0].toNat : Int) = 48
    · exact Or.inl ⟨by simp [h0], HB.out h0⟩
    · exact Or.inr (by simp [h0])
  clear HB
  rcases H0.out with ⟨h0b, hb⟩ | h0b
  all_goals
    clear H0
    go_enter Tryz.func171, Tryz.ntmps171
    go_wp2
    go_loop [4, 24] (fun n i => ∃ k : Nat, k ≤ s.size ∧ i = .int .i64 k ∧ n = .int .i64 (Pl.decVal (s.data.toList.take k)) ∧ (s.data.toList.take k).all Pl.digit = true) (fun _ i => s.size - (intOf i).toNat)
    case atStart => exact ⟨0, Nat.zero_le _, rfl, rfl, rfl⟩
    case round =>
      obtain ⟨k, hk, rfl, rfl, hall⟩ := hrel
      have hbd := Pl.decVal_small s k hk (by omega) hall
      obtain ⟨b1, b2⟩ := hbd
      have HA : Hid ((s.data.toList.take k).all Pl.digit = true) := hall
      clear hall
      by_cases hlt : k < s.size
      · have HS : Hid (Pl.decVal (s.data.toList.take (k + 1)) = Pl.decVal (s.data.toList.take k) * 10 + ((s[k].toNat : Int) - 48)) := Pl.decVal_take s k hlt
        by_cases hd : 48 ≤ (s[k].toNat : Int) ∧ (s[k].toNat : Int) ≤ 57
        · obtain ⟨d1, d2⟩ := hd
          go_wp2
          go_round
          case rel => exact ⟨k + 1, by omega, by go_num, by rw [HS.out], by rw [Pl.all_snoc _ _ _ hlt, HA.out]; simp [Pl.digit]; omega⟩
          case measure => simp [intOf]; omega
        · have HF : Hid (Pl.decOk s = false) := by
            show Pl.decOk s = false
            have : s.data.toList.all Pl.digit = false := Pl.all_false _ s k hlt (by rw [Bool.eq_false_iff]; simp [Pl.digit]; omega)
            simp [Pl.decOk, this]
          by_cases hd1 : 48 ≤ (s[k].toNat : Int)
          all_goals
            go_wp2
            go_ret2
            exact ⟨ret_dec (by simp [decOut, HF.out]) HF.out.symm, rfl⟩
      · have HF : Hid (Pl.decOk s = true ∧ Pl.decVal s.data.toList = Pl.decVal (s.data.toList.take k)) := by
          show Pl.decOk s = true ∧ Pl.decVal s.data.toList = Pl.decVal (s.data.toList.take k)
          have e : s.data.toList.take k = s.data.toList := List.take_of_length_le (by simp; omega)
          have ha := HA.out
          rw [e] at ha ⊢
          refine ⟨?_, rfl⟩
          simp [Pl.decOk, ha, HN.out]
          omega
        go_wp2
        go_ret2
        exact ⟨ret_dec (by simp [decOut, HF.out.1, HF.out.2]) HF.out.1.symm, rfl⟩

set_option maxHeartbeats 1000000 in
theorem decimal_any (s : ByteArray) (w : World) (hs : s.size ≤ maxLen) :
    Calls Tryz.prog 171 #[.string s] w fun e w' => e = .returned (.tuple #[.int .i64 (decOut s), .bool (Pl.decOk s)]) ∧ w = w' := by
  unfold maxLen at hs
  by_cases h1 : 1 ≤ s.size
  · have hemp := Pl.empty_no s h1
    by_cases h7 : s.size ≤ 7
    · cases hl : Pl.lead s
      · exact decimal_loop s w h1 h7 hl
      · have HF : Hid (Pl.decOk s = false) := by show Pl.decOk s = false; simp [Pl.decOk, hl]
        have hd7 : decide ((7 : Int) < (s.size : Int)) = false := by simp; omega
        rw [Pl.lead_of s (by omega), Pl.byte_beq] at hl
        simp only [Bool.and_eq_true, decide_eq_true_eq] at hl
        obtain ⟨h2, h0⟩ := hl
        have h0' : ((s[0].toNat : Int) == 48) = true := h0
        have hb := Pl.more_bytes s h2 48
        clear h0
        go_enter Tryz.func171, Tryz.ntmps171
        go_wp2
        go_ret2
        exact ⟨ret_dec (by simp [decOut, HF.out]) HF.out.symm, rfl⟩
    · have HF : Hid (Pl.decOk s = false) := by show Pl.decOk s = false; simp [Pl.decOk, h7]
      have hd7 : decide ((7 : Int) < (s.size : Int)) = true := by simp; omega
      go_enter Tryz.func171, Tryz.ntmps171
      go_wp2
      go_ret2
      exact ⟨ret_dec (by simp [decOut, HF.out]) HF.out.symm, rfl⟩
  · have HF : Hid (Pl.decOk s = false) := by show Pl.decOk s = false; simp [Pl.decOk, h1]
    have hemp := Pl.empty_yes s h1
    go_enter Tryz.func171, Tryz.ntmps171
    go_wp2
    go_ret2
    exact ⟨ret_dec (by simp [decOut, HF.out]) HF.out.symm, rfl⟩
end Go.Proofs.YtkjkklcflpchlaaGreat

namespace Go.Proofs.YtkjkklcflpchlaaGreat
open Go.RowKit

theorem mk_run (W : World) (o : Obj) : (Instr.makeMap 201 none).run Tryz.prog (W.alloc o) = .ok (.map (some (W.heap.size + 1))) ((W.alloc o).alloc (.map #[] 0)) := by
  rw [run_makeMap]; simp [World.size_alloc]

theorem ins1 (w : World) (o : Obj) (f : Value) : (Instr.mapUpdate 201 (.map (some (w.heap.size + 1))) (.int .i64 1) f).run Tryz.prog ((w.alloc o).alloc (.map #[] 0)) = .ok () ((w.alloc o).alloc (.map #[⟨.int .i64 1, f, 0⟩] 1)) :=
  ins_run (w.alloc o) _ (by simp) #[] 0 1 f rfl

theorem ins2 (w : World) (o : Obj) (f1 f : Value) : (Instr.mapUpdate 201 (.map (some (w.heap.size + 1))) (.int .i64 2) f).run Tryz.prog ((w.alloc o).alloc (.map #[⟨.int .i64 1, f1, 0⟩] 1)) = .ok () ((w.alloc o).alloc (.map #[⟨.int .i64 1, f1, 0⟩, ⟨.int .i64 2, f, 1⟩] 2)) :=
  ins_run (w.alloc o) _ (by simp) #[⟨.int .i64 1, f1, 0⟩] 1 2 f rfl

theorem ins3 (w : World) (o : Obj) (f1 f2 f : Value) : (Instr.mapUpdate 201 (.map (some (w.heap.size + 1))) (.int .i64 3) f).run Tryz.prog ((w.alloc o).alloc (.map #[⟨.int .i64 1, f1, 0⟩, ⟨.int .i64 2, f2, 1⟩] 2)) = .ok () ((w.alloc o).alloc (.map #[⟨.int .i64 1, f1, 0⟩, ⟨.int .i64 2, f2, 1⟩, ⟨.int .i64 3, f, 2⟩] 3)) :=
  ins_run (w.alloc o) _ (by simp) #[⟨.int .i64 1, f1, 0⟩, ⟨.int .i64 2, f2, 1⟩] 2 3 f rfl

theorem ins4 (w : World) (o : Obj) (f1 f2 f3 f : Value) : (Instr.mapUpdate 201 (.map (some (w.heap.size + 1))) (.int .i64 4) f).run Tryz.prog ((w.alloc o).alloc (.map #[⟨.int .i64 1, f1, 0⟩, ⟨.int .i64 2, f2, 1⟩, ⟨.int .i64 3, f3, 2⟩] 3)) = .ok () ((w.alloc o).alloc (.map #[⟨.int .i64 1, f1, 0⟩, ⟨.int .i64 2, f2, 1⟩, ⟨.int .i64 3, f3, 2⟩, ⟨.int .i64 4, f, 3⟩] 4)) :=
  ins_run (w.alloc o) _ (by simp) #[⟨.int .i64 1, f1, 0⟩, ⟨.int .i64 2, f2, 1⟩, ⟨.int .i64 3, f3, 2⟩] 3 4 f rfl

theorem look1 (w : World) (o : Obj) (f1 f2 f3 f4 : Value) : (Instr.lookup 201 (.map (some (w.heap.size + 1))) (.int .i64 1) true).run Tryz.prog ((w.alloc o).alloc (.map #[⟨.int .i64 1, f1, 0⟩, ⟨.int .i64 2, f2, 1⟩, ⟨.int .i64 3, f3, 2⟩, ⟨.int .i64 4, f4, 3⟩] 4)) = .ok (.tuple #[f1, .bool true]) ((w.alloc o).alloc (.map #[⟨.int .i64 1, f1, 0⟩, ⟨.int .i64 2, f2, 1⟩, ⟨.int .i64 3, f3, 2⟩, ⟨.int .i64 4, f4, 3⟩] 4)) :=
  look_run (w.alloc o) _ (by simp) _ 4 1 0 f1 rfl

theorem look2 (w : World) (o : Obj) (f1 f2 f3 f4 : Value) : (Instr.lookup 201 (.map (some (w.heap.size + 1))) (.int .i64 2) true).run Tryz.prog ((w.alloc o).alloc (.map #[⟨.int .i64 1, f1, 0⟩, ⟨.int .i64 2, f2, 1⟩, ⟨.int .i64 3, f3, 2⟩, ⟨.int .i64 4, f4, 3⟩] 4)) = .ok (.tuple #[f2, .bool true]) ((w.alloc o).alloc (.map #[⟨.int .i64 1, f1, 0⟩, ⟨.int .i64 2, f2, 1⟩, ⟨.int .i64 3, f3, 2⟩, ⟨.int .i64 4, f4, 3⟩] 4)) :=
  look_run (w.alloc o) _ (by simp) _ 4 2 1 f2 rfl

theorem look3 (w : World) (o : Obj) (f1 f2 f3 f4 : Value) : (Instr.lookup 201 (.map (some (w.heap.size + 1))) (.int .i64 3) true).run Tryz.prog ((w.alloc o).alloc (.map #[⟨.int .i64 1, f1, 0⟩, ⟨.int .i64 2, f2, 1⟩, ⟨.int .i64 3, f3, 2⟩, ⟨.int .i64 4, f4, 3⟩] 4)) = .ok (.tuple #[f3, .bool true]) ((w.alloc o).alloc (.map #[⟨.int .i64 1, f1, 0⟩, ⟨.int .i64 2, f2, 1⟩, ⟨.int .i64 3, f3, 2⟩, ⟨.int .i64 4, f4, 3⟩] 4)) :=
  look_run (w.alloc o) _ (by simp) _ 4 3 2 f3 rfl

theorem look4 (w : World) (o : Obj) (f1 f2 f3 f4 : Value) : (Instr.lookup 201 (.map (some (w.heap.size + 1))) (.int .i64 4) true).run Tryz.prog ((w.alloc o).alloc (.map #[⟨.int .i64 1, f1, 0⟩, ⟨.int .i64 2, f2, 1⟩, ⟨.int .i64 3, f3, 2⟩, ⟨.int .i64 4, f4, 3⟩] 4)) = .ok (.tuple #[f4, .bool true]) ((w.alloc o).alloc (.map #[⟨.int .i64 1, f1, 0⟩, ⟨.int .i64 2, f2, 1⟩, ⟨.int .i64 3, f3, 2⟩, ⟨.int .i64 4, f4, 3⟩] 4)) :=
  look_run (w.alloc o) _ (by simp) _ 4 4 3 f4 rfl

theorem look0 (w : World) (o : Obj) (f1 f2 f3 f4 : Value) (n : Int) (h1 : (n == 1) = false) (h2 : (n == 2) = false) (h3 : (n == 3) = false) (h4 : (n == 4) = false) :
    (Instr.lookup 201 (.map (some (w.heap.size + 1))) (.int .i64 n) true).run Tryz.prog ((w.alloc o).alloc (.map #[⟨.int .i64 1, f1, 0⟩, ⟨.int .i64 2, f2, 1⟩, ⟨.int .i64 3, f3, 2⟩, ⟨.int .i64 4, f4, 3⟩] 4)) = .ok (.tuple #[.nilFunc, .bool false]) ((w.alloc o).alloc (.map #[⟨.int .i64 1, f1, 0⟩, ⟨.int .i64 2, f2, 1⟩, ⟨.int .i64 3, f3, 2⟩, ⟨.int .i64 4, f4, 3⟩] 4)) :=
  look_none (w.alloc o) _ (by simp) _ 4 n (by simp [Instr.findNow, Instr.sameNow, h1, h2, h3, h4])

set_option maxHeartbeats 1000000 in
theorem kindOf_1 (nm : ByteArray) (least most : Int) (vs : Value) (to : ByteArray) (role : Int) (must fixed : Bool) (de we : ByteArray) (w : World) :
    Calls Tryz.prog 117 #[.agg #[.string nm, .int .i64 1, .int .i64 least, .int .i64 most, vs, .string to, .int .i64 role, .bool must, .bool fixed, .string de, .string we]] w
      fun e w' => e = .returned (.tuple #[.iface 196 (.agg #[.string nm, .int .i64 1, .int .i64 least, .int .i64 most, vs, .string to, .int .i64 role, .bool must, .bool fixed, .string de, .string we]), .bool true]) ∧ Below w.heap.size w w' := by
  have hmm := mk_run w
  have hi1 := ins1 w
  have hi2 := ins2 w
  have hi3 := ins3 w
  have hi4 := ins4 w
  have hl := look1 w
  go_enter Tryz.func117, Tryz.ntmps117
  go_wp2
  go_ret2
  refine ⟨rfl, ?_⟩
  repeat (first | exact Below.refl _ _ | refine blw_alloc ?_ _ | refine Below.drew ?_)

set_option maxHeartbeats 1000000 in
theorem kindOf_2 (nm : ByteArray) (least most : Int) (vs : Value) (to : ByteArray) (role : Int) (must fixed : Bool) (de we : ByteArray) (w : World) :
    Calls Tryz.prog 117 #[.agg #[.string nm, .int .i64 2, .int .i64 least, .int .i64 most, vs, .string to, .int .i64 role, .bool must, .bool fixed, .string de, .string we]] w
      fun e w' => e = .returned (.tuple #[.iface 198 (.agg #[.string nm, .int .i64 2, .int .i64 least, .int .i64 most, vs, .string to, .int .i64 role, .bool must, .bool fixed, .string de, .string we]), .bool true]) ∧ Below w.heap.size w w' := by
  have hmm := mk_run w
  have hi1 := ins1 w
  have hi2 := ins2 w
  have hi3 := ins3 w
  have hi4 := ins4 w
  have hl := look2 w
  go_enter Tryz.func117, Tryz.ntmps117
  go_wp2
  go_ret2
  refine ⟨rfl, ?_⟩
  repeat (first | exact Below.refl _ _ | refine blw_alloc ?_ _ | refine Below.drew ?_)

set_option maxHeartbeats 1000000 in
theorem kindOf_3 (nm : ByteArray) (least most : Int) (vs : Value) (to : ByteArray) (role : Int) (must fixed : Bool) (de we : ByteArray) (w : World) :
    Calls Tryz.prog 117 #[.agg #[.string nm, .int .i64 3, .int .i64 least, .int .i64 most, vs, .string to, .int .i64 role, .bool must, .bool fixed, .string de, .string we]] w
      fun e w' => e = .returned (.tuple #[.iface 199 (.agg #[.string nm, .int .i64 3, .int .i64 least, .int .i64 most, vs, .string to, .int .i64 role, .bool must, .bool fixed, .string de, .string we]), .bool true]) ∧ Below w.heap.size w w' := by
  have hmm := mk_run w
  have hi1 := ins1 w
  have hi2 := ins2 w
  have hi3 := ins3 w
  have hi4 := ins4 w
  have hl := look3 w
  go_enter Tryz.func117, Tryz.ntmps117
  go_wp2
  go_ret2
  refine ⟨rfl, ?_⟩
  repeat (first | exact Below.refl _ _ | refine blw_alloc ?_ _ | refine Below.drew ?_)

set_option maxHeartbeats 1000000 in
theorem kindOf_4 (nm : ByteArray) (least most : Int) (vs : Value) (to : ByteArray) (role : Int) (must fixed : Bool) (de we : ByteArray) (w : World) :
    Calls Tryz.prog 117 #[.agg #[.string nm, .int .i64 4, .int .i64 least, .int .i64 most, vs, .string to, .int .i64 role, .bool must, .bool fixed, .string de, .string we]] w
      fun e w' => e = .returned (.tuple #[.iface 200 (.agg #[.string nm, .int .i64 4, .int .i64 least, .int .i64 most, vs, .string to, .int .i64 role, .bool must, .bool fixed, .string de, .string we]), .bool true]) ∧ Below w.heap.size w w' := by
  have hmm := mk_run w
  have hi1 := ins1 w
  have hi2 := ins2 w
  have hi3 := ins3 w
  have hi4 := ins4 w
  have hl := look4 w
  go_enter Tryz.func117, Tryz.ntmps117
  go_wp2
  go_ret2
  refine ⟨rfl, ?_⟩
  repeat (first | exact Below.refl _ _ | refine blw_alloc ?_ _ | refine Below.drew ?_)

set_option maxHeartbeats 1000000 in
theorem kindOf_0 (nm : ByteArray) (kind least most : Int) (vs : Value) (to : ByteArray) (role : Int) (must fixed : Bool) (de we : ByteArray) (w : World)
    (h1 : (kind == 1) = false) (h2 : (kind == 2) = false) (h3 : (kind == 3) = false) (h4 : (kind == 4) = false) :
    Calls Tryz.prog 117 #[.agg #[.string nm, .int .i64 kind, .int .i64 least, .int .i64 most, vs, .string to, .int .i64 role, .bool must, .bool fixed, .string de, .string we]] w
      fun e w' => e = .returned (.tuple #[.nilIface, .bool false]) ∧ Below w.heap.size w w' := by
  have hmm := mk_run w
  have hi1 := ins1 w
  have hi2 := ins2 w
  have hi3 := ins3 w
  have hi4 := ins4 w
  have hl := fun o f1 f2 f3 f4 => look0 w o f1 f2 f3 f4 kind h1 h2 h3 h4
  go_enter Tryz.func117, Tryz.ntmps117
  go_wp2
  go_ret2
  refine ⟨rfl, ?_⟩
  repeat (first | exact Below.refl _ _ | refine blw_alloc ?_ _ | refine Below.drew ?_)

end Go.Proofs.YtkjkklcflpchlaaGreat

namespace Go.Proofs.YtkjkklcflpchlaaGreat
open Go.RowKit

def fitNum (least most : Int) (v : ByteArray) : Bool := Pl.decOk v && decide (least ≤ decOut v) && decide (decOut v ≤ most)
def fitText (least most : Int) (v : ByteArray) : Bool := decide (least ≤ (v.size : Int)) && decide ((v.size : Int) ≤ most) && Pl.textBytes v

set_option maxHeartbeats 1000000 in
theorem numFits (nm : ByteArray) (kind least most : Int) (vs : Value) (to : ByteArray) (role : Int) (must fixed : Bool) (de we v : ByteArray) (w : World) (hv : v.size ≤ maxLen) :
    Calls Tryz.prog 170 #[.agg #[.string nm, .int .i64 kind, .int .i64 least, .int .i64 most, vs, .string to, .int .i64 role, .bool must, .bool fixed, .string de, .string we], .string v] w
      fun e w' => e = .returned (.bool (fitNum least most v)) ∧ Below w.heap.size w w' := by
  cases hd : Pl.decOk v
  · have HF : Hid (fitNum least most v = false) := by show fitNum least most v = false; simp [fitNum, hd]
    have HD : Hid (Pl.decOk v = false) := hd
    clear hd
    go_enter Tryz.func170, Tryz.ntmps170
    go_wp2_with fail
    refine (decimal_any _ _ hv).mono ?_
    rintro e w' ⟨rfl, rfl⟩
    rw [HD.out]
    go_wp2
    go_ret
    exact ⟨Pl.ret_bool HF.out.symm, blw_alloc (Below.refl _ _) _⟩
  · have HF : Hid (fitNum least most v = (decide (least ≤ decOut v) && decide (decOut v ≤ most))) := by show fitNum least most v = _; simp [fitNum, hd]
    have HD : Hid (Pl.decOk v = true) := hd
    clear hd
    by_cases h1 : least ≤ decOut v
    all_goals
      go_enter Tryz.func170, Tryz.ntmps170
      go_wp2_with fail
      refine (decimal_any _ _ hv).mono ?_
      rintro e w' ⟨rfl, rfl⟩
      rw [HD.out]
      go_wp2
      go_ret
      refine ⟨Pl.ret_bool ?_, blw_alloc (Below.refl _ _) _⟩
      rw [HF.out, Bool.eq_iff_iff]
      simp
      omega

set_option maxHeartbeats 1000000 in
theorem wordFits (nm : ByteArray) (kind least most : Int) (b off cap : Nat) (to : ByteArray) (role : Int) (must fixed : Bool) (de we v : ByteArray) (ss : List ByteArray) (w : World) (hb : b < w.heap.size) (hl : ss.length ≤ maxLen) (hc : ∀ i, i < ss.length → w.cell? ⟨b, off + i, none⟩ = some (.string (ss.getD i ByteArray.empty))) :
    Calls Tryz.prog 174 #[.agg #[.string nm, .int .i64 kind, .int .i64 least, .int .i64 most, .slice (some ⟨b, off, none⟩) ss.length cap, .string to, .int .i64 role, .bool must, .bool fixed, .string de, .string we], .string v] w
      fun e w' => e = .returned (.bool (Pl.has ss v)) ∧ Below w.heap.size w w' := by
  have HX : Hid (∀ o, Calls Tryz.prog 175 #[.slice (some ⟨b, off, none⟩) ss.length cap, .string v] (w.alloc o) fun e w' => e = .returned (.bool (Pl.has ss v)) ∧ (w.alloc o) = w') := by
    intro o
    refine contains_row b off cap ss v _ hl fun i hi => ?_
    rw [← hc i hi]
    exact (blw_alloc (Below.refl _ _) o : Below w.heap.size w _).cell (p := ⟨b, off + i, none⟩) hb
  clear hc
  go_enter Tryz.func174, Tryz.ntmps174
  go_wp2_with fail
  refine (HX.out _).mono ?_
  rintro e w' ⟨rfl, rfl⟩
  go_wp2
  go_ret
  exact ⟨rfl, blw_alloc (Below.refl _ _) _⟩

set_option maxHeartbeats 1000000 in
theorem textFits (nm : ByteArray) (kind least most : Int) (vs : Value) (to : ByteArray) (role : Int) (must fixed : Bool) (de we v : ByteArray) (w : World) (hv : v.size ≤ maxLen) :
    Calls Tryz.prog 179 #[.agg #[.string nm, .int .i64 kind, .int .i64 least, .int .i64 most, vs, .string to, .int .i64 role, .bool must, .bool fixed, .string de, .string we], .string v] w
      fun e w' => e = .returned (.bool (fitText least most v)) ∧ Below w.heap.size w w' := by
  unfold maxLen at hv
  by_cases hin : least ≤ (v.size : Int) ∧ (v.size : Int) ≤ most
  · have HI : Hid (fitText least most v = Pl.textBytes v) := by show fitText least most v = _; simp [fitText, hin.1, hin.2]
    obtain ⟨i1, i2⟩ := hin
    have t1 : decide ((v.size : Int) < least) = false := by simp; omega
    have t2 : decide (most < (v.size : Int)) = false := by simp; omega
    clear i1 i2
    go_enter Tryz.func179, Tryz.ntmps179
    go_wp2
    go_loop [20] (fun i => ∃ k : Nat, k ≤ v.size ∧ i = .int .i64 k ∧ (v.data.toList.take k).all Pl.textByte = true) (fun i => v.size - (intOf i).toNat)
    case atStart => exact ⟨0, Nat.zero_le _, rfl, rfl⟩
    case round =>
      obtain ⟨k, hk, rfl, hall⟩ := hrel
      have HA : Hid ((v.data.toList.take k).all Pl.textByte = true) := hall
      clear hall
      by_cases hlt : k < v.size
      · by_cases hd : 33 ≤ (v[k].toNat : Int) ∧ (v[k].toNat : Int) ≤ 126
        · have HT : Hid (Pl.textByte v[k] = true) := by show Pl.textByte v[k] = true; simp [Pl.textByte]; omega
          obtain ⟨d1, d2⟩ := hd
          go_wp2
          go_round
          case rel => exact ⟨k + 1, by omega, by go_num, by rw [Pl.all_snoc _ _ _ hlt, HA.out, HT.out]; rfl⟩
          case measure => simp [intOf]; omega
        · have HF : Hid (Pl.textBytes v = false) := Pl.all_false _ v k hlt (by rw [Bool.eq_false_iff]; simp [Pl.textByte]; omega)
          by_cases hd1 : 33 ≤ (v[k].toNat : Int)
          all_goals
            go_wp2
            go_ret
            exact ⟨Pl.ret_bool (by rw [HI.out, HF.out]), blw_alloc (Below.refl _ _) _⟩
      · have HT : Hid (Pl.textBytes v = true) := by
          show Pl.textBytes v = true
          unfold Pl.textBytes
          rw [← Pl.all_whole Pl.textByte v k (by omega)]
          exact HA.out
        go_wp2
        go_ret
        exact ⟨Pl.ret_bool (by rw [HI.out, HT.out]), blw_alloc (Below.refl _ _) _⟩
  · have HF : Hid (fitText least most v = false) := by
      show fitText least most v = false
      have : (decide (least ≤ (v.size : Int)) && decide ((v.size : Int) ≤ most)) = false := by rw [Bool.eq_false_iff]; simp; omega
      simp [fitText, this]
    by_cases h1 : (v.size : Int) < least
    all_goals
      go_enter Tryz.func179, Tryz.ntmps179
      go_wp2
      go_ret
      exact ⟨Pl.ret_bool HF.out.symm, blw_alloc (Below.refl _ _) _⟩

set_option maxHeartbeats 1000000 in
theorem linkFits (nm : ByteArray) (kind least most : Int) (vs : Value) (to : ByteArray) (role : Int) (must fixed : Bool) (de we v : ByteArray) (w : World) (hv : v.size ≤ maxLen) :
    Calls Tryz.prog 182 #[.agg #[.string nm, .int .i64 kind, .int .i64 least, .int .i64 most, vs, .string to, .int .i64 role, .bool must, .bool fixed, .string de, .string we], .string v] w
      fun e w' => e = .returned (.bool (Pl.nameOk v)) ∧ Below w.heap.size w w' := by
  go_enter Tryz.func182, Tryz.ntmps182
  go_wp2_with (go_at_call 62; refine (isName_any _ _ hv).mono ?_; rintro e w' ⟨rfl, rfl⟩)
  go_ret
  exact ⟨rfl, blw_alloc (Below.refl _ _) _⟩

end Go.Proofs.YtkjkklcflpchlaaGreat

namespace Go.Proofs.YtkjkklcflpchlaaGreat
open Go.RowKit

theorem meth77 (nm : ByteArray) (kind least most : Int) (vs : Value) (to : ByteArray) (role : Int) (must fixed : Bool) (de we : ByteArray) (w : World) : (method 342 196 (.agg #[.string nm, .int .i64 kind, .int .i64 least, .int .i64 most, vs, .string to, .int .i64 role, .bool must, .bool fixed, .string de, .string we]) "loop.example/wharfdesk/impl.fits").run Tryz.prog w = .ok (170, .agg #[.string nm, .int .i64 kind, .int .i64 least, .int .i64 most, vs, .string to, .int .i64 role, .bool must, .bool fixed, .string de, .string we]) w := by kernel_rfl

theorem meth79 (nm : ByteArray) (kind least most : Int) (vs : Value) (to : ByteArray) (role : Int) (must fixed : Bool) (de we : ByteArray) (w : World) : (method 342 198 (.agg #[.string nm, .int .i64 kind, .int .i64 least, .int .i64 most, vs, .string to, .int .i64 role, .bool must, .bool fixed, .string de, .string we]) "loop.example/wharfdesk/impl.fits").run Tryz.prog w = .ok (174, .agg #[.string nm, .int .i64 kind, .int .i64 least, .int .i64 most, vs, .string to, .int .i64 role, .bool must, .bool fixed, .string de, .string we]) w := by kernel_rfl

theorem meth80 (nm : ByteArray) (kind least most : Int) (vs : Value) (to : ByteArray) (role : Int) (must fixed : Bool) (de we : ByteArray) (w : World) : (method 342 199 (.agg #[.string nm, .int .i64 kind, .int .i64 least, .int .i64 most, vs, .string to, .int .i64 role, .bool must, .bool fixed, .string de, .string we]) "loop.example/wharfdesk/impl.fits").run Tryz.prog w = .ok (179, .agg #[.string nm, .int .i64 kind, .int .i64 least, .int .i64 most, vs, .string to, .int .i64 role, .bool must, .bool fixed, .string de, .string we]) w := by kernel_rfl

theorem meth81 (nm : ByteArray) (kind least most : Int) (vs : Value) (to : ByteArray) (role : Int) (must fixed : Bool) (de we : ByteArray) (w : World) : (method 342 200 (.agg #[.string nm, .int .i64 kind, .int .i64 least, .int .i64 most, vs, .string to, .int .i64 role, .bool must, .bool fixed, .string de, .string we]) "loop.example/wharfdesk/impl.fits").run Tryz.prog w = .ok (182, .agg #[.string nm, .int .i64 kind, .int .i64 least, .int .i64 most, vs, .string to, .int .i64 role, .bool must, .bool fixed, .string de, .string we]) w := by kernel_rfl

set_option maxHeartbeats 1000000 in
theorem kindFits77 (nm : ByteArray) (kind least most : Int) (vs : Value) (to : ByteArray) (role : Int) (must fixed : Bool) (de we v : ByteArray) (w : World) (hv : v.size ≤ maxLen) :
    Calls Tryz.prog 118 #[.iface 196 (.agg #[.string nm, .int .i64 kind, .int .i64 least, .int .i64 most, vs, .string to, .int .i64 role, .bool must, .bool fixed, .string de, .string we]), .string v] w
      fun e w' => e = .returned (.bool (decide (1 ≤ v.size) && fitNum least most v)) ∧ Below w.heap.size w w' := by
  have hm := meth77 nm kind least most vs to role must fixed de we
  have HX : Hid (Calls Tryz.prog 170 #[.agg #[.string nm, .int .i64 kind, .int .i64 least, .int .i64 most, vs, .string to, .int .i64 role, .bool must, .bool fixed, .string de, .string we], .string v] w fun e w' => e = .returned (.bool (fitNum least most v)) ∧ Below w.heap.size w w') := numFits nm kind least most vs to role must fixed de we v w hv
  clear hv
  by_cases h1 : 1 ≤ v.size
  · have he := Pl.empty_no v h1
    have HD : Hid (decide (1 ≤ v.size) = true) := by show decide (1 ≤ v.size) = true; simp [h1]
    clear h1
    go_enter Tryz.func118, Tryz.ntmps118
    go_wp2_with fail
    refine HX.out.mono ?_
    rintro e w' ⟨rfl, hb⟩
    go_wp2
    go_ret
    exact ⟨Pl.ret_bool (by rw [HD.out]; rfl), hb⟩
  · have he := Pl.empty_yes v h1
    have HD : Hid (decide (1 ≤ v.size) = false) := by show decide (1 ≤ v.size) = false; simp [h1]
    clear h1
    go_enter Tryz.func118, Tryz.ntmps118
    go_wp2
    go_ret
    exact ⟨Pl.ret_bool (by rw [HD.out]; rfl), Below.refl _ _⟩

set_option maxHeartbeats 1000000 in
theorem kindFits79 (nm : ByteArray) (kind least most : Int) (b off cap : Nat) (to : ByteArray) (role : Int) (must fixed : Bool) (de we v : ByteArray) (ss : List ByteArray) (w : World) (hb : b < w.heap.size) (hl : ss.length ≤ maxLen) (hc : ∀ i, i < ss.length → w.cell? ⟨b, off + i, none⟩ = some (.string (ss.getD i ByteArray.empty))) :
    Calls Tryz.prog 118 #[.iface 198 (.agg #[.string nm, .int .i64 kind, .int .i64 least, .int .i64 most, .slice (some ⟨b, off, none⟩) ss.length cap, .string to, .int .i64 role, .bool must, .bool fixed, .string de, .string we]), .string v] w
      fun e w' => e = .returned (.bool (decide (1 ≤ v.size) && Pl.has ss v)) ∧ Below w.heap.size w w' := by
  have hm := meth79 nm kind least most (.slice (some ⟨b, off, none⟩) ss.length cap) to role must fixed de we
  have HX : Hid (Calls Tryz.prog 174 #[.agg #[.string nm, .int .i64 kind, .int .i64 least, .int .i64 most, .slice (some ⟨b, off, none⟩) ss.length cap, .string to, .int .i64 role, .bool must, .bool fixed, .string de, .string we], .string v] w fun e w' => e = .returned (.bool (Pl.has ss v)) ∧ Below w.heap.size w w') := wordFits nm kind least most b off cap to role must fixed de we v ss w hb hl hc
  clear hc
  by_cases h1 : 1 ≤ v.size
  · have he := Pl.empty_no v h1
    have HD : Hid (decide (1 ≤ v.size) = true) := by show decide (1 ≤ v.size) = true; simp [h1]
    clear h1
    go_enter Tryz.func118, Tryz.ntmps118
    go_wp2_with fail
    refine HX.out.mono ?_
    rintro e w' ⟨rfl, hb⟩
    go_wp2
    go_ret
    exact ⟨Pl.ret_bool (by rw [HD.out]; rfl), hb⟩
  · have he := Pl.empty_yes v h1
    have HD : Hid (decide (1 ≤ v.size) = false) := by show decide (1 ≤ v.size) = false; simp [h1]
    clear h1
    go_enter Tryz.func118, Tryz.ntmps118
    go_wp2
    go_ret
    exact ⟨Pl.ret_bool (by rw [HD.out]; rfl), Below.refl _ _⟩

set_option maxHeartbeats 1000000 in
theorem kindFits80 (nm : ByteArray) (kind least most : Int) (vs : Value) (to : ByteArray) (role : Int) (must fixed : Bool) (de we v : ByteArray) (w : World) (hv : v.size ≤ maxLen) :
    Calls Tryz.prog 118 #[.iface 199 (.agg #[.string nm, .int .i64 kind, .int .i64 least, .int .i64 most, vs, .string to, .int .i64 role, .bool must, .bool fixed, .string de, .string we]), .string v] w
      fun e w' => e = .returned (.bool (decide (1 ≤ v.size) && fitText least most v)) ∧ Below w.heap.size w w' := by
  have hm := meth80 nm kind least most vs to role must fixed de we
  have HX : Hid (Calls Tryz.prog 179 #[.agg #[.string nm, .int .i64 kind, .int .i64 least, .int .i64 most, vs, .string to, .int .i64 role, .bool must, .bool fixed, .string de, .string we], .string v] w fun e w' => e = .returned (.bool (fitText least most v)) ∧ Below w.heap.size w w') := textFits nm kind least most vs to role must fixed de we v w hv
  clear hv
  by_cases h1 : 1 ≤ v.size
  · have he := Pl.empty_no v h1
    have HD : Hid (decide (1 ≤ v.size) = true) := by show decide (1 ≤ v.size) = true; simp [h1]
    clear h1
    go_enter Tryz.func118, Tryz.ntmps118
    go_wp2_with fail
    refine HX.out.mono ?_
    rintro e w' ⟨rfl, hb⟩
    go_wp2
    go_ret
    exact ⟨Pl.ret_bool (by rw [HD.out]; rfl), hb⟩
  · have he := Pl.empty_yes v h1
    have HD : Hid (decide (1 ≤ v.size) = false) := by show decide (1 ≤ v.size) = false; simp [h1]
    clear h1
    go_enter Tryz.func118, Tryz.ntmps118
    go_wp2
    go_ret
    exact ⟨Pl.ret_bool (by rw [HD.out]; rfl), Below.refl _ _⟩

set_option maxHeartbeats 1000000 in
theorem kindFits81 (nm : ByteArray) (kind least most : Int) (vs : Value) (to : ByteArray) (role : Int) (must fixed : Bool) (de we v : ByteArray) (w : World) (hv : v.size ≤ maxLen) :
    Calls Tryz.prog 118 #[.iface 200 (.agg #[.string nm, .int .i64 kind, .int .i64 least, .int .i64 most, vs, .string to, .int .i64 role, .bool must, .bool fixed, .string de, .string we]), .string v] w
      fun e w' => e = .returned (.bool (decide (1 ≤ v.size) && Pl.nameOk v)) ∧ Below w.heap.size w w' := by
  have hm := meth81 nm kind least most vs to role must fixed de we
  have HX : Hid (Calls Tryz.prog 182 #[.agg #[.string nm, .int .i64 kind, .int .i64 least, .int .i64 most, vs, .string to, .int .i64 role, .bool must, .bool fixed, .string de, .string we], .string v] w fun e w' => e = .returned (.bool (Pl.nameOk v)) ∧ Below w.heap.size w w') := linkFits nm kind least most vs to role must fixed de we v w hv
  clear hv
  by_cases h1 : 1 ≤ v.size
  · have he := Pl.empty_no v h1
    have HD : Hid (decide (1 ≤ v.size) = true) := by show decide (1 ≤ v.size) = true; simp [h1]
    clear h1
    go_enter Tryz.func118, Tryz.ntmps118
    go_wp2_with fail
    refine HX.out.mono ?_
    rintro e w' ⟨rfl, hb⟩
    go_wp2
    go_ret
    exact ⟨Pl.ret_bool (by rw [HD.out]; rfl), hb⟩
  · have he := Pl.empty_yes v h1
    have HD : Hid (decide (1 ≤ v.size) = false) := by show decide (1 ≤ v.size) = false; simp [h1]
    clear h1
    go_enter Tryz.func118, Tryz.ntmps118
    go_wp2
    go_ret
    exact ⟨Pl.ret_bool (by rw [HD.out]; rfl), Below.refl _ _⟩

end Go.Proofs.YtkjkklcflpchlaaGreat

namespace Go.Proofs.YtkjkklcflpchlaaGreat
open Go.RowKit

theorem fits1 (least most : Int) (ss : List ByteArray) (v : ByteArray) : (decide (1 ≤ v.size) && fitNum least most v) = Pl.fits 1 least most ss v := by
  cases h : Pl.decOk v
  · simp [fitNum, Pl.fits, h]
  · have h1 : 1 ≤ v.size := by simp only [Pl.decOk, Bool.and_eq_true, decide_eq_true_eq] at h; omega
    simp [fitNum, Pl.fits, h, decOut, h1]
theorem fits2 (least most : Int) (ss : List ByteArray) (v : ByteArray) : (decide (1 ≤ v.size) && Pl.has ss v) = Pl.fits 2 least most ss v := by
  simp [Pl.fits]
theorem fits3 (least most : Int) (ss : List ByteArray) (v : ByteArray) : (decide (1 ≤ v.size) && fitText least most v) = Pl.fits 3 least most ss v := by
  rw [Bool.eq_iff_iff]
  simp [Pl.fits, fitText]
  constructor
  · rintro ⟨a, ⟨b, c⟩, d⟩; exact ⟨⟨⟨a, d⟩, b⟩, c⟩
  · rintro ⟨⟨⟨a, d⟩, b⟩, c⟩; exact ⟨a, ⟨b, c⟩, d⟩
theorem fits4 (least most : Int) (ss : List ByteArray) (v : ByteArray) : (decide (1 ≤ v.size) && Pl.nameOk v) = Pl.fits 4 least most ss v := by
  rw [Bool.eq_iff_iff]
  simp [Pl.fits, Pl.nameOk]
  intro a _ _; exact a

set_option maxHeartbeats 1000000 in
theorem implFits_1 (nm : ByteArray) (least most : Int) (b off cap : Nat) (to : ByteArray) (role : Int) (must fixed : Bool) (de we v : ByteArray) (ss : List ByteArray) (w : World)
    (hv : v.size ≤ maxLen) :
    Calls Tryz.prog 104 #[.agg #[.string nm, .int .i64 1, .int .i64 least, .int .i64 most, .slice (some ⟨b, off, none⟩) ss.length cap, .string to, .int .i64 role, .bool must, .bool fixed, .string de, .string we], .string v] w
      fun e w' => e = .returned (.bool (Pl.fits 1 least most ss v)) ∧ Below w.heap.size w w' := by
  have HX : Hid (∀ w1, Below w.heap.size w w1 → Calls Tryz.prog 118 #[.iface 196 (.agg #[.string nm, .int .i64 1, .int .i64 least, .int .i64 most, .slice (some ⟨b, off, none⟩) ss.length cap, .string to, .int .i64 role, .bool must, .bool fixed, .string de, .string we]), .string v] w1 fun e w' => e = .returned (.bool (Pl.fits 1 least most ss v)) ∧ Below w1.heap.size w1 w') := by
    intro w1 hw1
    rw [← fits1 least most ss v]
    exact kindFits77 nm 1 least most _ to role must fixed de we v w1 hv
  clear hv
  go_enter Tryz.func104, Tryz.ntmps104
  go_wp2_with fail
  refine (kindOf_1 _ _ _ _ _ _ _ _ _ _ _).mono ?_
  rintro e w1 ⟨rfl, hb1⟩
  have hb2 := blw_trans (blw_alloc (Below.refl _ _) _) hb1
  clear hb1
  go_wp2_with fail
  refine (HX.out _ hb2).mono ?_
  rintro e w2 ⟨rfl, hb3⟩
  have hb4 := blw_trans hb2 hb3
  go_wp2
  go_ret
  exact ⟨rfl, hb4⟩

set_option maxHeartbeats 1000000 in
theorem implFits_2 (nm : ByteArray) (least most : Int) (b off cap : Nat) (to : ByteArray) (role : Int) (must fixed : Bool) (de we v : ByteArray) (ss : List ByteArray) (w : World)
    (hb : b < w.heap.size) (hl : ss.length ≤ maxLen) (hc : ∀ i, i < ss.length → w.cell? ⟨b, off + i, none⟩ = some (.string (ss.getD i ByteArray.empty))) :
    Calls Tryz.prog 104 #[.agg #[.string nm, .int .i64 2, .int .i64 least, .int .i64 most, .slice (some ⟨b, off, none⟩) ss.length cap, .string to, .int .i64 role, .bool must, .bool fixed, .string de, .string we], .string v] w
      fun e w' => e = .returned (.bool (Pl.fits 2 least most ss v)) ∧ Below w.heap.size w w' := by
  have HX : Hid (∀ w1, Below w.heap.size w w1 → Calls Tryz.prog 118 #[.iface 198 (.agg #[.string nm, .int .i64 2, .int .i64 least, .int .i64 most, .slice (some ⟨b, off, none⟩) ss.length cap, .string to, .int .i64 role, .bool must, .bool fixed, .string de, .string we]), .string v] w1 fun e w' => e = .returned (.bool (Pl.fits 2 least most ss v)) ∧ Below w1.heap.size w1 w') := by
    intro w1 hw1
    rw [← fits2 least most ss v]
    exact kindFits79 nm 2 least most b off cap to role must fixed de we v ss w1 (Nat.lt_of_lt_of_le hb hw1.size) hl (fun i hi => by rw [← hc i hi]; exact hw1.cell (p := ⟨b, off + i, none⟩) hb)
  clear hc hl
  go_enter Tryz.func104, Tryz.ntmps104
  go_wp2_with fail
  refine (kindOf_2 _ _ _ _ _ _ _ _ _ _ _).mono ?_
  rintro e w1 ⟨rfl, hb1⟩
  have hb2 := blw_trans (blw_alloc (Below.refl _ _) _) hb1
  clear hb1
  go_wp2_with fail
  refine (HX.out _ hb2).mono ?_
  rintro e w2 ⟨rfl, hb3⟩
  have hb4 := blw_trans hb2 hb3
  go_wp2
  go_ret
  exact ⟨rfl, hb4⟩

set_option maxHeartbeats 1000000 in
theorem implFits_3 (nm : ByteArray) (least most : Int) (b off cap : Nat) (to : ByteArray) (role : Int) (must fixed : Bool) (de we v : ByteArray) (ss : List ByteArray) (w : World)
    (hv : v.size ≤ maxLen) :
    Calls Tryz.prog 104 #[.agg #[.string nm, .int .i64 3, .int .i64 least, .int .i64 most, .slice (some ⟨b, off, none⟩) ss.length cap, .string to, .int .i64 role, .bool must, .bool fixed, .string de, .string we], .string v] w
      fun e w' => e = .returned (.bool (Pl.fits 3 least most ss v)) ∧ Below w.heap.size w w' := by
  have HX : Hid (∀ w1, Below w.heap.size w w1 → Calls Tryz.prog 118 #[.iface 199 (.agg #[.string nm, .int .i64 3, .int .i64 least, .int .i64 most, .slice (some ⟨b, off, none⟩) ss.length cap, .string to, .int .i64 role, .bool must, .bool fixed, .string de, .string we]), .string v] w1 fun e w' => e = .returned (.bool (Pl.fits 3 least most ss v)) ∧ Below w1.heap.size w1 w') := by
    intro w1 hw1
    rw [← fits3 least most ss v]
    exact kindFits80 nm 3 least most _ to role must fixed de we v w1 hv
  clear hv
  go_enter Tryz.func104, Tryz.ntmps104
  go_wp2_with fail
  refine (kindOf_3 _ _ _ _ _ _ _ _ _ _ _).mono ?_
  rintro e w1 ⟨rfl, hb1⟩
  have hb2 := blw_trans (blw_alloc (Below.refl _ _) _) hb1
  clear hb1
  go_wp2_with fail
  refine (HX.out _ hb2).mono ?_
  rintro e w2 ⟨rfl, hb3⟩
  have hb4 := blw_trans hb2 hb3
  go_wp2
  go_ret
  exact ⟨rfl, hb4⟩

set_option maxHeartbeats 1000000 in
theorem implFits_4 (nm : ByteArray) (least most : Int) (b off cap : Nat) (to : ByteArray) (role : Int) (must fixed : Bool) (de we v : ByteArray) (ss : List ByteArray) (w : World)
    (hv : v.size ≤ maxLen) :
    Calls Tryz.prog 104 #[.agg #[.string nm, .int .i64 4, .int .i64 least, .int .i64 most, .slice (some ⟨b, off, none⟩) ss.length cap, .string to, .int .i64 role, .bool must, .bool fixed, .string de, .string we], .string v] w
      fun e w' => e = .returned (.bool (Pl.fits 4 least most ss v)) ∧ Below w.heap.size w w' := by
  have HX : Hid (∀ w1, Below w.heap.size w w1 → Calls Tryz.prog 118 #[.iface 200 (.agg #[.string nm, .int .i64 4, .int .i64 least, .int .i64 most, .slice (some ⟨b, off, none⟩) ss.length cap, .string to, .int .i64 role, .bool must, .bool fixed, .string de, .string we]), .string v] w1 fun e w' => e = .returned (.bool (Pl.fits 4 least most ss v)) ∧ Below w1.heap.size w1 w') := by
    intro w1 hw1
    rw [← fits4 least most ss v]
    exact kindFits81 nm 4 least most _ to role must fixed de we v w1 hv
  clear hv
  go_enter Tryz.func104, Tryz.ntmps104
  go_wp2_with fail
  refine (kindOf_4 _ _ _ _ _ _ _ _ _ _ _).mono ?_
  rintro e w1 ⟨rfl, hb1⟩
  have hb2 := blw_trans (blw_alloc (Below.refl _ _) _) hb1
  clear hb1
  go_wp2_with fail
  refine (HX.out _ hb2).mono ?_
  rintro e w2 ⟨rfl, hb3⟩
  have hb4 := blw_trans hb2 hb3
  go_wp2
  go_ret
  exact ⟨rfl, hb4⟩

set_option maxHeartbeats 1000000 in
theorem implFits_0 (nm : ByteArray) (kind least most : Int) (vs : Value) (to : ByteArray) (role : Int) (must fixed : Bool) (de we v : ByteArray) (ss : List ByteArray) (w : World)
    (h1 : (kind == 1) = false) (h2 : (kind == 2) = false) (h3 : (kind == 3) = false) (h4 : (kind == 4) = false) :
    Calls Tryz.prog 104 #[.agg #[.string nm, .int .i64 kind, .int .i64 least, .int .i64 most, vs, .string to, .int .i64 role, .bool must, .bool fixed, .string de, .string we], .string v] w
      fun e w' => e = .returned (.bool (Pl.fits kind least most ss v)) ∧ Below w.heap.size w w' := by
  have HF : Hid (Pl.fits kind least most ss v = false) := by
    show Pl.fits kind least most ss v = _
    simp only [beq_eq_false_iff_ne, ne_eq] at h1 h2 h3 h4
    simp [Pl.fits, h1, h2, h3, h4]
  have HX : Hid (∀ W, Calls Tryz.prog 117 #[.agg #[.string nm, .int .i64 kind, .int .i64 least, .int .i64 most, vs, .string to, .int .i64 role, .bool must, .bool fixed, .string de, .string we]] W fun e w' => e = .returned (.tuple #[.nilIface, .bool false]) ∧ Below W.heap.size W w') := fun W => kindOf_0 nm kind least most vs to role must fixed de we W h1 h2 h3 h4
  clear h1 h2 h3 h4
  go_enter Tryz.func104, Tryz.ntmps104
  go_wp2_with fail
  refine (HX.out _).mono ?_
  rintro e w1 ⟨rfl, hb1⟩
  have hb2 := blw_trans (blw_alloc (Below.refl _ _) _) hb1
  clear hb1
  go_wp2
  go_ret
  exact ⟨Pl.ret_bool HF.out.symm, hb2⟩

theorem implFits_any (nm : ByteArray) (kind least most : Int) (b off cap : Nat) (to : ByteArray) (role : Int) (must fixed : Bool) (de we v : ByteArray) (ss : List ByteArray) (w : World)
    (hv : v.size ≤ maxLen) (hb : b < w.heap.size) (hl : ss.length ≤ maxLen) (hc : ∀ i, i < ss.length → w.cell? ⟨b, off + i, none⟩ = some (.string (ss.getD i ByteArray.empty))) :
    Calls Tryz.prog 104 #[.agg #[.string nm, .int .i64 kind, .int .i64 least, .int .i64 most, .slice (some ⟨b, off, none⟩) ss.length cap, .string to, .int .i64 role, .bool must, .bool fixed, .string de, .string we], .string v] w
      fun e w' => e = .returned (.bool (Pl.fits kind least most ss v)) ∧ Below w.heap.size w w' := by
  by_cases h1 : kind = 1
  · subst h1; exact implFits_1 nm least most b off cap to role must fixed de we v ss w hv
  by_cases h2 : kind = 2
  · subst h2; exact implFits_2 nm least most b off cap to role must fixed de we v ss w hb hl hc
  by_cases h3 : kind = 3
  · subst h3; exact implFits_3 nm least most b off cap to role must fixed de we v ss w hv
  by_cases h4 : kind = 4
  · subst h4; exact implFits_4 nm least most b off cap to role must fixed de we v ss w hv
  exact implFits_0 nm kind least most _ to role must fixed de we v ss w (by simp [h1]) (by simp [h2]) (by simp [h3]) (by simp [h4])

end Go.Proofs.YtkjkklcflpchlaaGreat

namespace Go.Proofs.YtkjkklcflpchlaaGreat
open Go.RowKit Go.Deep

theorem emp_len {α : Type} (l : List α) : l.isEmpty = decide (l.length = 0) := by cases l <;> simp

set_option maxHeartbeats 2000000 in
theorem l1Bare_1 (f : Fld) (b : Nat) (w : World) (hs : f.small) (hk : f.kind = 1) :
    Calls Tryz.prog 113 #[.agg #[.string f.nm, .int .i64 1, .int .i64 f.least, .int .i64 f.most, .slice (some ⟨b, 0, none⟩) f.words.length f.words.length, .string f.to, .int .i64 f.role, .bool f.must, .bool f.fixed, .string f.de, .string f.we]] w fun e w' => e = .returned (.bool (bareB f)) ∧ Below w.heap.size w w' := by
  have hs' : f.words.length ≤ 1048576 := hs
  have HB : Hid (bareB f = (decide (f.words.length = 0) && f.to.toList.isEmpty && decide (f.role = 0))) := by show bareB f = _; simp [bareB, hk, emp_len f.words, Pl.isEmp]
  clear hs hk
  cases hd : decide (f.words.length = 0)
  all_goals
    have HD : Hid (decide (f.words.length = 0) = _) := hd
    simp only [decide_eq_false_iff_not, decide_eq_true_eq] at hd
    go_enter Tryz.func113, Tryz.ntmps113
    go_wp2
    all_goals go_ret
    all_goals refine ⟨Pl.ret_bool ?_, blw_alloc (Below.refl _ _) _⟩
    all_goals rw [HB.out, HD.out]
    all_goals clear HB HD
    all_goals go_light
    all_goals first | (simp_all; done) | (simp_all; omega) | (rw [Bool.eq_iff_iff]; simp_all; done) | (rw [Bool.eq_iff_iff]; simp_all; omega)

set_option maxHeartbeats 2000000 in
theorem bare_1 (f : Fld) (b : Nat) (w : World) (hs : f.small) (hk : f.kind = 1) :
    Calls Tryz.prog 168 #[.agg #[.string f.nm, .int .i64 1, .int .i64 f.least, .int .i64 f.most, .slice (some ⟨b, 0, none⟩) f.words.length f.words.length, .string f.to, .int .i64 f.role, .bool f.must, .bool f.fixed, .string f.de, .string f.we]] w fun e w' => e = .returned (.bool (bareB f)) ∧ Below w.heap.size w w' := by
  have hs' : f.words.length ≤ 1048576 := hs
  have HB : Hid (bareB f = (decide (f.words.length = 0) && f.to.toList.isEmpty && decide (f.role = 0))) := by show bareB f = _; simp [bareB, hk, emp_len f.words, Pl.isEmp]
  clear hs hk
  cases hd : decide (f.words.length = 0)
  all_goals
    have HD : Hid (decide (f.words.length = 0) = _) := hd
    simp only [decide_eq_false_iff_not, decide_eq_true_eq] at hd
    go_enter Tryz.func168, Tryz.ntmps168
    go_wp2
    all_goals go_ret
    all_goals refine ⟨Pl.ret_bool ?_, blw_alloc (Below.refl _ _) _⟩
    all_goals rw [HB.out, HD.out]
    all_goals clear HB HD
    all_goals go_light
    all_goals first | (simp_all; done) | (simp_all; omega) | (rw [Bool.eq_iff_iff]; simp_all; done) | (rw [Bool.eq_iff_iff]; simp_all; omega)

set_option maxHeartbeats 2000000 in
theorem l1Bare_2 (f : Fld) (b : Nat) (w : World) (hs : f.small) (hk : f.kind = 2) :
    Calls Tryz.prog 113 #[.agg #[.string f.nm, .int .i64 2, .int .i64 f.least, .int .i64 f.most, .slice (some ⟨b, 0, none⟩) f.words.length f.words.length, .string f.to, .int .i64 f.role, .bool f.must, .bool f.fixed, .string f.de, .string f.we]] w fun e w' => e = .returned (.bool (bareB f)) ∧ Below w.heap.size w w' := by
  have hs' : f.words.length ≤ 1048576 := hs
  have HB : Hid (bareB f = (decide (f.least = 0) && decide (f.most = 0) && f.to.toList.isEmpty && decide (f.role = 0) && f.we.toList.isEmpty)) := by show bareB f = _; simp [bareB, hk, Pl.isEmp]
  clear hs hk
  go_enter Tryz.func113, Tryz.ntmps113
  go_wp2
  all_goals go_ret
  all_goals refine ⟨Pl.ret_bool ?_, blw_alloc (Below.refl _ _) _⟩
  all_goals rw [HB.out]
  all_goals clear HB
  all_goals go_light
  all_goals first | (simp_all; done) | (simp_all; omega) | (rw [Bool.eq_iff_iff]; simp_all; done) | (rw [Bool.eq_iff_iff]; simp_all; omega)

set_option maxHeartbeats 2000000 in
theorem bare_2 (f : Fld) (b : Nat) (w : World) (hs : f.small) (hk : f.kind = 2) :
    Calls Tryz.prog 172 #[.agg #[.string f.nm, .int .i64 2, .int .i64 f.least, .int .i64 f.most, .slice (some ⟨b, 0, none⟩) f.words.length f.words.length, .string f.to, .int .i64 f.role, .bool f.must, .bool f.fixed, .string f.de, .string f.we]] w fun e w' => e = .returned (.bool (bareB f)) ∧ Below w.heap.size w w' := by
  have hs' : f.words.length ≤ 1048576 := hs
  have HB : Hid (bareB f = (decide (f.least = 0) && decide (f.most = 0) && f.to.toList.isEmpty && decide (f.role = 0) && f.we.toList.isEmpty)) := by show bareB f = _; simp [bareB, hk, Pl.isEmp]
  clear hs hk
  go_enter Tryz.func172, Tryz.ntmps172
  go_wp2
  all_goals go_ret
  all_goals refine ⟨Pl.ret_bool ?_, blw_alloc (Below.refl _ _) _⟩
  all_goals rw [HB.out]
  all_goals clear HB
  all_goals go_light
  all_goals first | (simp_all; done) | (simp_all; omega) | (rw [Bool.eq_iff_iff]; simp_all; done) | (rw [Bool.eq_iff_iff]; simp_all; omega)

set_option maxHeartbeats 2000000 in
theorem l1Bare_3 (f : Fld) (b : Nat) (w : World) (hs : f.small) (hk : f.kind = 3) :
    Calls Tryz.prog 113 #[.agg #[.string f.nm, .int .i64 3, .int .i64 f.least, .int .i64 f.most, .slice (some ⟨b, 0, none⟩) f.words.length f.words.length, .string f.to, .int .i64 f.role, .bool f.must, .bool f.fixed, .string f.de, .string f.we]] w fun e w' => e = .returned (.bool (bareB f)) ∧ Below w.heap.size w w' := by
  have hs' : f.words.length ≤ 1048576 := hs
  have HB : Hid (bareB f = (decide (f.words.length = 0) && f.to.toList.isEmpty && decide (f.role = 0) && f.we.toList.isEmpty)) := by show bareB f = _; simp [bareB, hk, emp_len f.words, Pl.isEmp]
  clear hs hk
  cases hd : decide (f.words.length = 0)
  all_goals
    have HD : Hid (decide (f.words.length = 0) = _) := hd
    simp only [decide_eq_false_iff_not, decide_eq_true_eq] at hd
    go_enter Tryz.func113, Tryz.ntmps113
    go_wp2
    all_goals go_ret
    all_goals refine ⟨Pl.ret_bool ?_, blw_alloc (Below.refl _ _) _⟩
    all_goals rw [HB.out, HD.out]
    all_goals clear HB HD
    all_goals go_light
    all_goals first | (simp_all; done) | (simp_all; omega) | (rw [Bool.eq_iff_iff]; simp_all; done) | (rw [Bool.eq_iff_iff]; simp_all; omega)

set_option maxHeartbeats 2000000 in
theorem bare_3 (f : Fld) (b : Nat) (w : World) (hs : f.small) (hk : f.kind = 3) :
    Calls Tryz.prog 177 #[.agg #[.string f.nm, .int .i64 3, .int .i64 f.least, .int .i64 f.most, .slice (some ⟨b, 0, none⟩) f.words.length f.words.length, .string f.to, .int .i64 f.role, .bool f.must, .bool f.fixed, .string f.de, .string f.we]] w fun e w' => e = .returned (.bool (bareB f)) ∧ Below w.heap.size w w' := by
  have hs' : f.words.length ≤ 1048576 := hs
  have HB : Hid (bareB f = (decide (f.words.length = 0) && f.to.toList.isEmpty && decide (f.role = 0) && f.we.toList.isEmpty)) := by show bareB f = _; simp [bareB, hk, emp_len f.words, Pl.isEmp]
  clear hs hk
  cases hd : decide (f.words.length = 0)
  all_goals
    have HD : Hid (decide (f.words.length = 0) = _) := hd
    simp only [decide_eq_false_iff_not, decide_eq_true_eq] at hd
    go_enter Tryz.func177, Tryz.ntmps177
    go_wp2
    all_goals go_ret
    all_goals refine ⟨Pl.ret_bool ?_, blw_alloc (Below.refl _ _) _⟩
    all_goals rw [HB.out, HD.out]
    all_goals clear HB HD
    all_goals go_light
    all_goals first | (simp_all; done) | (simp_all; omega) | (rw [Bool.eq_iff_iff]; simp_all; done) | (rw [Bool.eq_iff_iff]; simp_all; omega)

set_option maxHeartbeats 2000000 in
theorem l1Bare_4 (f : Fld) (b : Nat) (w : World) (hs : f.small) (hk : f.kind = 4) :
    Calls Tryz.prog 113 #[.agg #[.string f.nm, .int .i64 4, .int .i64 f.least, .int .i64 f.most, .slice (some ⟨b, 0, none⟩) f.words.length f.words.length, .string f.to, .int .i64 f.role, .bool f.must, .bool f.fixed, .string f.de, .string f.we]] w fun e w' => e = .returned (.bool (bareB f)) ∧ Below w.heap.size w w' := by
  have hs' : f.words.length ≤ 1048576 := hs
  have HB : Hid (bareB f = (decide (f.least = 0) && decide (f.most = 0) && decide (f.words.length = 0) && f.we.toList.isEmpty)) := by show bareB f = _; simp [bareB, hk, emp_len f.words, Pl.isEmp]
  clear hs hk
  cases hd : decide (f.words.length = 0)
  all_goals
    have HD : Hid (decide (f.words.length = 0) = _) := hd
    simp only [decide_eq_false_iff_not, decide_eq_true_eq] at hd
    go_enter Tryz.func113, Tryz.ntmps113
    go_wp2
    all_goals go_ret
    all_goals refine ⟨Pl.ret_bool ?_, blw_alloc (Below.refl _ _) _⟩
    all_goals rw [HB.out, HD.out]
    all_goals clear HB HD
    all_goals go_light
    all_goals first | (simp_all; done) | (simp_all; omega) | (rw [Bool.eq_iff_iff]; simp_all; done) | (rw [Bool.eq_iff_iff]; simp_all; omega)

set_option maxHeartbeats 2000000 in
theorem bare_4 (f : Fld) (b : Nat) (w : World) (hs : f.small) (hk : f.kind = 4) :
    Calls Tryz.prog 180 #[.agg #[.string f.nm, .int .i64 4, .int .i64 f.least, .int .i64 f.most, .slice (some ⟨b, 0, none⟩) f.words.length f.words.length, .string f.to, .int .i64 f.role, .bool f.must, .bool f.fixed, .string f.de, .string f.we]] w fun e w' => e = .returned (.bool (bareB f)) ∧ Below w.heap.size w w' := by
  have hs' : f.words.length ≤ 1048576 := hs
  have HB : Hid (bareB f = (decide (f.least = 0) && decide (f.most = 0) && decide (f.words.length = 0) && f.we.toList.isEmpty)) := by show bareB f = _; simp [bareB, hk, emp_len f.words, Pl.isEmp]
  clear hs hk
  cases hd : decide (f.words.length = 0)
  all_goals
    have HD : Hid (decide (f.words.length = 0) = _) := hd
    simp only [decide_eq_false_iff_not, decide_eq_true_eq] at hd
    go_enter Tryz.func180, Tryz.ntmps180
    go_wp2
    all_goals go_ret
    all_goals refine ⟨Pl.ret_bool ?_, blw_alloc (Below.refl _ _) _⟩
    all_goals rw [HB.out, HD.out]
    all_goals clear HB HD
    all_goals go_light
    all_goals first | (simp_all; done) | (simp_all; omega) | (rw [Bool.eq_iff_iff]; simp_all; done) | (rw [Bool.eq_iff_iff]; simp_all; omega)

end Go.Proofs.YtkjkklcflpchlaaGreat

namespace Go.Proofs.YtkjkklcflpchlaaGreat
open Go.RowKit Go.Deep

/-- A field as it is handed on: its texts in the block b. -/
structure FldArg (w : World) (b : Nat) (f : Fld) : Prop where
  lt : b < w.heap.size
  small : f.small
  sized : f.sized
  sizes : ∀ i, i < f.words.length → (f.words.getD i ByteArray.empty).size ≤ maxLen
  cells : ∀ i, i < f.words.length → w.cell? ⟨b, 0 + i, none⟩ = some (.string (f.words.getD i ByteArray.empty))

theorem FldArg.later {w w' : World} {b : Nat} {f : Fld} (h : FldArg w b f) (hb : Below w.heap.size w w') : FldArg w' b f :=
  ⟨Nat.lt_of_lt_of_le h.lt hb.size, h.small, h.sized, h.sizes, fun i hi => (hb.cell (p := ⟨b, 0 + i, none⟩) h.lt).trans (h.cells i hi)⟩

theorem methBare77 (nm : ByteArray) (kind least most : Int) (vs : Value) (to : ByteArray) (role : Int) (must fixed : Bool) (de we : ByteArray) (w : World) : (method 342 196 (.agg #[.string nm, .int .i64 kind, .int .i64 least, .int .i64 most, vs, .string to, .int .i64 role, .bool must, .bool fixed, .string de, .string we]) "loop.example/wharfdesk/impl.bare").run Tryz.prog w = .ok (168, .agg #[.string nm, .int .i64 kind, .int .i64 least, .int .i64 most, vs, .string to, .int .i64 role, .bool must, .bool fixed, .string de, .string we]) w := by kernel_rfl
theorem methBound77 (nm : ByteArray) (kind least most : Int) (vs : Value) (to : ByteArray) (role : Int) (must fixed : Bool) (de we : ByteArray) (w : World) : (method 342 196 (.agg #[.string nm, .int .i64 kind, .int .i64 least, .int .i64 most, vs, .string to, .int .i64 role, .bool must, .bool fixed, .string de, .string we]) "loop.example/wharfdesk/impl.bounded").run Tryz.prog w = .ok (169, .agg #[.string nm, .int .i64 kind, .int .i64 least, .int .i64 most, vs, .string to, .int .i64 role, .bool must, .bool fixed, .string de, .string we]) w := by kernel_rfl
theorem methBare79 (nm : ByteArray) (kind least most : Int) (vs : Value) (to : ByteArray) (role : Int) (must fixed : Bool) (de we : ByteArray) (w : World) : (method 342 198 (.agg #[.string nm, .int .i64 kind, .int .i64 least, .int .i64 most, vs, .string to, .int .i64 role, .bool must, .bool fixed, .string de, .string we]) "loop.example/wharfdesk/impl.bare").run Tryz.prog w = .ok (172, .agg #[.string nm, .int .i64 kind, .int .i64 least, .int .i64 most, vs, .string to, .int .i64 role, .bool must, .bool fixed, .string de, .string we]) w := by kernel_rfl
theorem methBound79 (nm : ByteArray) (kind least most : Int) (vs : Value) (to : ByteArray) (role : Int) (must fixed : Bool) (de we : ByteArray) (w : World) : (method 342 198 (.agg #[.string nm, .int .i64 kind, .int .i64 least, .int .i64 most, vs, .string to, .int .i64 role, .bool must, .bool fixed, .string de, .string we]) "loop.example/wharfdesk/impl.bounded").run Tryz.prog w = .ok (173, .agg #[.string nm, .int .i64 kind, .int .i64 least, .int .i64 most, vs, .string to, .int .i64 role, .bool must, .bool fixed, .string de, .string we]) w := by kernel_rfl
theorem methBare80 (nm : ByteArray) (kind least most : Int) (vs : Value) (to : ByteArray) (role : Int) (must fixed : Bool) (de we : ByteArray) (w : World) : (method 342 199 (.agg #[.string nm, .int .i64 kind, .int .i64 least, .int .i64 most, vs, .string to, .int .i64 role, .bool must, .bool fixed, .string de, .string we]) "loop.example/wharfdesk/impl.bare").run Tryz.prog w = .ok (177, .agg #[.string nm, .int .i64 kind, .int .i64 least, .int .i64 most, vs, .string to, .int .i64 role, .bool must, .bool fixed, .string de, .string we]) w := by kernel_rfl
theorem methBound80 (nm : ByteArray) (kind least most : Int) (vs : Value) (to : ByteArray) (role : Int) (must fixed : Bool) (de we : ByteArray) (w : World) : (method 342 199 (.agg #[.string nm, .int .i64 kind, .int .i64 least, .int .i64 most, vs, .string to, .int .i64 role, .bool must, .bool fixed, .string de, .string we]) "loop.example/wharfdesk/impl.bounded").run Tryz.prog w = .ok (178, .agg #[.string nm, .int .i64 kind, .int .i64 least, .int .i64 most, vs, .string to, .int .i64 role, .bool must, .bool fixed, .string de, .string we]) w := by kernel_rfl
theorem methBare81 (nm : ByteArray) (kind least most : Int) (vs : Value) (to : ByteArray) (role : Int) (must fixed : Bool) (de we : ByteArray) (w : World) : (method 342 200 (.agg #[.string nm, .int .i64 kind, .int .i64 least, .int .i64 most, vs, .string to, .int .i64 role, .bool must, .bool fixed, .string de, .string we]) "loop.example/wharfdesk/impl.bare").run Tryz.prog w = .ok (180, .agg #[.string nm, .int .i64 kind, .int .i64 least, .int .i64 most, vs, .string to, .int .i64 role, .bool must, .bool fixed, .string de, .string we]) w := by kernel_rfl
theorem methBound81 (nm : ByteArray) (kind least most : Int) (vs : Value) (to : ByteArray) (role : Int) (must fixed : Bool) (de we : ByteArray) (w : World) : (method 342 200 (.agg #[.string nm, .int .i64 kind, .int .i64 least, .int .i64 most, vs, .string to, .int .i64 role, .bool must, .bool fixed, .string de, .string we]) "loop.example/wharfdesk/impl.bounded").run Tryz.prog w = .ok (181, .agg #[.string nm, .int .i64 kind, .int .i64 least, .int .i64 most, vs, .string to, .int .i64 role, .bool must, .bool fixed, .string de, .string we]) w := by kernel_rfl
set_option maxHeartbeats 2000000 in
theorem fieldOkI_1 (f : Fld) (b B : Nat) (ss : List Shp) (w : World) (hk : f.kind = 1) (h : ShpsIn w B ss) (hp : FldArg w b f) :
    Calls Tryz.prog 116 #[.slice (some ⟨B, 0, none⟩) ss.length ss.length, .agg #[.string f.nm, .int .i64 1, .int .i64 f.least, .int .i64 f.most, .slice (some ⟨b, 0, none⟩) f.words.length f.words.length, .string f.to, .int .i64 f.role, .bool f.must, .bool f.fixed, .string f.de, .string f.we]] w fun e w' => e = .returned (.bool (fieldOk ss f)) ∧ Below w.heap.size w w' := by
  have HP : Hid (FldArg w b f) := hp
  have HL : Hid (ShpsIn w B ss) := h
  have HO : Hid (fieldOk ss f = (bareB f && boundB ss f && defB f)) := by show fieldOk ss f = _; simp [fieldOk, isKind, hk]
  have HBo : Hid (∀ W, Below w.heap.size w W → Calls Tryz.prog 169 #[.agg #[.string f.nm, .int .i64 1, .int .i64 f.least, .int .i64 f.most, .slice (some ⟨b, 0, none⟩) f.words.length f.words.length, .string f.to, .int .i64 f.role, .bool f.must, .bool f.fixed, .string f.de, .string f.we], .slice (some ⟨B, 0, none⟩) ss.length ss.length] W fun e w' => e = .returned (.bool (boundB ss f)) ∧ Below W.heap.size W w') := by
    intro W hW
    have Q := HP.out.later hW
    first | exact bounded_1 f b _ ss _ hk HP.out.sized.2.2.2 | exact absurd Q.lt (by omega)
  have HBa : Hid (∀ W, Calls Tryz.prog 168 #[.agg #[.string f.nm, .int .i64 1, .int .i64 f.least, .int .i64 f.most, .slice (some ⟨b, 0, none⟩) f.words.length f.words.length, .string f.to, .int .i64 f.role, .bool f.must, .bool f.fixed, .string f.de, .string f.we]] W fun e w' => e = .returned (.bool (bareB f)) ∧ Below W.heap.size W w') := fun W => bare_1 f b W HP.out.small hk
  have HFi : Hid (∀ W, Below w.heap.size w W → Calls Tryz.prog 118 #[.iface 196 (.agg #[.string f.nm, .int .i64 1, .int .i64 f.least, .int .i64 f.most, .slice (some ⟨b, 0, none⟩) f.words.length f.words.length, .string f.to, .int .i64 f.role, .bool f.must, .bool f.fixed, .string f.de, .string f.we]), .string f.de] W fun e w' => e = .returned (.bool (fitB f f.de)) ∧ Below W.heap.size W w') := by
    intro W hW
    have Q := HP.out.later hW
    have e : fitB f f.de = Pl.fits 1 f.least f.most f.words f.de := by rw [fitB, hk]
    rw [e, ← fits1 f.least f.most f.words f.de]
    first | exact kindFits77 f.nm 1 f.least f.most _ f.to f.role f.must f.fixed f.de f.we f.de W HP.out.sized.2.2.1 | exact absurd Q.lt (by omega)
  clear hp h hk
  have hm1 := methBare77 f.nm 1 f.least f.most (.slice (some ⟨b, 0, none⟩) f.words.length f.words.length) f.to f.role f.must f.fixed f.de f.we
  have hm2 := methBound77 f.nm 1 f.least f.most (.slice (some ⟨b, 0, none⟩) f.words.length f.words.length) f.to f.role f.must f.fixed f.de f.we
  go_enter Tryz.func116, Tryz.ntmps116
  go_wp2_with fail
  refine (kindOf_1 _ _ _ _ _ _ _ _ _ _ _).mono ?_
  rintro e w1 ⟨rfl, hb1⟩
  have hB1 := blw_trans (blw_alloc (Below.refl w.heap.size w) (.cells #[.string f.nm, .int .i64 1, .int .i64 f.least, .int .i64 f.most, .slice (some ⟨b, 0, none⟩) f.words.length f.words.length, .string f.to, .int .i64 f.role, .bool f.must, .bool f.fixed, .string f.de, .string f.we] 160)) hb1
  have k1 : ∀ o, w1.cell? ⟨w.heap.size, o, none⟩ = (w.alloc (.cells #[.string f.nm, .int .i64 1, .int .i64 f.least, .int .i64 f.most, .slice (some ⟨b, 0, none⟩) f.words.length f.words.length, .string f.to, .int .i64 f.role, .bool f.must, .bool f.fixed, .string f.de, .string f.we] 160)).cell? ⟨w.heap.size, o, none⟩ := fun o => hb1.cell (p := ⟨w.heap.size, o, none⟩) (by simp)
  have z1 : w.heap.size < w1.heap.size := by have := hb1.size; simp at this; omega
  clear hb1
  go_wp2_with fail
  refine (HBa.out _).mono ?_
  rintro e w2 ⟨rfl, hb2⟩
  have hB2 := blw_trans hB1 hb2
  have k2 : ∀ o, w2.cell? ⟨w.heap.size, o, none⟩ = (w.alloc (.cells #[.string f.nm, .int .i64 1, .int .i64 f.least, .int .i64 f.most, .slice (some ⟨b, 0, none⟩) f.words.length f.words.length, .string f.to, .int .i64 f.role, .bool f.must, .bool f.fixed, .string f.de, .string f.we] 160)).cell? ⟨w.heap.size, o, none⟩ := fun o => (hb2.cell (p := ⟨w.heap.size, o, none⟩) z1).trans (k1 o)
  have z2 : w.heap.size < w2.heap.size := Nat.lt_of_lt_of_le z1 hb2.size
  clear hb2 k1 hB1 z1 HBa hm1
  cases hba : bareB f
  · have HF : Hid (fieldOk ss f = false) := by show fieldOk ss f = _; rw [HO.out, hba]; rfl
    go_wp2
    go_ret
    exact ⟨Pl.ret_bool HF.out.symm, hB2⟩
  go_wp2_with fail
  refine (HBo.out _ hB2).mono ?_
  rintro e w3 ⟨rfl, hb3⟩
  have hB3 := blw_trans hB2 hb3
  have k3 : ∀ o, w3.cell? ⟨w.heap.size, o, none⟩ = (w.alloc (.cells #[.string f.nm, .int .i64 1, .int .i64 f.least, .int .i64 f.most, .slice (some ⟨b, 0, none⟩) f.words.length f.words.length, .string f.to, .int .i64 f.role, .bool f.must, .bool f.fixed, .string f.de, .string f.we] 160)).cell? ⟨w.heap.size, o, none⟩ := fun o => (hb3.cell (p := ⟨w.heap.size, o, none⟩) z2).trans (k2 o)
  clear hb3 k2 hB2 z2 HBo hm2
  cases hbo : boundB ss f
  · have HF : Hid (fieldOk ss f = false) := by show fieldOk ss f = _; rw [HO.out, hbo]; simp
    go_wp2
    go_ret
    exact ⟨Pl.ret_bool HF.out.symm, hB3⟩
  cases hem : f.de.toList.isEmpty
  · have HF : Hid (fieldOk ss f = fitB f f.de) := by show fieldOk ss f = _; rw [HO.out, hba, hbo]; simp [defB, Pl.isEmp, hem]
    go_wp2_with fail
    refine (HFi.out _ hB3).mono ?_
    rintro e w4 ⟨rfl, hb4⟩
    have hB4 := blw_trans hB3 hb4
    go_wp2
    go_ret
    exact ⟨Pl.ret_bool HF.out.symm, hB4⟩
  · have HF : Hid (fieldOk ss f = true) := by show fieldOk ss f = _; rw [HO.out, hba, hbo]; simp [defB, Pl.isEmp, hem]
    go_wp2
    go_ret
    exact ⟨Pl.ret_bool HF.out.symm, hB3⟩

set_option maxHeartbeats 2000000 in
theorem fieldOkI_2 (f : Fld) (b B : Nat) (ss : List Shp) (w : World) (hk : f.kind = 2) (h : ShpsIn w B ss) (hp : FldArg w b f) :
    Calls Tryz.prog 116 #[.slice (some ⟨B, 0, none⟩) ss.length ss.length, .agg #[.string f.nm, .int .i64 2, .int .i64 f.least, .int .i64 f.most, .slice (some ⟨b, 0, none⟩) f.words.length f.words.length, .string f.to, .int .i64 f.role, .bool f.must, .bool f.fixed, .string f.de, .string f.we]] w fun e w' => e = .returned (.bool (fieldOk ss f)) ∧ Below w.heap.size w w' := by
  have HP : Hid (FldArg w b f) := hp
  have HL : Hid (ShpsIn w B ss) := h
  have HO : Hid (fieldOk ss f = (bareB f && boundB ss f && defB f)) := by show fieldOk ss f = _; simp [fieldOk, isKind, hk]
  have HBo : Hid (∀ W, Below w.heap.size w W → Calls Tryz.prog 173 #[.agg #[.string f.nm, .int .i64 2, .int .i64 f.least, .int .i64 f.most, .slice (some ⟨b, 0, none⟩) f.words.length f.words.length, .string f.to, .int .i64 f.role, .bool f.must, .bool f.fixed, .string f.de, .string f.we], .slice (some ⟨B, 0, none⟩) ss.length ss.length] W fun e w' => e = .returned (.bool (boundB ss f)) ∧ Below W.heap.size W w') := by
    intro W hW
    have Q := HP.out.later hW
    first | exact bounded_2 f b _ ss _ hk HP.out.small Q.lt Q.sizes Q.cells | exact absurd Q.lt (by omega)
  have HBa : Hid (∀ W, Calls Tryz.prog 172 #[.agg #[.string f.nm, .int .i64 2, .int .i64 f.least, .int .i64 f.most, .slice (some ⟨b, 0, none⟩) f.words.length f.words.length, .string f.to, .int .i64 f.role, .bool f.must, .bool f.fixed, .string f.de, .string f.we]] W fun e w' => e = .returned (.bool (bareB f)) ∧ Below W.heap.size W w') := fun W => bare_2 f b W HP.out.small hk
  have HFi : Hid (∀ W, Below w.heap.size w W → Calls Tryz.prog 118 #[.iface 198 (.agg #[.string f.nm, .int .i64 2, .int .i64 f.least, .int .i64 f.most, .slice (some ⟨b, 0, none⟩) f.words.length f.words.length, .string f.to, .int .i64 f.role, .bool f.must, .bool f.fixed, .string f.de, .string f.we]), .string f.de] W fun e w' => e = .returned (.bool (fitB f f.de)) ∧ Below W.heap.size W w') := by
    intro W hW
    have Q := HP.out.later hW
    have e : fitB f f.de = Pl.fits 2 f.least f.most f.words f.de := by rw [fitB, hk]
    rw [e, ← fits2 f.least f.most f.words f.de]
    first | exact kindFits79 f.nm 2 f.least f.most b 0 f.words.length f.to f.role f.must f.fixed f.de f.we f.de f.words W Q.lt (by have : f.words.length ≤ 1048576 := HP.out.small; unfold maxLen; omega) Q.cells | exact absurd Q.lt (by omega)
  clear hp h hk
  have hm1 := methBare79 f.nm 2 f.least f.most (.slice (some ⟨b, 0, none⟩) f.words.length f.words.length) f.to f.role f.must f.fixed f.de f.we
  have hm2 := methBound79 f.nm 2 f.least f.most (.slice (some ⟨b, 0, none⟩) f.words.length f.words.length) f.to f.role f.must f.fixed f.de f.we
  go_enter Tryz.func116, Tryz.ntmps116
  go_wp2_with fail
  refine (kindOf_2 _ _ _ _ _ _ _ _ _ _ _).mono ?_
  rintro e w1 ⟨rfl, hb1⟩
  have hB1 := blw_trans (blw_alloc (Below.refl w.heap.size w) (.cells #[.string f.nm, .int .i64 2, .int .i64 f.least, .int .i64 f.most, .slice (some ⟨b, 0, none⟩) f.words.length f.words.length, .string f.to, .int .i64 f.role, .bool f.must, .bool f.fixed, .string f.de, .string f.we] 160)) hb1
  have k1 : ∀ o, w1.cell? ⟨w.heap.size, o, none⟩ = (w.alloc (.cells #[.string f.nm, .int .i64 2, .int .i64 f.least, .int .i64 f.most, .slice (some ⟨b, 0, none⟩) f.words.length f.words.length, .string f.to, .int .i64 f.role, .bool f.must, .bool f.fixed, .string f.de, .string f.we] 160)).cell? ⟨w.heap.size, o, none⟩ := fun o => hb1.cell (p := ⟨w.heap.size, o, none⟩) (by simp)
  have z1 : w.heap.size < w1.heap.size := by have := hb1.size; simp at this; omega
  clear hb1
  go_wp2_with fail
  refine (HBa.out _).mono ?_
  rintro e w2 ⟨rfl, hb2⟩
  have hB2 := blw_trans hB1 hb2
  have k2 : ∀ o, w2.cell? ⟨w.heap.size, o, none⟩ = (w.alloc (.cells #[.string f.nm, .int .i64 2, .int .i64 f.least, .int .i64 f.most, .slice (some ⟨b, 0, none⟩) f.words.length f.words.length, .string f.to, .int .i64 f.role, .bool f.must, .bool f.fixed, .string f.de, .string f.we] 160)).cell? ⟨w.heap.size, o, none⟩ := fun o => (hb2.cell (p := ⟨w.heap.size, o, none⟩) z1).trans (k1 o)
  have z2 : w.heap.size < w2.heap.size := Nat.lt_of_lt_of_le z1 hb2.size
  clear hb2 k1 hB1 z1 HBa hm1
  cases hba : bareB f
  · have HF : Hid (fieldOk ss f = false) := by show fieldOk ss f = _; rw [HO.out, hba]; rfl
    go_wp2
    go_ret
    exact ⟨Pl.ret_bool HF.out.symm, hB2⟩
  go_wp2_with fail
  refine (HBo.out _ hB2).mono ?_
  rintro e w3 ⟨rfl, hb3⟩
  have hB3 := blw_trans hB2 hb3
  have k3 : ∀ o, w3.cell? ⟨w.heap.size, o, none⟩ = (w.alloc (.cells #[.string f.nm, .int .i64 2, .int .i64 f.least, .int .i64 f.most, .slice (some ⟨b, 0, none⟩) f.words.length f.words.length, .string f.to, .int .i64 f.role, .bool f.must, .bool f.fixed, .string f.de, .string f.we] 160)).cell? ⟨w.heap.size, o, none⟩ := fun o => (hb3.cell (p := ⟨w.heap.size, o, none⟩) z2).trans (k2 o)
  clear hb3 k2 hB2 z2 HBo hm2
  cases hbo : boundB ss f
  · have HF : Hid (fieldOk ss f = false) := by show fieldOk ss f = _; rw [HO.out, hbo]; simp
    go_wp2
    go_ret
    exact ⟨Pl.ret_bool HF.out.symm, hB3⟩
  cases hem : f.de.toList.isEmpty
  · have HF : Hid (fieldOk ss f = fitB f f.de) := by show fieldOk ss f = _; rw [HO.out, hba, hbo]; simp [defB, Pl.isEmp, hem]
    go_wp2_with fail
    refine (HFi.out _ hB3).mono ?_
    rintro e w4 ⟨rfl, hb4⟩
    have hB4 := blw_trans hB3 hb4
    go_wp2
    go_ret
    exact ⟨Pl.ret_bool HF.out.symm, hB4⟩
  · have HF : Hid (fieldOk ss f = true) := by show fieldOk ss f = _; rw [HO.out, hba, hbo]; simp [defB, Pl.isEmp, hem]
    go_wp2
    go_ret
    exact ⟨Pl.ret_bool HF.out.symm, hB3⟩

set_option maxHeartbeats 2000000 in
theorem fieldOkI_3 (f : Fld) (b B : Nat) (ss : List Shp) (w : World) (hk : f.kind = 3) (h : ShpsIn w B ss) (hp : FldArg w b f) :
    Calls Tryz.prog 116 #[.slice (some ⟨B, 0, none⟩) ss.length ss.length, .agg #[.string f.nm, .int .i64 3, .int .i64 f.least, .int .i64 f.most, .slice (some ⟨b, 0, none⟩) f.words.length f.words.length, .string f.to, .int .i64 f.role, .bool f.must, .bool f.fixed, .string f.de, .string f.we]] w fun e w' => e = .returned (.bool (fieldOk ss f)) ∧ Below w.heap.size w w' := by
  have HP : Hid (FldArg w b f) := hp
  have HL : Hid (ShpsIn w B ss) := h
  have HO : Hid (fieldOk ss f = (bareB f && boundB ss f && defB f)) := by show fieldOk ss f = _; simp [fieldOk, isKind, hk]
  have HBo : Hid (∀ W, Below w.heap.size w W → Calls Tryz.prog 178 #[.agg #[.string f.nm, .int .i64 3, .int .i64 f.least, .int .i64 f.most, .slice (some ⟨b, 0, none⟩) f.words.length f.words.length, .string f.to, .int .i64 f.role, .bool f.must, .bool f.fixed, .string f.de, .string f.we], .slice (some ⟨B, 0, none⟩) ss.length ss.length] W fun e w' => e = .returned (.bool (boundB ss f)) ∧ Below W.heap.size W w') := by
    intro W hW
    have Q := HP.out.later hW
    first | exact bounded_3 f b _ ss _ hk | exact absurd Q.lt (by omega)
  have HBa : Hid (∀ W, Calls Tryz.prog 177 #[.agg #[.string f.nm, .int .i64 3, .int .i64 f.least, .int .i64 f.most, .slice (some ⟨b, 0, none⟩) f.words.length f.words.length, .string f.to, .int .i64 f.role, .bool f.must, .bool f.fixed, .string f.de, .string f.we]] W fun e w' => e = .returned (.bool (bareB f)) ∧ Below W.heap.size W w') := fun W => bare_3 f b W HP.out.small hk
  have HFi : Hid (∀ W, Below w.heap.size w W → Calls Tryz.prog 118 #[.iface 199 (.agg #[.string f.nm, .int .i64 3, .int .i64 f.least, .int .i64 f.most, .slice (some ⟨b, 0, none⟩) f.words.length f.words.length, .string f.to, .int .i64 f.role, .bool f.must, .bool f.fixed, .string f.de, .string f.we]), .string f.de] W fun e w' => e = .returned (.bool (fitB f f.de)) ∧ Below W.heap.size W w') := by
    intro W hW
    have Q := HP.out.later hW
    have e : fitB f f.de = Pl.fits 3 f.least f.most f.words f.de := by rw [fitB, hk]
    rw [e, ← fits3 f.least f.most f.words f.de]
    first | exact kindFits80 f.nm 3 f.least f.most _ f.to f.role f.must f.fixed f.de f.we f.de W HP.out.sized.2.2.1 | exact absurd Q.lt (by omega)
  clear hp h hk
  have hm1 := methBare80 f.nm 3 f.least f.most (.slice (some ⟨b, 0, none⟩) f.words.length f.words.length) f.to f.role f.must f.fixed f.de f.we
  have hm2 := methBound80 f.nm 3 f.least f.most (.slice (some ⟨b, 0, none⟩) f.words.length f.words.length) f.to f.role f.must f.fixed f.de f.we
  go_enter Tryz.func116, Tryz.ntmps116
  go_wp2_with fail
  refine (kindOf_3 _ _ _ _ _ _ _ _ _ _ _).mono ?_
  rintro e w1 ⟨rfl, hb1⟩
  have hB1 := blw_trans (blw_alloc (Below.refl w.heap.size w) (.cells #[.string f.nm, .int .i64 3, .int .i64 f.least, .int .i64 f.most, .slice (some ⟨b, 0, none⟩) f.words.length f.words.length, .string f.to, .int .i64 f.role, .bool f.must, .bool f.fixed, .string f.de, .string f.we] 160)) hb1
  have k1 : ∀ o, w1.cell? ⟨w.heap.size, o, none⟩ = (w.alloc (.cells #[.string f.nm, .int .i64 3, .int .i64 f.least, .int .i64 f.most, .slice (some ⟨b, 0, none⟩) f.words.length f.words.length, .string f.to, .int .i64 f.role, .bool f.must, .bool f.fixed, .string f.de, .string f.we] 160)).cell? ⟨w.heap.size, o, none⟩ := fun o => hb1.cell (p := ⟨w.heap.size, o, none⟩) (by simp)
  have z1 : w.heap.size < w1.heap.size := by have := hb1.size; simp at this; omega
  clear hb1
  go_wp2_with fail
  refine (HBa.out _).mono ?_
  rintro e w2 ⟨rfl, hb2⟩
  have hB2 := blw_trans hB1 hb2
  have k2 : ∀ o, w2.cell? ⟨w.heap.size, o, none⟩ = (w.alloc (.cells #[.string f.nm, .int .i64 3, .int .i64 f.least, .int .i64 f.most, .slice (some ⟨b, 0, none⟩) f.words.length f.words.length, .string f.to, .int .i64 f.role, .bool f.must, .bool f.fixed, .string f.de, .string f.we] 160)).cell? ⟨w.heap.size, o, none⟩ := fun o => (hb2.cell (p := ⟨w.heap.size, o, none⟩) z1).trans (k1 o)
  have z2 : w.heap.size < w2.heap.size := Nat.lt_of_lt_of_le z1 hb2.size
  clear hb2 k1 hB1 z1 HBa hm1
  cases hba : bareB f
  · have HF : Hid (fieldOk ss f = false) := by show fieldOk ss f = _; rw [HO.out, hba]; rfl
    go_wp2
    go_ret
    exact ⟨Pl.ret_bool HF.out.symm, hB2⟩
  go_wp2_with fail
  refine (HBo.out _ hB2).mono ?_
  rintro e w3 ⟨rfl, hb3⟩
  have hB3 := blw_trans hB2 hb3
  have k3 : ∀ o, w3.cell? ⟨w.heap.size, o, none⟩ = (w.alloc (.cells #[.string f.nm, .int .i64 3, .int .i64 f.least, .int .i64 f.most, .slice (some ⟨b, 0, none⟩) f.words.length f.words.length, .string f.to, .int .i64 f.role, .bool f.must, .bool f.fixed, .string f.de, .string f.we] 160)).cell? ⟨w.heap.size, o, none⟩ := fun o => (hb3.cell (p := ⟨w.heap.size, o, none⟩) z2).trans (k2 o)
  clear hb3 k2 hB2 z2 HBo hm2
  cases hbo : boundB ss f
  · have HF : Hid (fieldOk ss f = false) := by show fieldOk ss f = _; rw [HO.out, hbo]; simp
    go_wp2
    go_ret
    exact ⟨Pl.ret_bool HF.out.symm, hB3⟩
  cases hem : f.de.toList.isEmpty
  · have HF : Hid (fieldOk ss f = fitB f f.de) := by show fieldOk ss f = _; rw [HO.out, hba, hbo]; simp [defB, Pl.isEmp, hem]
    go_wp2_with fail
    refine (HFi.out _ hB3).mono ?_
    rintro e w4 ⟨rfl, hb4⟩
    have hB4 := blw_trans hB3 hb4
    go_wp2
    go_ret
    exact ⟨Pl.ret_bool HF.out.symm, hB4⟩
  · have HF : Hid (fieldOk ss f = true) := by show fieldOk ss f = _; rw [HO.out, hba, hbo]; simp [defB, Pl.isEmp, hem]
    go_wp2
    go_ret
    exact ⟨Pl.ret_bool HF.out.symm, hB3⟩

set_option maxHeartbeats 2000000 in
theorem fieldOkI_4 (f : Fld) (b B : Nat) (ss : List Shp) (w : World) (hk : f.kind = 4) (h : ShpsIn w B ss) (hp : FldArg w b f) :
    Calls Tryz.prog 116 #[.slice (some ⟨B, 0, none⟩) ss.length ss.length, .agg #[.string f.nm, .int .i64 4, .int .i64 f.least, .int .i64 f.most, .slice (some ⟨b, 0, none⟩) f.words.length f.words.length, .string f.to, .int .i64 f.role, .bool f.must, .bool f.fixed, .string f.de, .string f.we]] w fun e w' => e = .returned (.bool (fieldOk ss f)) ∧ Below w.heap.size w w' := by
  have HP : Hid (FldArg w b f) := hp
  have HL : Hid (ShpsIn w B ss) := h
  have HO : Hid (fieldOk ss f = (bareB f && boundB ss f && defB f)) := by show fieldOk ss f = _; simp [fieldOk, isKind, hk]
  have HBo : Hid (∀ W, Below w.heap.size w W → Calls Tryz.prog 181 #[.agg #[.string f.nm, .int .i64 4, .int .i64 f.least, .int .i64 f.most, .slice (some ⟨b, 0, none⟩) f.words.length f.words.length, .string f.to, .int .i64 f.role, .bool f.must, .bool f.fixed, .string f.de, .string f.we], .slice (some ⟨B, 0, none⟩) ss.length ss.length] W fun e w' => e = .returned (.bool (boundB ss f)) ∧ Below W.heap.size W w') := by
    intro W hW
    have Q := HP.out.later hW
    first | exact bounded_4 f b B ss W hk (HL.out.later hW) | exact absurd Q.lt (by omega)
  have HBa : Hid (∀ W, Calls Tryz.prog 180 #[.agg #[.string f.nm, .int .i64 4, .int .i64 f.least, .int .i64 f.most, .slice (some ⟨b, 0, none⟩) f.words.length f.words.length, .string f.to, .int .i64 f.role, .bool f.must, .bool f.fixed, .string f.de, .string f.we]] W fun e w' => e = .returned (.bool (bareB f)) ∧ Below W.heap.size W w') := fun W => bare_4 f b W HP.out.small hk
  have HFi : Hid (∀ W, Below w.heap.size w W → Calls Tryz.prog 118 #[.iface 200 (.agg #[.string f.nm, .int .i64 4, .int .i64 f.least, .int .i64 f.most, .slice (some ⟨b, 0, none⟩) f.words.length f.words.length, .string f.to, .int .i64 f.role, .bool f.must, .bool f.fixed, .string f.de, .string f.we]), .string f.de] W fun e w' => e = .returned (.bool (fitB f f.de)) ∧ Below W.heap.size W w') := by
    intro W hW
    have Q := HP.out.later hW
    have e : fitB f f.de = Pl.fits 4 f.least f.most f.words f.de := by rw [fitB, hk]
    rw [e, ← fits4 f.least f.most f.words f.de]
    first | exact kindFits81 f.nm 4 f.least f.most _ f.to f.role f.must f.fixed f.de f.we f.de W HP.out.sized.2.2.1 | exact absurd Q.lt (by omega)
  clear hp h hk
  have hm1 := methBare81 f.nm 4 f.least f.most (.slice (some ⟨b, 0, none⟩) f.words.length f.words.length) f.to f.role f.must f.fixed f.de f.we
  have hm2 := methBound81 f.nm 4 f.least f.most (.slice (some ⟨b, 0, none⟩) f.words.length f.words.length) f.to f.role f.must f.fixed f.de f.we
  go_enter Tryz.func116, Tryz.ntmps116
  go_wp2_with fail
  refine (kindOf_4 _ _ _ _ _ _ _ _ _ _ _).mono ?_
  rintro e w1 ⟨rfl, hb1⟩
  have hB1 := blw_trans (blw_alloc (Below.refl w.heap.size w) (.cells #[.string f.nm, .int .i64 4, .int .i64 f.least, .int .i64 f.most, .slice (some ⟨b, 0, none⟩) f.words.length f.words.length, .string f.to, .int .i64 f.role, .bool f.must, .bool f.fixed, .string f.de, .string f.we] 160)) hb1
  have k1 : ∀ o, w1.cell? ⟨w.heap.size, o, none⟩ = (w.alloc (.cells #[.string f.nm, .int .i64 4, .int .i64 f.least, .int .i64 f.most, .slice (some ⟨b, 0, none⟩) f.words.length f.words.length, .string f.to, .int .i64 f.role, .bool f.must, .bool f.fixed, .string f.de, .string f.we] 160)).cell? ⟨w.heap.size, o, none⟩ := fun o => hb1.cell (p := ⟨w.heap.size, o, none⟩) (by simp)
  have z1 : w.heap.size < w1.heap.size := by have := hb1.size; simp at this; omega
  clear hb1
  go_wp2_with fail
  refine (HBa.out _).mono ?_
  rintro e w2 ⟨rfl, hb2⟩
  have hB2 := blw_trans hB1 hb2
  have k2 : ∀ o, w2.cell? ⟨w.heap.size, o, none⟩ = (w.alloc (.cells #[.string f.nm, .int .i64 4, .int .i64 f.least, .int .i64 f.most, .slice (some ⟨b, 0, none⟩) f.words.length f.words.length, .string f.to, .int .i64 f.role, .bool f.must, .bool f.fixed, .string f.de, .string f.we] 160)).cell? ⟨w.heap.size, o, none⟩ := fun o => (hb2.cell (p := ⟨w.heap.size, o, none⟩) z1).trans (k1 o)
  have z2 : w.heap.size < w2.heap.size := Nat.lt_of_lt_of_le z1 hb2.size
  clear hb2 k1 hB1 z1 HBa hm1
  cases hba : bareB f
  · have HF : Hid (fieldOk ss f = false) := by show fieldOk ss f = _; rw [HO.out, hba]; rfl
    go_wp2
    go_ret
    exact ⟨Pl.ret_bool HF.out.symm, hB2⟩
  go_wp2_with fail
  refine (HBo.out _ hB2).mono ?_
  rintro e w3 ⟨rfl, hb3⟩
  have hB3 := blw_trans hB2 hb3
  have k3 : ∀ o, w3.cell? ⟨w.heap.size, o, none⟩ = (w.alloc (.cells #[.string f.nm, .int .i64 4, .int .i64 f.least, .int .i64 f.most, .slice (some ⟨b, 0, none⟩) f.words.length f.words.length, .string f.to, .int .i64 f.role, .bool f.must, .bool f.fixed, .string f.de, .string f.we] 160)).cell? ⟨w.heap.size, o, none⟩ := fun o => (hb3.cell (p := ⟨w.heap.size, o, none⟩) z2).trans (k2 o)
  clear hb3 k2 hB2 z2 HBo hm2
  cases hbo : boundB ss f
  · have HF : Hid (fieldOk ss f = false) := by show fieldOk ss f = _; rw [HO.out, hbo]; simp
    go_wp2
    go_ret
    exact ⟨Pl.ret_bool HF.out.symm, hB3⟩
  cases hem : f.de.toList.isEmpty
  · have HF : Hid (fieldOk ss f = fitB f f.de) := by show fieldOk ss f = _; rw [HO.out, hba, hbo]; simp [defB, Pl.isEmp, hem]
    go_wp2_with fail
    refine (HFi.out _ hB3).mono ?_
    rintro e w4 ⟨rfl, hb4⟩
    have hB4 := blw_trans hB3 hb4
    go_wp2
    go_ret
    exact ⟨Pl.ret_bool HF.out.symm, hB4⟩
  · have HF : Hid (fieldOk ss f = true) := by show fieldOk ss f = _; rw [HO.out, hba, hbo]; simp [defB, Pl.isEmp, hem]
    go_wp2
    go_ret
    exact ⟨Pl.ret_bool HF.out.symm, hB3⟩

end Go.Proofs.YtkjkklcflpchlaaGreat
