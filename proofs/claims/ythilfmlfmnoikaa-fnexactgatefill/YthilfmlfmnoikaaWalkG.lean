/-
  The walks over the four rows' fits.
-/
import Derived.Test.YthilfmlfmnoikaaWalkF
namespace Go.Proofs.Ythilfmlfmnoikaa
open Go.RowKit

def fitNum (least most : Int) (v : ByteArray) : Bool := Pl.decOk v && decide (least ≤ decOut v) && decide (decOut v ≤ most)
def fitText (least most : Int) (v : ByteArray) : Bool := decide (least ≤ (v.size : Int)) && decide ((v.size : Int) ≤ most) && Pl.textBytes v

set_option maxHeartbeats 1000000 in
theorem numFits (nm : ByteArray) (kind least most : Int) (vs : Value) (to : ByteArray) (role : Int) (must fixed : Bool) (de we v : ByteArray) (w : World) (hv : v.size ≤ maxLen) :
    Calls Try.prog 81 #[.agg #[.string nm, .int .i64 kind, .int .i64 least, .int .i64 most, vs, .string to, .int .i64 role, .bool must, .bool fixed, .string de, .string we], .string v] w
      fun e w' => e = .returned (.bool (fitNum least most v)) ∧ Below w.heap.size w w' := by
  cases hd : Pl.decOk v
  · have HF : Hid (fitNum least most v = false) := by show fitNum least most v = false; simp [fitNum, hd]
    have HD : Hid (Pl.decOk v = false) := hd
    clear hd
    go_enter Try.func81, Try.ntmps81
    go_wp2_with fail
    refine (decimal_any _ _ hv).mono ?_
    rintro e w' ⟨rfl, rfl⟩
    rw [HD.out]
    go_wp2
    go_ret
    exact ⟨Pl.ret_bool HF.out.symm, blw_alloc (Below.refl _ _) _⟩
  · have HF : Hid (fitNum least most v = (decide (least ≤ decOut v) && decide (decOut v ≤ most))) := by show fitNum least most v = _; simp [fitNum, hd]
    have HD : Hid (Pl.decOk v = true) := hd
    clear hd
    by_cases h1 : least ≤ decOut v
    all_goals
      go_enter Try.func81, Try.ntmps81
      go_wp2_with fail
      refine (decimal_any _ _ hv).mono ?_
      rintro e w' ⟨rfl, rfl⟩
      rw [HD.out]
      go_wp2
      go_ret
      refine ⟨Pl.ret_bool ?_, blw_alloc (Below.refl _ _) _⟩
      rw [HF.out, Bool.eq_iff_iff]
      simp
      omega

set_option maxHeartbeats 1000000 in
theorem wordFits (nm : ByteArray) (kind least most : Int) (b off cap : Nat) (to : ByteArray) (role : Int) (must fixed : Bool) (de we v : ByteArray) (ss : List ByteArray) (w : World) (hb : b < w.heap.size) (hl : ss.length ≤ maxLen) (hc : ∀ i, i < ss.length → w.cell? ⟨b, off + i, none⟩ = some (.string (ss.getD i ByteArray.empty))) :
    Calls Try.prog 85 #[.agg #[.string nm, .int .i64 kind, .int .i64 least, .int .i64 most, .slice (some ⟨b, off, none⟩) ss.length cap, .string to, .int .i64 role, .bool must, .bool fixed, .string de, .string we], .string v] w
      fun e w' => e = .returned (.bool (Pl.has ss v)) ∧ Below w.heap.size w w' := by
  have HX : Hid (∀ o, Calls Try.prog 87 #[.slice (some ⟨b, off, none⟩) ss.length cap, .string v] (w.alloc o) fun e w' => e = .returned (.bool (Pl.has ss v)) ∧ (w.alloc o) = w') := by
    intro o
    refine contains_row b off cap ss v _ hl fun i hi => ?_
    rw [← hc i hi]
    exact (blw_alloc (Below.refl _ _) o : Below w.heap.size w _).cell (p := ⟨b, off + i, none⟩) hb
  clear hc
  go_enter Try.func85, Try.ntmps85
  go_wp2_with fail
  refine (HX.out _).mono ?_
  rintro e w' ⟨rfl, rfl⟩
  go_wp2
  go_ret
  exact ⟨rfl, blw_alloc (Below.refl _ _) _⟩

set_option maxHeartbeats 1000000 in
theorem textFits (nm : ByteArray) (kind least most : Int) (vs : Value) (to : ByteArray) (role : Int) (must fixed : Bool) (de we v : ByteArray) (w : World) (hv : v.size ≤ maxLen) :
    Calls Try.prog 91 #[.agg #[.string nm, .int .i64 kind, .int .i64 least, .int .i64 most, vs, .string to, .int .i64 role, .bool must, .bool fixed, .string de, .string we], .string v] w
      fun e w' => e = .returned (.bool (fitText least most v)) ∧ Below w.heap.size w w' := by
  unfold maxLen at hv
  by_cases hin : least ≤ (v.size : Int) ∧ (v.size : Int) ≤ most
  · have HI : Hid (fitText least most v = Pl.textBytes v) := by show fitText least most v = _; simp [fitText, hin.1, hin.2]
    obtain ⟨i1, i2⟩ := hin
    have t1 : decide ((v.size : Int) < least) = false := by simp; omega
    have t2 : decide (most < (v.size : Int)) = false := by simp; omega
    clear i1 i2
    go_enter Try.func91, Try.ntmps91
    go_wp2
    go_loop [20] (fun i => ∃ k : Nat, k ≤ v.size ∧ i = .int .i64 k ∧ (v.data.toList.take k).all Pl.textByte = true) (fun i => v.size - (intOf i).toNat)
    case atStart => exact ⟨0, Nat.zero_le _, rfl, rfl⟩
    case round =>
      obtain ⟨k, hk, rfl, hall⟩ := hrel
      have HA : Hid ((v.data.toList.take k).all Pl.textByte = true) := hall
      clear hall
      by_cases hlt : k < v.size
      · by_cases hd : 33 ≤ (v[k].toNat : Int) ∧ (v[k].toNat : Int) ≤ 126
        · have HT : Hid (Pl.textByte v[k] = true) := by show Pl.textByte v[k] = true; simp [Pl.textByte]; omega
          obtain ⟨d1, d2⟩ := hd
          go_wp2
          go_round
          case rel => exact ⟨k + 1, by omega, by go_num, by rw [Pl.all_snoc _ _ _ hlt, HA.out, HT.out]; rfl⟩
          case measure => simp [intOf]; omega
        · have HF : Hid (Pl.textBytes v = false) := Pl.all_false _ v k hlt (by rw [Bool.eq_false_iff]; simp [Pl.textByte]; omega)
          by_cases hd1 : 33 ≤ (v[k].toNat : Int)
          all_goals
            go_wp2
            go_ret
            exact ⟨Pl.ret_bool (by rw [HI.out, HF.out]), blw_alloc (Below.refl _ _) _⟩
      · have HT : Hid (Pl.textBytes v = true) := by
          show Pl.textBytes v = true
          unfold Pl.textBytes
          rw [← Pl.all_whole Pl.textByte v k (by omega)]
          exact HA.out
        go_wp2
        go_ret
        exact ⟨Pl.ret_bool (by rw [HI.out, HT.out]), blw_alloc (Below.refl _ _) _⟩
  · have HF : Hid (fitText least most v = false) := by
      show fitText least most v = false
      have : (decide (least ≤ (v.size : Int)) && decide ((v.size : Int) ≤ most)) = false := by rw [Bool.eq_false_iff]; simp; omega
      simp [fitText, this]
    by_cases h1 : (v.size : Int) < least
    all_goals
      go_enter Try.func91, Try.ntmps91
      go_wp2
      go_ret
      exact ⟨Pl.ret_bool HF.out.symm, blw_alloc (Below.refl _ _) _⟩

set_option maxHeartbeats 1000000 in
theorem linkFits (nm : ByteArray) (kind least most : Int) (vs : Value) (to : ByteArray) (role : Int) (must fixed : Bool) (de we v : ByteArray) (w : World) (hv : v.size ≤ maxLen) :
    Calls Try.prog 94 #[.agg #[.string nm, .int .i64 kind, .int .i64 least, .int .i64 most, vs, .string to, .int .i64 role, .bool must, .bool fixed, .string de, .string we], .string v] w
      fun e w' => e = .returned (.bool (Pl.nameOk v)) ∧ Below w.heap.size w w' := by
  go_enter Try.func94, Try.ntmps94
  go_wp2_with (go_at_call 48; refine (isName_any _ _ hv).mono ?_; rintro e w' ⟨rfl, rfl⟩)
  go_ret
  exact ⟨rfl, blw_alloc (Below.refl _ _) _⟩

end Go.Proofs.Ythilfmlfmnoikaa
