/-
  Walks: sets of verbs; what begins with what.
-/
import Derived.Test.YtkehaeppnmlafaaMemR
import Derived.Test.YtkehaeppnmlafaaWalkUA
namespace Go.Proofs.Ytkehaeppnmlafaa
open Go.RowKit Go.Deep

variable {CT CR CV CQ CL : Nat}

def hasBit (S : Nat) (v : Int) : Bool := decide (1 ≤ v) && decide (v ≤ 5) && S.testBit v.toNat

theorem has1 : ∀ S : Fin 64, (bits BinOp.and IntKind.u8 ((S.val : Int) / 2) 1 == 1) = S.val.testBit 1 := by decide +kernel
theorem has2 : ∀ S : Fin 64, (bits BinOp.and IntKind.u8 ((S.val : Int) / 4) 1 == 1) = S.val.testBit 2 := by decide +kernel
theorem has3 : ∀ S : Fin 64, (bits BinOp.and IntKind.u8 ((S.val : Int) / 8) 1 == 1) = S.val.testBit 3 := by decide +kernel
theorem has4 : ∀ S : Fin 64, (bits BinOp.and IntKind.u8 ((S.val : Int) / 16) 1 == 1) = S.val.testBit 4 := by decide +kernel
theorem has5 : ∀ S : Fin 64, (bits BinOp.and IntKind.u8 ((S.val : Int) / 32) 1 == 1) = S.val.testBit 5 := by decide +kernel
theorem or1 : ∀ S : Fin 64, bits BinOp.or IntKind.u8 (S.val : Int) 2 = ((S.val ||| 2 : Nat) : Int) := by decide +kernel
theorem or2 : ∀ S : Fin 64, bits BinOp.or IntKind.u8 (S.val : Int) 4 = ((S.val ||| 4 : Nat) : Int) := by decide +kernel
theorem or3 : ∀ S : Fin 64, bits BinOp.or IntKind.u8 (S.val : Int) 8 = ((S.val ||| 8 : Nat) : Int) := by decide +kernel
theorem or4 : ∀ S : Fin 64, bits BinOp.or IntKind.u8 (S.val : Int) 16 = ((S.val ||| 16 : Nat) : Int) := by decide +kernel
theorem or5 : ∀ S : Fin 64, bits BinOp.or IntKind.u8 (S.val : Int) 32 = ((S.val ||| 32 : Nat) : Int) := by decide +kernel
def minus (S O : Nat) : Nat := S ^^^ (S &&& O)
theorem not_bits : ∀ S O : Fin 64, bits BinOp.andNot IntKind.u8 (S.val : Int) (O.val : Int) = ((minus S.val O.val : Nat) : Int) := by decide +kernel

/- The set of the verbs of a rule. -/

theorem ret_set {a b : Int} {c d : Bool} (h : a = b) (g : c = d) : Ending.returned (.tuple #[.int .u8 a, .bool c]) = .returned (.tuple #[.int .u8 b, .bool d]) := by rw [h, g]

theorem verbAt_iff (l : List Int) (k : Nat) : verbAt l k = true ↔ 1 ≤ l.getD k 0 ∧ l.getD k 0 ≤ 5 ∧ (k = 0 ∨ l.getD (k - 1) 0 < l.getD k 0) := by
  simp only [verbAt, Bool.and_eq_true, Bool.or_eq_true, decide_eq_true_eq, and_assoc]

def lastTo (l : List Int) (k : Nat) : Int := if k = 0 then 0 else l.getD (k - 1) 0

theorem verbsTo_at {l : List Int} {k : Nat} (h : verbsTo l k = true) (i : Nat) (hi : i < k) : verbAt l i = true := by
  unfold verbsTo at h
  rw [List.all_eq_true] at h
  exact h i (List.mem_range.2 hi)

theorem lastTo_pos {l : List Int} {k : Nat} (h : verbsTo l k = true) : 0 ≤ lastTo l k ∧ (k ≠ 0 → 1 ≤ lastTo l k) := by
  unfold lastTo
  by_cases h0 : k = 0
  · simp [h0]
  · rw [if_neg h0]
    have := (verbAt_iff l (k - 1)).1 (verbsTo_at h (k - 1) (by omega))
    omega

theorem verb_step {l : List Int} {k : Nat} (h : verbsTo l k = true) : verbAt l k = true ↔ lastTo l k < l.getD k 0 ∧ l.getD k 0 ≤ 5 := by
  rw [verbAt_iff]
  have hp := lastTo_pos h
  unfold lastTo at hp ⊢
  by_cases h0 : k = 0
  · simp [h0]; omega
  · rw [if_neg h0] at hp ⊢
    have := hp.2 h0
    constructor
    · rintro ⟨a, b, c⟩; omega
    · rintro ⟨a, b⟩; exact ⟨by omega, b, Or.inr a⟩

theorem or_lt64 (a b : Nat) (ha : a < 64) (hb : b < 64) : a ||| b < 64 := Nat.or_lt_two_pow (n := 6) ha hb

theorem setTo_small {l : List Int} : ∀ k, k ≤ l.length → verbsTo l k = true → setTo l k < 64 ∧ (k ≠ 0 → setTo l k ≠ 0)
  | 0, _, _ => ⟨by simp [setTo], fun h => absurd rfl h⟩
  | k + 1, hk, h => by
    have hb : verbsTo l k = true := by unfold verbsTo at h ⊢; rw [Pl.to_succ] at h; simp only [Bool.and_eq_true] at h; exact h.1
    have ih := setTo_small k (by omega) hb
    have hv := (verbAt_iff l k).1 (verbsTo_at h k (by omega))
    rw [setTo_succ l k (by omega)]
    have hv' : l.getD k 0 = 1 ∨ l.getD k 0 = 2 ∨ l.getD k 0 = 3 ∨ l.getD k 0 = 4 ∨ l.getD k 0 = 5 := by omega
    have hz : bit (l.getD k 0) < 64 ∧ bit (l.getD k 0) ≠ 0 := by
      rcases hv' with e | e | e | e | e <;> rw [e] <;> decide
    refine ⟨or_lt64 _ _ ih.1 hz.1, fun _ e => ?_⟩
    exact hz.2 (Nat.or_eq_zero_iff.1 e).2

/-- The set, or nothing. -/
def setIf (l : List Int) : Nat := if verbsOk l = true then setOf l else 0

theorem setIf_small (l : List Int) : setIf l < 64 := by
  unfold setIf
  split
  · rename_i h
    have h2 : verbsTo l l.length = true := by simp only [verbsOk, Bool.and_eq_true] at h; exact h.2
    rw [← setTo_all l l.length (Nat.le_refl _)]
    exact (setTo_small l.length (Nat.le_refl _) h2).1
  · omega

set_option maxHeartbeats 2000000 in
theorem verbsOf_row (b : Nat) (l : List Int) (w : World) (h : IntsIn w b l) :
    Calls Try.prog 77 #[.slice (some ⟨b, 0, none⟩) l.length CL] w fun e w' => e = .returned (.tuple #[.int .u8 (setIf l : Nat), .bool (verbsOk l)]) ∧ w = w' := by
  have hl := h.len
  have hc := h.at_
  clear h
  obtain ⟨T, hT⟩ : ∃ T, T = setIf l := ⟨_, rfl⟩
  obtain ⟨R, hR⟩ : ∃ R, R = verbsOk l := ⟨_, rfl⟩
  have HR : Hid (T = setIf l ∧ R = verbsOk l) := ⟨hT, hR⟩
  rw [← hT, ← hR]
  clear hT hR
  go_enter Try.func77, Try.ntmps77
  go_wp2
  go_loop [4, 5, 10] (fun s a i => ∃ (k S : Nat) (z : Int), k ≤ l.length ∧ i = .int .i64 k ∧ s = .int .u8 (S : Nat) ∧ a = .int .i64 z ∧ S = setTo l k ∧ z = lastTo l k ∧ verbsTo l k = true) (fun _ _ i => l.length - (intOf i).toNat)
  case atStart => exact ⟨0, 0, 0, Nat.zero_le _, rfl, rfl, rfl, rfl, rfl, rfl⟩
  case round =>
    obtain ⟨k, S, z, hk, rfl, rfl, rfl, hS, hz, hv⟩ := hrel
    have HQ : Hid (S = setTo l k ∧ z = lastTo l k ∧ verbsTo l k = true) := ⟨hS, hz, hv⟩
    have hS64 : S < 64 := by rw [hS]; exact (setTo_small k hk hv).1
    clear hS hz hv
    by_cases hlt : k < l.length
    · obtain ⟨v, hvv⟩ : ∃ v, v = l.getD k 0 := ⟨_, rfl⟩
      have c0 := hc k hlt
      rw [← hvv] at c0
      have HST : Hid (verbAt l k = true ↔ z < v ∧ v ≤ 5) := by show _ ↔ _; rw [verb_step HQ.out.2.2, ← hvv, ← HQ.out.2.1]
      have HSU : Hid (setTo l (k + 1) = S ||| bit v) := by show _ = _; rw [setTo_succ l k hlt, ← hvv, ← HQ.out.1]
      have HLA : Hid (lastTo l (k + 1) = v) := by show _ = _; rw [lastTo, if_neg (by omega), hvv]; rfl
      have HZ : Hid (0 ≤ z) := by show 0 ≤ z; rw [HQ.out.2.1]; exact (lastTo_pos HQ.out.2.2).1
      clear hvv hc
      have bad : ¬ (z < v ∧ v ≤ 5) → Hid (T = 0 ∧ R = false) := by
        intro hn
        have hf : verbAt l k = false := by rw [Bool.eq_false_iff]; exact fun e => hn (HST.out.1 e)
        have := verbsOk_false hlt hf
        exact ⟨by rw [HR.out.1, setIf, this]; rfl, by rw [HR.out.2, this]⟩
      by_cases h1 : z < v
      · by_cases h5 : v ≤ 5
        · have HN : Hid (verbsTo l (k + 1) = true) := verbsTo_step HQ.out.2.2 (HST.out.2 ⟨h1, h5⟩)
          clear bad
          have hz0 := HZ.out
          have hv' : v = 1 ∨ v = 2 ∨ v = 3 ∨ v = 4 ∨ v = 5 := by omega
          rcases hv' with rfl | rfl | rfl | rfl | rfl
          all_goals
            clear hz0
            go_wp2
            go_round
            case rel => exact ⟨k + 1, _, _, by omega, by go_num, (by first | exact congrArg (Value.int IntKind.u8) (or1 ⟨S, hS64⟩) | exact congrArg (Value.int IntKind.u8) (or2 ⟨S, hS64⟩) | exact congrArg (Value.int IntKind.u8) (or3 ⟨S, hS64⟩) | exact congrArg (Value.int IntKind.u8) (or4 ⟨S, hS64⟩) | exact congrArg (Value.int IntKind.u8) (or5 ⟨S, hS64⟩)), rfl, HSU.out.symm, HLA.out.symm, HN.out⟩
            case measure => simp [intOf]; omega
        · have HE := bad (by omega)
          clear bad
          go_wp2
          refine bodyPost_ret (v := .tuple #[.int .u8 0, .bool false]) (by simp [results, Try.results77, go_sem]) rfl ⟨?_, rfl⟩
          exact ret_set (by rw [HE.out.1]; rfl) HE.out.2.symm
      · have HE := bad (by omega)
        clear bad
        go_wp2
        refine bodyPost_ret (v := .tuple #[.int .u8 0, .bool false]) (by simp [results, Try.results77, go_sem]) rfl ⟨?_, rfl⟩
        exact ret_set (by rw [HE.out.1]; rfl) HE.out.2.symm
    · obtain rfl : k = l.length := by omega
      have HE : Hid (T = S ∧ R = decide (S ≠ 0)) := by
        have q := HQ.out
        have s := setTo_small l.length (Nat.le_refl _) q.2.2
        rw [← q.1] at s
        by_cases h0 : l.length = 0
        · have e : l = [] := List.length_eq_zero_iff.1 h0
          have : verbsOk l = false := by rw [e]; rfl
          have hS0 : S = 0 := by rw [q.1, h0]; rfl
          exact ⟨by rw [HR.out.1, setIf, this, hS0]; rfl, by rw [HR.out.2, this, hS0]; rfl⟩
        · have : verbsOk l = true := by
            rw [verbsOk, q.2.2]
            have : l.isEmpty = false := by cases l with
              | nil => exact absurd rfl h0
              | cons a t => rfl
            rw [this]; rfl
          have hS0 := s.2 h0
          exact ⟨by rw [HR.out.1, setIf, this, q.1, setTo_all l l.length (Nat.le_refl _)]; rfl, by rw [HR.out.2, this]; simp [hS0]⟩
      clear hc
      by_cases h0 : S = 0
      · subst h0
        go_wp2
        refine bodyPost_ret (v := .tuple #[.int .u8 0, .bool false]) (by simp [results, Try.results77, go_sem]) rfl ⟨?_, rfl⟩
        exact ret_set (by rw [HE.out.1]; rfl) (by rw [HE.out.2]; rfl)
      · have hb : ((S : Int) != 0) = true := by simp; omega
        go_wp2
        refine bodyPost_ret (v := .tuple #[.int .u8 (S : Nat), .bool true]) (by simp [results, Try.results77, go_sem]) rfl ⟨?_, rfl⟩
        exact ret_set (by rw [HE.out.1]) (by rw [HE.out.2]; simp [h0])

end Go.Proofs.Ytkehaeppnmlafaa
