/-
  Walks: rules that are ok, and what they allow: the specification.
-/
import Derived.Test.YtfkkohfjkofgnaaGreatMemR
import Derived.Test.YtfkkohfjkofgnaaGreatWalkUC
import Derived.Test.YtfkkohfjkofgnaaGreatWalkUB
namespace Go.Proofs.YtfkkohfjkofgnaaGreat
open Go.RowKit Go.Deep

variable {CT CR CV CQ CL : Nat}

def hasBit (S : Nat) (v : Int) : Bool := decide (1 ≤ v) && decide (v ≤ 5) && S.testBit v.toNat

theorem has1 : ∀ S : Fin 64, (bits BinOp.and IntKind.u8 ((S.val : Int) / 2) 1 == 1) = S.val.testBit 1 := by decide +kernel
theorem has2 : ∀ S : Fin 64, (bits BinOp.and IntKind.u8 ((S.val : Int) / 4) 1 == 1) = S.val.testBit 2 := by decide +kernel
theorem has3 : ∀ S : Fin 64, (bits BinOp.and IntKind.u8 ((S.val : Int) / 8) 1 == 1) = S.val.testBit 3 := by decide +kernel
theorem has4 : ∀ S : Fin 64, (bits BinOp.and IntKind.u8 ((S.val : Int) / 16) 1 == 1) = S.val.testBit 4 := by decide +kernel
theorem has5 : ∀ S : Fin 64, (bits BinOp.and IntKind.u8 ((S.val : Int) / 32) 1 == 1) = S.val.testBit 5 := by decide +kernel
theorem or1 : ∀ S : Fin 64, bits BinOp.or IntKind.u8 (S.val : Int) 2 = ((S.val ||| 2 : Nat) : Int) := by decide +kernel
theorem or2 : ∀ S : Fin 64, bits BinOp.or IntKind.u8 (S.val : Int) 4 = ((S.val ||| 4 : Nat) : Int) := by decide +kernel
theorem or3 : ∀ S : Fin 64, bits BinOp.or IntKind.u8 (S.val : Int) 8 = ((S.val ||| 8 : Nat) : Int) := by decide +kernel
theorem or4 : ∀ S : Fin 64, bits BinOp.or IntKind.u8 (S.val : Int) 16 = ((S.val ||| 16 : Nat) : Int) := by decide +kernel
theorem or5 : ∀ S : Fin 64, bits BinOp.or IntKind.u8 (S.val : Int) 32 = ((S.val ||| 32 : Nat) : Int) := by decide +kernel
def minus (S O : Nat) : Nat := S ^^^ (S &&& O)
theorem not_bits : ∀ S O : Fin 64, bits BinOp.andNot IntKind.u8 (S.val : Int) (O.val : Int) = ((minus S.val O.val : Nat) : Int) := by decide +kernel

/- The set of the verbs of a rule. -/

theorem ret_set {a b : Int} {c d : Bool} (h : a = b) (g : c = d) : Ending.returned (.tuple #[.int .u8 a, .bool c]) = .returned (.tuple #[.int .u8 b, .bool d]) := by rw [h, g]

theorem verbAt_iff (l : List Int) (k : Nat) : verbAt l k = true ↔ 1 ≤ l.getD k 0 ∧ l.getD k 0 ≤ 5 ∧ (k = 0 ∨ l.getD (k - 1) 0 < l.getD k 0) := by
  simp only [verbAt, Bool.and_eq_true, Bool.or_eq_true, decide_eq_true_eq, and_assoc]

def lastTo (l : List Int) (k : Nat) : Int := if k = 0 then 0 else l.getD (k - 1) 0

theorem verbsTo_at {l : List Int} {k : Nat} (h : verbsTo l k = true) (i : Nat) (hi : i < k) : verbAt l i = true := by
  unfold verbsTo at h
  rw [List.all_eq_true] at h
  exact h i (List.mem_range.2 hi)

theorem lastTo_pos {l : List Int} {k : Nat} (h : verbsTo l k = true) : 0 ≤ lastTo l k ∧ (k ≠ 0 → 1 ≤ lastTo l k) := by
  unfold lastTo
  by_cases h0 : k = 0
  · simp [h0]
  · rw [if_neg h0]
    have := (verbAt_iff l (k - 1)).1 (verbsTo_at h (k - 1) (by omega))
    omega

theorem verb_step {l : List Int} {k : Nat} (h : verbsTo l k = true) : verbAt l k = true ↔ lastTo l k < l.getD k 0 ∧ l.getD k 0 ≤ 5 := by
  rw [verbAt_iff]
  have hp := lastTo_pos h
  unfold lastTo at hp ⊢
  by_cases h0 : k = 0
  · simp [h0]; omega
  · rw [if_neg h0] at hp ⊢
    have := hp.2 h0
    constructor
    · rintro ⟨a, b, c⟩; omega
    · rintro ⟨a, b⟩; exact ⟨by omega, b, Or.inr a⟩

theorem or_lt64 (a b : Nat) (ha : a < 64) (hb : b < 64) : a ||| b < 64 := Nat.or_lt_two_pow (n := 6) ha hb

theorem setTo_small {l : List Int} : ∀ k, k ≤ l.length → verbsTo l k = true → setTo l k < 64 ∧ (k ≠ 0 → setTo l k ≠ 0)
  | 0, _, _ => ⟨by simp [setTo], fun h => absurd rfl h⟩
  | k + 1, hk, h => by
    have hb : verbsTo l k = true := by unfold verbsTo at h ⊢; rw [Pl.to_succ] at h; simp only [Bool.and_eq_true] at h; exact h.1
    have ih := setTo_small k (by omega) hb
    have hv := (verbAt_iff l k).1 (verbsTo_at h k (by omega))
    rw [setTo_succ l k (by omega)]
    have hv' : l.getD k 0 = 1 ∨ l.getD k 0 = 2 ∨ l.getD k 0 = 3 ∨ l.getD k 0 = 4 ∨ l.getD k 0 = 5 := by omega
    have hz : bit (l.getD k 0) < 64 ∧ bit (l.getD k 0) ≠ 0 := by
      rcases hv' with e | e | e | e | e <;> rw [e] <;> decide
    refine ⟨or_lt64 _ _ ih.1 hz.1, fun _ e => ?_⟩
    exact hz.2 (Nat.or_eq_zero_iff.1 e).2

/-- The set, or nothing. -/
def setIf (l : List Int) : Nat := if verbsOk l = true then setOf l else 0

theorem setIf_small (l : List Int) : setIf l < 64 := by
  unfold setIf
  split
  · rename_i h
    have h2 : verbsTo l l.length = true := by simp only [verbsOk, Bool.and_eq_true] at h; exact h.2
    rw [← setTo_all l l.length (Nat.le_refl _)]
    exact (setTo_small l.length (Nat.le_refl _) h2).1
  · omega

set_option maxHeartbeats 2000000 in
theorem verbsOf_row (b : Nat) (l : List Int) (w : World) (h : IntsIn w b l) :
    Calls Tryz.prog 77 #[.slice (some ⟨b, 0, none⟩) l.length CL] w fun e w' => e = .returned (.tuple #[.int .u8 (setIf l : Nat), .bool (verbsOk l)]) ∧ w = w' := by
  have hl := h.len
  have hc := h.at_
  clear h
  obtain ⟨T, hT⟩ : ∃ T, T = setIf l := ⟨_, rfl⟩
  obtain ⟨R, hR⟩ : ∃ R, R = verbsOk l := ⟨_, rfl⟩
  have HR : Hid (T = setIf l ∧ R = verbsOk l) := ⟨hT, hR⟩
  rw [← hT, ← hR]
  clear hT hR
  go_enter Tryz.func77, Tryz.ntmps77
  go_wp2
  go_loop [4, 5, 10] (fun s a i => ∃ (k S : Nat) (z : Int), k ≤ l.length ∧ i = .int .i64 k ∧ s = .int .u8 (S : Nat) ∧ a = .int .i64 z ∧ S = setTo l k ∧ z = lastTo l k ∧ verbsTo l k = true) (fun _ _ i => l.length - (intOf i).toNat)
  case atStart => exact ⟨0, 0, 0, Nat.zero_le _, rfl, rfl, rfl, rfl, rfl, rfl⟩
  case round =>
    obtain ⟨k, S, z, hk, rfl, rfl, rfl, hS, hz, hv⟩ := hrel
    have HQ : Hid (S = setTo l k ∧ z = lastTo l k ∧ verbsTo l k = true) := ⟨hS, hz, hv⟩
    have hS64 : S < 64 := by rw [hS]; exact (setTo_small k hk hv).1
    clear hS hz hv
    by_cases hlt : k < l.length
    · obtain ⟨v, hvv⟩ : ∃ v, v = l.getD k 0 := ⟨_, rfl⟩
      have c0 := hc k hlt
      rw [← hvv] at c0
      have HST : Hid (verbAt l k = true ↔ z < v ∧ v ≤ 5) := by show _ ↔ _; rw [verb_step HQ.out.2.2, ← hvv, ← HQ.out.2.1]
      have HSU : Hid (setTo l (k + 1) = S ||| bit v) := by show _ = _; rw [setTo_succ l k hlt, ← hvv, ← HQ.out.1]
      have HLA : Hid (lastTo l (k + 1) = v) := by show _ = _; rw [lastTo, if_neg (by omega), hvv]; rfl
      have HZ : Hid (0 ≤ z) := by show 0 ≤ z; rw [HQ.out.2.1]; exact (lastTo_pos HQ.out.2.2).1
      clear hvv hc
      have bad : ¬ (z < v ∧ v ≤ 5) → Hid (T = 0 ∧ R = false) := by
        intro hn
        have hf : verbAt l k = false := by rw [Bool.eq_false_iff]; exact fun e => hn (HST.out.1 e)
        have := verbsOk_false hlt hf
        exact ⟨by rw [HR.out.1, setIf, this]; rfl, by rw [HR.out.2, this]⟩
      by_cases h1 : z < v
      · by_cases h5 : v ≤ 5
        · have HN : Hid (verbsTo l (k + 1) = true) := verbsTo_step HQ.out.2.2 (HST.out.2 ⟨h1, h5⟩)
          clear bad
          have hz0 := HZ.out
          have hv' : v = 1 ∨ v = 2 ∨ v = 3 ∨ v = 4 ∨ v = 5 := by omega
          rcases hv' with rfl | rfl | rfl | rfl | rfl
          all_goals
            clear hz0
            go_wp2
            go_round
            case rel => exact ⟨k + 1, _, _, by omega, by go_num, (by first | exact congrArg (Value.int IntKind.u8) (or1 ⟨S, hS64⟩) | exact congrArg (Value.int IntKind.u8) (or2 ⟨S, hS64⟩) | exact congrArg (Value.int IntKind.u8) (or3 ⟨S, hS64⟩) | exact congrArg (Value.int IntKind.u8) (or4 ⟨S, hS64⟩) | exact congrArg (Value.int IntKind.u8) (or5 ⟨S, hS64⟩)), rfl, HSU.out.symm, HLA.out.symm, HN.out⟩
            case measure => simp [intOf]; omega
        · have HE := bad (by omega)
          clear bad
          go_wp2
          refine bodyPost_ret (v := .tuple #[.int .u8 0, .bool false]) (by simp [results, Tryz.results77, go_sem]) rfl ⟨?_, rfl⟩
          exact ret_set (by rw [HE.out.1]; rfl) HE.out.2.symm
      · have HE := bad (by omega)
        clear bad
        go_wp2
        refine bodyPost_ret (v := .tuple #[.int .u8 0, .bool false]) (by simp [results, Tryz.results77, go_sem]) rfl ⟨?_, rfl⟩
        exact ret_set (by rw [HE.out.1]; rfl) HE.out.2.symm
    · obtain rfl : k = l.length := by omega
      have HE : Hid (T = S ∧ R = decide (S ≠ 0)) := by
        have q := HQ.out
        have s := setTo_small l.length (Nat.le_refl _) q.2.2
        rw [← q.1] at s
        by_cases h0 : l.length = 0
        · have e : l = [] := List.length_eq_zero_iff.1 h0
          have : verbsOk l = false := by rw [e]; rfl
          have hS0 : S = 0 := by rw [q.1, h0]; rfl
          exact ⟨by rw [HR.out.1, setIf, this, hS0]; rfl, by rw [HR.out.2, this, hS0]; rfl⟩
        · have : verbsOk l = true := by
            rw [verbsOk, q.2.2]
            have : l.isEmpty = false := by cases l with
              | nil => exact absurd rfl h0
              | cons a t => rfl
            rw [this]; rfl
          have hS0 := s.2 h0
          exact ⟨by rw [HR.out.1, setIf, this, q.1, setTo_all l l.length (Nat.le_refl _)]; rfl, by rw [HR.out.2, this]; simp [hS0]⟩
      clear hc
      by_cases h0 : S = 0
      · subst h0
        go_wp2
        refine bodyPost_ret (v := .tuple #[.int .u8 0, .bool false]) (by simp [results, Tryz.results77, go_sem]) rfl ⟨?_, rfl⟩
        exact ret_set (by rw [HE.out.1]; rfl) (by rw [HE.out.2]; rfl)
      · have hb : ((S : Int) != 0) = true := by simp; omega
        go_wp2
        refine bodyPost_ret (v := .tuple #[.int .u8 (S : Nat), .bool true]) (by simp [results, Tryz.results77, go_sem]) rfl ⟨?_, rfl⟩
        exact ret_set (by rw [HE.out.1]) (by rw [HE.out.2]; simp [h0])

end Go.Proofs.YtfkkohfjkofgnaaGreat

namespace Go.Proofs.YtfkkohfjkofgnaaGreat
open Go.RowKit Go.Deep

variable {CT CR CV CQ CL : Nat}

theorem hasVerb_snoc (l : List Int) (v : Int) (k : Nat) (h : k < l.length) (hq : hasVerb (l.take k) v = false) (hn : ¬ l.getD k 0 = v) : hasVerb (l.take (k + 1)) v = false := by
  have e : l.getD k 0 = l[k] := by simp [h]
  rw [e] at hn
  unfold hasVerb at hq ⊢
  rw [List.take_succ_eq_append_getElem h, List.any_append, hq]; simp [hn]
theorem hasVerb_hit (l : List Int) (v : Int) (k : Nat) (h : k < l.length) (hn : l.getD k 0 = v) : hasVerb l v = true := by
  have e : l.getD k 0 = l[k] := by simp [h]
  rw [e] at hn
  unfold hasVerb
  rw [List.any_eq_true]
  exact ⟨l[k], List.getElem_mem h, by simp [hn]⟩
theorem hasVerb_all (l : List Int) (v : Int) (k : Nat) (h : l.length ≤ k) (hq : hasVerb (l.take k) v = false) : hasVerb l v = false := by
  rw [List.take_of_length_le h] at hq; exact hq

theorem l1In_same (n lo hi : Int) (w : World) :
    Calls Tryz.prog 16 #[.int .i64 n, .int .i64 lo, .int .i64 hi] w fun e w' => e = .returned (.bool (decide (lo ≤ n) && decide (n ≤ hi))) ∧ w' = w := (l1In_any n lo hi w).mono fun _ _ h => ⟨h.1, h.2.symm⟩

set_option maxHeartbeats 8000000 in
theorem l4RuleOk (b : Nat) (r : Rul) (w : World) (h : IntsIn w b r.verbs) (hs : r.sized) :
    Calls Tryz.prog 39 #[.agg #[.slice (some ⟨b, 0, none⟩) r.verbs.length CV, .string r.kind, .string r.team, .string r.pre]] w fun e w' => e = .returned (.bool (ruleOk r)) ∧ Below w.heap.size w w' := by
  have hl := h.len
  have HI : Hid (IntsIn w b r.verbs) := h
  have HZ : Hid (r.kind.size ≤ maxLen ∧ r.team.size ≤ maxLen) := ⟨hs.1, hs.2.1⟩
  have hpz : r.pre.size ≤ maxLen := hs.2.2
  unfold maxLen at hpz
  have HB : Hid (Below w.heap.size w (w.alloc (.cells #[.slice (some ⟨b, 0, none⟩) r.verbs.length CV, .string r.kind, .string r.team, .string r.pre] 72))) := blw_alloc (Below.refl _ _) _
  clear h hs
  by_cases h0 : r.verbs.length = 0
  · have HE : Hid (ruleOk r = false) := by
      show ruleOk r = false
      have : r.verbs = [] := List.length_eq_zero_iff.1 h0
      rw [ruleOk, this]; rfl
    have hi0 : ((r.verbs.length : Int) == 0) = true := by rw [h0]; rfl
    clear h0
    go_enter Tryz.func39, Tryz.ntmps39
    go_wp2
    go_ret
    exact ⟨Pl.ret_bool HE.out.symm, HB.out⟩
  have hi0 : ((r.verbs.length : Int) == 0) = false := beq_eq_false_iff_ne.2 (by omega)
  have HN0 : Hid (r.verbs.isEmpty = false) := by
    show r.verbs.isEmpty = false
    cases hv : r.verbs with
    | nil => rw [hv] at h0; exact absurd rfl h0
    | cons a t => rfl
  clear h0
  by_cases h16 : r.pre.size ≤ 16
  case neg =>
    have HE : Hid (ruleOk r = false) := by show ruleOk r = false; simp [ruleOk, h16]
    go_enter Tryz.func39, Tryz.ntmps39
    go_wp2
    go_ret
    exact ⟨Pl.ret_bool HE.out.symm, HB.out⟩
  have combo : (r.kind.toList.isEmpty = true ∨ (r.kind.toList.isEmpty = false ∧ Pl.nameOk r.kind = true)) ∨ (r.kind.toList.isEmpty = false ∧ Pl.nameOk r.kind = false) := by
    cases r.kind.toList.isEmpty <;> cases Pl.nameOk r.kind <;> simp
  have combo2 : (r.team.toList.isEmpty = true ∨ (r.team.toList.isEmpty = false ∧ Pl.nameOk r.team = true)) ∨ (r.team.toList.isEmpty = false ∧ Pl.nameOk r.team = false) := by
    cases r.team.toList.isEmpty <;> cases Pl.nameOk r.team <;> simp
  rcases combo with hk | ⟨hk, hk2⟩
  case inr =>
    have HE : Hid (ruleOk r = false) := by show ruleOk r = false; simp [ruleOk, hk, hk2]
    clear combo2
    go_enter Tryz.func39, Tryz.ntmps39
    go_wp2_with (go_at_call 38; refine (l1NameOk_any _ _ HZ.out.1).mono ?_; rintro e w' ⟨rfl, rfl⟩)
    go_ret
    exact ⟨Pl.ret_bool HE.out.symm, HB.out⟩
  have HKK : Hid ((r.kind.toList.isEmpty || Pl.nameOk r.kind) = true) := by
    show _ = true
    rcases hk with hk | ⟨hk, hk2⟩
    · simp [hk]
    · simp [hk, hk2]
  rcases combo2 with ht | ⟨ht, ht2⟩
  case inr =>
    have HE : Hid (ruleOk r = false) := by show ruleOk r = false; simp [ruleOk, ht, ht2]
    rcases hk with hk | ⟨hk, hk2⟩
    all_goals
      go_enter Tryz.func39, Tryz.ntmps39
      go_wp2_with (go_at_call 38; refine (l1NameOk_any _ _ (by first | exact HZ.out.1 | exact HZ.out.2)).mono ?_; rintro e w' ⟨rfl, rfl⟩)
      go_ret
      exact ⟨Pl.ret_bool HE.out.symm, HB.out⟩
  have HTT : Hid ((r.team.toList.isEmpty || Pl.nameOk r.team) = true) := by
    show _ = true
    rcases ht with ht | ⟨ht, ht2⟩
    · simp [ht]
    · simp [ht, ht2]
  obtain ⟨R, hR⟩ : ∃ R, R = ruleOk r := ⟨_, rfl⟩
  have HR : Hid (R = (verbsTo r.verbs r.verbs.length && Pl.nameBytes r.pre)) := by
    show R = _
    rw [hR, ruleOk, HKK.out, HTT.out, verbsOk, HN0.out]; simp [h16]
  have HRV : Hid (∀ k, k < r.verbs.length → verbAt r.verbs k = false → R = false) := by
    intro k hk hf
    rw [HR.out, verbsTo, Pl.to_false _ _ k hk hf]; rfl
  rw [← hR]
  clear hR HKK HTT
  rcases hk with hk | ⟨hk, hk2⟩ <;> rcases ht with ht | ⟨ht, ht2⟩
  all_goals
    go_enter Tryz.func39, Tryz.ntmps39
    go_wp2_with (go_at_call 38; refine (l1NameOk_any _ _ (by first | exact HZ.out.1 | exact HZ.out.2)).mono ?_; rintro e w' ⟨rfl, rfl⟩)
    clear hk ht
    try clear hk2
    try clear ht2
    clear hi0
    go_loopw [3] (fun i wr => ∃ k : Nat, k ≤ r.verbs.length ∧ i = .int .i64 k ∧ verbsTo r.verbs k = true ∧ Below (w.alloc (.cells #[.slice (some ⟨b, 0, none⟩) r.verbs.length CV, .string r.kind, .string r.team, .string r.pre] 72)).heap.size (w.alloc (.cells #[.slice (some ⟨b, 0, none⟩) r.verbs.length CV, .string r.kind, .string r.team, .string r.pre] 72)) wr) (fun i _ => r.verbs.length - (intOf i).toNat)
    case atStart => exact ⟨0, Nat.zero_le _, rfl, rfl, Below.refl _ _⟩
    case round =>
      obtain ⟨k, hk, rfl, hq, hW⟩ := hrel
      have HQ : Hid (verbsTo r.verbs k = true) := hq
      have HW : Hid (Below w.heap.size w wr) := blw_trans HB.out hW
      have k0 : wr.cell? ⟨w.heap.size, 0, none⟩ = some (.slice (some ⟨b, 0, none⟩) r.verbs.length CV) := (hW.cell (p := ⟨w.heap.size, 0, none⟩) (by simp)).trans (by simp)
      have k3 : wr.cell? ⟨w.heap.size, 3, none⟩ = some (.string r.pre) := (hW.cell (p := ⟨w.heap.size, 3, none⟩) (by simp)).trans (by simp)
      have HWW : Hid (Below (w.alloc (.cells #[.slice (some ⟨b, 0, none⟩) r.verbs.length CV, .string r.kind, .string r.team, .string r.pre] 72)).heap.size (w.alloc (.cells #[.slice (some ⟨b, 0, none⟩) r.verbs.length CV, .string r.kind, .string r.team, .string r.pre] 72)) wr) := hW
      clear hq hW
      by_cases hlt : k < r.verbs.length
      · obtain ⟨y, hy⟩ : ∃ y, y = r.verbs.getD k 0 := ⟨_, rfl⟩
        have c0 := (HI.out.later HW.out).at_ k hlt
        rw [← hy] at c0
        have HI3 : Hid (verbAt r.verbs k = (decide (1 ≤ y) && decide (y ≤ 5) && (decide (k = 0) || decide (r.verbs.getD (k - 1) 0 < y)))) := by show _ = _; rw [verbAt, ← hy]
        clear hy
        cases hin : (decide (1 ≤ y) && decide (y ≤ 5))
        · have HE : Hid (R = false) := HRV.out k hlt (by rw [HI3.out, hin]; rfl)
          go_wp2_with fail
          go_quiet ((go_at_call 16; exact Calls.quiet_of_same (l1In_same _ _ _ _)))
          go_wp2
          go_ret
          exact ⟨Pl.ret_bool HE.out.symm, blw_drewN HW.out _⟩
        · by_cases h0 : k = 0
          · subst h0
            have HE : Hid (verbsTo r.verbs (0 + 1) = true) := verbsTo_step HQ.out (by rw [HI3.out, hin]; rfl)
            go_wp2_with fail
            go_quiet ((go_at_call 16; exact Calls.quiet_of_same (l1In_same _ _ _ _)))
            go_wp2
            go_roundw
            case rel => exact ⟨0 + 1, by omega, by go_num, HE.out, blw_drewN HWW.out _⟩
            case measure => simp [intOf]; omega
          · obtain ⟨m, rfl⟩ : ∃ m, k = m + 1 := ⟨k - 1, by omega⟩
            obtain ⟨p, hp⟩ : ∃ p, p = r.verbs.getD m 0 := ⟨_, rfl⟩
            have c1 := (HI.out.later HW.out).at_ m (by omega)
            rw [← hp] at c1
            have HI4 : Hid (verbAt r.verbs (m + 1) = decide (p < y)) := by show _ = _; rw [HI3.out, hin, hp]; simp
            have hmi : decide ((m : Int) + 1 < (r.verbs.length : Int)) = true := by simp; omega
            clear hp h0
            by_cases hpy : p < y
            · have HE : Hid (verbsTo r.verbs (m + 1 + 1) = true) := verbsTo_step HQ.out (by rw [HI4.out]; simp [hpy])
              go_wp2_with fail
              go_quiet ((go_at_call 16; exact Calls.quiet_of_same (l1In_same _ _ _ _)))
              go_wp2
              go_roundw
              case rel => exact ⟨m + 1 + 1, by omega, by go_num, HE.out, blw_drewN HWW.out _⟩
              case measure => simp [intOf]; omega
            · have HE : Hid (R = false) := HRV.out (m + 1) hlt (by rw [HI4.out]; simp [hpy])
              go_wp2_with fail
              go_quiet ((go_at_call 16; exact Calls.quiet_of_same (l1In_same _ _ _ _)))
              go_wp2
              go_ret
              exact ⟨Pl.ret_bool HE.out.symm, blw_drewN HW.out _⟩
      · have HRR : Hid (R = Pl.nameBytes r.pre) := by
          show R = _
          obtain rfl : k = r.verbs.length := by omega
          rw [HR.out, HQ.out]; rfl
        go_wp2
        go_loop [4] (fun i => ∃ j : Nat, j ≤ r.pre.size ∧ i = .int .i64 j ∧ (r.pre.data.toList.take j).all Pl.nameByte = true) (fun i => r.pre.size - (intOf i).toNat)
        case atStart => exact ⟨0, Nat.zero_le _, rfl, rfl⟩
        case round =>
          obtain ⟨j, hj, rfl, hall⟩ := hrel
          have HA : Hid ((r.pre.data.toList.take j).all Pl.nameByte = true) := hall
          clear hall
          by_cases hjl : j < r.pre.size
          · by_cases hn : Pl.nameByte r.pre[j] = true
            · have HS : Hid ((r.pre.data.toList.take (j + 1)).all Pl.nameByte = true) := by show _ = true; rw [Pl.all_snoc _ _ _ hjl, HA.out, hn]; rfl
              go_wp2_with (go_at_call 71; refine (l1Byte_any _ _).mono ?_; rintro e w' ⟨rfl, rfl⟩)
              go_round
              case rel => first | exact ⟨j + 1, by omega, by go_num, HS.out⟩ | (refine ⟨trivial, ?_⟩; (repeat apply Exists.intro); exact ⟨⟨j + 1, by omega, by go_num, HS.out⟩, rfl⟩)
              case measure => simp [intOf]; omega
            · have hn' : Pl.nameByte r.pre[j] = false := by simpa using hn
              have HE : Hid (R = false) := by show R = false; rw [HRR.out, Pl.nameBytes]; exact Pl.all_false _ _ j hjl hn'
              go_wp2_with (go_at_call 71; refine (l1Byte_any _ _).mono ?_; rintro e w' ⟨rfl, rfl⟩)
              go_ret
              exact ⟨Pl.ret_bool HE.out.symm, HW.out⟩
          · have HE : Hid (R = true) := by
              show R = true
              have := Pl.all_whole Pl.nameByte r.pre j (by omega)
              rw [HRR.out, Pl.nameBytes, ← this, HA.out]
            go_wp2
            go_ret
            exact ⟨Pl.ret_bool HE.out.symm, HW.out⟩

end Go.Proofs.YtfkkohfjkofgnaaGreat
