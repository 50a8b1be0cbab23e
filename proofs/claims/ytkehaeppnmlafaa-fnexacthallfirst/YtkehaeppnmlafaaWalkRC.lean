/-
  Walks: rules that are ok, and what they allow: the specification.
-/
import Derived.Test.YtkehaeppnmlafaaWalkRB
import Derived.Test.YtkehaeppnmlafaaWalkUC
namespace Go.Proofs.Ytkehaeppnmlafaa
open Go.RowKit Go.Deep

variable {CT CR CV CQ CL : Nat}

theorem hasVerb_snoc (l : List Int) (v : Int) (k : Nat) (h : k < l.length) (hq : hasVerb (l.take k) v = false) (hn : ¬ l.getD k 0 = v) : hasVerb (l.take (k + 1)) v = false := by
  have e : l.getD k 0 = l[k] := by simp [h]
  rw [e] at hn
  unfold hasVerb at hq ⊢
  rw [List.take_succ_eq_append_getElem h, List.any_append, hq]; simp [hn]
theorem hasVerb_hit (l : List Int) (v : Int) (k : Nat) (h : k < l.length) (hn : l.getD k 0 = v) : hasVerb l v = true := by
  have e : l.getD k 0 = l[k] := by simp [h]
  rw [e] at hn
  unfold hasVerb
  rw [List.any_eq_true]
  exact ⟨l[k], List.getElem_mem h, by simp [hn]⟩
theorem hasVerb_all (l : List Int) (v : Int) (k : Nat) (h : l.length ≤ k) (hq : hasVerb (l.take k) v = false) : hasVerb l v = false := by
  rw [List.take_of_length_le h] at hq; exact hq

theorem l1In_same (n lo hi : Int) (w : World) :
    Calls Try.prog 71 #[.int .i64 n, .int .i64 lo, .int .i64 hi] w fun e w' => e = .returned (.bool (decide (lo ≤ n) && decide (n ≤ hi))) ∧ w' = w := (l1In_any n lo hi w).mono fun _ _ h => ⟨h.1, h.2.symm⟩

set_option maxHeartbeats 8000000 in
theorem l4RuleOk (b : Nat) (r : Rul) (w : World) (h : IntsIn w b r.verbs) (hs : r.sized) :
    Calls Try.prog 36 #[.agg #[.slice (some ⟨b, 0, none⟩) r.verbs.length CV, .string r.kind, .string r.team, .string r.pre]] w fun e w' => e = .returned (.bool (ruleOk r)) ∧ Below w.heap.size w w' := by
  have hl := h.len
  have HI : Hid (IntsIn w b r.verbs) := h
  have HZ : Hid (r.kind.size ≤ maxLen ∧ r.team.size ≤ maxLen) := ⟨hs.1, hs.2.1⟩
  have hpz : r.pre.size ≤ maxLen := hs.2.2
  unfold maxLen at hpz
  have HB : Hid (Below w.heap.size w (w.alloc (.cells #[.slice (some ⟨b, 0, none⟩) r.verbs.length CV, .string r.kind, .string r.team, .string r.pre] 59))) := blw_alloc (Below.refl _ _) _
  clear h hs
  by_cases h0 : r.verbs.length = 0
  · have HE : Hid (ruleOk r = false) := by
      show ruleOk r = false
      have : r.verbs = [] := List.length_eq_zero_iff.1 h0
      rw [ruleOk, this]; rfl
    have hi0 : ((r.verbs.length : Int) == 0) = true := by rw [h0]; rfl
    clear h0
    go_enter Try.func36, Try.ntmps36
    go_wp2
    go_ret
    exact ⟨Pl.ret_bool HE.out.symm, HB.out⟩
  have hi0 : ((r.verbs.length : Int) == 0) = false := beq_eq_false_iff_ne.2 (by omega)
  have HN0 : Hid (r.verbs.isEmpty = false) := by
    show r.verbs.isEmpty = false
    cases hv : r.verbs with
    | nil => rw [hv] at h0; exact absurd rfl h0
    | cons a t => rfl
  clear h0
  by_cases h16 : r.pre.size ≤ 16
  case neg =>
    have HE : Hid (ruleOk r = false) := by show ruleOk r = false; simp [ruleOk, h16]
    go_enter Try.func36, Try.ntmps36
    go_wp2
    go_ret
    exact ⟨Pl.ret_bool HE.out.symm, HB.out⟩
  have combo : (r.kind.toList.isEmpty = true ∨ (r.kind.toList.isEmpty = false ∧ Pl.nameOk r.kind = true)) ∨ (r.kind.toList.isEmpty = false ∧ Pl.nameOk r.kind = false) := by
    cases r.kind.toList.isEmpty <;> cases Pl.nameOk r.kind <;> simp
  have combo2 : (r.team.toList.isEmpty = true ∨ (r.team.toList.isEmpty = false ∧ Pl.nameOk r.team = true)) ∨ (r.team.toList.isEmpty = false ∧ Pl.nameOk r.team = false) := by
    cases r.team.toList.isEmpty <;> cases Pl.nameOk r.team <;> simp
  rcases combo with hk | ⟨hk, hk2⟩
  case inr =>
    have HE : Hid (ruleOk r = false) := by show ruleOk r = false; simp [ruleOk, hk, hk2]
    clear combo2
    go_enter Try.func36, Try.ntmps36
    go_wp2_with (go_at_call 35; refine (l1NameOk_any _ _ HZ.out.1).mono ?_; rintro e w' ⟨rfl, rfl⟩)
    go_ret
    exact ⟨Pl.ret_bool HE.out.symm, HB.out⟩
  have HKK : Hid ((r.kind.toList.isEmpty || Pl.nameOk r.kind) = true) := by
    show _ = true
    rcases hk with hk | ⟨hk, hk2⟩
    · simp [hk]
    · simp [hk, hk2]
  rcases combo2 with ht | ⟨ht, ht2⟩
  case inr =>
    have HE : Hid (ruleOk r = false) := by show ruleOk r = false; simp [ruleOk, ht, ht2]
    rcases hk with hk | ⟨hk, hk2⟩
    all_goals
      go_enter Try.func36, Try.ntmps36
      go_wp2_with (go_at_call 35; refine (l1NameOk_any _ _ (by first | exact HZ.out.1 | exact HZ.out.2)).mono ?_; rintro e w' ⟨rfl, rfl⟩)
      go_ret
      exact ⟨Pl.ret_bool HE.out.symm, HB.out⟩
  have HTT : Hid ((r.team.toList.isEmpty || Pl.nameOk r.team) = true) := by
    show _ = true
    rcases ht with ht | ⟨ht, ht2⟩
    · simp [ht]
    · simp [ht, ht2]
  obtain ⟨R, hR⟩ : ∃ R, R = ruleOk r := ⟨_, rfl⟩
  have HR : Hid (R = (verbsTo r.verbs r.verbs.length && Pl.nameBytes r.pre)) := by
    show R = _
    rw [hR, ruleOk, HKK.out, HTT.out, verbsOk, HN0.out]; simp [h16]
  have HRV : Hid (∀ k, k < r.verbs.length → verbAt r.verbs k = false → R = false) := by
    intro k hk hf
    rw [HR.out, verbsTo, Pl.to_false _ _ k hk hf]; rfl
  rw [← hR]
  clear hR HKK HTT
  rcases hk with hk | ⟨hk, hk2⟩ <;> rcases ht with ht | ⟨ht, ht2⟩
  all_goals
    go_enter Try.func36, Try.ntmps36
    go_wp2_with (go_at_call 35; refine (l1NameOk_any _ _ (by first | exact HZ.out.1 | exact HZ.out.2)).mono ?_; rintro e w' ⟨rfl, rfl⟩)
    clear hk ht
    try clear hk2
    try clear ht2
    clear hi0
    go_loopw [3] (fun i wr => ∃ k : Nat, k ≤ r.verbs.length ∧ i = .int .i64 k ∧ verbsTo r.verbs k = true ∧ Below (w.alloc (.cells #[.slice (some ⟨b, 0, none⟩) r.verbs.length CV, .string r.kind, .string r.team, .string r.pre] 59)).heap.size (w.alloc (.cells #[.slice (some ⟨b, 0, none⟩) r.verbs.length CV, .string r.kind, .string r.team, .string r.pre] 59)) wr) (fun i _ => r.verbs.length - (intOf i).toNat)
    case atStart => exact ⟨0, Nat.zero_le _, rfl, rfl, Below.refl _ _⟩
    case round =>
      obtain ⟨k, hk, rfl, hq, hW⟩ := hrel
      have HQ : Hid (verbsTo r.verbs k = true) := hq
      have HW : Hid (Below w.heap.size w wr) := blw_trans HB.out hW
      have k0 : wr.cell? ⟨w.heap.size, 0, none⟩ = some (.slice (some ⟨b, 0, none⟩) r.verbs.length CV) := (hW.cell (p := ⟨w.heap.size, 0, none⟩) (by simp)).trans (by simp)
      have k3 : wr.cell? ⟨w.heap.size, 3, none⟩ = some (.string r.pre) := (hW.cell (p := ⟨w.heap.size, 3, none⟩) (by simp)).trans (by simp)
      have HWW : Hid (Below (w.alloc (.cells #[.slice (some ⟨b, 0, none⟩) r.verbs.length CV, .string r.kind, .string r.team, .string r.pre] 59)).heap.size (w.alloc (.cells #[.slice (some ⟨b, 0, none⟩) r.verbs.length CV, .string r.kind, .string r.team, .string r.pre] 59)) wr) := hW
      clear hq hW
      by_cases hlt : k < r.verbs.length
      · obtain ⟨y, hy⟩ : ∃ y, y = r.verbs.getD k 0 := ⟨_, rfl⟩
        have c0 := (HI.out.later HW.out).at_ k hlt
        rw [← hy] at c0
        have HI3 : Hid (verbAt r.verbs k = (decide (1 ≤ y) && decide (y ≤ 5) && (decide (k = 0) || decide (r.verbs.getD (k - 1) 0 < y)))) := by show _ = _; rw [verbAt, ← hy]
        clear hy
        cases hin : (decide (1 ≤ y) && decide (y ≤ 5))
        · have HE : Hid (R = false) := HRV.out k hlt (by rw [HI3.out, hin]; rfl)
          go_wp2_with fail
          go_quiet ((go_at_call 71; exact Calls.quiet_of_same (l1In_same _ _ _ _)))
          go_wp2
          go_ret
          exact ⟨Pl.ret_bool HE.out.symm, blw_drewN HW.out _⟩
        · by_cases h0 : k = 0
          · subst h0
            have HE : Hid (verbsTo r.verbs (0 + 1) = true) := verbsTo_step HQ.out (by rw [HI3.out, hin]; rfl)
            go_wp2_with fail
            go_quiet ((go_at_call 71; exact Calls.quiet_of_same (l1In_same _ _ _ _)))
            go_wp2
            go_roundw
            case rel => exact ⟨0 + 1, by omega, by go_num, HE.out, blw_drewN HWW.out _⟩
            case measure => simp [intOf]; omega
          · obtain ⟨m, rfl⟩ : ∃ m, k = m + 1 := ⟨k - 1, by omega⟩
            obtain ⟨p, hp⟩ : ∃ p, p = r.verbs.getD m 0 := ⟨_, rfl⟩
            have c1 := (HI.out.later HW.out).at_ m (by omega)
            rw [← hp] at c1
            have HI4 : Hid (verbAt r.verbs (m + 1) = decide (p < y)) := by show _ = _; rw [HI3.out, hin, hp]; simp
            have hmi : decide ((m : Int) + 1 < (r.verbs.length : Int)) = true := by simp; omega
            clear hp h0
            by_cases hpy : p < y
            · have HE : Hid (verbsTo r.verbs (m + 1 + 1) = true) := verbsTo_step HQ.out (by rw [HI4.out]; simp [hpy])
              go_wp2_with fail
              go_quiet ((go_at_call 71; exact Calls.quiet_of_same (l1In_same _ _ _ _)))
              go_wp2
              go_roundw
              case rel => exact ⟨m + 1 + 1, by omega, by go_num, HE.out, blw_drewN HWW.out _⟩
              case measure => simp [intOf]; omega
            · have HE : Hid (R = false) := HRV.out (m + 1) hlt (by rw [HI4.out]; simp [hpy])
              go_wp2_with fail
              go_quiet ((go_at_call 71; exact Calls.quiet_of_same (l1In_same _ _ _ _)))
              go_wp2
              go_ret
              exact ⟨Pl.ret_bool HE.out.symm, blw_drewN HW.out _⟩
      · have HRR : Hid (R = Pl.nameBytes r.pre) := by
          show R = _
          obtain rfl : k = r.verbs.length := by omega
          rw [HR.out, HQ.out]; rfl
        go_wp2
        go_loop [4] (fun i => ∃ j : Nat, j ≤ r.pre.size ∧ i = .int .i64 j ∧ (r.pre.data.toList.take j).all Pl.nameByte = true) (fun i => r.pre.size - (intOf i).toNat)
        case atStart => exact ⟨0, Nat.zero_le _, rfl, rfl⟩
        case round =>
          obtain ⟨j, hj, rfl, hall⟩ := hrel
          have HA : Hid ((r.pre.data.toList.take j).all Pl.nameByte = true) := hall
          clear hall
          by_cases hjl : j < r.pre.size
          · by_cases hn : Pl.nameByte r.pre[j] = true
            · have HS : Hid ((r.pre.data.toList.take (j + 1)).all Pl.nameByte = true) := by show _ = true; rw [Pl.all_snoc _ _ _ hjl, HA.out, hn]; rfl
              go_wp2_with (go_at_call 72; refine (l1Byte_any _ _).mono ?_; rintro e w' ⟨rfl, rfl⟩)
              go_round
              case rel => first | exact ⟨j + 1, by omega, by go_num, HS.out⟩ | (refine ⟨trivial, ?_⟩; (repeat apply Exists.intro); exact ⟨⟨j + 1, by omega, by go_num, HS.out⟩, rfl⟩)
              case measure => simp [intOf]; omega
            · have hn' : Pl.nameByte r.pre[j] = false := by simpa using hn
              have HE : Hid (R = false) := by show R = false; rw [HRR.out, Pl.nameBytes]; exact Pl.all_false _ _ j hjl hn'
              go_wp2_with (go_at_call 72; refine (l1Byte_any _ _).mono ?_; rintro e w' ⟨rfl, rfl⟩)
              go_ret
              exact ⟨Pl.ret_bool HE.out.symm, HW.out⟩
          · have HE : Hid (R = true) := by
              show R = true
              have := Pl.all_whole Pl.nameByte r.pre j (by omega)
              rw [HRR.out, Pl.nameBytes, ← this, HA.out]
            go_wp2
            go_ret
            exact ⟨Pl.ret_bool HE.out.symm, HW.out⟩

end Go.Proofs.Ytkehaeppnmlafaa
