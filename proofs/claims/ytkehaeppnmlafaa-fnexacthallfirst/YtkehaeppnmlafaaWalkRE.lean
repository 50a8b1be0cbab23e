/-
  Walks: rules that are ok, and what they give: the program.
-/
import Derived.Deep.Cut
import Derived.Test.YtkehaeppnmlafaaWalkRD
namespace Go.Proofs.Ytkehaeppnmlafaa
open Go.RowKit Go.Deep

variable {CT CR CV CQ CL : Nat}

set_option maxHeartbeats 8000000 in
theorem gateRuleOk (b : Nat) (r : Rul) (w : World) (h : IntsIn w b r.verbs) (hs : r.sized) :
    Calls Try.prog 43 #[.agg #[.slice (some ⟨b, 0, none⟩) r.verbs.length CV, .string r.kind, .string r.team, .string r.pre]] w fun e w' => e = .returned (.bool (ruleOk r)) ∧ Below w.heap.size w w' := by
  have HZ : Hid (r.kind.size ≤ maxLen ∧ r.team.size ≤ maxLen ∧ r.pre.size ≤ maxLen) := hs
  have HB : Hid (Below w.heap.size w (w.alloc (.cells #[.slice (some ⟨b, 0, none⟩) r.verbs.length CV, .string r.kind, .string r.team, .string r.pre] 59))) := blw_alloc (Below.refl _ _) _
  have HX : Hid (Calls Try.prog 77 #[.slice (some ⟨b, 0, none⟩) r.verbs.length CV] (w.alloc (.cells #[.slice (some ⟨b, 0, none⟩) r.verbs.length CV, .string r.kind, .string r.team, .string r.pre] 59)) fun e w' => e = .returned (.tuple #[.int .u8 (setIf r.verbs : Nat), .bool (verbsOk r.verbs)]) ∧ (w.alloc (.cells #[.slice (some ⟨b, 0, none⟩) r.verbs.length CV, .string r.kind, .string r.team, .string r.pre] 59)) = w') :=
    verbsOf_row b r.verbs _ (h.later HB.out)
  have hpz : r.pre.size ≤ maxLen := hs.2.2
  unfold maxLen at hpz
  obtain ⟨R, hR⟩ : ∃ R, R = ruleOk r := ⟨_, rfl⟩
  have HR : Hid (R = (verbsOk r.verbs && (r.kind.toList.isEmpty || Pl.nameOk r.kind) && (r.team.toList.isEmpty || Pl.nameOk r.team) && (decide (r.pre.size ≤ 16) && Pl.nameBytes r.pre))) := hR
  rw [← hR]
  clear h hs hR
  have d16 : (decide ((r.pre.size : Int) ≤ 16) = true ∧ decide (r.pre.size ≤ 16) = true) ∨ (decide ((r.pre.size : Int) ≤ 16) = false ∧ decide (r.pre.size ≤ 16) = false) := by
    by_cases h : r.pre.size ≤ 16
    · exact Or.inl ⟨by simp; omega, by simp [h]⟩
    · exact Or.inr ⟨by simp; omega, by simp [h]⟩
  obtain ⟨G, hG⟩ : ∃ G, G = decide (r.pre.size ≤ 16) := ⟨_, rfl⟩
  rw [← hG] at HR d16
  clear hG hpz
  go_enter Try.func43, Try.ntmps43
  go_wp2_with fail
  refine HX.out.mono ?_
  rintro e w2 ⟨rfl, rfl⟩
  clear HX
  cases hk : r.kind.toList.isEmpty
  · cases ht : r.team.toList.isEmpty
    · cases hv : verbsOk r.verbs
      · have HE : Hid (R = false) := by show R = false; rw [HR.out]; simp [hv]
        clear HR
        go_wp2_with (first | (go_at_call 42; refine (isName_any _ _ (by first | exact HZ.out.1 | exact HZ.out.2.1)).mono ?_; rintro e w' ⟨rfl, rfl⟩) | (go_at_call 76; refine (nameBytes_any _ _ HZ.out.2.2).mono ?_; rintro e w' ⟨rfl, rfl⟩))
        go_ret
        exact ⟨Pl.ret_bool HE.out.symm, HB.out⟩
      · cases hk2 : Pl.nameOk r.kind
        · have HE : Hid (R = false) := by show R = false; rw [HR.out]; simp [hk, hk2]
          clear HR
          go_wp2_with (first | (go_at_call 42; refine (isName_any _ _ (by first | exact HZ.out.1 | exact HZ.out.2.1)).mono ?_; rintro e w' ⟨rfl, rfl⟩) | (go_at_call 76; refine (nameBytes_any _ _ HZ.out.2.2).mono ?_; rintro e w' ⟨rfl, rfl⟩))
          go_ret
          exact ⟨Pl.ret_bool HE.out.symm, HB.out⟩
        · cases ht2 : Pl.nameOk r.team
          · have HE : Hid (R = false) := by show R = false; rw [HR.out]; simp [ht, ht2]
            clear HR
            go_wp2_with (first | (go_at_call 42; refine (isName_any _ _ (by first | exact HZ.out.1 | exact HZ.out.2.1)).mono ?_; rintro e w' ⟨rfl, rfl⟩) | (go_at_call 76; refine (nameBytes_any _ _ HZ.out.2.2).mono ?_; rintro e w' ⟨rfl, rfl⟩))
            go_ret
            exact ⟨Pl.ret_bool HE.out.symm, HB.out⟩
          · rcases d16 with ⟨h16, rfl⟩ | ⟨h16, rfl⟩
            · have HE : Hid (R = Pl.nameBytes r.pre) := by show R = Pl.nameBytes r.pre; rw [HR.out]; simp [hv, hk2, ht2]
              clear HR
              go_wp2_with (first | (go_at_call 42; refine (isName_any _ _ (by first | exact HZ.out.1 | exact HZ.out.2.1)).mono ?_; rintro e w' ⟨rfl, rfl⟩) | (go_at_call 76; refine (nameBytes_any _ _ HZ.out.2.2).mono ?_; rintro e w' ⟨rfl, rfl⟩))
              go_ret
              exact ⟨Pl.ret_bool HE.out.symm, HB.out⟩
            · have HE : Hid (R = false) := by show R = false; rw [HR.out]; simp [Bool.and_false]
              clear HR
              go_wp2_with (first | (go_at_call 42; refine (isName_any _ _ (by first | exact HZ.out.1 | exact HZ.out.2.1)).mono ?_; rintro e w' ⟨rfl, rfl⟩) | (go_at_call 76; refine (nameBytes_any _ _ HZ.out.2.2).mono ?_; rintro e w' ⟨rfl, rfl⟩))
              go_ret
              exact ⟨Pl.ret_bool HE.out.symm, HB.out⟩
    · cases hv : verbsOk r.verbs
      · have HE : Hid (R = false) := by show R = false; rw [HR.out]; simp [hv]
        clear HR
        go_wp2_with (first | (go_at_call 42; refine (isName_any _ _ (by first | exact HZ.out.1 | exact HZ.out.2.1)).mono ?_; rintro e w' ⟨rfl, rfl⟩) | (go_at_call 76; refine (nameBytes_any _ _ HZ.out.2.2).mono ?_; rintro e w' ⟨rfl, rfl⟩))
        go_ret
        exact ⟨Pl.ret_bool HE.out.symm, HB.out⟩
      · cases hk2 : Pl.nameOk r.kind
        · have HE : Hid (R = false) := by show R = false; rw [HR.out]; simp [hk, hk2]
          clear HR
          go_wp2_with (first | (go_at_call 42; refine (isName_any _ _ (by first | exact HZ.out.1 | exact HZ.out.2.1)).mono ?_; rintro e w' ⟨rfl, rfl⟩) | (go_at_call 76; refine (nameBytes_any _ _ HZ.out.2.2).mono ?_; rintro e w' ⟨rfl, rfl⟩))
          go_ret
          exact ⟨Pl.ret_bool HE.out.symm, HB.out⟩
        · rcases d16 with ⟨h16, rfl⟩ | ⟨h16, rfl⟩
          · have HE : Hid (R = Pl.nameBytes r.pre) := by show R = Pl.nameBytes r.pre; rw [HR.out]; simp [hv, ht, hk2]
            clear HR
            go_wp2_with (first | (go_at_call 42; refine (isName_any _ _ (by first | exact HZ.out.1 | exact HZ.out.2.1)).mono ?_; rintro e w' ⟨rfl, rfl⟩) | (go_at_call 76; refine (nameBytes_any _ _ HZ.out.2.2).mono ?_; rintro e w' ⟨rfl, rfl⟩))
            go_ret
            exact ⟨Pl.ret_bool HE.out.symm, HB.out⟩
          · have HE : Hid (R = false) := by show R = false; rw [HR.out]; simp [Bool.and_false]
            clear HR
            go_wp2_with (first | (go_at_call 42; refine (isName_any _ _ (by first | exact HZ.out.1 | exact HZ.out.2.1)).mono ?_; rintro e w' ⟨rfl, rfl⟩) | (go_at_call 76; refine (nameBytes_any _ _ HZ.out.2.2).mono ?_; rintro e w' ⟨rfl, rfl⟩))
            go_ret
            exact ⟨Pl.ret_bool HE.out.symm, HB.out⟩
  · cases ht : r.team.toList.isEmpty
    · cases hv : verbsOk r.verbs
      · have HE : Hid (R = false) := by show R = false; rw [HR.out]; simp [hv]
        clear HR
        go_wp2_with (first | (go_at_call 42; refine (isName_any _ _ (by first | exact HZ.out.1 | exact HZ.out.2.1)).mono ?_; rintro e w' ⟨rfl, rfl⟩) | (go_at_call 76; refine (nameBytes_any _ _ HZ.out.2.2).mono ?_; rintro e w' ⟨rfl, rfl⟩))
        go_ret
        exact ⟨Pl.ret_bool HE.out.symm, HB.out⟩
      · cases ht2 : Pl.nameOk r.team
        · have HE : Hid (R = false) := by show R = false; rw [HR.out]; simp [ht, ht2]
          clear HR
          go_wp2_with (first | (go_at_call 42; refine (isName_any _ _ (by first | exact HZ.out.1 | exact HZ.out.2.1)).mono ?_; rintro e w' ⟨rfl, rfl⟩) | (go_at_call 76; refine (nameBytes_any _ _ HZ.out.2.2).mono ?_; rintro e w' ⟨rfl, rfl⟩))
          go_ret
          exact ⟨Pl.ret_bool HE.out.symm, HB.out⟩
        · rcases d16 with ⟨h16, rfl⟩ | ⟨h16, rfl⟩
          · have HE : Hid (R = Pl.nameBytes r.pre) := by show R = Pl.nameBytes r.pre; rw [HR.out]; simp [hv, hk, ht2]
            clear HR
            go_wp2_with (first | (go_at_call 42; refine (isName_any _ _ (by first | exact HZ.out.1 | exact HZ.out.2.1)).mono ?_; rintro e w' ⟨rfl, rfl⟩) | (go_at_call 76; refine (nameBytes_any _ _ HZ.out.2.2).mono ?_; rintro e w' ⟨rfl, rfl⟩))
            go_ret
            exact ⟨Pl.ret_bool HE.out.symm, HB.out⟩
          · have HE : Hid (R = false) := by show R = false; rw [HR.out]; simp [Bool.and_false]
            clear HR
            go_wp2_with (first | (go_at_call 42; refine (isName_any _ _ (by first | exact HZ.out.1 | exact HZ.out.2.1)).mono ?_; rintro e w' ⟨rfl, rfl⟩) | (go_at_call 76; refine (nameBytes_any _ _ HZ.out.2.2).mono ?_; rintro e w' ⟨rfl, rfl⟩))
            go_ret
            exact ⟨Pl.ret_bool HE.out.symm, HB.out⟩
    · cases hv : verbsOk r.verbs
      · have HE : Hid (R = false) := by show R = false; rw [HR.out]; simp [hv]
        clear HR
        go_wp2_with (first | (go_at_call 42; refine (isName_any _ _ (by first | exact HZ.out.1 | exact HZ.out.2.1)).mono ?_; rintro e w' ⟨rfl, rfl⟩) | (go_at_call 76; refine (nameBytes_any _ _ HZ.out.2.2).mono ?_; rintro e w' ⟨rfl, rfl⟩))
        go_ret
        exact ⟨Pl.ret_bool HE.out.symm, HB.out⟩
      · rcases d16 with ⟨h16, rfl⟩ | ⟨h16, rfl⟩
        · have HE : Hid (R = Pl.nameBytes r.pre) := by show R = Pl.nameBytes r.pre; rw [HR.out]; simp [hv, hk, ht]
          clear HR
          go_wp2_with (first | (go_at_call 42; refine (isName_any _ _ (by first | exact HZ.out.1 | exact HZ.out.2.1)).mono ?_; rintro e w' ⟨rfl, rfl⟩) | (go_at_call 76; refine (nameBytes_any _ _ HZ.out.2.2).mono ?_; rintro e w' ⟨rfl, rfl⟩))
          go_ret
          exact ⟨Pl.ret_bool HE.out.symm, HB.out⟩
        · have HE : Hid (R = false) := by show R = false; rw [HR.out]; simp [Bool.and_false]
          clear HR
          go_wp2_with (first | (go_at_call 42; refine (isName_any _ _ (by first | exact HZ.out.1 | exact HZ.out.2.1)).mono ?_; rintro e w' ⟨rfl, rfl⟩) | (go_at_call 76; refine (nameBytes_any _ _ HZ.out.2.2).mono ?_; rintro e w' ⟨rfl, rfl⟩))
          go_ret
          exact ⟨Pl.ret_bool HE.out.symm, HB.out⟩

end Go.Proofs.Ytkehaeppnmlafaa
