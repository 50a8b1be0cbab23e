/-
  Walks: rules that are ok, and what they give: the program.
-/
import Derived.Deep.Cut
import Derived.Test.YtfmidkdpclfffaaDoorWalkRD
namespace Go.Proofs.YtfmidkdpclfffaaDoor
open Go.RowKit Go.Deep

variable {CT CR CV CQ CL : Nat}

set_option maxHeartbeats 8000000 in
theorem gateRuleOk (b : Nat) (r : Rul) (w : World) (h : IntsIn w b r.verbs) (hs : r.sized) :
    Calls Tryd.prog 29 #[.agg #[.slice (some ⟨b, 0, none⟩) r.verbs.length CV, .string r.kind, .string r.team, .string r.pre]] w fun e w' => e = .returned (.bool (ruleOk r)) ∧ Below w.heap.size w w' := by
  have HZ : Hid (r.kind.size ≤ maxLen ∧ r.team.size ≤ maxLen ∧ r.pre.size ≤ maxLen) := hs
  have HB : Hid (Below w.heap.size w (w.alloc (.cells #[.slice (some ⟨b, 0, none⟩) r.verbs.length CV, .string r.kind, .string r.team, .string r.pre] 27))) := blw_alloc (Below.refl _ _) _
  have HX : Hid (Calls Tryd.prog 53 #[.slice (some ⟨b, 0, none⟩) r.verbs.length CV] (w.alloc (.cells #[.slice (some ⟨b, 0, none⟩) r.verbs.length CV, .string r.kind, .string r.team, .string r.pre] 27)) fun e w' => e = .returned (.tuple #[.int .u8 (setIf r.verbs : Nat), .bool (verbsOk r.verbs)]) ∧ (w.alloc (.cells #[.slice (some ⟨b, 0, none⟩) r.verbs.length CV, .string r.kind, .string r.team, .string r.pre] 27)) = w') :=
    verbsOf_row b r.verbs _ (h.later HB.out)
  have hpz : r.pre.size ≤ maxLen := hs.2.2
  unfold maxLen at hpz
  obtain ⟨R, hR⟩ : ∃ R, R = ruleOk r := ⟨_, rfl⟩
  have HR : Hid (R = (verbsOk r.verbs && (r.kind.toList.isEmpty || Pl.nameOk r.kind) && (r.team.toList.isEmpty || Pl.nameOk r.team) && (decide (r.pre.size ≤ 16) && Pl.nameBytes r.pre))) := hR
  rw [← hR]
  clear h hs hR
  have d16 : (decide ((r.pre.size : Int) ≤ 16) = true ∧ decide (r.pre.size ≤ 16) = true) ∨ (decide ((r.pre.size : Int) ≤ 16) = false ∧ decide (r.pre.size ≤ 16) = false) := by
    by_cases h : r.pre.size ≤ 16
    · exact Or.inl ⟨by simp; omega, by simp [h]⟩
    · exact Or.inr ⟨by simp; omega, by simp [h]⟩
  obtain ⟨G, hG⟩ : ∃ G, G = decide (r.pre.size ≤ 16) := ⟨_, rfl⟩
  rw [← hG] at HR d16
  clear hG hpz
  go_enter Tryd.func29, Tryd.ntmps29
  go_wp2_with fail
  refine HX.out.mono ?_
  rintro e w2 ⟨rfl, rfl⟩
  clear HX
  cases hk : r.kind.toList.isEmpty
  · cases ht : r.team.toList.isEmpty
    · cases hv : verbsOk r.verbs
      · have HE : Hid (R = false) := by show R = false; rw [HR.out]; simp [hv]
        clear HR
        go_wp2_with (first | (go_at_call 51; refine (isName_any _ _ (by first | exact HZ.out.1 | exact HZ.out.2.1)).mono ?_; rintro e w' ⟨rfl, rfl⟩) | (go_at_call 54; refine (nameBytes_any _ _ HZ.out.2.2).mono ?_; rintro e w' ⟨rfl, rfl⟩))
        go_ret
        exact ⟨Pl.ret_bool HE.out.symm, HB.out⟩
      · cases hk2 : Pl.nameOk r.kind
        · have HE : Hid (R = false) := by show R = false; rw [HR.out]; simp [hk, hk2]
          clear HR
          go_wp2_with (first | (go_at_call 51; refine (isName_any _ _ (by first | exact HZ.out.1 | exact HZ.out.2.1)).mono ?_; rintro e w' ⟨rfl, rfl⟩) | (go_at_call 54; refine (nameBytes_any _ _ HZ.out.2.2).mono ?_; rintro e w' ⟨rfl, rfl⟩))
          go_ret
          exact ⟨Pl.ret_bool HE.out.symm, HB.out⟩
        · cases ht2 : Pl.nameOk r.team
          · have HE : Hid (R = false) := by show R = false; rw [HR.out]; simp [ht, ht2]
            clear HR
            go_wp2_with (first | (go_at_call 51; refine (isName_any _ _ (by first | exact HZ.out.1 | exact HZ.out.2.1)).mono ?_; rintro e w' ⟨rfl, rfl⟩) | (go_at_call 54; refine (nameBytes_any _ _ HZ.out.2.2).mono ?_; rintro e w' ⟨rfl, rfl⟩))
            go_ret
            exact ⟨Pl.ret_bool HE.out.symm, HB.out⟩
          · rcases d16 with ⟨h16, rfl⟩ | ⟨h16, rfl⟩
            · have HE : Hid (R = Pl.nameBytes r.pre) := by show R = Pl.nameBytes r.pre; rw [HR.out]; simp [hv, hk2, ht2]
              clear HR
              go_wp2_with (first | (go_at_call 51; refine (isName_any _ _ (by first | exact HZ.out.1 | exact HZ.out.2.1)).mono ?_; rintro e w' ⟨rfl, rfl⟩) | (go_at_call 54; refine (nameBytes_any _ _ HZ.out.2.2).mono ?_; rintro e w' ⟨rfl, rfl⟩))
              go_ret
              exact ⟨Pl.ret_bool HE.out.symm, HB.out⟩
            · have HE : Hid (R = false) := by show R = false; rw [HR.out]; simp [Bool.and_false]
              clear HR
              go_wp2_with (first | (go_at_call 51; refine (isName_any _ _ (by first | exact HZ.out.1 | exact HZ.out.2.1)).mono ?_; rintro e w' ⟨rfl, rfl⟩) | (go_at_call 54; refine (nameBytes_any _ _ HZ.out.2.2).mono ?_; rintro e w' ⟨rfl, rfl⟩))
              go_ret
              exact ⟨Pl.ret_bool HE.out.symm, HB.out⟩
    · cases hv : verbsOk r.verbs
      · have HE : Hid (R = false) := by show R = false; rw [HR.out]; simp [hv]
        clear HR
        go_wp2_with (first | (go_at_call 51; refine (isName_any _ _ (by first | exact HZ.out.1 | exact HZ.out.2.1)).mono ?_; rintro e w' ⟨rfl, rfl⟩) | (go_at_call 54; refine (nameBytes_any _ _ HZ.out.2.2).mono ?_; rintro e w' ⟨rfl, rfl⟩))
        go_ret
        exact ⟨Pl.ret_bool HE.out.symm, HB.out⟩
      · cases hk2 : Pl.nameOk r.kind
        · have HE : Hid (R = false) := by show R = false; rw [HR.out]; simp [hk, hk2]
          clear HR
          go_wp2_with (first | (go_at_call 51; refine (isName_any _ _ (by first | exact HZ.out.1 | exact HZ.out.2.1)).mono ?_; rintro e w' ⟨rfl, rfl⟩) | (go_at_call 54; refine (nameBytes_any _ _ HZ.out.2.2).mono ?_; rintro e w' ⟨rfl, rfl⟩))
          go_ret
          exact ⟨Pl.ret_bool HE.out.symm, HB.out⟩
        · rcases d16 with ⟨h16, rfl⟩ | ⟨h16, rfl⟩
          · have HE : Hid (R = Pl.nameBytes r.pre) := by show R = Pl.nameBytes r.pre; rw [HR.out]; simp [hv, ht, hk2]
            clear HR
            go_wp2_with (first | (go_at_call 51; refine (isName_any _ _ (by first | exact HZ.out.1 | exact HZ.out.2.1)).mono ?_; rintro e w' ⟨rfl, rfl⟩) | (go_at_call 54; refine (nameBytes_any _ _ HZ.out.2.2).mono ?_; rintro e w' ⟨rfl, rfl⟩))
            go_ret
            exact ⟨Pl.ret_bool HE.out.symm, HB.out⟩
          · have HE : Hid (R = false) := by show R = false; rw [HR.out]; simp [Bool.and_false]
            clear HR
            go_wp2_with (first | (go_at_call 51; refine (isName_any _ _ (by first | exact HZ.out.1 | exact HZ.out.2.1)).mono ?_; rintro e w' ⟨rfl, rfl⟩) | (go_at_call 54; refine (nameBytes_any _ _ HZ.out.2.2).mono ?_; rintro e w' ⟨rfl, rfl⟩))
            go_ret
            exact ⟨Pl.ret_bool HE.out.symm, HB.out⟩
  · cases ht : r.team.toList.isEmpty
    · cases hv : verbsOk r.verbs
      · have HE : Hid (R = false) := by show R = false; rw [HR.out]; simp [hv]
        clear HR
        go_wp2_with (first | (go_at_call 51; refine (isName_any _ _ (by first | exact HZ.out.1 | exact HZ.out.2.1)).mono ?_; rintro e w' ⟨rfl, rfl⟩) | (go_at_call 54; refine (nameBytes_any _ _ HZ.out.2.2).mono ?_; rintro e w' ⟨rfl, rfl⟩))
        go_ret
        exact ⟨Pl.ret_bool HE.out.symm, HB.out⟩
      · cases ht2 : Pl.nameOk r.team
        · have HE : Hid (R = false) := by show R = false; rw [HR.out]; simp [ht, ht2]
          clear HR
          go_wp2_with (first | (go_at_call 51; refine (isName_any _ _ (by first | exact HZ.out.1 | exact HZ.out.2.1)).mono ?_; rintro e w' ⟨rfl, rfl⟩) | (go_at_call 54; refine (nameBytes_any _ _ HZ.out.2.2).mono ?_; rintro e w' ⟨rfl, rfl⟩))
          go_ret
          exact ⟨Pl.ret_bool HE.out.symm, HB.out⟩
        · rcases d16 with ⟨h16, rfl⟩ | ⟨h16, rfl⟩
          · have HE : Hid (R = Pl.nameBytes r.pre) := by show R = Pl.nameBytes r.pre; rw [HR.out]; simp [hv, hk, ht2]
            clear HR
            go_wp2_with (first | (go_at_call 51; refine (isName_any _ _ (by first | exact HZ.out.1 | exact HZ.out.2.1)).mono ?_; rintro e w' ⟨rfl, rfl⟩) | (go_at_call 54; refine (nameBytes_any _ _ HZ.out.2.2).mono ?_; rintro e w' ⟨rfl, rfl⟩))
            go_ret
            exact ⟨Pl.ret_bool HE.out.symm, HB.out⟩
          · have HE : Hid (R = false) := by show R = false; rw [HR.out]; simp [Bool.and_false]
            clear HR
            go_wp2_with (first | (go_at_call 51; refine (isName_any _ _ (by first | exact HZ.out.1 | exact HZ.out.2.1)).mono ?_; rintro e w' ⟨rfl, rfl⟩) | (go_at_call 54; refine (nameBytes_any _ _ HZ.out.2.2).mono ?_; rintro e w' ⟨rfl, rfl⟩))
            go_ret
            exact ⟨Pl.ret_bool HE.out.symm, HB.out⟩
    · cases hv : verbsOk r.verbs
      · have HE : Hid (R = false) := by show R = false; rw [HR.out]; simp [hv]
        clear HR
        go_wp2_with (first | (go_at_call 51; refine (isName_any _ _ (by first | exact HZ.out.1 | exact HZ.out.2.1)).mono ?_; rintro e w' ⟨rfl, rfl⟩) | (go_at_call 54; refine (nameBytes_any _ _ HZ.out.2.2).mono ?_; rintro e w' ⟨rfl, rfl⟩))
        go_ret
        exact ⟨Pl.ret_bool HE.out.symm, HB.out⟩
      · rcases d16 with ⟨h16, rfl⟩ | ⟨h16, rfl⟩
        · have HE : Hid (R = Pl.nameBytes r.pre) := by show R = Pl.nameBytes r.pre; rw [HR.out]; simp [hv, hk, ht]
          clear HR
          go_wp2_with (first | (go_at_call 51; refine (isName_any _ _ (by first | exact HZ.out.1 | exact HZ.out.2.1)).mono ?_; rintro e w' ⟨rfl, rfl⟩) | (go_at_call 54; refine (nameBytes_any _ _ HZ.out.2.2).mono ?_; rintro e w' ⟨rfl, rfl⟩))
          go_ret
          exact ⟨Pl.ret_bool HE.out.symm, HB.out⟩
        · have HE : Hid (R = false) := by show R = false; rw [HR.out]; simp [Bool.and_false]
          clear HR
          go_wp2_with (first | (go_at_call 51; refine (isName_any _ _ (by first | exact HZ.out.1 | exact HZ.out.2.1)).mono ?_; rintro e w' ⟨rfl, rfl⟩) | (go_at_call 54; refine (nameBytes_any _ _ HZ.out.2.2).mono ?_; rintro e w' ⟨rfl, rfl⟩))
          go_ret
          exact ⟨Pl.ret_bool HE.out.symm, HB.out⟩

set_option maxHeartbeats 4000000 in
theorem rightOf (B b : Nat) (ts : List Tm) (r : Rul) (w : World) (h : IntsIn w b r.verbs) :
    Calls Tryd.prog 30 #[.slice (some ⟨B, 0, none⟩) ts.length CT, .agg #[.slice (some ⟨b, 0, none⟩) r.verbs.length CV, .string r.kind, .string r.team, .string r.pre]] w fun e w' => e = .returned (.agg #[.slice (some ⟨B, 0, none⟩) ts.length CT, .slice (some ⟨b, 0, none⟩) r.verbs.length CV, .string r.kind, .string r.team, .string r.pre, .int .u8 (setIf r.verbs : Nat)]) ∧ Below w.heap.size w w' := by
  have HX : Hid (∀ W, Below w.heap.size w W → Calls Tryd.prog 53 #[.slice (some ⟨b, 0, none⟩) r.verbs.length CV] W fun e w' => e = .returned (.tuple #[.int .u8 (setIf r.verbs : Nat), .bool (verbsOk r.verbs)]) ∧ W = w') :=
    fun W hW => verbsOf_row b r.verbs _ (h.later hW)
  clear h
  go_enter Tryd.func30, Tryd.ntmps30
  go_wp2_with fail
  refine (HX.out _ ?_).mono ?_
  · repeat (first | exact Below.refl _ _ | refine blw_alloc ?_ _)
  rintro e w2 ⟨rfl, rfl⟩
  clear HX
  go_wp2
  refine bodyPost_ret (v := .agg #[.slice (some ⟨B, 0, none⟩) ts.length CT, .slice (some ⟨b, 0, none⟩) r.verbs.length CV, .string r.kind, .string r.team, .string r.pre, .int .u8 (setIf r.verbs : Nat)]) (by simp [results, Tryd.results30, go_sem]) rfl ⟨rfl, ?_⟩
  repeat (first | exact Below.refl _ _ | refine blw_alloc ?_ _ | refine Below.setCell ?_ (by simp) _)

set_option maxHeartbeats 4000000 in
theorem gateGives (B b S : Nat) (ts : List Tm) (r : Rul) (d : Deed) (w : World) (hT : TmsIn w B ts) :
    Calls Tryd.prog 31 #[.agg #[.slice (some ⟨B, 0, none⟩) ts.length CT, .slice (some ⟨b, 0, none⟩) r.verbs.length CV, .string r.kind, .string r.team, .string r.pre, .int .u8 (S : Nat)], .agg #[.int .i64 d.verb, .string d.kind, .string d.team, .string d.name]] w fun e w' => e = .returned (.int .u8 (if given ts r d.kind d.team d.name = true then (S : Int) else 0)) ∧ Below w.heap.size w w' := by
  have hbx : Below w.heap.size w ((w.alloc (.cells #[.slice (some ⟨B, 0, none⟩) ts.length CT, .slice (some ⟨b, 0, none⟩) r.verbs.length CV, .string r.kind, .string r.team, .string r.pre, .int .u8 (S : Nat)] 60)).alloc (.cells #[.int .i64 d.verb, .string d.kind, .string d.team, .string d.name] 32)) := blw_alloc (blw_alloc (Below.refl _ _) _) _
  obtain ⟨w2, hw2⟩ : ∃ w2, w2 = ((w.alloc (.cells #[.slice (some ⟨B, 0, none⟩) ts.length CT, .slice (some ⟨b, 0, none⟩) r.verbs.length CV, .string r.kind, .string r.team, .string r.pre, .int .u8 (S : Nat)] 60)).alloc (.cells #[.int .i64 d.verb, .string d.kind, .string d.team, .string d.name] 32)) := ⟨_, rfl⟩
  have HB2 : Hid (Below w.heap.size w w2) := by rw [hw2]; exact hbx
  have HC : Hid (w.heap.size + 1 < w2.heap.size ∧ (∀ o, w2.cell? ⟨w.heap.size, o, none⟩ = (#[Value.slice (some ⟨B, 0, none⟩) ts.length CT, .slice (some ⟨b, 0, none⟩) r.verbs.length CV, .string r.kind, .string r.team, .string r.pre, .int .u8 (S : Nat)])[o]?) ∧ (∀ o, w2.cell? ⟨w.heap.size + 1, o, none⟩ = (#[Value.int .i64 d.verb, .string d.kind, .string d.team, .string d.name])[o]?)) := by rw [hw2]; exact two_boxes w _ _ 60 32
  have HT2 : Hid (TmsIn w2 B ts) := hT.later HB2.out
  obtain ⟨R, hR⟩ : ∃ R : Int, R = (if given ts r d.kind d.team d.name = true then (S : Int) else 0) := ⟨_, rfl⟩
  have HR : Hid (R = (if ((r.kind.toList.isEmpty || (r.kind.toList == d.kind.toList)) && (r.team.toList.isEmpty || under ts d.team r.team) && begins d.name r.pre) = true then (S : Int) else 0)) := hR
  rw [← hR]
  have c := HC.out.2.1
  have d_ := HC.out.2.2
  have c0 : w2.cell? ⟨w.heap.size, 0, none⟩ = some (.slice (some ⟨B, 0, none⟩) ts.length CT) := c 0
  have c2 : w2.cell? ⟨w.heap.size, 2, none⟩ = some (.string r.kind) := c 2
  have c3 : w2.cell? ⟨w.heap.size, 3, none⟩ = some (.string r.team) := c 3
  have c4 : w2.cell? ⟨w.heap.size, 4, none⟩ = some (.string r.pre) := c 4
  have c5 : w2.cell? ⟨w.heap.size, 5, none⟩ = some (.int .u8 (S : Nat)) := c 5
  have e1 : w2.cell? ⟨w.heap.size + 1, 1, none⟩ = some (.string d.kind) := d_ 1
  have e2 : w2.cell? ⟨w.heap.size + 1, 2, none⟩ = some (.string d.team) := d_ 2
  have e3 : w2.cell? ⟨w.heap.size + 1, 3, none⟩ = some (.string d.name) := d_ 3

  clear hbx hT hR c d_
  obtain ⟨K, hK⟩ : ∃ K : Bool, K = (r.kind.toList.isEmpty || (r.kind.toList == d.kind.toList)) := ⟨_, rfl⟩
  have kinds : (r.kind.toList.isEmpty = true ∧ K = true) ∨ (r.kind.toList.isEmpty = false ∧ (r.kind.toList == d.kind.toList) = true ∧ K = true) ∨ (r.kind.toList.isEmpty = false ∧ (r.kind.toList == d.kind.toList) = false ∧ K = false) := by
    rw [hK]
    cases r.kind.toList.isEmpty <;> cases (r.kind.toList == d.kind.toList) <;> simp
  rw [← hK] at HR
  clear hK
  go_enter Tryd.func31, Tryd.ntmps31
  go_upto_region 1 with fail
  rw [← hw2]
  clear hw2
  cases ht : r.team.toList.isEmpty
  · rcases kinds with ⟨hk, rfl⟩ | ⟨hk, hk2, rfl⟩ | ⟨hk, hk2, rfl⟩
    all_goals
      go_wp2_with fail
      refine (underI B ts _ _ _ HT2.out).mono ?_
      rintro e w3 ⟨rfl, hb3⟩
      have HC3 : Hid (w.heap.size + 1 < w3.heap.size ∧ (∀ o, w3.cell? ⟨w.heap.size, o, none⟩ = (#[Value.slice (some ⟨B, 0, none⟩) ts.length CT, .slice (some ⟨b, 0, none⟩) r.verbs.length CV, .string r.kind, .string r.team, .string r.pre, .int .u8 (S : Nat)])[o]?) ∧ (∀ o, w3.cell? ⟨w.heap.size + 1, o, none⟩ = (#[Value.int .i64 d.verb, .string d.kind, .string d.team, .string d.name])[o]?)) := carry HC.out hb3
      have HB3 : Hid (Below w.heap.size w w3) := blw_trans HB2.out hb3
      clear c0 c2 c3 c4 c5 e1 e2 e3
      have c := HC3.out.2.1
      have d_ := HC3.out.2.2
      have c4 : w3.cell? ⟨w.heap.size, 4, none⟩ = some (.string r.pre) := c 4
      have c5 : w3.cell? ⟨w.heap.size, 5, none⟩ = some (.int .u8 (S : Nat)) := c 5
      have e3 : w3.cell? ⟨w.heap.size + 1, 3, none⟩ = some (.string d.name) := d_ 3

      clear hb3 HC HT2 HB2 c d_ HC3
      cases hu : under ts d.team r.team <;> cases hb : begins d.name r.pre
      all_goals
        have HE := HR.out
        rw [ht, hu, hb] at HE
        simp at HE
        have HEE : Hid (R = _) := HE
        clear HE
        go_wp2_with (go_at_call 56; refine (hasPrefix _ _ _).mono ?_; rintro e w' ⟨rfl, rfl⟩)
        go_ret
        exact ⟨Pl.ret_int HEE.out.symm, HB3.out⟩
  · rcases kinds with ⟨hk, rfl⟩ | ⟨hk, hk2, rfl⟩ | ⟨hk, hk2, rfl⟩
    all_goals
      cases hb : begins d.name r.pre
      all_goals
        have HE := HR.out
        rw [ht, hb] at HE
        simp at HE
        have HEE : Hid (R = _) := HE
        clear HE
        go_wp2_with (go_at_call 56; refine (hasPrefix _ _ _).mono ?_; rintro e w' ⟨rfl, rfl⟩)
        go_ret
        exact ⟨Pl.ret_int HEE.out.symm, HB2.out⟩

end Go.Proofs.YtfmidkdpclfffaaDoor
