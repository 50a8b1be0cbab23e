/-
  Walks: the first verb that is not covered: the specification.
-/
import Derived.BigQuiet
import Derived.Test.YtfmidkdpclfffaaDoorWalkSB
namespace Go.Proofs.YtfmidkdpclfffaaDoor
open Go.RowKit Go.Deep

variable {CT CR CV CQ CL : Nat}

/-- A world that lies behind another one. -/
structure Past (w : World) where
  W : World
  ok : Below w.heap.size w W

theorem past_some (w : World) : Nonempty (Past w) := ⟨⟨w, Below.refl _ _⟩⟩

/-- A region that draws its order, whose operations yield the same in each world behind w. -/
theorem wp_region_class {P : Program} {id : Nat} {Q : Exit → Act → World → Prop} {a : Act} {w : World} {l : List Oper} {T : Type} (f : T → World) (hm : P.follows .mixedOrders = true) (hB : Region.lexB .any l.toArray = true) (hC : ∃ x, { w with drawn := w.drawn + 1 } = f x)
    (h : wpQuiet P l.toArray (fun w' => ∃ x, w' = f x) (fun a' => ∀ w', (∃ x, w' = f x) → Q .normal a' w') l a) : (Code.region id l.toArray true).wp P Q a w :=
  wp_region_quiet (C := fun w' => ∃ x, w' = f x) hm hB hC (by simpa using h)

set_option maxRecDepth 8000 in
set_option maxHeartbeats 16000000 in
theorem l4Lacks (B Br b : Nat) (ts : List Tm) (rs : List Rul) (r : Rul) (w : World) (hT : TmsIn w B ts) (hR : RulsIn w Br rs) (h : IntsIn w b r.verbs) :
    Calls Tryd.prog 27 #[.slice (some ⟨B, 0, none⟩) ts.length CT, .slice (some ⟨Br, 0, none⟩) rs.length CR, .agg #[.slice (some ⟨b, 0, none⟩) r.verbs.length CV, .string r.kind, .string r.team, .string r.pre]] w fun e w' => e = .returned (.int .i64 (lackOf ts rs r r.verbs)) ∧ Below w.heap.size w w' := by
  have hl := hR.len
  have hlv := h.len
  have HM : Hid (∀ W, Below w.heap.size w W → TmsIn W B ts ∧ RulsIn W Br rs ∧ IntsIn W b r.verbs) := fun W hW => ⟨hT.later hW, hR.later hW, h.later hW⟩
  have HB1 : Hid (Below w.heap.size w (w.alloc (.cells #[.slice (some ⟨b, 0, none⟩) r.verbs.length CV, .string r.kind, .string r.team, .string r.pre] 27))) := blw_alloc (Below.refl _ _) _
  have HX1 : Hid (Boxed (w.alloc (.cells #[.slice (some ⟨b, 0, none⟩) r.verbs.length CV, .string r.kind, .string r.team, .string r.pre] 27)) w.heap.size #[.slice (some ⟨b, 0, none⟩) r.verbs.length CV, .string r.kind, .string r.team, .string r.pre]) := Boxed.new w _ 27
  obtain ⟨R, hRr⟩ : ∃ R, R = lackOf ts rs r r.verbs := ⟨_, rfl⟩
  have HR : Hid (R = lackOf ts rs r r.verbs) := hRr
  rw [← hRr]
  clear hT hR h hRr
  go_enter Tryd.func27, Tryd.ntmps27
  go_wp2
  go_loopw [7] (fun i wr => ∃ k : Nat, k ≤ r.verbs.length ∧ i = .int .i64 k ∧ lackOf ts rs r (r.verbs.drop k) = R ∧ Below w.heap.size w wr ∧ Boxed wr w.heap.size #[.slice (some ⟨b, 0, none⟩) r.verbs.length CV, .string r.kind, .string r.team, .string r.pre]) (fun i _ => r.verbs.length - (intOf i).toNat)
  case atStart => exact ⟨0, Nat.zero_le _, rfl, HR.out.symm, HB1.out, HX1.out⟩
  case round =>
    obtain ⟨k, hk, rfl, hq, hW, hBx⟩ := hrel
    have HQ : Hid (lackOf ts rs r (r.verbs.drop k) = R) := hq
    have HW : Hid (Below w.heap.size w wr ∧ Boxed wr w.heap.size #[.slice (some ⟨b, 0, none⟩) r.verbs.length CV, .string r.kind, .string r.team, .string r.pre]) := ⟨hW, hBx⟩
    clear hq hW hBx
    have k0 : wr.cell? ⟨w.heap.size, 0, none⟩ = some (.slice (some ⟨b, 0, none⟩) r.verbs.length CV) := HW.out.2.2 0
    by_cases hlt : k < r.verbs.length
    · obtain ⟨v, hv⟩ : ∃ v, v = r.verbs.getD k 0 := ⟨_, rfl⟩
      have hd := lackOf_at ts rs r r.verbs k hlt
      rw [← hv, HQ.out] at hd
      have HD : Hid (R = if covV ts rs r v = true then lackOf ts rs r (r.verbs.drop (k + 1)) else v) := hd
      have HV : Hid (v = r.verbs.getD k 0) := hv
      clear hd hv
      obtain ⟨wo, rfl⟩ : ∃ wo : World, wo = wr := ⟨_, rfl⟩
      go_wp2
      clear k0
      go_loopw [8, 9] (fun f i wq => ∃ (j : Nat) (F : Bool), j ≤ rs.length ∧ i = .int .i64 j ∧ f = .bool F ∧ F = (rs.take j).any (cov ts r v) ∧ Below w.heap.size w wq ∧ Boxed wq w.heap.size #[.slice (some ⟨b, 0, none⟩) r.verbs.length CV, .string r.kind, .string r.team, .string r.pre]) (fun _ i _ => rs.length - (intOf i).toNat)
      case atStart => exact ⟨0, false, Nat.zero_le _, rfl, rfl, rfl, HW.out.1, HW.out.2⟩
      case round =>
        obtain ⟨j, F, hj, rfl, rfl, hF, hWq, hBq⟩ := hrel
        rename World => wq
        have HF : Hid (F = (rs.take j).any (cov ts r v)) := hF
        have HWq : Hid (Below w.heap.size w wq ∧ Boxed wq w.heap.size #[.slice (some ⟨b, 0, none⟩) r.verbs.length CV, .string r.kind, .string r.team, .string r.pre]) := ⟨hWq, hBq⟩
        clear hF hWq hBq
        by_cases hjl : j < rs.length
        · obtain ⟨q, hqq⟩ : ∃ q, q = rs.getD j Rul.none := ⟨_, rfl⟩
          have hf := (HM.out _ HWq.out.1).2.1.at_ j hjl
          rw [← hqq] at hf
          obtain ⟨bq, CQ, d0, d1, d2, d3, hi, hsz⟩ := hf
          obtain ⟨C, hC⟩ : ∃ C, C = cov ts r v q := ⟨_, rfl⟩
          have HCC : Hid (C = (hasVerb q.verbs v && ((q.kind.toList.isEmpty || (q.kind.toList == r.kind.toList)) && (q.team.toList.isEmpty || (!r.team.toList.isEmpty && under ts r.team q.team)) && begins r.pre q.pre))) := hC
          have HS : Hid ((rs.take (j + 1)).any (cov ts r v) = (F || C)) := by show _ = _; rw [any_snoc _ _ _ hjl, ← HF.out, hC, hqq]
          obtain ⟨w5, hw5⟩ : ∃ w5, w5 = wq.alloc (.cells #[.slice (some ⟨bq, 0, none⟩) q.verbs.length CQ, .string q.kind, .string q.team, .string q.pre] 27) := ⟨_, rfl⟩
          have hb5 : Below wq.heap.size wq w5 := by rw [hw5]; exact blw_alloc (Below.refl _ _) _
          have HB5 : Hid (Below w.heap.size w w5) := blw_trans HWq.out.1 hb5
          have HX5 : Hid (Boxed w5 wq.heap.size #[.slice (some ⟨bq, 0, none⟩) q.verbs.length CQ, .string q.kind, .string q.team, .string q.pre] ∧ Boxed w5 w.heap.size #[.slice (some ⟨b, 0, none⟩) r.verbs.length CV, .string r.kind, .string r.team, .string r.pre]) := ⟨by rw [hw5]; exact Boxed.new wq _ 27, HWq.out.2.later hb5⟩
          have HX : Hid (∀ W, Below w5.heap.size w5 W → Calls Tryd.prog 48 #[.agg #[.slice (some ⟨bq, 0, none⟩) q.verbs.length CQ, .string q.kind, .string q.team, .string q.pre], .int .i64 v] W fun e w' => e = .returned (.bool (hasVerb q.verbs v)) ∧ Below W.heap.size W w') := fun W hW => l4Verb bq q v W ((hi.later hb5).later hW)
          have HXl : Hid (∀ W, Below w5.heap.size w5 W → Boxed W wq.heap.size #[.slice (some ⟨bq, 0, none⟩) q.verbs.length CQ, .string q.kind, .string q.team, .string q.pre] ∧ Boxed W w.heap.size #[.slice (some ⟨b, 0, none⟩) r.verbs.length CV, .string r.kind, .string r.team, .string r.pre]) := fun W hW => ⟨HX5.out.1.later hW, HX5.out.2.later hW⟩
          have HTm : Hid (∀ W, Below w5.heap.size w5 W → TmsIn W B ts) := fun W hW => (HM.out _ (blw_trans HB5.out hW)).1
          clear hqq hC hi hsz hb5
          go_upto_region 9 with fail
          rw [← hw5]
          clear hw5 d0 d1 d2 d3
          have p0 : ∀ x : Past w5, x.W.cell? ⟨wq.heap.size, 0, none⟩ = some (.slice (some ⟨bq, 0, none⟩) q.verbs.length CQ) := fun x => (HXl.out x.W x.ok).1.2 0
          have p1 : ∀ x : Past w5, x.W.cell? ⟨wq.heap.size, 1, none⟩ = some (.string q.kind) := fun x => (HXl.out x.W x.ok).1.2 1
          have p2 : ∀ x : Past w5, x.W.cell? ⟨wq.heap.size, 2, none⟩ = some (.string q.team) := fun x => (HXl.out x.W x.ok).1.2 2
          have p3 : ∀ x : Past w5, x.W.cell? ⟨wq.heap.size, 3, none⟩ = some (.string q.pre) := fun x => (HXl.out x.W x.ok).1.2 3
          have k0 : ∀ x : Past w5, x.W.cell? ⟨w.heap.size, 0, none⟩ = some (.slice (some ⟨b, 0, none⟩) r.verbs.length CV) := fun x => (HXl.out x.W x.ok).2.2 0
          have k1 : ∀ x : Past w5, x.W.cell? ⟨w.heap.size, 1, none⟩ = some (.string r.kind) := fun x => (HXl.out x.W x.ok).2.2 1
          have k2 : ∀ x : Past w5, x.W.cell? ⟨w.heap.size, 2, none⟩ = some (.string r.team) := fun x => (HXl.out x.W x.ok).2.2 2
          have k3 : ∀ x : Past w5, x.W.cell? ⟨w.heap.size, 3, none⟩ = some (.string r.pre) := fun x => (HXl.out x.W x.ok).2.2 3
          have c0 : ∀ x : Past w5, x.W.cell? ⟨b, k, none⟩ = some (.int .i64 v) := fun x => by have := (HM.out _ (blw_trans HB5.out x.ok)).2.2.at_ k hlt; rw [← HV.out] at this; exact this
          have hpast := past_some w5
          go_cut [71] (fun s wx => s = .bool C ∧ Below w5.heap.size w5 wx)
          case first =>
            cases hv : hasVerb q.verbs v
            · have HXv : Hid (∀ W, Below w5.heap.size w5 W → Calls Tryd.prog 48 #[.agg #[.slice (some ⟨bq, 0, none⟩) q.verbs.length CQ, .string q.kind, .string q.team, .string q.pre], .int .i64 v] W fun e w' => e = .returned (.bool false) ∧ Below W.heap.size W w') := fun W hW => by have := HX.out W hW; rw [hv] at this; exact this
              have HE : Hid (C = false) := by show C = false; rw [HCC.out]; simp [hv]
              refine wp_region_class (T := Past w5) Past.W (by kernel_rfl) (by kernel_rfl) ⟨⟨w5.drew, Below.drew (Below.refl _ _)⟩, rfl⟩ ?_
              repeat (first
                | go_big_quiet_skip
                | (go_big_quiet_want; go_big_quiet_op; first | go_big_quiet_on | (apply Exists.intro; refine ⟨fun x => ?_, ?_⟩; (focus (first | (go_at_call 48; refine (HXv.out _ x.ok).mono ?_; rintro e w' ⟨he, hb⟩; exact ⟨he, ⟨w', blw_trans x.ok hb⟩, rfl⟩) | (go_at_call 49; refine (HUv.out _ x.ok).mono ?_; rintro e w' ⟨he, hb⟩; exact ⟨he, x, hb.symm⟩) | (go_at_call 50; refine (l4Begins _ _ _).mono ?_; rintro e w' ⟨he, hb⟩; exact ⟨he, x, hb.symm⟩))); go_big_quiet_on)))
              refine wpQuiet_nil ?_
              intro _ hw'
              obtain ⟨x6, hw''⟩ := hw'
              subst hw''
              go_wp2_with fail
              go_meet
              exact ⟨congrArg Value.bool HE.out.symm, x6.ok⟩
            · have HXv : Hid (∀ W, Below w5.heap.size w5 W → Calls Tryd.prog 48 #[.agg #[.slice (some ⟨bq, 0, none⟩) q.verbs.length CQ, .string q.kind, .string q.team, .string q.pre], .int .i64 v] W fun e w' => e = .returned (.bool true) ∧ Below W.heap.size W w') := fun W hW => by have := HX.out W hW; rw [hv] at this; exact this
              cases hk : q.kind.toList.isEmpty
              · cases hk2 : (q.kind.toList == r.kind.toList)
                · have HE : Hid (C = false) := by show C = false; rw [HCC.out]; simp [hk, hk2]
                  refine wp_region_class (T := Past w5) Past.W (by kernel_rfl) (by kernel_rfl) ⟨⟨w5.drew, Below.drew (Below.refl _ _)⟩, rfl⟩ ?_
                  repeat (first
                    | go_big_quiet_skip
                    | (go_big_quiet_want; go_big_quiet_op; first | go_big_quiet_on | (apply Exists.intro; refine ⟨fun x => ?_, ?_⟩; (focus (first | (go_at_call 48; refine (HXv.out _ x.ok).mono ?_; rintro e w' ⟨he, hb⟩; exact ⟨he, ⟨w', blw_trans x.ok hb⟩, rfl⟩) | (go_at_call 49; refine (HUv.out _ x.ok).mono ?_; rintro e w' ⟨he, hb⟩; exact ⟨he, x, hb.symm⟩) | (go_at_call 50; refine (l4Begins _ _ _).mono ?_; rintro e w' ⟨he, hb⟩; exact ⟨he, x, hb.symm⟩))); go_big_quiet_on)))
                  refine wpQuiet_nil ?_
                  intro _ hw'
                  obtain ⟨x6, hw''⟩ := hw'
                  subst hw''
                  go_wp2_with fail
                  go_meet
                  exact ⟨congrArg Value.bool HE.out.symm, x6.ok⟩
                · cases hq : q.team.toList.isEmpty
                  · cases hr : r.team.toList.isEmpty
                    · cases hu : under ts r.team q.team
                      · have HUv : Hid (∀ W, Below w5.heap.size w5 W → Calls Tryd.prog 49 #[.slice (some ⟨B, 0, none⟩) ts.length CT, .string r.team, .string q.team] W fun e w' => e = .returned (.bool false) ∧ W = w') := fun W hW => by have := underS (CT := CT) B ts r.team q.team W (HTm.out W hW); rw [hu] at this; exact this
                        have HE : Hid (C = false) := by show C = false; rw [HCC.out]; simp [hq, hr, hu]
                        refine wp_region_class (T := Past w5) Past.W (by kernel_rfl) (by kernel_rfl) ⟨⟨w5.drew, Below.drew (Below.refl _ _)⟩, rfl⟩ ?_
                        repeat (first
                          | go_big_quiet_skip
                          | (go_big_quiet_want; go_big_quiet_op; first | go_big_quiet_on | (apply Exists.intro; refine ⟨fun x => ?_, ?_⟩; (focus (first | (go_at_call 48; refine (HXv.out _ x.ok).mono ?_; rintro e w' ⟨he, hb⟩; exact ⟨he, ⟨w', blw_trans x.ok hb⟩, rfl⟩) | (go_at_call 49; refine (HUv.out _ x.ok).mono ?_; rintro e w' ⟨he, hb⟩; exact ⟨he, x, hb.symm⟩) | (go_at_call 50; refine (l4Begins _ _ _).mono ?_; rintro e w' ⟨he, hb⟩; exact ⟨he, x, hb.symm⟩))); go_big_quiet_on)))
                        refine wpQuiet_nil ?_
                        intro _ hw'
                        obtain ⟨x6, hw''⟩ := hw'
                        subst hw''
                        go_wp2_with fail
                        go_meet
                        exact ⟨congrArg Value.bool HE.out.symm, x6.ok⟩
                      · have HUv : Hid (∀ W, Below w5.heap.size w5 W → Calls Tryd.prog 49 #[.slice (some ⟨B, 0, none⟩) ts.length CT, .string r.team, .string q.team] W fun e w' => e = .returned (.bool true) ∧ W = w') := fun W hW => by have := underS (CT := CT) B ts r.team q.team W (HTm.out W hW); rw [hu] at this; exact this
                        have HE : Hid (C = begins r.pre q.pre) := by show C = begins r.pre q.pre; rw [HCC.out]; simp [hv, hk2, hr, hu]
                        refine wp_region_class (T := Past w5) Past.W (by kernel_rfl) (by kernel_rfl) ⟨⟨w5.drew, Below.drew (Below.refl _ _)⟩, rfl⟩ ?_
                        repeat (first
                          | go_big_quiet_skip
                          | (go_big_quiet_want; go_big_quiet_op; first | go_big_quiet_on | (apply Exists.intro; refine ⟨fun x => ?_, ?_⟩; (focus (first | (go_at_call 48; refine (HXv.out _ x.ok).mono ?_; rintro e w' ⟨he, hb⟩; exact ⟨he, ⟨w', blw_trans x.ok hb⟩, rfl⟩) | (go_at_call 49; refine (HUv.out _ x.ok).mono ?_; rintro e w' ⟨he, hb⟩; exact ⟨he, x, hb.symm⟩) | (go_at_call 50; refine (l4Begins _ _ _).mono ?_; rintro e w' ⟨he, hb⟩; exact ⟨he, x, hb.symm⟩))); go_big_quiet_on)))
                        refine wpQuiet_nil ?_
                        intro _ hw'
                        obtain ⟨x6, hw''⟩ := hw'
                        subst hw''
                        go_wp2_with fail
                        go_meet
                        exact ⟨congrArg Value.bool HE.out.symm, x6.ok⟩
                    · have HE : Hid (C = false) := by show C = false; rw [HCC.out]; simp [hq, hr]
                      refine wp_region_class (T := Past w5) Past.W (by kernel_rfl) (by kernel_rfl) ⟨⟨w5.drew, Below.drew (Below.refl _ _)⟩, rfl⟩ ?_
                      repeat (first
                        | go_big_quiet_skip
                        | (go_big_quiet_want; go_big_quiet_op; first | go_big_quiet_on | (apply Exists.intro; refine ⟨fun x => ?_, ?_⟩; (focus (first | (go_at_call 48; refine (HXv.out _ x.ok).mono ?_; rintro e w' ⟨he, hb⟩; exact ⟨he, ⟨w', blw_trans x.ok hb⟩, rfl⟩) | (go_at_call 49; refine (HUv.out _ x.ok).mono ?_; rintro e w' ⟨he, hb⟩; exact ⟨he, x, hb.symm⟩) | (go_at_call 50; refine (l4Begins _ _ _).mono ?_; rintro e w' ⟨he, hb⟩; exact ⟨he, x, hb.symm⟩))); go_big_quiet_on)))
                      refine wpQuiet_nil ?_
                      intro _ hw'
                      obtain ⟨x6, hw''⟩ := hw'
                      subst hw''
                      go_wp2_with fail
                      go_meet
                      exact ⟨congrArg Value.bool HE.out.symm, x6.ok⟩
                  · have HE : Hid (C = begins r.pre q.pre) := by show C = begins r.pre q.pre; rw [HCC.out]; simp [hv, hk2, hq]
                    refine wp_region_class (T := Past w5) Past.W (by kernel_rfl) (by kernel_rfl) ⟨⟨w5.drew, Below.drew (Below.refl _ _)⟩, rfl⟩ ?_
                    repeat (first
                      | go_big_quiet_skip
                      | (go_big_quiet_want; go_big_quiet_op; first | go_big_quiet_on | (apply Exists.intro; refine ⟨fun x => ?_, ?_⟩; (focus (first | (go_at_call 48; refine (HXv.out _ x.ok).mono ?_; rintro e w' ⟨he, hb⟩; exact ⟨he, ⟨w', blw_trans x.ok hb⟩, rfl⟩) | (go_at_call 49; refine (HUv.out _ x.ok).mono ?_; rintro e w' ⟨he, hb⟩; exact ⟨he, x, hb.symm⟩) | (go_at_call 50; refine (l4Begins _ _ _).mono ?_; rintro e w' ⟨he, hb⟩; exact ⟨he, x, hb.symm⟩))); go_big_quiet_on)))
                    refine wpQuiet_nil ?_
                    intro _ hw'
                    obtain ⟨x6, hw''⟩ := hw'
                    subst hw''
                    go_wp2_with fail
                    go_meet
                    exact ⟨congrArg Value.bool HE.out.symm, x6.ok⟩
              · cases hq : q.team.toList.isEmpty
                · cases hr : r.team.toList.isEmpty
                  · cases hu : under ts r.team q.team
                    · have HUv : Hid (∀ W, Below w5.heap.size w5 W → Calls Tryd.prog 49 #[.slice (some ⟨B, 0, none⟩) ts.length CT, .string r.team, .string q.team] W fun e w' => e = .returned (.bool false) ∧ W = w') := fun W hW => by have := underS (CT := CT) B ts r.team q.team W (HTm.out W hW); rw [hu] at this; exact this
                      have HE : Hid (C = false) := by show C = false; rw [HCC.out]; simp [hq, hr, hu]
                      refine wp_region_class (T := Past w5) Past.W (by kernel_rfl) (by kernel_rfl) ⟨⟨w5.drew, Below.drew (Below.refl _ _)⟩, rfl⟩ ?_
                      repeat (first
                        | go_big_quiet_skip
                        | (go_big_quiet_want; go_big_quiet_op; first | go_big_quiet_on | (apply Exists.intro; refine ⟨fun x => ?_, ?_⟩; (focus (first | (go_at_call 48; refine (HXv.out _ x.ok).mono ?_; rintro e w' ⟨he, hb⟩; exact ⟨he, ⟨w', blw_trans x.ok hb⟩, rfl⟩) | (go_at_call 49; refine (HUv.out _ x.ok).mono ?_; rintro e w' ⟨he, hb⟩; exact ⟨he, x, hb.symm⟩) | (go_at_call 50; refine (l4Begins _ _ _).mono ?_; rintro e w' ⟨he, hb⟩; exact ⟨he, x, hb.symm⟩))); go_big_quiet_on)))
                      refine wpQuiet_nil ?_
                      intro _ hw'
                      obtain ⟨x6, hw''⟩ := hw'
                      subst hw''
                      go_wp2_with fail
                      go_meet
                      exact ⟨congrArg Value.bool HE.out.symm, x6.ok⟩
                    · have HUv : Hid (∀ W, Below w5.heap.size w5 W → Calls Tryd.prog 49 #[.slice (some ⟨B, 0, none⟩) ts.length CT, .string r.team, .string q.team] W fun e w' => e = .returned (.bool true) ∧ W = w') := fun W hW => by have := underS (CT := CT) B ts r.team q.team W (HTm.out W hW); rw [hu] at this; exact this
                      have HE : Hid (C = begins r.pre q.pre) := by show C = begins r.pre q.pre; rw [HCC.out]; simp [hv, hk, hr, hu]
                      refine wp_region_class (T := Past w5) Past.W (by kernel_rfl) (by kernel_rfl) ⟨⟨w5.drew, Below.drew (Below.refl _ _)⟩, rfl⟩ ?_
                      repeat (first
                        | go_big_quiet_skip
                        | (go_big_quiet_want; go_big_quiet_op; first | go_big_quiet_on | (apply Exists.intro; refine ⟨fun x => ?_, ?_⟩; (focus (first | (go_at_call 48; refine (HXv.out _ x.ok).mono ?_; rintro e w' ⟨he, hb⟩; exact ⟨he, ⟨w', blw_trans x.ok hb⟩, rfl⟩) | (go_at_call 49; refine (HUv.out _ x.ok).mono ?_; rintro e w' ⟨he, hb⟩; exact ⟨he, x, hb.symm⟩) | (go_at_call 50; refine (l4Begins _ _ _).mono ?_; rintro e w' ⟨he, hb⟩; exact ⟨he, x, hb.symm⟩))); go_big_quiet_on)))
                      refine wpQuiet_nil ?_
                      intro _ hw'
                      obtain ⟨x6, hw''⟩ := hw'
                      subst hw''
                      go_wp2_with fail
                      go_meet
                      exact ⟨congrArg Value.bool HE.out.symm, x6.ok⟩
                  · have HE : Hid (C = false) := by show C = false; rw [HCC.out]; simp [hq, hr]
                    refine wp_region_class (T := Past w5) Past.W (by kernel_rfl) (by kernel_rfl) ⟨⟨w5.drew, Below.drew (Below.refl _ _)⟩, rfl⟩ ?_
                    repeat (first
                      | go_big_quiet_skip
                      | (go_big_quiet_want; go_big_quiet_op; first | go_big_quiet_on | (apply Exists.intro; refine ⟨fun x => ?_, ?_⟩; (focus (first | (go_at_call 48; refine (HXv.out _ x.ok).mono ?_; rintro e w' ⟨he, hb⟩; exact ⟨he, ⟨w', blw_trans x.ok hb⟩, rfl⟩) | (go_at_call 49; refine (HUv.out _ x.ok).mono ?_; rintro e w' ⟨he, hb⟩; exact ⟨he, x, hb.symm⟩) | (go_at_call 50; refine (l4Begins _ _ _).mono ?_; rintro e w' ⟨he, hb⟩; exact ⟨he, x, hb.symm⟩))); go_big_quiet_on)))
                    refine wpQuiet_nil ?_
                    intro _ hw'
                    obtain ⟨x6, hw''⟩ := hw'
                    subst hw''
                    go_wp2_with fail
                    go_meet
                    exact ⟨congrArg Value.bool HE.out.symm, x6.ok⟩
                · have HE : Hid (C = begins r.pre q.pre) := by show C = begins r.pre q.pre; rw [HCC.out]; simp [hv, hk, hq]
                  refine wp_region_class (T := Past w5) Past.W (by kernel_rfl) (by kernel_rfl) ⟨⟨w5.drew, Below.drew (Below.refl _ _)⟩, rfl⟩ ?_
                  repeat (first
                    | go_big_quiet_skip
                    | (go_big_quiet_want; go_big_quiet_op; first | go_big_quiet_on | (apply Exists.intro; refine ⟨fun x => ?_, ?_⟩; (focus (first | (go_at_call 48; refine (HXv.out _ x.ok).mono ?_; rintro e w' ⟨he, hb⟩; exact ⟨he, ⟨w', blw_trans x.ok hb⟩, rfl⟩) | (go_at_call 49; refine (HUv.out _ x.ok).mono ?_; rintro e w' ⟨he, hb⟩; exact ⟨he, x, hb.symm⟩) | (go_at_call 50; refine (l4Begins _ _ _).mono ?_; rintro e w' ⟨he, hb⟩; exact ⟨he, x, hb.symm⟩))); go_big_quiet_on)))
                  refine wpQuiet_nil ?_
                  intro _ hw'
                  obtain ⟨x6, hw''⟩ := hw'
                  subst hw''
                  go_wp2_with fail
                  go_meet
                  exact ⟨congrArg Value.bool HE.out.symm, x6.ok⟩
          case rest =>
          obtain ⟨rfl, hb6⟩ := hcut
          rename World => w6
          have HB6 : Hid (Below w.heap.size w w6 ∧ Boxed w6 w.heap.size #[.slice (some ⟨b, 0, none⟩) r.verbs.length CV, .string r.kind, .string r.team, .string r.pre]) := ⟨blw_trans HB5.out hb6, HX5.out.2.later hb6⟩
          clear hb6 p0 p1 p2 p3 k0 k1 k2 k3 c0 hpast HX HXl HTm HX5 HCC
          cases hC : C
          · have HE : Hid (F = (rs.take (j + 1)).any (cov ts r v)) := by show F = _; rw [HS.out, hC]; simp
            clear hC
            go_wp2
            go_roundw
            case rel => first | exact ⟨j + 1, F, by omega, by go_num, rfl, HE.out, HB6.out.1, HB6.out.2⟩ | ((repeat apply Exists.intro); exact ⟨⟨j + 1, F, by omega, by go_num, rfl, HE.out, HB6.out.1, HB6.out.2⟩, rfl⟩)
            case measure => simp [intOf]; omega
          · have HE : Hid (true = (rs.take (j + 1)).any (cov ts r v)) := by show true = _; rw [HS.out, hC]; simp
            clear hC
            go_wp2
            go_roundw
            case rel => first | exact ⟨j + 1, true, by omega, by go_num, rfl, HE.out, HB6.out.1, HB6.out.2⟩ | ((repeat apply Exists.intro); exact ⟨⟨j + 1, true, by omega, by go_num, rfl, HE.out, HB6.out.1, HB6.out.2⟩, rfl⟩)
            case measure => simp [intOf]; omega
        · have HFF : Hid (F = covV ts rs r v) := by show F = _; rw [HF.out, covV, List.take_of_length_le (by omega)]
          have k0 : wq.cell? ⟨w.heap.size, 0, none⟩ = some (.slice (some ⟨b, 0, none⟩) r.verbs.length CV) := HWq.out.2.2 0
          have c0 : wq.cell? ⟨b, k, none⟩ = some (.int .i64 v) := by have := (HM.out _ HWq.out.1).2.2.at_ k hlt; rw [← HV.out] at this; exact this
          cases hF : F
          · have HE : Hid (v = R) := by have := HD.out; rw [← HFF.out, hF] at this; exact this.symm
            clear hF
            go_wp2
            go_ret
            exact ⟨Pl.ret_int HE.out, HWq.out.1⟩
          · have HE : Hid (lackOf ts rs r (r.verbs.drop (k + 1)) = R) := by have := HD.out; rw [← HFF.out, hF] at this; exact this.symm
            clear hF k0 c0
            go_wp2
            go_roundw
            case rel => first | exact ⟨k + 1, by omega, by go_num, HE.out, HWq.out.1, HWq.out.2⟩ | ((repeat apply Exists.intro); exact ⟨⟨k + 1, by omega, by go_num, HE.out, HWq.out.1, HWq.out.2⟩, rfl⟩)
            case measure => simp [intOf]; omega
    · have HE : Hid (0 = R) := by show 0 = R; rw [← HQ.out, lackOf_end _ _ _ _ k (by omega)]
      go_wp2
      go_ret
      exact ⟨Pl.ret_int HE.out, HW.out.1⟩

end Go.Proofs.YtfmidkdpclfffaaDoor
