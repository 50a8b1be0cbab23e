/-
  The walk over the law of GateUncovered.
-/
import Derived.Test.YtikfcnmhfoknlaaDoorWalkVF
import Derived.Test.YtikfcnmhfoknlaaDoorWalkVE
import Derived.Test.YtikfcnmhfoknlaaDoorCl
namespace Go.Proofs.YtikfcnmhfoknlaaDoor
open Go.RowKit Go.Deep

set_option maxRecDepth 8000 in
set_option maxHeartbeats 8000000 in
theorem lawUncovered (v u : Value) (ra : Option Addr) (rc : Nat) (r : Rul) (rs : List Rul) (ts : List Tm) (w : World) (h : TmsAt w v ts) (hq : RulsAt w u rs) (hr : IntsAt w (.slice ra r.verbs.length rc) r.verbs) (hn : r.verbs.length ≤ maxLen) (hs : r.sized) (htab : Tab w) :
    Calls Tryd.prog 3 #[v, u, .agg #[.slice ra r.verbs.length rc, .string r.kind, .string r.team, .string r.pre]] w fun e w' => e = .returned (.bool true) ∧ Below w.heap.size w w' := by
  have HH : Hid (TmsAt w v ts ∧ RulsAt w u rs ∧ IntsAt w (.slice ra r.verbs.length rc) r.verbs) := ⟨h, hq, hr⟩
  have HTB : Hid (Tab w) := htab
  have HZ : Hid (r.verbs.length ≤ maxLen ∧ r.sized) := ⟨hn, hs⟩
  obtain ⟨w0, hw0⟩ : ∃ w0, w0 = (w.alloc (.cells #[.slice ra r.verbs.length rc, .string r.kind, .string r.team, .string r.pre] 26)) := ⟨_, rfl⟩
  have HB0 : Hid (Below w.heap.size w w0) := by rw [hw0]; exact blw_alloc (Below.refl _ _) _
  have HX0 : Hid (Boxed w0 w.heap.size #[.slice ra r.verbs.length rc, .string r.kind, .string r.team, .string r.pre]) := by rw [hw0]; exact Boxed.new w _ 26
  clear h hq hr hn hs htab
  go_enter Tryd.func3, Tryd.ntmps3
  go_wp2_with fail
  rw [← hw0]
  clear hw0
  refine (szTeams v ts 1048576 w0 (by omega) (by omega) (HH.out.1.later HB0.out)).mono ?_
  rintro e w1 ⟨⟨r1, rfl, hr1⟩, hb1⟩
  have HR1 : Hid (szP ((ts.length : Int) ≤ 1048576) 1048576 r1) := hr1
  have hr11 : r1 ≤ 1048576 := hr1.2.1
  have HB1 : Hid (Below w.heap.size w w1) := blw_trans HB0.out hb1
  have HX1 : Hid (Boxed w1 w.heap.size #[.slice ra r.verbs.length rc, .string r.kind, .string r.team, .string r.pre]) := HX0.out.later hb1
  clear hr1 hb1 HX0 HB0
  by_cases c1 : r1 < 0
  · go_wp2
    go_ret
    exact ⟨rfl, HB1.out⟩
  have HL : Hid (ts.length ≤ 1048576) := by have := HR1.out.2.2 (by omega); show ts.length ≤ 1048576; omega
  clear HR1
  go_wp2_with fail
  refine (szRules u rs r1 w1 (by omega) hr11 (HH.out.2.1.later HB1.out)).mono ?_
  rintro e w2 ⟨⟨r2, rfl, hr2⟩, hb2⟩
  have HR2 : Hid (szP ((rs.length : Int) ≤ r1 ∧ ∀ r ∈ rs, r.small) r1 r2) := hr2
  have hr21 : r2 ≤ 1048576 := by have := hr2.2.1; omega
  have HB2 : Hid (Below w.heap.size w w2) := blw_trans HB1.out hb2
  have HX2 : Hid (Boxed w2 w.heap.size #[.slice ra r.verbs.length rc, .string r.kind, .string r.team, .string r.pre]) := HX1.out.later hb2
  clear hr2 hb2 HX1 HB1
  by_cases c2 : r2 < 0
  · go_wp2
    go_ret
    exact ⟨rfl, HB2.out⟩
  have HLS : Hid (rs.length ≤ 1048576 ∧ ∀ r ∈ rs, r.small) := by have := HR2.out.2.2 (by omega); exact ⟨by omega, this.2⟩
  clear HR2
  have g0 : w2.cell? ⟨w.heap.size, 0, none⟩ = some (.slice ra r.verbs.length rc) := HX2.out.2 0
  have g1 : w2.cell? ⟨w.heap.size, 1, none⟩ = some (.string r.kind) := HX2.out.2 1
  have g2 : w2.cell? ⟨w.heap.size, 2, none⟩ = some (.string r.team) := HX2.out.2 2
  have g3 : w2.cell? ⟨w.heap.size, 3, none⟩ = some (.string r.pre) := HX2.out.2 3
  go_wp2_with fail
  refine (szRule ra rc r r2 w2 (by omega) hr21 HZ.out.1 HZ.out.2).mono ?_
  rintro e w3 ⟨⟨r3, rfl, hr3⟩, hb3⟩
  have HR3 : Hid (szP ((r.verbs.length : Int) ≤ r2) r2 r3) := hr3
  have HB3 : Hid (Below w.heap.size w w3) := blw_trans HB2.out hb3
  have HX3 : Hid (Boxed w3 w.heap.size #[.slice ra r.verbs.length rc, .string r.kind, .string r.team, .string r.pre]) := HX2.out.later hb3
  clear hb3 hr3 HX2 HB2 g0 g1 g2 g3
  by_cases c3 : r3 < 0
  · go_wp2
    go_ret
    exact ⟨rfl, HB3.out⟩
  have HLR : Hid (r.verbs.length ≤ 1048576) := by have := HR3.out.2.2 (by omega); show r.verbs.length ≤ 1048576; omega
  clear HR3
  have HT9 : Hid (∀ W, Below w.heap.size w W → Calls Tryd.prog 8 #[v] W fun e w' => ∃ BA, e = .returned (.slice (some ⟨BA, 0, none⟩) ts.length ts.length) ∧ Below W.heap.size W w' ∧ TmsIn w' BA ts) := by
    intro W hW
    refine (toTeams v ts W HL.out (HH.out.1.later hW)).mono ?_
    rintro e w' ⟨rfl, h1, h2⟩
    exact ⟨_, rfl, h1, h2⟩
  have HT23 : Hid (∀ W, Below w.heap.size w W → Calls Tryd.prog 9 #[u] W fun e w' => ∃ BR, e = .returned (.slice (some ⟨BR, 0, none⟩) rs.length rs.length) ∧ Below W.heap.size W w' ∧ RulsIn w' BR rs) := by
    intro W hW
    refine (toRules u rs W HLS.out.1 HLS.out.2 (HH.out.2.1.later hW)).mono ?_
    rintro e w' ⟨rfl, h1, h2⟩
    exact ⟨_, rfl, h1, h2⟩
  have HT17 : Hid (∀ W, Below w.heap.size w W → Calls Tryd.prog 10 #[.agg #[.slice ra r.verbs.length rc, .string r.kind, .string r.team, .string r.pre]] W fun e w' => (∃ b, e = .returned (.agg #[.slice (some ⟨b, 0, none⟩) r.verbs.length r.verbs.length, .string r.kind, .string r.team, .string r.pre]) ∧ IntsIn w' b r.verbs) ∧ Below W.heap.size W w') := by
    intro W hW
    refine (toRule ra rc r W HLR.out (HH.out.2.2.later hW)).mono ?_
    rintro e w' ⟨⟨b, rfl, _, _, h2⟩, hb⟩
    exact ⟨⟨b, rfl, h2⟩, hb⟩
  have HT22 : Hid (∀ W BA BR b, TmsIn W BA ts → RulsIn W BR rs → IntsIn W b r.verbs → Calls Tryd.prog 7 #[.slice (some ⟨BA, 0, none⟩) ts.length ts.length, .slice (some ⟨BR, 0, none⟩) rs.length rs.length, .agg #[.slice (some ⟨b, 0, none⟩) r.verbs.length r.verbs.length, .string r.kind, .string r.team, .string r.pre]] W fun e w' => e = .returned (.tuple #[.agg #[.int .i64 (uncV ts rs r), .string (uncK ts rs r), .string (uncT ts rs r), .string (uncP ts rs r)], .bool (uncOk ts rs r)]) ∧ Below W.heap.size W w') := fun W BA BR b h1 h2 h3 => uncS BA BR b ts rs r W h1 h2 h3 HZ.out.2
  have HT24 : Hid (∀ W BA BR b, TmsIn W BA ts → RulsIn W BR rs → IntsIn W b r.verbs → Below w.heap.size w W → Calls Tryd.prog 11 #[.slice (some ⟨BA, 0, none⟩) ts.length ts.length, .slice (some ⟨BR, 0, none⟩) rs.length rs.length, .agg #[.slice (some ⟨b, 0, none⟩) r.verbs.length r.verbs.length, .string r.kind, .string r.team, .string r.pre]] W fun e w' => e = .returned (.tuple #[.agg #[.int .i64 (uncV ts rs r), .string (uncK ts rs r), .string (uncT ts rs r), .string (uncP ts rs r)], .bool (uncOk ts rs r)]) ∧ Below W.heap.size W w') := fun W BA BR b h1 h2 h3 h4 => uncI BA BR b ts rs r W h1 h2 h3 HZ.out.2 (HTB.out.later h4)
  obtain ⟨U, hU⟩ : ∃ U, U = uncOk ts rs r := ⟨_, rfl⟩
  obtain ⟨V, hV⟩ : ∃ V, V = uncV ts rs r := ⟨_, rfl⟩
  obtain ⟨K, hK⟩ : ∃ K, K = uncK ts rs r := ⟨_, rfl⟩
  obtain ⟨T, hT⟩ : ∃ T, T = uncT ts rs r := ⟨_, rfl⟩
  obtain ⟨NP, hNP⟩ : ∃ NP, NP = uncP ts rs r := ⟨_, rfl⟩
  rw [← hU, ← hV, ← hK, ← hT, ← hNP] at HT22 HT24
  clear hU hV hK hT hNP
  have hUU : (U != U) = false := by cases U <;> rfl
  have f0 : w3.cell? ⟨w.heap.size, 0, none⟩ = some (.slice ra r.verbs.length rc) := HX3.out.2 0
  have f1 : w3.cell? ⟨w.heap.size, 1, none⟩ = some (.string r.kind) := HX3.out.2 1
  have f2 : w3.cell? ⟨w.heap.size, 2, none⟩ = some (.string r.team) := HX3.out.2 2
  have f3 : w3.cell? ⟨w.heap.size, 3, none⟩ = some (.string r.pre) := HX3.out.2 3
  have HXl : Hid (∀ W, Below w3.heap.size w3 W → Boxed W w.heap.size #[.slice ra r.verbs.length rc, .string r.kind, .string r.team, .string r.pre]) := fun W hW => HX3.out.later hW
  go_upto_region 11 with fail
  go_cut [8, 9] (fun s t wx => ∃ P, s = .pointer (some ⟨P, 0, none⟩) ∧ t = .bool U ∧ ActAt wx P V K T NP ∧ Below w3.heap.size w3 wx)
  case first =>
    refine wp_region_any (by kernel_rfl) ?_
    refine gen_frame (R := fun a => wpAny _ _ _ _ _ _ a _) _ ?_
    intro a0 ha0
    have hsz0 : 39 < a0.tmps.size := by rw [ha0]; simp
    have f0z : a0.eval (.tmp 0) = v := by rw [ha0]; rfl
    have f1z : a0.eval (.tmp 1) = u := by rw [ha0]; rfl
    have f5z : a0.eval (.tmp 5) = .pointer (some ⟨w.heap.size, 0, none⟩) := by rw [ha0]; rfl
    refine wpAny_inv (fun l a W => ∃ s8 s9 s30 s31 s32 s33 s34 s35 s36 s37 s38 s39 : Value, a = cl a0 s8 s9 s30 s31 s32 s33 s34 s35 s36 s37 s38 s39 ∧ (l.getD 0 false = true → s31 = v) ∧ (l.getD 2 false = true → s33 = u) ∧ (l.getD 4 false = true → s35 = .agg #[.slice ra r.verbs.length rc, .string r.kind, .string r.team, .string r.pre]) ∧ (l.getD 6 false = true → s37 = .tuple #[.agg #[.int .i64 V, .string K, .string T, .string NP], .bool U]) ∧ (l.getD 7 false = true → s30 = .tuple #[.agg #[.int .i64 V, .string K, .string T, .string NP], .bool U]) ∧ (l.getD 8 false = true → s38 = .agg #[.int .i64 V, .string K, .string T, .string NP]) ∧ (l.getD 9 false = true → s39 = .bool U) ∧ (l.getD 12 false = true → s9 = .bool U) ∧ (l.getD 1 false = true → l.getD 11 false = false → ∃ BA, s32 = .slice (some ⟨BA, 0, none⟩) ts.length ts.length ∧ TmsIn W BA ts) ∧ (l.getD 3 false = true → l.getD 11 false = false → ∃ BR, s34 = .slice (some ⟨BR, 0, none⟩) rs.length rs.length ∧ RulsIn W BR rs) ∧ (l.getD 5 false = true → l.getD 11 false = false → ∃ b, s36 = .agg #[.slice (some ⟨b, 0, none⟩) r.verbs.length r.verbs.length, .string r.kind, .string r.team, .string r.pre] ∧ IntsIn W b r.verbs) ∧ (l.getD 11 false = true → l.getD 6 false = true) ∧ l.size = 13 ∧ Below w3.heap.size w3 W ∧ ((l.getD 10 false = false ∧ l.getD 11 false = false) ∨ (l.getD 10 false = true ∧ l.getD 11 false = false ∧ ∃ P, s8 = .pointer (some ⟨P, 0, none⟩) ∧ w3.heap.size ≤ P ∧ OwnBlk W P 31 4) ∨ (l.getD 10 false = true ∧ l.getD 11 false = true ∧ ∃ P, s8 = .pointer (some ⟨P, 0, none⟩) ∧ w3.heap.size ≤ P ∧ ActAt W P V K T NP))) ?_ ?_ _ _ _ _ ?_ ?_
    · rintro l a W i ⟨s8, s9, s30, s31, s32, s33, s34, s35, s36, s37, s38, s39, rfl, h0, h2, h4, h6, h7, h8, h9, h12, q1, q3, q5, hord, hls, hB, hw⟩ hi
      obtain ⟨hun, o, ho, hall⟩ := mem_ready.1 hi
      have hlt : i < 13 := (Array.getElem?_eq_some_iff.1 ho).1
      have hbx := HXl.out W hB
      have p0 : W.cell? ⟨w.heap.size, 0, none⟩ = some (.slice ra r.verbs.length rc) := hbx.2 0
      have p1 : W.cell? ⟨w.heap.size, 1, none⟩ = some (.string r.kind) := hbx.2 1
      have p2 : W.cell? ⟨w.heap.size, 2, none⟩ = some (.string r.team) := hbx.2 2
      have p3 : W.cell? ⟨w.heap.size, 3, none⟩ = some (.string r.pre) := hbx.2 3
      have hcases : i = 0 ∨ i = 1 ∨ i = 2 ∨ i = 3 ∨ i = 4 ∨ i = 5 ∨ i = 6 ∨ i = 7 ∨ i = 8 ∨ i = 9 ∨ i = 10 ∨ i = 11 ∨ i = 12 := by omega
      rcases hcases with rfl | rfl | rfl | rfl | rfl | rfl | rfl | rfl | rfl | rfl | rfl | rfl | rfl
      · have ho1 := ho
        simp at ho
        subst ho
        refine wpOp_value (v := v) (w' := W) ho1 rfl ?_ ?_
        · simp [execOp, go_sem, cl_get0 _ _ _ _ _ _ _ _ _ _ _ _ _ _ f0z]
        · show ∃ s8, _
          rw [cl_put31]
          exact ⟨s8, s9, s30, v, s32, s33, s34, s35, s36, s37, s38, s39, rfl, fun _ => rfl, fun h => h2 ((set_get h).resolve_left (by decide)), fun h => h4 ((set_get h).resolve_left (by decide)), fun h => h6 ((set_get h).resolve_left (by decide)), fun h => h7 ((set_get h).resolve_left (by decide)), fun h => h8 ((set_get h).resolve_left (by decide)), fun h => h9 ((set_get h).resolve_left (by decide)), fun h => h12 ((set_get h).resolve_left (by decide)), (by simpa only [getD_set_ne _ (show (0 : Nat) ≠ 1 by decide), getD_set_ne _ (show (0 : Nat) ≠ 11 by decide)] using q1), (by simpa only [getD_set_ne _ (show (0 : Nat) ≠ 3 by decide), getD_set_ne _ (show (0 : Nat) ≠ 11 by decide)] using q3), (by simpa only [getD_set_ne _ (show (0 : Nat) ≠ 5 by decide), getD_set_ne _ (show (0 : Nat) ≠ 11 by decide)] using q5), (by simpa only [getD_set_ne _ (show (0 : Nat) ≠ 11 by decide), getD_set_ne _ (show (0 : Nat) ≠ 6 by decide)] using hord), (by simpa using hls), hB, (by simpa only [getD_set_ne _ (show (0 : Nat) ≠ 10 by decide), getD_set_ne _ (show (0 : Nat) ≠ 11 by decide)] using hw)⟩
      · have ho1 := ho
        simp at ho
        subst ho
        have e0 := (h0 (hall ⟨0, .data⟩ (by simp) rfl)).symm
        subst e0
        refine wpOp_enter (f := 8) (args := #[v]) ho1 rfl ?_ ?_
        · simp [go_sem, cl_get31 _ _ _ _ _ _ _ _ _ _ _ _ _ hsz0]
        · refine (HT9.out W (blw_trans HB3.out hB)).mono ?_
          rintro e W2 ⟨BA, rfl, hb2, hn⟩
          have q1 : l.getD 1 false = true → l.getD 11 false = false → ∃ BA, s32 = .slice (some ⟨BA, 0, none⟩) ts.length ts.length ∧ TmsIn W2 BA ts := fun x y => by obtain ⟨BA, z, t⟩ := q1 x y; exact ⟨BA, z, t.later hb2⟩
          have q3 : l.getD 3 false = true → l.getD 11 false = false → ∃ BR, s34 = .slice (some ⟨BR, 0, none⟩) rs.length rs.length ∧ RulsIn W2 BR rs := fun x y => by obtain ⟨BA, z, t⟩ := q3 x y; exact ⟨BA, z, t.later hb2⟩
          have q5 : l.getD 5 false = true → l.getD 11 false = false → ∃ b, s36 = .agg #[.slice (some ⟨b, 0, none⟩) r.verbs.length r.verbs.length, .string r.kind, .string r.team, .string r.pre] ∧ IntsIn W2 b r.verbs := fun x y => by obtain ⟨BA, z, t⟩ := q5 x y; exact ⟨BA, z, t.later hb2⟩
          have hw : ((l.getD 10 false = false ∧ l.getD 11 false = false) ∨ (l.getD 10 false = true ∧ l.getD 11 false = false ∧ ∃ P, s8 = .pointer (some ⟨P, 0, none⟩) ∧ w3.heap.size ≤ P ∧ OwnBlk W2 P 31 4) ∨ (l.getD 10 false = true ∧ l.getD 11 false = true ∧ ∃ P, s8 = .pointer (some ⟨P, 0, none⟩) ∧ w3.heap.size ≤ P ∧ ActAt W2 P V K T NP)) := by
            rcases hw with hw | ⟨x1, x2, P, x3, x4, x5⟩ | ⟨x1, x2, P, x3, x4, x5⟩
            · exact Or.inl hw
            · exact Or.inr (Or.inl ⟨x1, x2, P, x3, x4, x5.later hb2⟩)
            · exact Or.inr (Or.inr ⟨x1, x2, P, x3, x4, x5.later hb2⟩)
          have hB2 := blw_trans hB hb2
          refine ⟨_, rfl, ?_⟩
          show ∃ s8, _
          rw [cl_put32]
          exact ⟨s8, s9, s30, v, (.slice (some ⟨BA, 0, none⟩) ts.length ts.length), s33, s34, s35, s36, s37, s38, s39, rfl, fun _ => rfl, fun h => h2 ((set_get h).resolve_left (by decide)), fun h => h4 ((set_get h).resolve_left (by decide)), fun h => h6 ((set_get h).resolve_left (by decide)), fun h => h7 ((set_get h).resolve_left (by decide)), fun h => h8 ((set_get h).resolve_left (by decide)), fun h => h9 ((set_get h).resolve_left (by decide)), fun h => h12 ((set_get h).resolve_left (by decide)), (fun _ _ => ⟨BA, rfl, hn⟩), (by simpa only [getD_set_ne _ (show (1 : Nat) ≠ 3 by decide), getD_set_ne _ (show (1 : Nat) ≠ 11 by decide)] using q3), (by simpa only [getD_set_ne _ (show (1 : Nat) ≠ 5 by decide), getD_set_ne _ (show (1 : Nat) ≠ 11 by decide)] using q5), (by simpa only [getD_set_ne _ (show (1 : Nat) ≠ 11 by decide), getD_set_ne _ (show (1 : Nat) ≠ 6 by decide)] using hord), (by simpa using hls), hB2, (by simpa only [getD_set_ne _ (show (1 : Nat) ≠ 10 by decide), getD_set_ne _ (show (1 : Nat) ≠ 11 by decide)] using hw)⟩
      · have ho1 := ho
        simp at ho
        subst ho
        refine wpOp_value (v := u) (w' := W) ho1 rfl ?_ ?_
        · simp [execOp, go_sem, cl_get1 _ _ _ _ _ _ _ _ _ _ _ _ _ _ f1z]
        · show ∃ s8, _
          rw [cl_put33]
          exact ⟨s8, s9, s30, s31, s32, u, s34, s35, s36, s37, s38, s39, rfl, fun h => h0 ((set_get h).resolve_left (by decide)), fun _ => rfl, fun h => h4 ((set_get h).resolve_left (by decide)), fun h => h6 ((set_get h).resolve_left (by decide)), fun h => h7 ((set_get h).resolve_left (by decide)), fun h => h8 ((set_get h).resolve_left (by decide)), fun h => h9 ((set_get h).resolve_left (by decide)), fun h => h12 ((set_get h).resolve_left (by decide)), (by simpa only [getD_set_ne _ (show (2 : Nat) ≠ 1 by decide), getD_set_ne _ (show (2 : Nat) ≠ 11 by decide)] using q1), (by simpa only [getD_set_ne _ (show (2 : Nat) ≠ 3 by decide), getD_set_ne _ (show (2 : Nat) ≠ 11 by decide)] using q3), (by simpa only [getD_set_ne _ (show (2 : Nat) ≠ 5 by decide), getD_set_ne _ (show (2 : Nat) ≠ 11 by decide)] using q5), (by simpa only [getD_set_ne _ (show (2 : Nat) ≠ 11 by decide), getD_set_ne _ (show (2 : Nat) ≠ 6 by decide)] using hord), (by simpa using hls), hB, (by simpa only [getD_set_ne _ (show (2 : Nat) ≠ 10 by decide), getD_set_ne _ (show (2 : Nat) ≠ 11 by decide)] using hw)⟩
      · have ho1 := ho
        simp at ho
        subst ho
        have e2 := (h2 (hall ⟨2, .data⟩ (by simp) rfl)).symm
        subst e2
        refine wpOp_enter (f := 9) (args := #[u]) ho1 rfl ?_ ?_
        · simp [go_sem, cl_get33 _ _ _ _ _ _ _ _ _ _ _ _ _ hsz0]
        · refine (HT23.out W (blw_trans HB3.out hB)).mono ?_
          rintro e W2 ⟨BA, rfl, hb2, hn⟩
          have q1 : l.getD 1 false = true → l.getD 11 false = false → ∃ BA, s32 = .slice (some ⟨BA, 0, none⟩) ts.length ts.length ∧ TmsIn W2 BA ts := fun x y => by obtain ⟨BA, z, t⟩ := q1 x y; exact ⟨BA, z, t.later hb2⟩
          have q3 : l.getD 3 false = true → l.getD 11 false = false → ∃ BR, s34 = .slice (some ⟨BR, 0, none⟩) rs.length rs.length ∧ RulsIn W2 BR rs := fun x y => by obtain ⟨BA, z, t⟩ := q3 x y; exact ⟨BA, z, t.later hb2⟩
          have q5 : l.getD 5 false = true → l.getD 11 false = false → ∃ b, s36 = .agg #[.slice (some ⟨b, 0, none⟩) r.verbs.length r.verbs.length, .string r.kind, .string r.team, .string r.pre] ∧ IntsIn W2 b r.verbs := fun x y => by obtain ⟨BA, z, t⟩ := q5 x y; exact ⟨BA, z, t.later hb2⟩
          have hw : ((l.getD 10 false = false ∧ l.getD 11 false = false) ∨ (l.getD 10 false = true ∧ l.getD 11 false = false ∧ ∃ P, s8 = .pointer (some ⟨P, 0, none⟩) ∧ w3.heap.size ≤ P ∧ OwnBlk W2 P 31 4) ∨ (l.getD 10 false = true ∧ l.getD 11 false = true ∧ ∃ P, s8 = .pointer (some ⟨P, 0, none⟩) ∧ w3.heap.size ≤ P ∧ ActAt W2 P V K T NP)) := by
            rcases hw with hw | ⟨x1, x2, P, x3, x4, x5⟩ | ⟨x1, x2, P, x3, x4, x5⟩
            · exact Or.inl hw
            · exact Or.inr (Or.inl ⟨x1, x2, P, x3, x4, x5.later hb2⟩)
            · exact Or.inr (Or.inr ⟨x1, x2, P, x3, x4, x5.later hb2⟩)
          have hB2 := blw_trans hB hb2
          refine ⟨_, rfl, ?_⟩
          show ∃ s8, _
          rw [cl_put34]
          exact ⟨s8, s9, s30, s31, s32, u, (.slice (some ⟨BA, 0, none⟩) rs.length rs.length), s35, s36, s37, s38, s39, rfl, fun h => h0 ((set_get h).resolve_left (by decide)), fun _ => rfl, fun h => h4 ((set_get h).resolve_left (by decide)), fun h => h6 ((set_get h).resolve_left (by decide)), fun h => h7 ((set_get h).resolve_left (by decide)), fun h => h8 ((set_get h).resolve_left (by decide)), fun h => h9 ((set_get h).resolve_left (by decide)), fun h => h12 ((set_get h).resolve_left (by decide)), (by simpa only [getD_set_ne _ (show (3 : Nat) ≠ 1 by decide), getD_set_ne _ (show (3 : Nat) ≠ 11 by decide)] using q1), (fun _ _ => ⟨BA, rfl, hn⟩), (by simpa only [getD_set_ne _ (show (3 : Nat) ≠ 5 by decide), getD_set_ne _ (show (3 : Nat) ≠ 11 by decide)] using q5), (by simpa only [getD_set_ne _ (show (3 : Nat) ≠ 11 by decide), getD_set_ne _ (show (3 : Nat) ≠ 6 by decide)] using hord), (by simpa using hls), hB2, (by simpa only [getD_set_ne _ (show (3 : Nat) ≠ 10 by decide), getD_set_ne _ (show (3 : Nat) ≠ 11 by decide)] using hw)⟩
      · have ho1 := ho
        simp at ho
        subst ho
        refine wpOp_value (v := .agg #[.slice ra r.verbs.length rc, .string r.kind, .string r.team, .string r.pre]) (w' := W) ho1 rfl ?_ ?_
        · simp [execOp, go_sem, cl_get5 _ _ _ _ _ _ _ _ _ _ _ _ _ _ f5z, p0, p1, p2, p3]
        · show ∃ s8, _
          rw [cl_put35]
          exact ⟨s8, s9, s30, s31, s32, s33, s34, (.agg #[.slice ra r.verbs.length rc, .string r.kind, .string r.team, .string r.pre]), s36, s37, s38, s39, rfl, fun h => h0 ((set_get h).resolve_left (by decide)), fun h => h2 ((set_get h).resolve_left (by decide)), fun _ => rfl, fun h => h6 ((set_get h).resolve_left (by decide)), fun h => h7 ((set_get h).resolve_left (by decide)), fun h => h8 ((set_get h).resolve_left (by decide)), fun h => h9 ((set_get h).resolve_left (by decide)), fun h => h12 ((set_get h).resolve_left (by decide)), (by simpa only [getD_set_ne _ (show (4 : Nat) ≠ 1 by decide), getD_set_ne _ (show (4 : Nat) ≠ 11 by decide)] using q1), (by simpa only [getD_set_ne _ (show (4 : Nat) ≠ 3 by decide), getD_set_ne _ (show (4 : Nat) ≠ 11 by decide)] using q3), (by simpa only [getD_set_ne _ (show (4 : Nat) ≠ 5 by decide), getD_set_ne _ (show (4 : Nat) ≠ 11 by decide)] using q5), (by simpa only [getD_set_ne _ (show (4 : Nat) ≠ 11 by decide), getD_set_ne _ (show (4 : Nat) ≠ 6 by decide)] using hord), (by simpa using hls), hB, (by simpa only [getD_set_ne _ (show (4 : Nat) ≠ 10 by decide), getD_set_ne _ (show (4 : Nat) ≠ 11 by decide)] using hw)⟩
      · have ho1 := ho
        simp at ho
        subst ho
        have e4 := (h4 (hall ⟨4, .data⟩ (by simp) rfl)).symm
        subst e4
        refine wpOp_enter (f := 10) (args := #[.agg #[.slice ra r.verbs.length rc, .string r.kind, .string r.team, .string r.pre]]) ho1 rfl ?_ ?_
        · simp [go_sem, cl_get35 _ _ _ _ _ _ _ _ _ _ _ _ _ hsz0]
        · refine (HT17.out W (blw_trans HB3.out hB)).mono ?_
          rintro e W2 ⟨⟨BA, rfl, hn⟩, hb2⟩
          have q1 : l.getD 1 false = true → l.getD 11 false = false → ∃ BA, s32 = .slice (some ⟨BA, 0, none⟩) ts.length ts.length ∧ TmsIn W2 BA ts := fun x y => by obtain ⟨BA, z, t⟩ := q1 x y; exact ⟨BA, z, t.later hb2⟩
          have q3 : l.getD 3 false = true → l.getD 11 false = false → ∃ BR, s34 = .slice (some ⟨BR, 0, none⟩) rs.length rs.length ∧ RulsIn W2 BR rs := fun x y => by obtain ⟨BA, z, t⟩ := q3 x y; exact ⟨BA, z, t.later hb2⟩
          have q5 : l.getD 5 false = true → l.getD 11 false = false → ∃ b, s36 = .agg #[.slice (some ⟨b, 0, none⟩) r.verbs.length r.verbs.length, .string r.kind, .string r.team, .string r.pre] ∧ IntsIn W2 b r.verbs := fun x y => by obtain ⟨BA, z, t⟩ := q5 x y; exact ⟨BA, z, t.later hb2⟩
          have hw : ((l.getD 10 false = false ∧ l.getD 11 false = false) ∨ (l.getD 10 false = true ∧ l.getD 11 false = false ∧ ∃ P, s8 = .pointer (some ⟨P, 0, none⟩) ∧ w3.heap.size ≤ P ∧ OwnBlk W2 P 31 4) ∨ (l.getD 10 false = true ∧ l.getD 11 false = true ∧ ∃ P, s8 = .pointer (some ⟨P, 0, none⟩) ∧ w3.heap.size ≤ P ∧ ActAt W2 P V K T NP)) := by
            rcases hw with hw | ⟨x1, x2, P, x3, x4, x5⟩ | ⟨x1, x2, P, x3, x4, x5⟩
            · exact Or.inl hw
            · exact Or.inr (Or.inl ⟨x1, x2, P, x3, x4, x5.later hb2⟩)
            · exact Or.inr (Or.inr ⟨x1, x2, P, x3, x4, x5.later hb2⟩)
          have hB2 := blw_trans hB hb2
          refine ⟨_, rfl, ?_⟩
          show ∃ s8, _
          rw [cl_put36]
          exact ⟨s8, s9, s30, s31, s32, s33, s34, (.agg #[.slice ra r.verbs.length rc, .string r.kind, .string r.team, .string r.pre]), (.agg #[.slice (some ⟨BA, 0, none⟩) r.verbs.length r.verbs.length, .string r.kind, .string r.team, .string r.pre]), s37, s38, s39, rfl, fun h => h0 ((set_get h).resolve_left (by decide)), fun h => h2 ((set_get h).resolve_left (by decide)), fun _ => rfl, fun h => h6 ((set_get h).resolve_left (by decide)), fun h => h7 ((set_get h).resolve_left (by decide)), fun h => h8 ((set_get h).resolve_left (by decide)), fun h => h9 ((set_get h).resolve_left (by decide)), fun h => h12 ((set_get h).resolve_left (by decide)), (by simpa only [getD_set_ne _ (show (5 : Nat) ≠ 1 by decide), getD_set_ne _ (show (5 : Nat) ≠ 11 by decide)] using q1), (by simpa only [getD_set_ne _ (show (5 : Nat) ≠ 3 by decide), getD_set_ne _ (show (5 : Nat) ≠ 11 by decide)] using q3), (fun _ _ => ⟨BA, rfl, hn⟩), (by simpa only [getD_set_ne _ (show (5 : Nat) ≠ 11 by decide), getD_set_ne _ (show (5 : Nat) ≠ 6 by decide)] using hord), (by simpa using hls), hB2, (by simpa only [getD_set_ne _ (show (5 : Nat) ≠ 10 by decide), getD_set_ne _ (show (5 : Nat) ≠ 11 by decide)] using hw)⟩
      · have ho1 := ho
        simp at ho
        subst ho
        have hns : l.getD 11 false = false := by
          cases h11 : l.getD 11 false with
          | false => rfl
          | true => exact absurd (hord h11) (by rw [getD_flip hun]; exact Bool.false_ne_true)
        obtain ⟨BA, e1, t1⟩ := q1 (hall ⟨1, .data⟩ (by simp) rfl) hns
        obtain ⟨BR, e3, t3⟩ := q3 (hall ⟨3, .data⟩ (by simp) rfl) hns
        obtain ⟨b, e5, t5⟩ := q5 (hall ⟨5, .data⟩ (by simp) rfl) hns
        subst e1 e3 e5
        refine wpOp_enter (f := 7) (args := #[.slice (some ⟨BA, 0, none⟩) ts.length ts.length, .slice (some ⟨BR, 0, none⟩) rs.length rs.length, .agg #[.slice (some ⟨b, 0, none⟩) r.verbs.length r.verbs.length, .string r.kind, .string r.team, .string r.pre]]) ho1 rfl ?_ ?_
        · simp [go_sem, cl_get32 _ _ _ _ _ _ _ _ _ _ _ _ _ hsz0, cl_get34 _ _ _ _ _ _ _ _ _ _ _ _ _ hsz0, cl_get36 _ _ _ _ _ _ _ _ _ _ _ _ _ hsz0]
        · refine (HT22.out W BA BR b t1 t3 t5).mono ?_
          rintro e W2 ⟨rfl, hb2⟩
          have hw : ((l.getD 10 false = false ∧ l.getD 11 false = false) ∨ (l.getD 10 false = true ∧ l.getD 11 false = false ∧ ∃ P, s8 = .pointer (some ⟨P, 0, none⟩) ∧ w3.heap.size ≤ P ∧ OwnBlk W2 P 31 4) ∨ (l.getD 10 false = true ∧ l.getD 11 false = true ∧ ∃ P, s8 = .pointer (some ⟨P, 0, none⟩) ∧ w3.heap.size ≤ P ∧ ActAt W2 P V K T NP)) := by
            rcases hw with hw | ⟨x1, x2, P, x3, x4, x5⟩ | ⟨x1, x2, P, x3, x4, x5⟩
            · exact Or.inl hw
            · exact Or.inr (Or.inl ⟨x1, x2, P, x3, x4, x5.later hb2⟩)
            · exact Or.inr (Or.inr ⟨x1, x2, P, x3, x4, x5.later hb2⟩)
          have hB2 := blw_trans hB hb2
          refine ⟨_, rfl, ?_⟩
          show ∃ s8, _
          rw [cl_put37]
          exact ⟨s8, s9, s30, s31, (.slice (some ⟨BA, 0, none⟩) ts.length ts.length), s33, (.slice (some ⟨BR, 0, none⟩) rs.length rs.length), s35, (.agg #[.slice (some ⟨b, 0, none⟩) r.verbs.length r.verbs.length, .string r.kind, .string r.team, .string r.pre]), (.tuple #[.agg #[.int .i64 V, .string K, .string T, .string NP], .bool U]), s38, s39, rfl, fun h => h0 ((set_get h).resolve_left (by decide)), fun h => h2 ((set_get h).resolve_left (by decide)), fun h => h4 ((set_get h).resolve_left (by decide)), fun _ => rfl, fun h => h7 ((set_get h).resolve_left (by decide)), fun h => h8 ((set_get h).resolve_left (by decide)), fun h => h9 ((set_get h).resolve_left (by decide)), fun h => h12 ((set_get h).resolve_left (by decide)), (fun _ _ => ⟨BA, rfl, t1.later hb2⟩), (fun _ _ => ⟨BR, rfl, t3.later hb2⟩), (fun _ _ => ⟨b, rfl, t5.later hb2⟩), (fun _ => set_here hun), (by simpa using hls), hB2, (by simpa only [getD_set_ne _ (show (6 : Nat) ≠ 10 by decide), getD_set_ne _ (show (6 : Nat) ≠ 11 by decide)] using hw)⟩
      · have ho1 := ho
        simp at ho
        subst ho
        have e6 := (h6 (hall ⟨6, .data⟩ (by simp) rfl)).symm
        subst e6
        refine wpOp_value (v := .tuple #[.agg #[.int .i64 V, .string K, .string T, .string NP], .bool U]) (w' := W) ho1 rfl ?_ ?_
        · simp [execOp, go_sem, cl_get37 _ _ _ _ _ _ _ _ _ _ _ _ _ hsz0]
        · show ∃ s8, _
          rw [cl_put30]
          exact ⟨s8, s9, (.tuple #[.agg #[.int .i64 V, .string K, .string T, .string NP], .bool U]), s31, s32, s33, s34, s35, s36, (.tuple #[.agg #[.int .i64 V, .string K, .string T, .string NP], .bool U]), s38, s39, rfl, fun h => h0 ((set_get h).resolve_left (by decide)), fun h => h2 ((set_get h).resolve_left (by decide)), fun h => h4 ((set_get h).resolve_left (by decide)), fun _ => rfl, fun _ => rfl, fun h => h8 ((set_get h).resolve_left (by decide)), fun h => h9 ((set_get h).resolve_left (by decide)), fun h => h12 ((set_get h).resolve_left (by decide)), (by simpa only [getD_set_ne _ (show (7 : Nat) ≠ 1 by decide), getD_set_ne _ (show (7 : Nat) ≠ 11 by decide)] using q1), (by simpa only [getD_set_ne _ (show (7 : Nat) ≠ 3 by decide), getD_set_ne _ (show (7 : Nat) ≠ 11 by decide)] using q3), (by simpa only [getD_set_ne _ (show (7 : Nat) ≠ 5 by decide), getD_set_ne _ (show (7 : Nat) ≠ 11 by decide)] using q5), (by simpa only [getD_set_ne _ (show (7 : Nat) ≠ 11 by decide), getD_set_ne _ (show (7 : Nat) ≠ 6 by decide)] using hord), (by simpa using hls), hB, (by simpa only [getD_set_ne _ (show (7 : Nat) ≠ 10 by decide), getD_set_ne _ (show (7 : Nat) ≠ 11 by decide)] using hw)⟩
      · have ho1 := ho
        simp at ho
        subst ho
        have e7 := (h7 (hall ⟨7, .data⟩ (by simp) rfl)).symm
        subst e7
        refine wpOp_value (v := .agg #[.int .i64 V, .string K, .string T, .string NP]) (w' := W) ho1 rfl ?_ ?_
        · simp [execOp, go_sem, cl_get30 _ _ _ _ _ _ _ _ _ _ _ _ _ hsz0]
        · show ∃ s8, _
          rw [cl_put38]
          exact ⟨s8, s9, (.tuple #[.agg #[.int .i64 V, .string K, .string T, .string NP], .bool U]), s31, s32, s33, s34, s35, s36, s37, (.agg #[.int .i64 V, .string K, .string T, .string NP]), s39, rfl, fun h => h0 ((set_get h).resolve_left (by decide)), fun h => h2 ((set_get h).resolve_left (by decide)), fun h => h4 ((set_get h).resolve_left (by decide)), fun h => h6 ((set_get h).resolve_left (by decide)), fun _ => rfl, fun _ => rfl, fun h => h9 ((set_get h).resolve_left (by decide)), fun h => h12 ((set_get h).resolve_left (by decide)), (by simpa only [getD_set_ne _ (show (8 : Nat) ≠ 1 by decide), getD_set_ne _ (show (8 : Nat) ≠ 11 by decide)] using q1), (by simpa only [getD_set_ne _ (show (8 : Nat) ≠ 3 by decide), getD_set_ne _ (show (8 : Nat) ≠ 11 by decide)] using q3), (by simpa only [getD_set_ne _ (show (8 : Nat) ≠ 5 by decide), getD_set_ne _ (show (8 : Nat) ≠ 11 by decide)] using q5), (by simpa only [getD_set_ne _ (show (8 : Nat) ≠ 11 by decide), getD_set_ne _ (show (8 : Nat) ≠ 6 by decide)] using hord), (by simpa using hls), hB, (by simpa only [getD_set_ne _ (show (8 : Nat) ≠ 10 by decide), getD_set_ne _ (show (8 : Nat) ≠ 11 by decide)] using hw)⟩
      · have ho1 := ho
        simp at ho
        subst ho
        have e7 := (h7 (hall ⟨7, .data⟩ (by simp) rfl)).symm
        subst e7
        refine wpOp_value (v := .bool U) (w' := W) ho1 rfl ?_ ?_
        · simp [execOp, go_sem, cl_get30 _ _ _ _ _ _ _ _ _ _ _ _ _ hsz0]
        · show ∃ s8, _
          rw [cl_put39]
          exact ⟨s8, s9, (.tuple #[.agg #[.int .i64 V, .string K, .string T, .string NP], .bool U]), s31, s32, s33, s34, s35, s36, s37, s38, (.bool U), rfl, fun h => h0 ((set_get h).resolve_left (by decide)), fun h => h2 ((set_get h).resolve_left (by decide)), fun h => h4 ((set_get h).resolve_left (by decide)), fun h => h6 ((set_get h).resolve_left (by decide)), fun _ => rfl, fun h => h8 ((set_get h).resolve_left (by decide)), fun _ => rfl, fun h => h12 ((set_get h).resolve_left (by decide)), (by simpa only [getD_set_ne _ (show (9 : Nat) ≠ 1 by decide), getD_set_ne _ (show (9 : Nat) ≠ 11 by decide)] using q1), (by simpa only [getD_set_ne _ (show (9 : Nat) ≠ 3 by decide), getD_set_ne _ (show (9 : Nat) ≠ 11 by decide)] using q3), (by simpa only [getD_set_ne _ (show (9 : Nat) ≠ 5 by decide), getD_set_ne _ (show (9 : Nat) ≠ 11 by decide)] using q5), (by simpa only [getD_set_ne _ (show (9 : Nat) ≠ 11 by decide), getD_set_ne _ (show (9 : Nat) ≠ 6 by decide)] using hord), (by simpa using hls), hB, (by simpa only [getD_set_ne _ (show (9 : Nat) ≠ 10 by decide), getD_set_ne _ (show (9 : Nat) ≠ 11 by decide)] using hw)⟩
      · have ho1 := ho
        simp at ho
        subst ho
        rcases hw with ⟨_, h11f⟩ | ⟨h10f, _⟩ | ⟨h10f, _⟩
        · refine wpOp_value (v := .pointer (some ⟨W.heap.size, 0, none⟩)) (w' := W.alloc (.cells #[.int .i64 0, .string ⟨#[]⟩, .string ⟨#[]⟩, .string ⟨#[]⟩] 31)) ho1 rfl ?_ ?_
          · simp [execOp, go_sem]
          · have hb2 : Below W.heap.size W (W.alloc (.cells #[.int .i64 0, .string ⟨#[]⟩, .string ⟨#[]⟩, .string ⟨#[]⟩] 31)) := blw_alloc (Below.refl _ _) _
            have q1 : l.getD 1 false = true → l.getD 11 false = false → ∃ BA, s32 = .slice (some ⟨BA, 0, none⟩) ts.length ts.length ∧ TmsIn (W.alloc (.cells #[.int .i64 0, .string ⟨#[]⟩, .string ⟨#[]⟩, .string ⟨#[]⟩] 31)) BA ts := fun x y => by obtain ⟨BA, z, t⟩ := q1 x y; exact ⟨BA, z, t.later hb2⟩
            have q3 : l.getD 3 false = true → l.getD 11 false = false → ∃ BR, s34 = .slice (some ⟨BR, 0, none⟩) rs.length rs.length ∧ RulsIn (W.alloc (.cells #[.int .i64 0, .string ⟨#[]⟩, .string ⟨#[]⟩, .string ⟨#[]⟩] 31)) BR rs := fun x y => by obtain ⟨BA, z, t⟩ := q3 x y; exact ⟨BA, z, t.later hb2⟩
            have q5 : l.getD 5 false = true → l.getD 11 false = false → ∃ b, s36 = .agg #[.slice (some ⟨b, 0, none⟩) r.verbs.length r.verbs.length, .string r.kind, .string r.team, .string r.pre] ∧ IntsIn (W.alloc (.cells #[.int .i64 0, .string ⟨#[]⟩, .string ⟨#[]⟩, .string ⟨#[]⟩] 31)) b r.verbs := fun x y => by obtain ⟨BA, z, t⟩ := q5 x y; exact ⟨BA, z, t.later hb2⟩
            show ∃ s8, _
            rw [cl_put8]
            exact ⟨(.pointer (some ⟨W.heap.size, 0, none⟩)), s9, s30, s31, s32, s33, s34, s35, s36, s37, s38, s39, rfl, fun h => h0 ((set_get h).resolve_left (by decide)), fun h => h2 ((set_get h).resolve_left (by decide)), fun h => h4 ((set_get h).resolve_left (by decide)), fun h => h6 ((set_get h).resolve_left (by decide)), fun h => h7 ((set_get h).resolve_left (by decide)), fun h => h8 ((set_get h).resolve_left (by decide)), fun h => h9 ((set_get h).resolve_left (by decide)), fun h => h12 ((set_get h).resolve_left (by decide)), (by simpa only [getD_set_ne _ (show (10 : Nat) ≠ 1 by decide), getD_set_ne _ (show (10 : Nat) ≠ 11 by decide)] using q1), (by simpa only [getD_set_ne _ (show (10 : Nat) ≠ 3 by decide), getD_set_ne _ (show (10 : Nat) ≠ 11 by decide)] using q3), (by simpa only [getD_set_ne _ (show (10 : Nat) ≠ 5 by decide), getD_set_ne _ (show (10 : Nat) ≠ 11 by decide)] using q5), (by simpa only [getD_set_ne _ (show (10 : Nat) ≠ 11 by decide), getD_set_ne _ (show (10 : Nat) ≠ 6 by decide)] using hord), (by simpa using hls), blw_alloc hB _, Or.inr (Or.inl ⟨set_here hun, by rw [getD_set_ne _ (show (10 : Nat) ≠ 11 by decide)]; exact h11f, W.heap.size, rfl, hB.size, OwnBlk.alloc W _ 31 4 rfl⟩)⟩
        · rw [getD_flip hun] at h10f; cases h10f
        · rw [getD_flip hun] at h10f; cases h10f
      · have ho1 := ho
        simp at ho
        subst ho
        have e8 := h8 (hall ⟨8, .data⟩ (by simp) rfl)
        subst e8
        have hup6 : l.getD 6 false = true := (by first | exact hall ⟨6, .chain⟩ (by simp) rfl | exact hall ⟨6, .phase⟩ (by simp) rfl)
        rcases hw with ⟨h10f, _⟩ | ⟨h10t, _, P, rfl, hP, hO⟩ | ⟨_, h11t, _⟩
        · have := hall ⟨10, .data⟩ (by simp) rfl; rw [h10f] at this; cases this
        · have hfz := hO.frozen
          obtain ⟨y0, o0⟩ := hO.cell 0 (by omega)
          obtain ⟨y1, o1⟩ := hO.cell 1 (by omega)
          obtain ⟨y2, o2⟩ := hO.cell 2 (by omega)
          obtain ⟨y3, o3⟩ := hO.cell 3 (by omega)
          refine wpOp_skip (w' := ((((W.setCell ⟨P, 0, none⟩ (.int .i64 V)).setCell ⟨P, 1, none⟩ (.string K)).setCell ⟨P, 2, none⟩ (.string T)).setCell ⟨P, 3, none⟩ (.string NP))) ho1 rfl ?_ ?_
          · simp [execOp, go_sem, cl_get8 _ _ _ _ _ _ _ _ _ _ _ _ _ hsz0, cl_get38 _ _ _ _ _ _ _ _ _ _ _ _ _ hsz0, hfz, o0, o1, o2, o3]
          · show ∃ s8, _
            rw [put_none]
            exact ⟨(.pointer (some ⟨P, 0, none⟩)), s9, s30, s31, s32, s33, s34, s35, s36, s37, (.agg #[.int .i64 V, .string K, .string T, .string NP]), s39, rfl, fun h => h0 ((set_get h).resolve_left (by decide)), fun h => h2 ((set_get h).resolve_left (by decide)), fun h => h4 ((set_get h).resolve_left (by decide)), fun h => h6 ((set_get h).resolve_left (by decide)), fun h => h7 ((set_get h).resolve_left (by decide)), fun _ => rfl, fun h => h9 ((set_get h).resolve_left (by decide)), fun h => h12 ((set_get h).resolve_left (by decide)), (fun _ y => absurd (set_here hun) (by rw [y]; exact Bool.false_ne_true)), (fun _ y => absurd (set_here hun) (by rw [y]; exact Bool.false_ne_true)), (fun _ y => absurd (set_here hun) (by rw [y]; exact Bool.false_ne_true)), (fun _ => by rw [getD_set_ne _ (show (11 : Nat) ≠ 6 by decide)]; exact hup6), (by simpa using hls), four_below hB hP _ _ _ _, Or.inr (Or.inr ⟨by rw [getD_set_ne _ (show (11 : Nat) ≠ 10 by decide)]; exact h10t, set_here hun, P, rfl, hP, ActAt.four hO V K T NP⟩)⟩
        · rw [getD_flip hun] at h11t; cases h11t
      · have ho1 := ho
        simp at ho
        subst ho
        have e9 := (h9 (hall ⟨9, .data⟩ (by simp) rfl)).symm
        subst e9
        refine wpOp_value (v := .bool U) (w' := W) ho1 rfl ?_ ?_
        · simp [execOp, go_sem, cl_get39 _ _ _ _ _ _ _ _ _ _ _ _ _ hsz0]
        · show ∃ s8, _
          rw [cl_put9]
          exact ⟨s8, (.bool U), s30, s31, s32, s33, s34, s35, s36, s37, s38, (.bool U), rfl, fun h => h0 ((set_get h).resolve_left (by decide)), fun h => h2 ((set_get h).resolve_left (by decide)), fun h => h4 ((set_get h).resolve_left (by decide)), fun h => h6 ((set_get h).resolve_left (by decide)), fun h => h7 ((set_get h).resolve_left (by decide)), fun h => h8 ((set_get h).resolve_left (by decide)), fun _ => rfl, fun _ => rfl, (by simpa only [getD_set_ne _ (show (12 : Nat) ≠ 1 by decide), getD_set_ne _ (show (12 : Nat) ≠ 11 by decide)] using q1), (by simpa only [getD_set_ne _ (show (12 : Nat) ≠ 3 by decide), getD_set_ne _ (show (12 : Nat) ≠ 11 by decide)] using q3), (by simpa only [getD_set_ne _ (show (12 : Nat) ≠ 5 by decide), getD_set_ne _ (show (12 : Nat) ≠ 11 by decide)] using q5), (by simpa only [getD_set_ne _ (show (12 : Nat) ≠ 11 by decide), getD_set_ne _ (show (12 : Nat) ≠ 6 by decide)] using hord), (by simpa using hls), hB, (by simpa only [getD_set_ne _ (show (12 : Nat) ≠ 10 by decide), getD_set_ne _ (show (12 : Nat) ≠ 11 by decide)] using hw)⟩
    · rintro l a W ⟨s8, s9, s30, s31, s32, s33, s34, s35, s36, s37, s38, s39, rfl, h0, h2, h4, h6, h7, h8, h9, h12, q1, q3, q5, hord, hls, hB, hw⟩ hr
      have L0 : l.getD 0 false = true := all_up hr (by omega) rfl (by intro e he hbd; simp at he; first | done | (subst he; assumption) | (rcases he with rfl | rfl <;> first | assumption | (exfalso; revert hbd; decide)) | (rcases he with rfl | rfl | rfl <;> first | assumption | (exfalso; revert hbd; decide)) | (rcases he with rfl | rfl | rfl | rfl <;> first | assumption | (exfalso; revert hbd; decide)) | (rcases he with rfl | rfl | rfl | rfl | rfl <;> first | assumption | (exfalso; revert hbd; decide)) | (rcases he with rfl | rfl | rfl | rfl | rfl | rfl | rfl | rfl | rfl | rfl | rfl | rfl | rfl <;> first | assumption | (exfalso; revert hbd; decide)) | (rcases he with rfl | rfl | rfl | rfl | rfl | rfl | rfl | rfl | rfl | rfl | rfl | rfl | rfl | rfl <;> first | assumption | (exfalso; revert hbd; decide)) | (rcases he with rfl | rfl | rfl | rfl | rfl | rfl | rfl | rfl | rfl | rfl | rfl | rfl | rfl | rfl | rfl <;> first | assumption | (exfalso; revert hbd; decide)) | (rcases he with rfl | rfl | rfl | rfl | rfl | rfl | rfl | rfl | rfl | rfl | rfl | rfl | rfl | rfl | rfl | rfl <;> first | assumption | (exfalso; revert hbd; decide)))
      have L2 : l.getD 2 false = true := all_up hr (by omega) rfl (by intro e he hbd; simp at he; first | done | (subst he; assumption) | (rcases he with rfl | rfl <;> first | assumption | (exfalso; revert hbd; decide)) | (rcases he with rfl | rfl | rfl <;> first | assumption | (exfalso; revert hbd; decide)) | (rcases he with rfl | rfl | rfl | rfl <;> first | assumption | (exfalso; revert hbd; decide)) | (rcases he with rfl | rfl | rfl | rfl | rfl <;> first | assumption | (exfalso; revert hbd; decide)) | (rcases he with rfl | rfl | rfl | rfl | rfl | rfl | rfl | rfl | rfl | rfl | rfl | rfl | rfl <;> first | assumption | (exfalso; revert hbd; decide)) | (rcases he with rfl | rfl | rfl | rfl | rfl | rfl | rfl | rfl | rfl | rfl | rfl | rfl | rfl | rfl <;> first | assumption | (exfalso; revert hbd; decide)) | (rcases he with rfl | rfl | rfl | rfl | rfl | rfl | rfl | rfl | rfl | rfl | rfl | rfl | rfl | rfl | rfl <;> first | assumption | (exfalso; revert hbd; decide)) | (rcases he with rfl | rfl | rfl | rfl | rfl | rfl | rfl | rfl | rfl | rfl | rfl | rfl | rfl | rfl | rfl | rfl <;> first | assumption | (exfalso; revert hbd; decide)))
      have L4 : l.getD 4 false = true := all_up hr (by omega) rfl (by intro e he hbd; simp at he; first | done | (subst he; assumption) | (rcases he with rfl | rfl <;> first | assumption | (exfalso; revert hbd; decide)) | (rcases he with rfl | rfl | rfl <;> first | assumption | (exfalso; revert hbd; decide)) | (rcases he with rfl | rfl | rfl | rfl <;> first | assumption | (exfalso; revert hbd; decide)) | (rcases he with rfl | rfl | rfl | rfl | rfl <;> first | assumption | (exfalso; revert hbd; decide)) | (rcases he with rfl | rfl | rfl | rfl | rfl | rfl | rfl | rfl | rfl | rfl | rfl | rfl | rfl <;> first | assumption | (exfalso; revert hbd; decide)) | (rcases he with rfl | rfl | rfl | rfl | rfl | rfl | rfl | rfl | rfl | rfl | rfl | rfl | rfl | rfl <;> first | assumption | (exfalso; revert hbd; decide)) | (rcases he with rfl | rfl | rfl | rfl | rfl | rfl | rfl | rfl | rfl | rfl | rfl | rfl | rfl | rfl | rfl <;> first | assumption | (exfalso; revert hbd; decide)) | (rcases he with rfl | rfl | rfl | rfl | rfl | rfl | rfl | rfl | rfl | rfl | rfl | rfl | rfl | rfl | rfl | rfl <;> first | assumption | (exfalso; revert hbd; decide)))
      have L1 : l.getD 1 false = true := all_up hr (by omega) rfl (by intro e he hbd; simp at he; first | done | (subst he; assumption) | (rcases he with rfl | rfl <;> first | assumption | (exfalso; revert hbd; decide)) | (rcases he with rfl | rfl | rfl <;> first | assumption | (exfalso; revert hbd; decide)) | (rcases he with rfl | rfl | rfl | rfl <;> first | assumption | (exfalso; revert hbd; decide)) | (rcases he with rfl | rfl | rfl | rfl | rfl <;> first | assumption | (exfalso; revert hbd; decide)) | (rcases he with rfl | rfl | rfl | rfl | rfl | rfl | rfl | rfl | rfl | rfl | rfl | rfl | rfl <;> first | assumption | (exfalso; revert hbd; decide)) | (rcases he with rfl | rfl | rfl | rfl | rfl | rfl | rfl | rfl | rfl | rfl | rfl | rfl | rfl | rfl <;> first | assumption | (exfalso; revert hbd; decide)) | (rcases he with rfl | rfl | rfl | rfl | rfl | rfl | rfl | rfl | rfl | rfl | rfl | rfl | rfl | rfl | rfl <;> first | assumption | (exfalso; revert hbd; decide)) | (rcases he with rfl | rfl | rfl | rfl | rfl | rfl | rfl | rfl | rfl | rfl | rfl | rfl | rfl | rfl | rfl | rfl <;> first | assumption | (exfalso; revert hbd; decide)))
      have L3 : l.getD 3 false = true := all_up hr (by omega) rfl (by intro e he hbd; simp at he; first | done | (subst he; assumption) | (rcases he with rfl | rfl <;> first | assumption | (exfalso; revert hbd; decide)) | (rcases he with rfl | rfl | rfl <;> first | assumption | (exfalso; revert hbd; decide)) | (rcases he with rfl | rfl | rfl | rfl <;> first | assumption | (exfalso; revert hbd; decide)) | (rcases he with rfl | rfl | rfl | rfl | rfl <;> first | assumption | (exfalso; revert hbd; decide)) | (rcases he with rfl | rfl | rfl | rfl | rfl | rfl | rfl | rfl | rfl | rfl | rfl | rfl | rfl <;> first | assumption | (exfalso; revert hbd; decide)) | (rcases he with rfl | rfl | rfl | rfl | rfl | rfl | rfl | rfl | rfl | rfl | rfl | rfl | rfl | rfl <;> first | assumption | (exfalso; revert hbd; decide)) | (rcases he with rfl | rfl | rfl | rfl | rfl | rfl | rfl | rfl | rfl | rfl | rfl | rfl | rfl | rfl | rfl <;> first | assumption | (exfalso; revert hbd; decide)) | (rcases he with rfl | rfl | rfl | rfl | rfl | rfl | rfl | rfl | rfl | rfl | rfl | rfl | rfl | rfl | rfl | rfl <;> first | assumption | (exfalso; revert hbd; decide)))
      have L5 : l.getD 5 false = true := all_up hr (by omega) rfl (by intro e he hbd; simp at he; first | done | (subst he; assumption) | (rcases he with rfl | rfl <;> first | assumption | (exfalso; revert hbd; decide)) | (rcases he with rfl | rfl | rfl <;> first | assumption | (exfalso; revert hbd; decide)) | (rcases he with rfl | rfl | rfl | rfl <;> first | assumption | (exfalso; revert hbd; decide)) | (rcases he with rfl | rfl | rfl | rfl | rfl <;> first | assumption | (exfalso; revert hbd; decide)) | (rcases he with rfl | rfl | rfl | rfl | rfl | rfl | rfl | rfl | rfl | rfl | rfl | rfl | rfl <;> first | assumption | (exfalso; revert hbd; decide)) | (rcases he with rfl | rfl | rfl | rfl | rfl | rfl | rfl | rfl | rfl | rfl | rfl | rfl | rfl | rfl <;> first | assumption | (exfalso; revert hbd; decide)) | (rcases he with rfl | rfl | rfl | rfl | rfl | rfl | rfl | rfl | rfl | rfl | rfl | rfl | rfl | rfl | rfl <;> first | assumption | (exfalso; revert hbd; decide)) | (rcases he with rfl | rfl | rfl | rfl | rfl | rfl | rfl | rfl | rfl | rfl | rfl | rfl | rfl | rfl | rfl | rfl <;> first | assumption | (exfalso; revert hbd; decide)))
      have L6 : l.getD 6 false = true := all_up hr (by omega) rfl (by intro e he hbd; simp at he; first | done | (subst he; assumption) | (rcases he with rfl | rfl <;> first | assumption | (exfalso; revert hbd; decide)) | (rcases he with rfl | rfl | rfl <;> first | assumption | (exfalso; revert hbd; decide)) | (rcases he with rfl | rfl | rfl | rfl <;> first | assumption | (exfalso; revert hbd; decide)) | (rcases he with rfl | rfl | rfl | rfl | rfl <;> first | assumption | (exfalso; revert hbd; decide)) | (rcases he with rfl | rfl | rfl | rfl | rfl | rfl | rfl | rfl | rfl | rfl | rfl | rfl | rfl <;> first | assumption | (exfalso; revert hbd; decide)) | (rcases he with rfl | rfl | rfl | rfl | rfl | rfl | rfl | rfl | rfl | rfl | rfl | rfl | rfl | rfl <;> first | assumption | (exfalso; revert hbd; decide)) | (rcases he with rfl | rfl | rfl | rfl | rfl | rfl | rfl | rfl | rfl | rfl | rfl | rfl | rfl | rfl | rfl <;> first | assumption | (exfalso; revert hbd; decide)) | (rcases he with rfl | rfl | rfl | rfl | rfl | rfl | rfl | rfl | rfl | rfl | rfl | rfl | rfl | rfl | rfl | rfl <;> first | assumption | (exfalso; revert hbd; decide)))
      have L7 : l.getD 7 false = true := all_up hr (by omega) rfl (by intro e he hbd; simp at he; first | done | (subst he; assumption) | (rcases he with rfl | rfl <;> first | assumption | (exfalso; revert hbd; decide)) | (rcases he with rfl | rfl | rfl <;> first | assumption | (exfalso; revert hbd; decide)) | (rcases he with rfl | rfl | rfl | rfl <;> first | assumption | (exfalso; revert hbd; decide)) | (rcases he with rfl | rfl | rfl | rfl | rfl <;> first | assumption | (exfalso; revert hbd; decide)) | (rcases he with rfl | rfl | rfl | rfl | rfl | rfl | rfl | rfl | rfl | rfl | rfl | rfl | rfl <;> first | assumption | (exfalso; revert hbd; decide)) | (rcases he with rfl | rfl | rfl | rfl | rfl | rfl | rfl | rfl | rfl | rfl | rfl | rfl | rfl | rfl <;> first | assumption | (exfalso; revert hbd; decide)) | (rcases he with rfl | rfl | rfl | rfl | rfl | rfl | rfl | rfl | rfl | rfl | rfl | rfl | rfl | rfl | rfl <;> first | assumption | (exfalso; revert hbd; decide)) | (rcases he with rfl | rfl | rfl | rfl | rfl | rfl | rfl | rfl | rfl | rfl | rfl | rfl | rfl | rfl | rfl | rfl <;> first | assumption | (exfalso; revert hbd; decide)))
      have L8 : l.getD 8 false = true := all_up hr (by omega) rfl (by intro e he hbd; simp at he; first | done | (subst he; assumption) | (rcases he with rfl | rfl <;> first | assumption | (exfalso; revert hbd; decide)) | (rcases he with rfl | rfl | rfl <;> first | assumption | (exfalso; revert hbd; decide)) | (rcases he with rfl | rfl | rfl | rfl <;> first | assumption | (exfalso; revert hbd; decide)) | (rcases he with rfl | rfl | rfl | rfl | rfl <;> first | assumption | (exfalso; revert hbd; decide)) | (rcases he with rfl | rfl | rfl | rfl | rfl | rfl | rfl | rfl | rfl | rfl | rfl | rfl | rfl <;> first | assumption | (exfalso; revert hbd; decide)) | (rcases he with rfl | rfl | rfl | rfl | rfl | rfl | rfl | rfl | rfl | rfl | rfl | rfl | rfl | rfl <;> first | assumption | (exfalso; revert hbd; decide)) | (rcases he with rfl | rfl | rfl | rfl | rfl | rfl | rfl | rfl | rfl | rfl | rfl | rfl | rfl | rfl | rfl <;> first | assumption | (exfalso; revert hbd; decide)) | (rcases he with rfl | rfl | rfl | rfl | rfl | rfl | rfl | rfl | rfl | rfl | rfl | rfl | rfl | rfl | rfl | rfl <;> first | assumption | (exfalso; revert hbd; decide)))
      have L10 : l.getD 10 false = true := all_up hr (by omega) rfl (by intro e he hbd; simp at he; first | done | (subst he; assumption) | (rcases he with rfl | rfl <;> first | assumption | (exfalso; revert hbd; decide)) | (rcases he with rfl | rfl | rfl <;> first | assumption | (exfalso; revert hbd; decide)) | (rcases he with rfl | rfl | rfl | rfl <;> first | assumption | (exfalso; revert hbd; decide)) | (rcases he with rfl | rfl | rfl | rfl | rfl <;> first | assumption | (exfalso; revert hbd; decide)) | (rcases he with rfl | rfl | rfl | rfl | rfl | rfl | rfl | rfl | rfl | rfl | rfl | rfl | rfl <;> first | assumption | (exfalso; revert hbd; decide)) | (rcases he with rfl | rfl | rfl | rfl | rfl | rfl | rfl | rfl | rfl | rfl | rfl | rfl | rfl | rfl <;> first | assumption | (exfalso; revert hbd; decide)) | (rcases he with rfl | rfl | rfl | rfl | rfl | rfl | rfl | rfl | rfl | rfl | rfl | rfl | rfl | rfl | rfl <;> first | assumption | (exfalso; revert hbd; decide)) | (rcases he with rfl | rfl | rfl | rfl | rfl | rfl | rfl | rfl | rfl | rfl | rfl | rfl | rfl | rfl | rfl | rfl <;> first | assumption | (exfalso; revert hbd; decide)))
      have L9 : l.getD 9 false = true := all_up hr (by omega) rfl (by intro e he hbd; simp at he; first | done | (subst he; assumption) | (rcases he with rfl | rfl <;> first | assumption | (exfalso; revert hbd; decide)) | (rcases he with rfl | rfl | rfl <;> first | assumption | (exfalso; revert hbd; decide)) | (rcases he with rfl | rfl | rfl | rfl <;> first | assumption | (exfalso; revert hbd; decide)) | (rcases he with rfl | rfl | rfl | rfl | rfl <;> first | assumption | (exfalso; revert hbd; decide)) | (rcases he with rfl | rfl | rfl | rfl | rfl | rfl | rfl | rfl | rfl | rfl | rfl | rfl | rfl <;> first | assumption | (exfalso; revert hbd; decide)) | (rcases he with rfl | rfl | rfl | rfl | rfl | rfl | rfl | rfl | rfl | rfl | rfl | rfl | rfl | rfl <;> first | assumption | (exfalso; revert hbd; decide)) | (rcases he with rfl | rfl | rfl | rfl | rfl | rfl | rfl | rfl | rfl | rfl | rfl | rfl | rfl | rfl | rfl <;> first | assumption | (exfalso; revert hbd; decide)) | (rcases he with rfl | rfl | rfl | rfl | rfl | rfl | rfl | rfl | rfl | rfl | rfl | rfl | rfl | rfl | rfl | rfl <;> first | assumption | (exfalso; revert hbd; decide)))
      have L11 : l.getD 11 false = true := all_up hr (by omega) rfl (by intro e he hbd; simp at he; first | done | (subst he; assumption) | (rcases he with rfl | rfl <;> first | assumption | (exfalso; revert hbd; decide)) | (rcases he with rfl | rfl | rfl <;> first | assumption | (exfalso; revert hbd; decide)) | (rcases he with rfl | rfl | rfl | rfl <;> first | assumption | (exfalso; revert hbd; decide)) | (rcases he with rfl | rfl | rfl | rfl | rfl <;> first | assumption | (exfalso; revert hbd; decide)) | (rcases he with rfl | rfl | rfl | rfl | rfl | rfl | rfl | rfl | rfl | rfl | rfl | rfl | rfl <;> first | assumption | (exfalso; revert hbd; decide)) | (rcases he with rfl | rfl | rfl | rfl | rfl | rfl | rfl | rfl | rfl | rfl | rfl | rfl | rfl | rfl <;> first | assumption | (exfalso; revert hbd; decide)) | (rcases he with rfl | rfl | rfl | rfl | rfl | rfl | rfl | rfl | rfl | rfl | rfl | rfl | rfl | rfl | rfl <;> first | assumption | (exfalso; revert hbd; decide)) | (rcases he with rfl | rfl | rfl | rfl | rfl | rfl | rfl | rfl | rfl | rfl | rfl | rfl | rfl | rfl | rfl | rfl <;> first | assumption | (exfalso; revert hbd; decide)))
      have L12 : l.getD 12 false = true := all_up hr (by omega) rfl (by intro e he hbd; simp at he; first | done | (subst he; assumption) | (rcases he with rfl | rfl <;> first | assumption | (exfalso; revert hbd; decide)) | (rcases he with rfl | rfl | rfl <;> first | assumption | (exfalso; revert hbd; decide)) | (rcases he with rfl | rfl | rfl | rfl <;> first | assumption | (exfalso; revert hbd; decide)) | (rcases he with rfl | rfl | rfl | rfl | rfl <;> first | assumption | (exfalso; revert hbd; decide)) | (rcases he with rfl | rfl | rfl | rfl | rfl | rfl | rfl | rfl | rfl | rfl | rfl | rfl | rfl <;> first | assumption | (exfalso; revert hbd; decide)) | (rcases he with rfl | rfl | rfl | rfl | rfl | rfl | rfl | rfl | rfl | rfl | rfl | rfl | rfl | rfl <;> first | assumption | (exfalso; revert hbd; decide)) | (rcases he with rfl | rfl | rfl | rfl | rfl | rfl | rfl | rfl | rfl | rfl | rfl | rfl | rfl | rfl | rfl <;> first | assumption | (exfalso; revert hbd; decide)) | (rcases he with rfl | rfl | rfl | rfl | rfl | rfl | rfl | rfl | rfl | rfl | rfl | rfl | rfl | rfl | rfl | rfl <;> first | assumption | (exfalso; revert hbd; decide)))
      have e0 := (h0 L0).symm
      subst e0
      have e2 := (h2 L2).symm
      subst e2
      have e4 := (h4 L4).symm
      subst e4
      have e6 := (h6 L6).symm
      subst e6
      have e7 := (h7 L7).symm
      subst e7
      have e8 := (h8 L8).symm
      subst e8
      have e9 := (h9 L9).symm
      subst e9
      have e12 := (h12 L12).symm
      subst e12
      rcases hw with ⟨h10f, _⟩ | ⟨_, h11f, _⟩ | ⟨_, _, P, rfl, hP, hAct⟩
      · rw [L10] at h10f; cases h10f
      · rw [L11] at h11f; cases h11f
      · subst ha0
        simp [cl, Act.put]
        go_wp2_with fail
        go_meet
        exact ⟨P, rfl, rfl, hAct, hB⟩
    · refine ⟨undef, undef, undef, undef, undef, undef, undef, undef, undef, undef, undef, undef, by rw [ha0]; kernel_rfl, ?_⟩
      exact ⟨fun h => absurd h Bool.false_ne_true, fun h => absurd h Bool.false_ne_true, fun h => absurd h Bool.false_ne_true, fun h => absurd h Bool.false_ne_true, fun h => absurd h Bool.false_ne_true, fun h => absurd h Bool.false_ne_true, fun h => absurd h Bool.false_ne_true, fun h => absurd h Bool.false_ne_true, fun h => absurd h Bool.false_ne_true, fun h => absurd h Bool.false_ne_true, fun h => absurd h Bool.false_ne_true, fun h => absurd h Bool.false_ne_true, rfl, Below.drew (Below.refl _ _), Or.inl ⟨rfl, rfl⟩⟩
    · exact Nat.le_of_eq (by kernel_rfl)
  case rest =>
  obtain ⟨P4, rfl, rfl, hA4, hb4⟩ := hcut
  rename World => w4
  have HA4 : Hid (ActAt w4 P4 V K T NP) := hA4
  clear hA4
  have HB4 : Hid (Below w.heap.size w w4) := blw_trans HB3.out hb4
  have HX4 : Hid (Boxed w4 w.heap.size #[.slice ra r.verbs.length rc, .string r.kind, .string r.team, .string r.pre]) := HXl.out w4 hb4
  clear hb4 f0 f1 f2 f3 HX3 HB3 HT22 HXl
  go_wp2_with fail
  refine (HT9.out _ HB4.out).mono ?_
  rintro e w5 ⟨B5, rfl, hb5, hi5⟩
  have HA5 : Hid (ActAt w5 P4 V K T NP) := HA4.out.later hb5
  clear HA4
  have HB5 : Hid (Below w.heap.size w w5) := blw_trans HB4.out hb5
  have HX5 : Hid (Boxed w5 w.heap.size #[.slice ra r.verbs.length rc, .string r.kind, .string r.team, .string r.pre]) := HX4.out.later hb5
  have HI5 : Hid (TmsIn w5 B5 ts) := hi5
  clear hb5 hi5 HX4 HB4
  go_wp2_with fail
  refine (HT23.out _ HB5.out).mono ?_
  rintro e w5b ⟨B6, rfl, hb5b, hr5⟩
  have HA5b : Hid (ActAt w5b P4 V K T NP) := HA5.out.later hb5b
  clear HA5
  have HB5b : Hid (Below w.heap.size w w5b) := blw_trans HB5.out hb5b
  have HX5b : Hid (Boxed w5b w.heap.size #[.slice ra r.verbs.length rc, .string r.kind, .string r.team, .string r.pre]) := HX5.out.later hb5b
  have HI5b : Hid (TmsIn w5b B5 ts ∧ RulsIn w5b B6 rs) := ⟨HI5.out.later hb5b, hr5⟩
  clear hb5b hr5 HX5 HB5 HI5
  have f0 : w5b.cell? ⟨w.heap.size, 0, none⟩ = some (.slice ra r.verbs.length rc) := HX5b.out.2 0
  have f1 : w5b.cell? ⟨w.heap.size, 1, none⟩ = some (.string r.kind) := HX5b.out.2 1
  have f2 : w5b.cell? ⟨w.heap.size, 2, none⟩ = some (.string r.team) := HX5b.out.2 2
  have f3 : w5b.cell? ⟨w.heap.size, 3, none⟩ = some (.string r.pre) := HX5b.out.2 3
  go_wp2_with fail
  refine (HT17.out _ HB5b.out).mono ?_
  rintro e w6 ⟨⟨b, rfl, ho6⟩, hb6⟩
  have HB6 : Hid (Below w.heap.size w w6) := blw_trans HB5b.out hb6
  obtain ⟨w7, hw7⟩ : ∃ w7, w7 = w6.alloc (.cells #[.slice (some ⟨b, 0, none⟩) r.verbs.length r.verbs.length, .string r.kind, .string r.team, .string r.pre] 38) := ⟨_, rfl⟩
  have hb7 : Below w6.heap.size w6 w7 := by rw [hw7]; exact blw_alloc (Below.refl _ _) _
  have hb57 := blw_trans hb6 hb7
  have HA7 : Hid (ActAt w7 P4 V K T NP) := HA5b.out.later hb57
  clear HA5b
  have HB7 : Hid (Below w.heap.size w w7) := blw_trans HB6.out hb7
  have HX7 : Hid (Boxed w7 w.heap.size #[.slice ra r.verbs.length rc, .string r.kind, .string r.team, .string r.pre] ∧ Boxed w7 w6.heap.size #[.slice (some ⟨b, 0, none⟩) r.verbs.length r.verbs.length, .string r.kind, .string r.team, .string r.pre]) := ⟨HX5b.out.later hb57, by rw [hw7]; exact Boxed.new w6 _ 38⟩
  have HI7 : Hid (TmsIn w7 B5 ts ∧ RulsIn w7 B6 rs ∧ IntsIn w7 b r.verbs) := ⟨HI5b.out.1.later hb57, HI5b.out.2.later hb57, ho6.later hb7⟩
  clear hb6 hb7 hb57 ho6 HX5b HB5b HI5b HB6 f0 f1 f2 f3
  go_upto_region 15 with fail
  rw [← hw7]
  clear hw7
  have f0 : w7.cell? ⟨w6.heap.size, 0, none⟩ = some (.slice (some ⟨b, 0, none⟩) r.verbs.length r.verbs.length) := HX7.out.2.2 0
  have f1 : w7.cell? ⟨w6.heap.size, 1, none⟩ = some (.string r.kind) := HX7.out.2.2 1
  have f2 : w7.cell? ⟨w6.heap.size, 2, none⟩ = some (.string r.team) := HX7.out.2.2 2
  have f3 : w7.cell? ⟨w6.heap.size, 3, none⟩ = some (.string r.pre) := HX7.out.2.2 3
  go_wp2_with fail
  refine (HT24.out _ _ _ _ HI7.out.1 HI7.out.2.1 HI7.out.2.2 HB7.out).mono ?_
  rintro e w8a ⟨rfl, hb8a⟩
  obtain ⟨w8d, hw8d⟩ : ∃ w8d, w8d = w8a.alloc (.cells #[.int .i64 V, .string K, .string T, .string NP] 31) := ⟨_, rfl⟩
  have hb8d : Below w7.heap.size w7 w8d := by rw [hw8d]; exact blw_alloc hb8a _
  have HAd : Hid (ActAt w8d P4 V K T NP ∧ ActAt w8d w8a.heap.size V K T NP) := ⟨HA7.out.later hb8d, by rw [hw8d]; exact ActAt.new w8a V K T NP⟩
  have HBd : Hid (Below w7.heap.size w7 w8d) := hb8d
  clear f0 f1 f2 f3 hb8a hb8d HA7
  go_upto_region 16 with fail
  rw [← hw8d]
  clear hw8d
  have a0 := HAd.out.1.c0
  have a1 := HAd.out.1.c1
  have a2 := HAd.out.1.c2
  have a3 := HAd.out.1.c3
  have d0 := HAd.out.2.c0
  have d1 := HAd.out.2.c1
  have d2 := HAd.out.2.c2
  have d3 := HAd.out.2.c3
  go_wp2_with fail
  refine (eqAct V K T NP w8d).mono ?_
  rintro e w8 ⟨rfl, hb8e⟩
  have hb8 := blw_trans HBd.out hb8e
  clear a0 a1 a2 a3 d0 d1 d2 d3 hb8e HAd HBd
  have HB8 : Hid (Below w.heap.size w w8) := blw_trans HB7.out hb8
  have HX8 : Hid (Boxed w8 w.heap.size #[.slice ra r.verbs.length rc, .string r.kind, .string r.team, .string r.pre] ∧ Boxed w8 w6.heap.size #[.slice (some ⟨b, 0, none⟩) r.verbs.length r.verbs.length, .string r.kind, .string r.team, .string r.pre]) := ⟨HX7.out.1.later hb8, HX7.out.2.later hb8⟩
  have HI8 : Hid (TmsIn w8 B5 ts ∧ RulsIn w8 B6 rs ∧ IntsIn w8 b r.verbs) := ⟨HI7.out.1.later hb8, HI7.out.2.1.later hb8, HI7.out.2.2.later hb8⟩
  clear hb8 HX7 HB7 HT24 HI7
  go_wp2_with fail
  refine (HT9.out _ HB8.out).mono ?_
  rintro e w9 ⟨B9, rfl, hb9, hi9⟩
  have HB9 : Hid (Below w.heap.size w w9) := blw_trans HB8.out hb9
  have HX9 : Hid (Boxed w9 w.heap.size #[.slice ra r.verbs.length rc, .string r.kind, .string r.team, .string r.pre] ∧ Boxed w9 w6.heap.size #[.slice (some ⟨b, 0, none⟩) r.verbs.length r.verbs.length, .string r.kind, .string r.team, .string r.pre]) := ⟨HX8.out.1.later hb9, HX8.out.2.later hb9⟩
  have HI9 : Hid (TmsIn w9 B5 ts ∧ TmsIn w9 B9 ts ∧ RulsIn w9 B6 rs ∧ IntsIn w9 b r.verbs) := ⟨HI8.out.1.later hb9, hi9, HI8.out.2.1.later hb9, HI8.out.2.2.later hb9⟩
  clear hb9 hi9 HX8 HB8 HI8
  go_wp2_with fail
  refine (eqTeams _ _ ts w9 HI9.out.1 HI9.out.2.1).mono ?_
  rintro e w9b ⟨rfl, hb9b⟩
  have HB9b : Hid (Below w.heap.size w w9b) := blw_trans HB9.out hb9b
  have HX9b : Hid (Boxed w9b w.heap.size #[.slice ra r.verbs.length rc, .string r.kind, .string r.team, .string r.pre] ∧ Boxed w9b w6.heap.size #[.slice (some ⟨b, 0, none⟩) r.verbs.length r.verbs.length, .string r.kind, .string r.team, .string r.pre]) := ⟨HX9.out.1.later hb9b, HX9.out.2.later hb9b⟩
  have HI9b : Hid (RulsIn w9b B6 rs ∧ IntsIn w9b b r.verbs) := ⟨HI9.out.2.2.1.later hb9b, HI9.out.2.2.2.later hb9b⟩
  clear hb9b HX9 HB9 HI9
  go_wp2_with fail
  refine (HT23.out _ HB9b.out).mono ?_
  rintro e w9c ⟨B10, rfl, hb9c, hi9c⟩
  have HB9c : Hid (Below w.heap.size w w9c) := blw_trans HB9b.out hb9c
  have HX9c : Hid (Boxed w9c w.heap.size #[.slice ra r.verbs.length rc, .string r.kind, .string r.team, .string r.pre] ∧ Boxed w9c w6.heap.size #[.slice (some ⟨b, 0, none⟩) r.verbs.length r.verbs.length, .string r.kind, .string r.team, .string r.pre]) := ⟨HX9b.out.1.later hb9c, HX9b.out.2.later hb9c⟩
  have HI9c : Hid (RulsIn w9c B6 rs ∧ RulsIn w9c B10 rs ∧ IntsIn w9c b r.verbs) := ⟨HI9b.out.1.later hb9c, hi9c, HI9b.out.2.later hb9c⟩
  clear hb9c hi9c HX9b HB9b HI9b
  go_wp2_with fail
  refine (eqRules _ _ rs w9c HI9c.out.1 HI9c.out.2.1).mono ?_
  rintro e w10 ⟨rfl, hb10⟩
  have HB10 : Hid (Below w.heap.size w w10) := blw_trans HB9c.out hb10
  have HX10 : Hid (Boxed w10 w.heap.size #[.slice ra r.verbs.length rc, .string r.kind, .string r.team, .string r.pre] ∧ Boxed w10 w6.heap.size #[.slice (some ⟨b, 0, none⟩) r.verbs.length r.verbs.length, .string r.kind, .string r.team, .string r.pre]) := ⟨HX9c.out.1.later hb10, HX9c.out.2.later hb10⟩
  have HI10 : Hid (IntsIn w10 b r.verbs) := HI9c.out.2.2.later hb10
  clear hb10 HX9c HB9c HI9c
  have f0 : w10.cell? ⟨w.heap.size, 0, none⟩ = some (.slice ra r.verbs.length rc) := HX10.out.1.2 0
  have f1 : w10.cell? ⟨w.heap.size, 1, none⟩ = some (.string r.kind) := HX10.out.1.2 1
  have f2 : w10.cell? ⟨w.heap.size, 2, none⟩ = some (.string r.team) := HX10.out.1.2 2
  have f3 : w10.cell? ⟨w.heap.size, 3, none⟩ = some (.string r.pre) := HX10.out.1.2 3
  have g0 : w10.cell? ⟨w6.heap.size, 0, none⟩ = some (.slice (some ⟨b, 0, none⟩) r.verbs.length r.verbs.length) := HX10.out.2.2 0
  have g1 : w10.cell? ⟨w6.heap.size, 1, none⟩ = some (.string r.kind) := HX10.out.2.2 1
  have g2 : w10.cell? ⟨w6.heap.size, 2, none⟩ = some (.string r.team) := HX10.out.2.2 2
  have g3 : w10.cell? ⟨w6.heap.size, 3, none⟩ = some (.string r.pre) := HX10.out.2.2 3
  have HXl : Hid (∀ W, Below w10.heap.size w10 W → Boxed W w6.heap.size #[.slice (some ⟨b, 0, none⟩) r.verbs.length r.verbs.length, .string r.kind, .string r.team, .string r.pre] ∧ IntsIn W b r.verbs) := fun W hW => ⟨HX10.out.2.later hW, HI10.out.later hW⟩
  go_upto_region 22 with fail
  go_cut [76] (fun s wx => s = .bool false ∧ Below w10.heap.size w10 wx)
  case first =>
    go_region_with (first
      | (go_at_call 15; have hzz := hoB; clear hzz; refine (eqRule _ _ r _ ?_ ?_).mono ?_; exact (HXl.out _ (by repeat (first | exact kB | refine Below.drew ?_))).2; exact hoB.later (by repeat (first | exact Below.refl _ _ | refine Below.drew ?_)); rintro e wC ⟨rfl, hbC⟩; have kC : Below w10.heap.size w10 wC := blw_trans (by repeat (first | exact kB | refine Below.drew ?_)) hbC; clear hbC)
      | (go_at_call 10; refine (HT17.out _ ?_).mono ?_; (repeat (first | exact HB10.out | refine Below.drew ?_)); rintro e wB ⟨⟨b', rfl, hoB⟩, hbB⟩; have kB : Below w10.heap.size w10 wB := blw_trans (by repeat (first | exact Below.refl _ _ | refine Below.drew ?_)) hbB; clear hbB f0 f1 f2 f3 g0 g1 g2 g3; have bx := (HXl.out wB kB).1; have j0 : wB.cell? ⟨w6.heap.size, 0, none⟩ = some (.slice (some ⟨b, 0, none⟩) r.verbs.length r.verbs.length) := bx.2 0; have j1 : wB.cell? ⟨w6.heap.size, 1, none⟩ = some (.string r.kind) := bx.2 1; have j2 : wB.cell? ⟨w6.heap.size, 2, none⟩ = some (.string r.team) := bx.2 2; have j3 : wB.cell? ⟨w6.heap.size, 3, none⟩ = some (.string r.pre) := bx.2 3; clear bx))
    all_goals
      go_wp2_with fail
      go_meet
      refine ⟨rfl, ?_⟩
      repeat (first | exact kC | refine Below.drew ?_)
  case rest =>
  obtain ⟨rfl, hbx⟩ := hcut
  rename World => w11
  have hB11 := blw_trans HB10.out hbx
  go_wp2
  go_ret
  exact ⟨rfl, hB11⟩

end Go.Proofs.YtikfcnmhfoknlaaDoor
