/-
  GateAskOk: an ask of the verb 2 (the specification).
-/
import Derived.Test.YtkjkklcflpchlaaGreatAkE
import Derived.Test.YtkjkklcflpchlaaGreatWalkS
import Derived.Test.YtkjkklcflpchlaaGreatWalkRE
namespace Go.Proofs.YtkjkklcflpchlaaGreat
open Go.RowKit Go.Deep

set_option maxRecDepth 8000 in
set_option maxHeartbeats 8000000 in
theorem askS2 (L : Lw) (a : Ak) (a0 a1 a2 b1 b2 b3 NF : Nat) (w : World) (hL : LwIn w a0 a1 a2 L) (h : AkIn w b1 b2 b3 a) (hv : a.verb = 2) (hNF : NF = (L.shapes.getD (kindAt L.shapes a.kind) Shp.none).fields.length) :
    Calls Tryz.prog 24 #[.agg #[.slice (some ⟨a0, 0, none⟩) L.shapes.length L.shapes.length, .slice (some ⟨a1, 0, none⟩) L.mends.length L.mends.length, .slice (some ⟨a2, 0, none⟩) L.teams.length L.teams.length], .agg #[.string a.who, .int .i64 a.verb, .string a.kind, .string a.name, .string a.team, .slice (some ⟨b1, 0, none⟩) a.values.length a.values.length, .slice (some ⟨b2, 0, none⟩) a.holds.length a.holds.length, .int .i64 a.seen, .string a.hold, .string a.to_, .slice (some ⟨b3, 0, none⟩) a.rule.verbs.length a.rule.verbs.length, .string a.rule.kind, .string a.rule.team, .string a.rule.pre, .int .i64 a.number]] w fun e w' => e = .returned (.bool (askB L a NF)) ∧ Below w.heap.size w w' := by
  obtain ⟨wa, hwa⟩ : ∃ wa, wa = (w.alloc (.cells #[.slice (some ⟨a0, 0, none⟩) L.shapes.length L.shapes.length, .slice (some ⟨a1, 0, none⟩) L.mends.length L.mends.length, .slice (some ⟨a2, 0, none⟩) L.teams.length L.teams.length] 40)).alloc (.cells #[.string a.who, .int .i64 a.verb, .string a.kind, .string a.name, .string a.team, .slice (some ⟨b1, 0, none⟩) a.values.length a.values.length, .slice (some ⟨b2, 0, none⟩) a.holds.length a.holds.length, .int .i64 a.seen, .string a.hold, .string a.to_, .slice (some ⟨b3, 0, none⟩) a.rule.verbs.length a.rule.verbs.length, .string a.rule.kind, .string a.rule.team, .string a.rule.pre, .int .i64 a.number] 44) := ⟨_, rfl⟩
  have HBa : Hid (Below w.heap.size w wa) := by show Below _ _ _; rw [hwa]; exact blw_alloc (blw_alloc (Below.refl _ _) _) _
  have HXa : Hid (BoxV wa w.heap.size #[.slice (some ⟨a0, 0, none⟩) L.shapes.length L.shapes.length, .slice (some ⟨a1, 0, none⟩) L.mends.length L.mends.length, .slice (some ⟨a2, 0, none⟩) L.teams.length L.teams.length] ∧ BoxV wa (w.heap.size + 1) #[.string a.who, .int .i64 a.verb, .string a.kind, .string a.name, .string a.team, .slice (some ⟨b1, 0, none⟩) a.values.length a.values.length, .slice (some ⟨b2, 0, none⟩) a.holds.length a.holds.length, .int .i64 a.seen, .string a.hold, .string a.to_, .slice (some ⟨b3, 0, none⟩) a.rule.verbs.length a.rule.verbs.length, .string a.rule.kind, .string a.rule.team, .string a.rule.pre, .int .i64 a.number]) := by show _ ∧ _; rw [hwa]; exact ⟨(BoxV.new' _ _ _ _ rfl).past _, BoxV.new' _ _ _ _ (by simp)⟩
  have HH : Hid (LwIn w a0 a1 a2 L ∧ AkIn w b1 b2 b3 a) := ⟨hL, h⟩
  have HVB : Hid (a.verb = 2) := hv
  have HNF : Hid (NF = (L.shapes.getD (kindAt L.shapes a.kind) Shp.none).fields.length) := hNF
  obtain ⟨z1, z2, z3, z4, z5, z6, z7, z8⟩ := h.sized
  have HZ : Hid (a.who.size ≤ maxLen ∧ a.name.size ≤ maxLen ∧ a.hold.size ≤ maxLen ∧ a.to_.size ≤ maxLen ∧ a.rule.sized) := ⟨z1, z3, z5, z6, z8⟩
  obtain ⟨q1, hq1⟩ : ∃ q1, q1 = Pl.nameOk a.who := ⟨_, rfl⟩
  obtain ⟨r3, hr3⟩ : ∃ r3, r3 = noneSet 43 (setsOf a) := ⟨_, rfl⟩
  obtain ⟨R, hR⟩ : ∃ R, R = askB L a NF := ⟨_, rfl⟩
  have HR : Hid (R = (q1 && ((hasKind L.shapes a.kind && Pl.nameOk a.name && ((a.values.length : Int) == (NF : Int)) && decide (0 ≤ a.seen)) && r3))) := by
    show R = _
    rw [hR, hq1, hr3]
    unfold askB
    rw [hv, show within 2 1 6 = true from rfl, show usesOf 2 = 43 from rfl, show oksOf L a NF = [hasKind L.shapes a.kind, Pl.nameOk a.name, isTeam L.teams a.team, ((a.values.length : Int) == (NF : Int)), (decide (a.holds.length ≤ 3) && Pl.asc a.holds), decide (0 ≤ a.seen), Pl.nameOk a.hold, Pl.nameOk a.to_, ruleOk a.rule, decide (1 ≤ a.number)] from rfl, rB2, Bool.and_true]
  have HN : Hid (Calls Tryz.prog 48 #[.string a.who] wa fun e w' => e = .returned (.bool q1) ∧ wa = w') := by rw [hq1]; exact l1NameOk_any a.who wa z1
  have HN2 : Hid (∀ W, Calls Tryz.prog 50 #[.agg #[.string ⟨#[]⟩, .int .i64 2, .string ⟨#[]⟩, .string ⟨#[]⟩, .string a.team, .slice none 0 0, .slice (some ⟨b2, 0, none⟩) a.holds.length a.holds.length, .int .i64 0, .string a.hold, .string a.to_, .slice (some ⟨b3, 0, none⟩) a.rule.verbs.length a.rule.verbs.length, .string a.rule.kind, .string a.rule.team, .string a.rule.pre, .int .i64 a.number]] W fun e w' => e = .returned (.bool r3) ∧ Below W.heap.size W w') := fun W => by
    have := nothingS ⟨#[]⟩ ⟨#[]⟩ ⟨#[]⟩ a.team a.hold a.to_ a.rule.kind a.rule.team a.rule.pre 2 0 a.number none (some ⟨b2, 0, none⟩) (some ⟨b3, 0, none⟩) 0 a.holds.length a.rule.verbs.length 0 a.holds.length a.rule.verbs.length W
    rw [nothing_2 a, ← hr3] at this
    exact this
  rw [← hR]
  clear hL h hv hNF z1 z2 z3 z4 z5 z6 z7 z8 hq1 hr3 hR
  go_enter Tryz.func24, Tryz.ntmps24
  go_upto_region 1 with fail
  rw [← hwa]
  clear hwa
  have lz := HXa.out.1.lt
  have az := HXa.out.2.lt
  have x0 : wa.cell? ⟨w.heap.size + 1, 0, none⟩ = some (.string a.who) := HXa.out.2.at_ 0
  have x1 : wa.cell? ⟨w.heap.size + 1, 1, none⟩ = some (.int .i64 2) := by rw [← HVB.out]; exact HXa.out.2.at_ 1
  have x2 : wa.cell? ⟨w.heap.size + 1, 2, none⟩ = some (.string a.kind) := HXa.out.2.at_ 2
  have x3 : wa.cell? ⟨w.heap.size + 1, 3, none⟩ = some (.string a.name) := HXa.out.2.at_ 3
  have x4 : wa.cell? ⟨w.heap.size + 1, 4, none⟩ = some (.string a.team) := HXa.out.2.at_ 4
  have x5 : wa.cell? ⟨w.heap.size + 1, 5, none⟩ = some (.slice (some ⟨b1, 0, none⟩) a.values.length a.values.length) := HXa.out.2.at_ 5
  have x6 : wa.cell? ⟨w.heap.size + 1, 6, none⟩ = some (.slice (some ⟨b2, 0, none⟩) a.holds.length a.holds.length) := HXa.out.2.at_ 6
  have x7 : wa.cell? ⟨w.heap.size + 1, 7, none⟩ = some (.int .i64 a.seen) := HXa.out.2.at_ 7
  have x8 : wa.cell? ⟨w.heap.size + 1, 8, none⟩ = some (.string a.hold) := HXa.out.2.at_ 8
  have x9 : wa.cell? ⟨w.heap.size + 1, 9, none⟩ = some (.string a.to_) := HXa.out.2.at_ 9
  have x10 : wa.cell? ⟨w.heap.size + 1, 10, none⟩ = some (.slice (some ⟨b3, 0, none⟩) a.rule.verbs.length a.rule.verbs.length) := HXa.out.2.at_ 10
  have x11 : wa.cell? ⟨w.heap.size + 1, 11, none⟩ = some (.string a.rule.kind) := HXa.out.2.at_ 11
  have x12 : wa.cell? ⟨w.heap.size + 1, 12, none⟩ = some (.string a.rule.team) := HXa.out.2.at_ 12
  have x13 : wa.cell? ⟨w.heap.size + 1, 13, none⟩ = some (.string a.rule.pre) := HXa.out.2.at_ 13
  have x14 : wa.cell? ⟨w.heap.size + 1, 14, none⟩ = some (.int .i64 a.number) := HXa.out.2.at_ 14
  go_wp2_with fail
  refine HN.out.mono ?_
  rintro e w' ⟨rfl, rfl⟩
  cases q1
  · have HE : Hid (R = false) := HR.out
    clear HR HN2
    go_wp2
    go_ret
    exact ⟨Pl.ret_bool HE.out.symm, HBa.out⟩
  go_wp2_with fail
  refine (l1In_any 2 1 6 wa).mono ?_
  rintro e w' ⟨rfl, rfl⟩
  go_wp2_with fail
  refine (rest_2 a.who a.kind a.name a.team a.hold a.to_ a.rule.kind a.rule.team a.rule.pre a.seen a.number (some ⟨b1, 0, none⟩) (some ⟨b2, 0, none⟩) (some ⟨b3, 0, none⟩) a.values.length a.holds.length a.rule.verbs.length a.values.length a.holds.length a.rule.verbs.length wa).mono ?_
  rintro e wb ⟨rfl, hb⟩
  have HBb : Hid (Below w.heap.size w wb) := blw_trans HBa.out hb
  have HXb : Hid (BoxV wb w.heap.size #[.slice (some ⟨a0, 0, none⟩) L.shapes.length L.shapes.length, .slice (some ⟨a1, 0, none⟩) L.mends.length L.mends.length, .slice (some ⟨a2, 0, none⟩) L.teams.length L.teams.length] ∧ BoxV wb (w.heap.size + 1) #[.string a.who, .int .i64 a.verb, .string a.kind, .string a.name, .string a.team, .slice (some ⟨b1, 0, none⟩) a.values.length a.values.length, .slice (some ⟨b2, 0, none⟩) a.holds.length a.holds.length, .int .i64 a.seen, .string a.hold, .string a.to_, .slice (some ⟨b3, 0, none⟩) a.rule.verbs.length a.rule.verbs.length, .string a.rule.kind, .string a.rule.team, .string a.rule.pre, .int .i64 a.number]) := ⟨HXa.out.1.later hb, HXa.out.2.later hb⟩
  clear hb lz az  x0 x1 x2 x3 x4 x5 x6 x7 x8 x9 x10 x11 x12 x13 x14 HXa HBa HN
  go_wp2_with fail
  refine (HN2.out wb).mono ?_
  rintro e wc ⟨rfl, hb⟩
  have HBc : Hid (Below w.heap.size w wc) := blw_trans HBb.out hb
  have HXc : Hid (BoxV wc w.heap.size #[.slice (some ⟨a0, 0, none⟩) L.shapes.length L.shapes.length, .slice (some ⟨a1, 0, none⟩) L.mends.length L.mends.length, .slice (some ⟨a2, 0, none⟩) L.teams.length L.teams.length] ∧ BoxV wc (w.heap.size + 1) #[.string a.who, .int .i64 a.verb, .string a.kind, .string a.name, .string a.team, .slice (some ⟨b1, 0, none⟩) a.values.length a.values.length, .slice (some ⟨b2, 0, none⟩) a.holds.length a.holds.length, .int .i64 a.seen, .string a.hold, .string a.to_, .slice (some ⟨b3, 0, none⟩) a.rule.verbs.length a.rule.verbs.length, .string a.rule.kind, .string a.rule.team, .string a.rule.pre, .int .i64 a.number]) := ⟨HXb.out.1.later hb, HXb.out.2.later hb⟩
  clear hb HXb HBb HN2
  cases r3
  · have HE : Hid (R = false) := by show R = false; rw [HR.out]; simp
    clear HR
    go_wp2
    go_ret
    exact ⟨Pl.ret_bool HE.out.symm, HBc.out⟩
  have HR2 : Hid (R = (hasKind L.shapes a.kind && Pl.nameOk a.name && ((a.values.length : Int) == (NF : Int)) && decide (0 ≤ a.seen))) := by show R = _; rw [HR.out]; simp
  clear HR
  have lz := HXc.out.1.lt
  have az := HXc.out.2.lt
  have l0 : wc.cell? ⟨w.heap.size, 0, none⟩ = some (.slice (some ⟨a0, 0, none⟩) L.shapes.length L.shapes.length) := HXc.out.1.at_ 0
  have x1 : wc.cell? ⟨w.heap.size + 1, 1, none⟩ = some (.int .i64 2) := by rw [← HVB.out]; exact HXc.out.2.at_ 1
  have x2 : wc.cell? ⟨w.heap.size + 1, 2, none⟩ = some (.string a.kind) := HXc.out.2.at_ 2
  have x3 : wc.cell? ⟨w.heap.size + 1, 3, none⟩ = some (.string a.name) := HXc.out.2.at_ 3
  go_wp2_with fail
  refine (l1Shape_any a0 L.shapes a.kind wc (HH.out.1.later HBc.out).s).mono ?_
  rintro e w' ⟨rfl, rfl⟩
  by_cases hk : kindAt L.shapes a.kind < L.shapes.length
  case neg =>
    have HE : Hid (R = false) := by
      show R = false
      rw [HR2.out, show hasKind L.shapes a.kind = false from decide_eq_false hk]
      simp
    rw [if_neg hk]
    clear HR2 hk
    go_wp2
    go_ret
    exact ⟨Pl.ret_bool HE.out.symm, HBc.out⟩
  rw [if_pos hk]
  obtain ⟨ki, hki⟩ : ∃ ki, ki = kindAt L.shapes a.kind := ⟨_, rfl⟩
  have HKI : Hid (hasKind L.shapes a.kind = true ∧ ki = kindAt L.shapes a.kind ∧ L.shapes.length ≤ 1048576) := ⟨decide_eq_true hk, hki, (HH.out.1).s.len⟩
  rw [← hki] at hk ⊢
  clear hki
  obtain ⟨q4, hq4⟩ : ∃ q4, q4 = Pl.nameOk a.name := ⟨_, rfl⟩
  have HN4 : Hid (Calls Tryz.prog 48 #[.string a.name] wc fun e w' => e = .returned (.bool q4) ∧ wc = w') := by rw [hq4]; exact l1NameOk_any a.name wc HZ.out.2.1
  have HR3 : Hid (R = (q4 && (((a.values.length : Int) == (NF : Int)) && decide (0 ≤ a.seen)))) := by show R = _; rw [HR2.out, HKI.out.1, hq4]; simp [Bool.and_assoc]
  clear hq4 HR2
  have hkl := HKI.out.2.2
  go_wp2_with fail
  refine HN4.out.mono ?_
  rintro e w' ⟨rfl, rfl⟩
  clear HN4
  cases q4
  · have HE : Hid (R = false) := HR3.out
    clear HR3
    go_wp2
    go_ret
    exact ⟨Pl.ret_bool HE.out.symm, HBc.out⟩
  have HR4 : Hid (R = (((a.values.length : Int) == (NF : Int)) && decide (0 ≤ a.seen))) := HR3.out
  clear HR3 lz az l0 x1 x2 x3
  have lz := HXc.out.1.lt
  have az := HXc.out.2.lt
  have x1 : wc.cell? ⟨w.heap.size + 1, 1, none⟩ = some (.int .i64 2) := by rw [← HVB.out]; exact HXc.out.2.at_ 1
  have hsh := (HH.out.1.later HBc.out).s.at_ ki hk
  have hsz := (HH.out.1.later HBc.out).s.lt
  obtain ⟨fb, _, _, _, _, _, sc1, _⟩ := hsh
  rw [show (L.shapes.getD ki Shp.none).fields.length = NF by rw [HNF.out, HKI.out.2.1]] at sc1
  go_upto_region 10 with fail
  clear lz az  x1
  have hNE := pst_some wc
  have Zl : ∀ px : Pst wc, w.heap.size < px.W.heap.size := fun px => px.size HXc.out.1.lt
  have Za : ∀ px : Pst wc, w.heap.size + 1 < px.W.heap.size := fun px => px.size HXc.out.2.lt
  have Zs : ∀ px : Pst wc, a0 < px.W.heap.size := fun px => px.size hsz
  have L0 : ∀ px : Pst wc, px.W.cell? ⟨w.heap.size, 0, none⟩ = some (.slice (some ⟨a0, 0, none⟩) L.shapes.length L.shapes.length) := fun px => px.cell (HXc.out.1.at_ 0) HXc.out.1.lt
  have L2 : ∀ px : Pst wc, px.W.cell? ⟨w.heap.size, 2, none⟩ = some (.slice (some ⟨a2, 0, none⟩) L.teams.length L.teams.length) := fun px => px.cell (HXc.out.1.at_ 2) HXc.out.1.lt
  have S1 : ∀ px : Pst wc, px.W.cell? ⟨a0, ki * 2 + 1, none⟩ = some (.slice (some ⟨fb, 0, none⟩) NF NF) := fun px => px.cell sc1 hsz
  have A4 : ∀ px : Pst wc, px.W.cell? ⟨w.heap.size + 1, 4, none⟩ = some (.string a.team) := fun px => px.cell (HXc.out.2.at_ 4) HXc.out.2.lt
  have A5 : ∀ px : Pst wc, px.W.cell? ⟨w.heap.size + 1, 5, none⟩ = some (.slice (some ⟨b1, 0, none⟩) a.values.length a.values.length) := fun px => px.cell (HXc.out.2.at_ 5) HXc.out.2.lt
  have A6 : ∀ px : Pst wc, px.W.cell? ⟨w.heap.size + 1, 6, none⟩ = some (.slice (some ⟨b2, 0, none⟩) a.holds.length a.holds.length) := fun px => px.cell (HXc.out.2.at_ 6) HXc.out.2.lt
  have A7 : ∀ px : Pst wc, px.W.cell? ⟨w.heap.size + 1, 7, none⟩ = some (.int .i64 a.seen) := fun px => px.cell (HXc.out.2.at_ 7) HXc.out.2.lt
  clear sc1 hsz
  have e3 : ((a.values.length : Int) == (NF : Int)) = decide (a.values.length = NF) := by rw [Bool.eq_iff_iff, beq_iff_eq, decide_eq_true_eq]; omega
  have HR5 : Hid (R = (decide (a.values.length = NF) && decide (0 ≤ a.seen))) := by
    show R = _
    rw [HR4.out, e3]
  clear HR4 e3
  cases c3 : decide (a.values.length = NF)
  all_goals
    have HE : Hid (R = (decide (a.values.length = NF) && decide (0 ≤ a.seen))) := HR5.out
    have HC : Hid (decide (a.values.length = NF) = _) := c3
    have g3 : ((a.values.length : Int) == (NF : Int)) = _ := (show ((a.values.length : Int) == (NF : Int)) = decide (a.values.length = NF) by rw [Bool.eq_iff_iff, beq_iff_eq, decide_eq_true_eq]; omega).trans c3
    clear HR5
    refine region_class wc (Below.refl _ _) (by kernel_rfl) (by kernel_rfl) ?_
    repeat (first
      | go_big_quiet_skip
      | (go_big_quiet_want; go_big_quiet_op; first | go_big_quiet_on))
    refine wpQuiet_nil ?_
    intro _ hw'
    obtain ⟨px, hw''⟩ := hw'
    subst hw''
    go_wp2
    go_ret
    exact ⟨Pl.ret_bool (by rw [HE.out, HC.out]; first | done | rfl | simp), blw_trans HBc.out px.ok⟩

end Go.Proofs.YtkjkklcflpchlaaGreat
