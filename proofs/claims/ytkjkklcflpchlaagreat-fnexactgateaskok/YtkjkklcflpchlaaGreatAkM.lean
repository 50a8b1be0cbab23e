/-
  GateAskOk: both.
-/
import Derived.Test.YtkjkklcflpchlaaGreatAkE
import Derived.Test.YtkjkklcflpchlaaGreatWalkS
import Derived.Test.YtkjkklcflpchlaaGreatAkS1
import Derived.Test.YtkjkklcflpchlaaGreatAkS2
import Derived.Test.YtkjkklcflpchlaaGreatWalkLO
import Derived.Test.YtkjkklcflpchlaaGreatWalkRE
namespace Go.Proofs.YtkjkklcflpchlaaGreat
open Go.RowKit Go.Deep

set_option maxRecDepth 8000 in
set_option maxHeartbeats 8000000 in
theorem askS4 (L : Lw) (a : Ak) (a0 a1 a2 b1 b2 b3 NF : Nat) (w : World) (hL : LwIn w a0 a1 a2 L) (h : AkIn w b1 b2 b3 a) (hv : a.verb = 4) (hNF : NF = (L.shapes.getD (kindAt L.shapes a.kind) Shp.none).fields.length) :
    Calls Tryz.prog 24 #[.agg #[.slice (some ⟨a0, 0, none⟩) L.shapes.length L.shapes.length, .slice (some ⟨a1, 0, none⟩) L.mends.length L.mends.length, .slice (some ⟨a2, 0, none⟩) L.teams.length L.teams.length], .agg #[.string a.who, .int .i64 a.verb, .string a.kind, .string a.name, .string a.team, .slice (some ⟨b1, 0, none⟩) a.values.length a.values.length, .slice (some ⟨b2, 0, none⟩) a.holds.length a.holds.length, .int .i64 a.seen, .string a.hold, .string a.to_, .slice (some ⟨b3, 0, none⟩) a.rule.verbs.length a.rule.verbs.length, .string a.rule.kind, .string a.rule.team, .string a.rule.pre, .int .i64 a.number]] w fun e w' => e = .returned (.bool (askB L a NF)) ∧ Below w.heap.size w w' := by
  obtain ⟨wa, hwa⟩ : ∃ wa, wa = (w.alloc (.cells #[.slice (some ⟨a0, 0, none⟩) L.shapes.length L.shapes.length, .slice (some ⟨a1, 0, none⟩) L.mends.length L.mends.length, .slice (some ⟨a2, 0, none⟩) L.teams.length L.teams.length] 40)).alloc (.cells #[.string a.who, .int .i64 a.verb, .string a.kind, .string a.name, .string a.team, .slice (some ⟨b1, 0, none⟩) a.values.length a.values.length, .slice (some ⟨b2, 0, none⟩) a.holds.length a.holds.length, .int .i64 a.seen, .string a.hold, .string a.to_, .slice (some ⟨b3, 0, none⟩) a.rule.verbs.length a.rule.verbs.length, .string a.rule.kind, .string a.rule.team, .string a.rule.pre, .int .i64 a.number] 44) := ⟨_, rfl⟩
  have HBa : Hid (Below w.heap.size w wa) := by show Below _ _ _; rw [hwa]; exact blw_alloc (blw_alloc (Below.refl _ _) _) _
  have HXa : Hid (BoxV wa w.heap.size #[.slice (some ⟨a0, 0, none⟩) L.shapes.length L.shapes.length, .slice (some ⟨a1, 0, none⟩) L.mends.length L.mends.length, .slice (some ⟨a2, 0, none⟩) L.teams.length L.teams.length] ∧ BoxV wa (w.heap.size + 1) #[.string a.who, .int .i64 a.verb, .string a.kind, .string a.name, .string a.team, .slice (some ⟨b1, 0, none⟩) a.values.length a.values.length, .slice (some ⟨b2, 0, none⟩) a.holds.length a.holds.length, .int .i64 a.seen, .string a.hold, .string a.to_, .slice (some ⟨b3, 0, none⟩) a.rule.verbs.length a.rule.verbs.length, .string a.rule.kind, .string a.rule.team, .string a.rule.pre, .int .i64 a.number]) := by show _ ∧ _; rw [hwa]; exact ⟨(BoxV.new' _ _ _ _ rfl).past _, BoxV.new' _ _ _ _ (by simp)⟩
  have HH : Hid (LwIn w a0 a1 a2 L ∧ AkIn w b1 b2 b3 a) := ⟨hL, h⟩
  have HVB : Hid (a.verb = 4) := hv
  have HNF : Hid (NF = (L.shapes.getD (kindAt L.shapes a.kind) Shp.none).fields.length) := hNF
  obtain ⟨z1, z2, z3, z4, z5, z6, z7, z8⟩ := h.sized
  have HZ : Hid (a.who.size ≤ maxLen ∧ a.name.size ≤ maxLen ∧ a.hold.size ≤ maxLen ∧ a.to_.size ≤ maxLen ∧ a.rule.sized) := ⟨z1, z3, z5, z6, z8⟩
  obtain ⟨q1, hq1⟩ : ∃ q1, q1 = Pl.nameOk a.who := ⟨_, rfl⟩
  obtain ⟨r3, hr3⟩ : ∃ r3, r3 = noneSet 67 (setsOf a) := ⟨_, rfl⟩
  obtain ⟨R, hR⟩ : ∃ R, R = askB L a NF := ⟨_, rfl⟩
  have HR : Hid (R = (q1 && ((hasKind L.shapes a.kind && Pl.nameOk a.name && Pl.nameOk a.hold) && r3))) := by
    show R = _
    rw [hR, hq1, hr3]
    unfold askB
    rw [hv, show within 4 1 6 = true from rfl, show usesOf 4 = 67 from rfl, show oksOf L a NF = [hasKind L.shapes a.kind, Pl.nameOk a.name, isTeam L.teams a.team, ((a.values.length : Int) == (NF : Int)), (decide (a.holds.length ≤ 3) && Pl.asc a.holds), decide (0 ≤ a.seen), Pl.nameOk a.hold, Pl.nameOk a.to_, ruleOk a.rule, decide (1 ≤ a.number)] from rfl, rB4, Bool.and_true]
  have HN : Hid (Calls Tryz.prog 48 #[.string a.who] wa fun e w' => e = .returned (.bool q1) ∧ wa = w') := by rw [hq1]; exact l1NameOk_any a.who wa z1
  have HN2 : Hid (∀ W, Calls Tryz.prog 50 #[.agg #[.string ⟨#[]⟩, .int .i64 4, .string ⟨#[]⟩, .string ⟨#[]⟩, .string a.team, .slice (some ⟨b1, 0, none⟩) a.values.length a.values.length, .slice (some ⟨b2, 0, none⟩) a.holds.length a.holds.length, .int .i64 a.seen, .string ⟨#[]⟩, .string a.to_, .slice (some ⟨b3, 0, none⟩) a.rule.verbs.length a.rule.verbs.length, .string a.rule.kind, .string a.rule.team, .string a.rule.pre, .int .i64 a.number]] W fun e w' => e = .returned (.bool r3) ∧ Below W.heap.size W w') := fun W => by
    have := nothingS ⟨#[]⟩ ⟨#[]⟩ ⟨#[]⟩ a.team ⟨#[]⟩ a.to_ a.rule.kind a.rule.team a.rule.pre 4 a.seen a.number (some ⟨b1, 0, none⟩) (some ⟨b2, 0, none⟩) (some ⟨b3, 0, none⟩) a.values.length a.holds.length a.rule.verbs.length a.values.length a.holds.length a.rule.verbs.length W
    rw [nothing_4 a, ← hr3] at this
    exact this
  rw [← hR]
  clear hL h hv hNF z1 z2 z3 z4 z5 z6 z7 z8 hq1 hr3 hR
  go_enter Tryz.func24, Tryz.ntmps24
  go_upto_region 1 with fail
  rw [← hwa]
  clear hwa
  have lz := HXa.out.1.lt
  have az := HXa.out.2.lt
  have x0 : wa.cell? ⟨w.heap.size + 1, 0, none⟩ = some (.string a.who) := HXa.out.2.at_ 0
  have x1 : wa.cell? ⟨w.heap.size + 1, 1, none⟩ = some (.int .i64 4) := by rw [← HVB.out]; exact HXa.out.2.at_ 1
  have x2 : wa.cell? ⟨w.heap.size + 1, 2, none⟩ = some (.string a.kind) := HXa.out.2.at_ 2
  have x3 : wa.cell? ⟨w.heap.size + 1, 3, none⟩ = some (.string a.name) := HXa.out.2.at_ 3
  have x4 : wa.cell? ⟨w.heap.size + 1, 4, none⟩ = some (.string a.team) := HXa.out.2.at_ 4
  have x5 : wa.cell? ⟨w.heap.size + 1, 5, none⟩ = some (.slice (some ⟨b1, 0, none⟩) a.values.length a.values.length) := HXa.out.2.at_ 5
  have x6 : wa.cell? ⟨w.heap.size + 1, 6, none⟩ = some (.slice (some ⟨b2, 0, none⟩) a.holds.length a.holds.length) := HXa.out.2.at_ 6
  have x7 : wa.cell? ⟨w.heap.size + 1, 7, none⟩ = some (.int .i64 a.seen) := HXa.out.2.at_ 7
  have x8 : wa.cell? ⟨w.heap.size + 1, 8, none⟩ = some (.string a.hold) := HXa.out.2.at_ 8
  have x9 : wa.cell? ⟨w.heap.size + 1, 9, none⟩ = some (.string a.to_) := HXa.out.2.at_ 9
  have x10 : wa.cell? ⟨w.heap.size + 1, 10, none⟩ = some (.slice (some ⟨b3, 0, none⟩) a.rule.verbs.length a.rule.verbs.length) := HXa.out.2.at_ 10
  have x11 : wa.cell? ⟨w.heap.size + 1, 11, none⟩ = some (.string a.rule.kind) := HXa.out.2.at_ 11
  have x12 : wa.cell? ⟨w.heap.size + 1, 12, none⟩ = some (.string a.rule.team) := HXa.out.2.at_ 12
  have x13 : wa.cell? ⟨w.heap.size + 1, 13, none⟩ = some (.string a.rule.pre) := HXa.out.2.at_ 13
  have x14 : wa.cell? ⟨w.heap.size + 1, 14, none⟩ = some (.int .i64 a.number) := HXa.out.2.at_ 14
  go_wp2_with fail
  refine HN.out.mono ?_
  rintro e w' ⟨rfl, rfl⟩
  cases q1
  · have HE : Hid (R = false) := HR.out
    clear HR HN2
    go_wp2
    go_ret
    exact ⟨Pl.ret_bool HE.out.symm, HBa.out⟩
  go_wp2_with fail
  refine (l1In_any 4 1 6 wa).mono ?_
  rintro e w' ⟨rfl, rfl⟩
  go_wp2_with fail
  refine (rest_4 a.who a.kind a.name a.team a.hold a.to_ a.rule.kind a.rule.team a.rule.pre a.seen a.number (some ⟨b1, 0, none⟩) (some ⟨b2, 0, none⟩) (some ⟨b3, 0, none⟩) a.values.length a.holds.length a.rule.verbs.length a.values.length a.holds.length a.rule.verbs.length wa).mono ?_
  rintro e wb ⟨rfl, hb⟩
  have HBb : Hid (Below w.heap.size w wb) := blw_trans HBa.out hb
  have HXb : Hid (BoxV wb w.heap.size #[.slice (some ⟨a0, 0, none⟩) L.shapes.length L.shapes.length, .slice (some ⟨a1, 0, none⟩) L.mends.length L.mends.length, .slice (some ⟨a2, 0, none⟩) L.teams.length L.teams.length] ∧ BoxV wb (w.heap.size + 1) #[.string a.who, .int .i64 a.verb, .string a.kind, .string a.name, .string a.team, .slice (some ⟨b1, 0, none⟩) a.values.length a.values.length, .slice (some ⟨b2, 0, none⟩) a.holds.length a.holds.length, .int .i64 a.seen, .string a.hold, .string a.to_, .slice (some ⟨b3, 0, none⟩) a.rule.verbs.length a.rule.verbs.length, .string a.rule.kind, .string a.rule.team, .string a.rule.pre, .int .i64 a.number]) := ⟨HXa.out.1.later hb, HXa.out.2.later hb⟩
  clear hb lz az  x0 x1 x2 x3 x4 x5 x6 x7 x8 x9 x10 x11 x12 x13 x14 HXa HBa HN
  go_wp2_with fail
  refine (HN2.out wb).mono ?_
  rintro e wc ⟨rfl, hb⟩
  have HBc : Hid (Below w.heap.size w wc) := blw_trans HBb.out hb
  have HXc : Hid (BoxV wc w.heap.size #[.slice (some ⟨a0, 0, none⟩) L.shapes.length L.shapes.length, .slice (some ⟨a1, 0, none⟩) L.mends.length L.mends.length, .slice (some ⟨a2, 0, none⟩) L.teams.length L.teams.length] ∧ BoxV wc (w.heap.size + 1) #[.string a.who, .int .i64 a.verb, .string a.kind, .string a.name, .string a.team, .slice (some ⟨b1, 0, none⟩) a.values.length a.values.length, .slice (some ⟨b2, 0, none⟩) a.holds.length a.holds.length, .int .i64 a.seen, .string a.hold, .string a.to_, .slice (some ⟨b3, 0, none⟩) a.rule.verbs.length a.rule.verbs.length, .string a.rule.kind, .string a.rule.team, .string a.rule.pre, .int .i64 a.number]) := ⟨HXb.out.1.later hb, HXb.out.2.later hb⟩
  clear hb HXb HBb HN2
  cases r3
  · have HE : Hid (R = false) := by show R = false; rw [HR.out]; simp
    clear HR
    go_wp2
    go_ret
    exact ⟨Pl.ret_bool HE.out.symm, HBc.out⟩
  have HR2 : Hid (R = (hasKind L.shapes a.kind && Pl.nameOk a.name && Pl.nameOk a.hold)) := by show R = _; rw [HR.out]; simp
  clear HR
  have lz := HXc.out.1.lt
  have az := HXc.out.2.lt
  have l0 : wc.cell? ⟨w.heap.size, 0, none⟩ = some (.slice (some ⟨a0, 0, none⟩) L.shapes.length L.shapes.length) := HXc.out.1.at_ 0
  have x1 : wc.cell? ⟨w.heap.size + 1, 1, none⟩ = some (.int .i64 4) := by rw [← HVB.out]; exact HXc.out.2.at_ 1
  have x2 : wc.cell? ⟨w.heap.size + 1, 2, none⟩ = some (.string a.kind) := HXc.out.2.at_ 2
  have x3 : wc.cell? ⟨w.heap.size + 1, 3, none⟩ = some (.string a.name) := HXc.out.2.at_ 3
  go_wp2_with fail
  refine (l1Shape_any a0 L.shapes a.kind wc (HH.out.1.later HBc.out).s).mono ?_
  rintro e w' ⟨rfl, rfl⟩
  by_cases hk : kindAt L.shapes a.kind < L.shapes.length
  case neg =>
    have HE : Hid (R = false) := by
      show R = false
      rw [HR2.out, show hasKind L.shapes a.kind = false from decide_eq_false hk]
      simp
    rw [if_neg hk]
    clear HR2 hk
    go_wp2
    go_ret
    exact ⟨Pl.ret_bool HE.out.symm, HBc.out⟩
  rw [if_pos hk]
  obtain ⟨ki, hki⟩ : ∃ ki, ki = kindAt L.shapes a.kind := ⟨_, rfl⟩
  have HKI : Hid (hasKind L.shapes a.kind = true ∧ ki = kindAt L.shapes a.kind ∧ L.shapes.length ≤ 1048576) := ⟨decide_eq_true hk, hki, (HH.out.1).s.len⟩
  rw [← hki] at hk ⊢
  clear hki
  obtain ⟨q4, hq4⟩ : ∃ q4, q4 = Pl.nameOk a.name := ⟨_, rfl⟩
  have HN4 : Hid (Calls Tryz.prog 48 #[.string a.name] wc fun e w' => e = .returned (.bool q4) ∧ wc = w') := by rw [hq4]; exact l1NameOk_any a.name wc HZ.out.2.1
  have HR3 : Hid (R = (q4 && (Pl.nameOk a.hold))) := by show R = _; rw [HR2.out, HKI.out.1, hq4]; simp
  clear hq4 HR2
  have hkl := HKI.out.2.2
  go_wp2_with fail
  refine HN4.out.mono ?_
  rintro e w' ⟨rfl, rfl⟩
  clear HN4
  cases q4
  · have HE : Hid (R = false) := HR3.out
    clear HR3
    go_wp2
    go_ret
    exact ⟨Pl.ret_bool HE.out.symm, HBc.out⟩
  have HR4 : Hid (R = (Pl.nameOk a.hold)) := HR3.out
  clear HR3 lz az l0 x1 x2 x3
  have lz := HXc.out.1.lt
  have az := HXc.out.2.lt
  have x1 : wc.cell? ⟨w.heap.size + 1, 1, none⟩ = some (.int .i64 4) := by rw [← HVB.out]; exact HXc.out.2.at_ 1
  have x8 : wc.cell? ⟨w.heap.size + 1, 8, none⟩ = some (.string a.hold) := HXc.out.2.at_ 8
  go_wp2_with fail
  refine (l1NameOk_any a.hold wc HZ.out.2.2.1).mono ?_
  rintro e w' ⟨rfl, rfl⟩
  go_wp2
  go_ret
  exact ⟨Pl.ret_bool HR4.out.symm, HBc.out⟩

end Go.Proofs.YtkjkklcflpchlaaGreat

namespace Go.Proofs.YtkjkklcflpchlaaGreat
open Go.RowKit Go.Deep

set_option maxRecDepth 8000 in
set_option maxHeartbeats 8000000 in
theorem askS3 (L : Lw) (a : Ak) (a0 a1 a2 b1 b2 b3 NF : Nat) (w : World) (hL : LwIn w a0 a1 a2 L) (h : AkIn w b1 b2 b3 a) (hv : a.verb = 3) (hNF : NF = (L.shapes.getD (kindAt L.shapes a.kind) Shp.none).fields.length) :
    Calls Tryz.prog 24 #[.agg #[.slice (some ⟨a0, 0, none⟩) L.shapes.length L.shapes.length, .slice (some ⟨a1, 0, none⟩) L.mends.length L.mends.length, .slice (some ⟨a2, 0, none⟩) L.teams.length L.teams.length], .agg #[.string a.who, .int .i64 a.verb, .string a.kind, .string a.name, .string a.team, .slice (some ⟨b1, 0, none⟩) a.values.length a.values.length, .slice (some ⟨b2, 0, none⟩) a.holds.length a.holds.length, .int .i64 a.seen, .string a.hold, .string a.to_, .slice (some ⟨b3, 0, none⟩) a.rule.verbs.length a.rule.verbs.length, .string a.rule.kind, .string a.rule.team, .string a.rule.pre, .int .i64 a.number]] w fun e w' => e = .returned (.bool (askB L a NF)) ∧ Below w.heap.size w w' := by
  obtain ⟨wa, hwa⟩ : ∃ wa, wa = (w.alloc (.cells #[.slice (some ⟨a0, 0, none⟩) L.shapes.length L.shapes.length, .slice (some ⟨a1, 0, none⟩) L.mends.length L.mends.length, .slice (some ⟨a2, 0, none⟩) L.teams.length L.teams.length] 40)).alloc (.cells #[.string a.who, .int .i64 a.verb, .string a.kind, .string a.name, .string a.team, .slice (some ⟨b1, 0, none⟩) a.values.length a.values.length, .slice (some ⟨b2, 0, none⟩) a.holds.length a.holds.length, .int .i64 a.seen, .string a.hold, .string a.to_, .slice (some ⟨b3, 0, none⟩) a.rule.verbs.length a.rule.verbs.length, .string a.rule.kind, .string a.rule.team, .string a.rule.pre, .int .i64 a.number] 44) := ⟨_, rfl⟩
  have HBa : Hid (Below w.heap.size w wa) := by show Below _ _ _; rw [hwa]; exact blw_alloc (blw_alloc (Below.refl _ _) _) _
  have HXa : Hid (BoxV wa w.heap.size #[.slice (some ⟨a0, 0, none⟩) L.shapes.length L.shapes.length, .slice (some ⟨a1, 0, none⟩) L.mends.length L.mends.length, .slice (some ⟨a2, 0, none⟩) L.teams.length L.teams.length] ∧ BoxV wa (w.heap.size + 1) #[.string a.who, .int .i64 a.verb, .string a.kind, .string a.name, .string a.team, .slice (some ⟨b1, 0, none⟩) a.values.length a.values.length, .slice (some ⟨b2, 0, none⟩) a.holds.length a.holds.length, .int .i64 a.seen, .string a.hold, .string a.to_, .slice (some ⟨b3, 0, none⟩) a.rule.verbs.length a.rule.verbs.length, .string a.rule.kind, .string a.rule.team, .string a.rule.pre, .int .i64 a.number]) := by show _ ∧ _; rw [hwa]; exact ⟨(BoxV.new' _ _ _ _ rfl).past _, BoxV.new' _ _ _ _ (by simp)⟩
  have HH : Hid (LwIn w a0 a1 a2 L ∧ AkIn w b1 b2 b3 a) := ⟨hL, h⟩
  have HVB : Hid (a.verb = 3) := hv
  have HNF : Hid (NF = (L.shapes.getD (kindAt L.shapes a.kind) Shp.none).fields.length) := hNF
  obtain ⟨z1, z2, z3, z4, z5, z6, z7, z8⟩ := h.sized
  have HZ : Hid (a.who.size ≤ maxLen ∧ a.name.size ≤ maxLen ∧ a.hold.size ≤ maxLen ∧ a.to_.size ≤ maxLen ∧ a.rule.sized) := ⟨z1, z3, z5, z6, z8⟩
  obtain ⟨q1, hq1⟩ : ∃ q1, q1 = Pl.nameOk a.who := ⟨_, rfl⟩
  obtain ⟨r3, hr3⟩ : ∃ r3, r3 = noneSet 35 (setsOf a) := ⟨_, rfl⟩
  obtain ⟨R, hR⟩ : ∃ R, R = askB L a NF := ⟨_, rfl⟩
  have HR : Hid (R = (q1 && ((hasKind L.shapes a.kind && Pl.nameOk a.name && decide (0 ≤ a.seen)) && r3))) := by
    show R = _
    rw [hR, hq1, hr3]
    unfold askB
    rw [hv, show within 3 1 6 = true from rfl, show usesOf 3 = 35 from rfl, show oksOf L a NF = [hasKind L.shapes a.kind, Pl.nameOk a.name, isTeam L.teams a.team, ((a.values.length : Int) == (NF : Int)), (decide (a.holds.length ≤ 3) && Pl.asc a.holds), decide (0 ≤ a.seen), Pl.nameOk a.hold, Pl.nameOk a.to_, ruleOk a.rule, decide (1 ≤ a.number)] from rfl, rB3, Bool.and_true]
  have HN : Hid (Calls Tryz.prog 48 #[.string a.who] wa fun e w' => e = .returned (.bool q1) ∧ wa = w') := by rw [hq1]; exact l1NameOk_any a.who wa z1
  have HN2 : Hid (∀ W, Calls Tryz.prog 50 #[.agg #[.string ⟨#[]⟩, .int .i64 3, .string ⟨#[]⟩, .string ⟨#[]⟩, .string a.team, .slice (some ⟨b1, 0, none⟩) a.values.length a.values.length, .slice (some ⟨b2, 0, none⟩) a.holds.length a.holds.length, .int .i64 0, .string a.hold, .string a.to_, .slice (some ⟨b3, 0, none⟩) a.rule.verbs.length a.rule.verbs.length, .string a.rule.kind, .string a.rule.team, .string a.rule.pre, .int .i64 a.number]] W fun e w' => e = .returned (.bool r3) ∧ Below W.heap.size W w') := fun W => by
    have := nothingS ⟨#[]⟩ ⟨#[]⟩ ⟨#[]⟩ a.team a.hold a.to_ a.rule.kind a.rule.team a.rule.pre 3 0 a.number (some ⟨b1, 0, none⟩) (some ⟨b2, 0, none⟩) (some ⟨b3, 0, none⟩) a.values.length a.holds.length a.rule.verbs.length a.values.length a.holds.length a.rule.verbs.length W
    rw [nothing_3 a, ← hr3] at this
    exact this
  rw [← hR]
  clear hL h hv hNF z1 z2 z3 z4 z5 z6 z7 z8 hq1 hr3 hR
  go_enter Tryz.func24, Tryz.ntmps24
  go_upto_region 1 with fail
  rw [← hwa]
  clear hwa
  have lz := HXa.out.1.lt
  have az := HXa.out.2.lt
  have x0 : wa.cell? ⟨w.heap.size + 1, 0, none⟩ = some (.string a.who) := HXa.out.2.at_ 0
  have x1 : wa.cell? ⟨w.heap.size + 1, 1, none⟩ = some (.int .i64 3) := by rw [← HVB.out]; exact HXa.out.2.at_ 1
  have x2 : wa.cell? ⟨w.heap.size + 1, 2, none⟩ = some (.string a.kind) := HXa.out.2.at_ 2
  have x3 : wa.cell? ⟨w.heap.size + 1, 3, none⟩ = some (.string a.name) := HXa.out.2.at_ 3
  have x4 : wa.cell? ⟨w.heap.size + 1, 4, none⟩ = some (.string a.team) := HXa.out.2.at_ 4
  have x5 : wa.cell? ⟨w.heap.size + 1, 5, none⟩ = some (.slice (some ⟨b1, 0, none⟩) a.values.length a.values.length) := HXa.out.2.at_ 5
  have x6 : wa.cell? ⟨w.heap.size + 1, 6, none⟩ = some (.slice (some ⟨b2, 0, none⟩) a.holds.length a.holds.length) := HXa.out.2.at_ 6
  have x7 : wa.cell? ⟨w.heap.size + 1, 7, none⟩ = some (.int .i64 a.seen) := HXa.out.2.at_ 7
  have x8 : wa.cell? ⟨w.heap.size + 1, 8, none⟩ = some (.string a.hold) := HXa.out.2.at_ 8
  have x9 : wa.cell? ⟨w.heap.size + 1, 9, none⟩ = some (.string a.to_) := HXa.out.2.at_ 9
  have x10 : wa.cell? ⟨w.heap.size + 1, 10, none⟩ = some (.slice (some ⟨b3, 0, none⟩) a.rule.verbs.length a.rule.verbs.length) := HXa.out.2.at_ 10
  have x11 : wa.cell? ⟨w.heap.size + 1, 11, none⟩ = some (.string a.rule.kind) := HXa.out.2.at_ 11
  have x12 : wa.cell? ⟨w.heap.size + 1, 12, none⟩ = some (.string a.rule.team) := HXa.out.2.at_ 12
  have x13 : wa.cell? ⟨w.heap.size + 1, 13, none⟩ = some (.string a.rule.pre) := HXa.out.2.at_ 13
  have x14 : wa.cell? ⟨w.heap.size + 1, 14, none⟩ = some (.int .i64 a.number) := HXa.out.2.at_ 14
  go_wp2_with fail
  refine HN.out.mono ?_
  rintro e w' ⟨rfl, rfl⟩
  cases q1
  · have HE : Hid (R = false) := HR.out
    clear HR HN2
    go_wp2
    go_ret
    exact ⟨Pl.ret_bool HE.out.symm, HBa.out⟩
  go_wp2_with fail
  refine (l1In_any 3 1 6 wa).mono ?_
  rintro e w' ⟨rfl, rfl⟩
  go_wp2_with fail
  refine (rest_3 a.who a.kind a.name a.team a.hold a.to_ a.rule.kind a.rule.team a.rule.pre a.seen a.number (some ⟨b1, 0, none⟩) (some ⟨b2, 0, none⟩) (some ⟨b3, 0, none⟩) a.values.length a.holds.length a.rule.verbs.length a.values.length a.holds.length a.rule.verbs.length wa).mono ?_
  rintro e wb ⟨rfl, hb⟩
  have HBb : Hid (Below w.heap.size w wb) := blw_trans HBa.out hb
  have HXb : Hid (BoxV wb w.heap.size #[.slice (some ⟨a0, 0, none⟩) L.shapes.length L.shapes.length, .slice (some ⟨a1, 0, none⟩) L.mends.length L.mends.length, .slice (some ⟨a2, 0, none⟩) L.teams.length L.teams.length] ∧ BoxV wb (w.heap.size + 1) #[.string a.who, .int .i64 a.verb, .string a.kind, .string a.name, .string a.team, .slice (some ⟨b1, 0, none⟩) a.values.length a.values.length, .slice (some ⟨b2, 0, none⟩) a.holds.length a.holds.length, .int .i64 a.seen, .string a.hold, .string a.to_, .slice (some ⟨b3, 0, none⟩) a.rule.verbs.length a.rule.verbs.length, .string a.rule.kind, .string a.rule.team, .string a.rule.pre, .int .i64 a.number]) := ⟨HXa.out.1.later hb, HXa.out.2.later hb⟩
  clear hb lz az  x0 x1 x2 x3 x4 x5 x6 x7 x8 x9 x10 x11 x12 x13 x14 HXa HBa HN
  go_wp2_with fail
  refine (HN2.out wb).mono ?_
  rintro e wc ⟨rfl, hb⟩
  have HBc : Hid (Below w.heap.size w wc) := blw_trans HBb.out hb
  have HXc : Hid (BoxV wc w.heap.size #[.slice (some ⟨a0, 0, none⟩) L.shapes.length L.shapes.length, .slice (some ⟨a1, 0, none⟩) L.mends.length L.mends.length, .slice (some ⟨a2, 0, none⟩) L.teams.length L.teams.length] ∧ BoxV wc (w.heap.size + 1) #[.string a.who, .int .i64 a.verb, .string a.kind, .string a.name, .string a.team, .slice (some ⟨b1, 0, none⟩) a.values.length a.values.length, .slice (some ⟨b2, 0, none⟩) a.holds.length a.holds.length, .int .i64 a.seen, .string a.hold, .string a.to_, .slice (some ⟨b3, 0, none⟩) a.rule.verbs.length a.rule.verbs.length, .string a.rule.kind, .string a.rule.team, .string a.rule.pre, .int .i64 a.number]) := ⟨HXb.out.1.later hb, HXb.out.2.later hb⟩
  clear hb HXb HBb HN2
  cases r3
  · have HE : Hid (R = false) := by show R = false; rw [HR.out]; simp
    clear HR
    go_wp2
    go_ret
    exact ⟨Pl.ret_bool HE.out.symm, HBc.out⟩
  have HR2 : Hid (R = (hasKind L.shapes a.kind && Pl.nameOk a.name && decide (0 ≤ a.seen))) := by show R = _; rw [HR.out]; simp
  clear HR
  have lz := HXc.out.1.lt
  have az := HXc.out.2.lt
  have l0 : wc.cell? ⟨w.heap.size, 0, none⟩ = some (.slice (some ⟨a0, 0, none⟩) L.shapes.length L.shapes.length) := HXc.out.1.at_ 0
  have x1 : wc.cell? ⟨w.heap.size + 1, 1, none⟩ = some (.int .i64 3) := by rw [← HVB.out]; exact HXc.out.2.at_ 1
  have x2 : wc.cell? ⟨w.heap.size + 1, 2, none⟩ = some (.string a.kind) := HXc.out.2.at_ 2
  have x3 : wc.cell? ⟨w.heap.size + 1, 3, none⟩ = some (.string a.name) := HXc.out.2.at_ 3
  go_wp2_with fail
  refine (l1Shape_any a0 L.shapes a.kind wc (HH.out.1.later HBc.out).s).mono ?_
  rintro e w' ⟨rfl, rfl⟩
  by_cases hk : kindAt L.shapes a.kind < L.shapes.length
  case neg =>
    have HE : Hid (R = false) := by
      show R = false
      rw [HR2.out, show hasKind L.shapes a.kind = false from decide_eq_false hk]
      simp
    rw [if_neg hk]
    clear HR2 hk
    go_wp2
    go_ret
    exact ⟨Pl.ret_bool HE.out.symm, HBc.out⟩
  rw [if_pos hk]
  obtain ⟨ki, hki⟩ : ∃ ki, ki = kindAt L.shapes a.kind := ⟨_, rfl⟩
  have HKI : Hid (hasKind L.shapes a.kind = true ∧ ki = kindAt L.shapes a.kind ∧ L.shapes.length ≤ 1048576) := ⟨decide_eq_true hk, hki, (HH.out.1).s.len⟩
  rw [← hki] at hk ⊢
  clear hki
  obtain ⟨q4, hq4⟩ : ∃ q4, q4 = Pl.nameOk a.name := ⟨_, rfl⟩
  have HN4 : Hid (Calls Tryz.prog 48 #[.string a.name] wc fun e w' => e = .returned (.bool q4) ∧ wc = w') := by rw [hq4]; exact l1NameOk_any a.name wc HZ.out.2.1
  have HR3 : Hid (R = (q4 && (decide (0 ≤ a.seen)))) := by show R = _; rw [HR2.out, HKI.out.1, hq4]; simp
  clear hq4 HR2
  have hkl := HKI.out.2.2
  go_wp2_with fail
  refine HN4.out.mono ?_
  rintro e w' ⟨rfl, rfl⟩
  clear HN4
  cases q4
  · have HE : Hid (R = false) := HR3.out
    clear HR3
    go_wp2
    go_ret
    exact ⟨Pl.ret_bool HE.out.symm, HBc.out⟩
  have HR4 : Hid (R = (decide (0 ≤ a.seen))) := HR3.out
  clear HR3 lz az l0 x1 x2 x3
  have lz := HXc.out.1.lt
  have az := HXc.out.2.lt
  have x1 : wc.cell? ⟨w.heap.size + 1, 1, none⟩ = some (.int .i64 3) := by rw [← HVB.out]; exact HXc.out.2.at_ 1
  have x7 : wc.cell? ⟨w.heap.size + 1, 7, none⟩ = some (.int .i64 a.seen) := HXc.out.2.at_ 7
  go_wp2
  go_ret
  exact ⟨Pl.ret_bool HR4.out.symm, HBc.out⟩

end Go.Proofs.YtkjkklcflpchlaaGreat

namespace Go.Proofs.YtkjkklcflpchlaaGreat
open Go.RowKit Go.Deep

set_option maxRecDepth 8000 in
set_option maxHeartbeats 8000000 in
theorem askS5 (L : Lw) (a : Ak) (a0 a1 a2 b1 b2 b3 NF : Nat) (w : World) (hL : LwIn w a0 a1 a2 L) (h : AkIn w b1 b2 b3 a) (hv : a.verb = 5) (hNF : NF = (L.shapes.getD (kindAt L.shapes a.kind) Shp.none).fields.length) :
    Calls Tryz.prog 24 #[.agg #[.slice (some ⟨a0, 0, none⟩) L.shapes.length L.shapes.length, .slice (some ⟨a1, 0, none⟩) L.mends.length L.mends.length, .slice (some ⟨a2, 0, none⟩) L.teams.length L.teams.length], .agg #[.string a.who, .int .i64 a.verb, .string a.kind, .string a.name, .string a.team, .slice (some ⟨b1, 0, none⟩) a.values.length a.values.length, .slice (some ⟨b2, 0, none⟩) a.holds.length a.holds.length, .int .i64 a.seen, .string a.hold, .string a.to_, .slice (some ⟨b3, 0, none⟩) a.rule.verbs.length a.rule.verbs.length, .string a.rule.kind, .string a.rule.team, .string a.rule.pre, .int .i64 a.number]] w fun e w' => e = .returned (.bool (askB L a NF)) ∧ Below w.heap.size w w' := by
  obtain ⟨wa, hwa⟩ : ∃ wa, wa = (w.alloc (.cells #[.slice (some ⟨a0, 0, none⟩) L.shapes.length L.shapes.length, .slice (some ⟨a1, 0, none⟩) L.mends.length L.mends.length, .slice (some ⟨a2, 0, none⟩) L.teams.length L.teams.length] 40)).alloc (.cells #[.string a.who, .int .i64 a.verb, .string a.kind, .string a.name, .string a.team, .slice (some ⟨b1, 0, none⟩) a.values.length a.values.length, .slice (some ⟨b2, 0, none⟩) a.holds.length a.holds.length, .int .i64 a.seen, .string a.hold, .string a.to_, .slice (some ⟨b3, 0, none⟩) a.rule.verbs.length a.rule.verbs.length, .string a.rule.kind, .string a.rule.team, .string a.rule.pre, .int .i64 a.number] 44) := ⟨_, rfl⟩
  have HBa : Hid (Below w.heap.size w wa) := by show Below _ _ _; rw [hwa]; exact blw_alloc (blw_alloc (Below.refl _ _) _) _
  have HXa : Hid (BoxV wa w.heap.size #[.slice (some ⟨a0, 0, none⟩) L.shapes.length L.shapes.length, .slice (some ⟨a1, 0, none⟩) L.mends.length L.mends.length, .slice (some ⟨a2, 0, none⟩) L.teams.length L.teams.length] ∧ BoxV wa (w.heap.size + 1) #[.string a.who, .int .i64 a.verb, .string a.kind, .string a.name, .string a.team, .slice (some ⟨b1, 0, none⟩) a.values.length a.values.length, .slice (some ⟨b2, 0, none⟩) a.holds.length a.holds.length, .int .i64 a.seen, .string a.hold, .string a.to_, .slice (some ⟨b3, 0, none⟩) a.rule.verbs.length a.rule.verbs.length, .string a.rule.kind, .string a.rule.team, .string a.rule.pre, .int .i64 a.number]) := by show _ ∧ _; rw [hwa]; exact ⟨(BoxV.new' _ _ _ _ rfl).past _, BoxV.new' _ _ _ _ (by simp)⟩
  have HH : Hid (LwIn w a0 a1 a2 L ∧ AkIn w b1 b2 b3 a) := ⟨hL, h⟩
  have HVB : Hid (a.verb = 5) := hv
  have HNF : Hid (NF = (L.shapes.getD (kindAt L.shapes a.kind) Shp.none).fields.length) := hNF
  obtain ⟨z1, z2, z3, z4, z5, z6, z7, z8⟩ := h.sized
  have HZ : Hid (a.who.size ≤ maxLen ∧ a.name.size ≤ maxLen ∧ a.hold.size ≤ maxLen ∧ a.to_.size ≤ maxLen ∧ a.rule.sized) := ⟨z1, z3, z5, z6, z8⟩
  obtain ⟨q1, hq1⟩ : ∃ q1, q1 = Pl.nameOk a.who := ⟨_, rfl⟩
  obtain ⟨r3, hr3⟩ : ∃ r3, r3 = noneSet 384 (setsOf a) := ⟨_, rfl⟩
  obtain ⟨R, hR⟩ : ∃ R, R = askB L a NF := ⟨_, rfl⟩
  have HR : Hid (R = (q1 && ((Pl.nameOk a.to_ && ruleOk a.rule) && r3))) := by
    show R = _
    rw [hR, hq1, hr3]
    unfold askB
    rw [hv, show within 5 1 6 = true from rfl, show usesOf 5 = 384 from rfl, show oksOf L a NF = [hasKind L.shapes a.kind, Pl.nameOk a.name, isTeam L.teams a.team, ((a.values.length : Int) == (NF : Int)), (decide (a.holds.length ≤ 3) && Pl.asc a.holds), decide (0 ≤ a.seen), Pl.nameOk a.hold, Pl.nameOk a.to_, ruleOk a.rule, decide (1 ≤ a.number)] from rfl, rB5, Bool.and_true]
  have HN : Hid (Calls Tryz.prog 48 #[.string a.who] wa fun e w' => e = .returned (.bool q1) ∧ wa = w') := by rw [hq1]; exact l1NameOk_any a.who wa z1
  have HN2 : Hid (∀ W, Calls Tryz.prog 50 #[.agg #[.string ⟨#[]⟩, .int .i64 5, .string a.kind, .string a.name, .string a.team, .slice (some ⟨b1, 0, none⟩) a.values.length a.values.length, .slice (some ⟨b2, 0, none⟩) a.holds.length a.holds.length, .int .i64 a.seen, .string a.hold, .string ⟨#[]⟩, .slice none 0 0, .string ⟨#[]⟩, .string ⟨#[]⟩, .string ⟨#[]⟩, .int .i64 a.number]] W fun e w' => e = .returned (.bool r3) ∧ Below W.heap.size W w') := fun W => by
    have := nothingS ⟨#[]⟩ a.kind a.name a.team a.hold ⟨#[]⟩ ⟨#[]⟩ ⟨#[]⟩ ⟨#[]⟩ 5 a.seen a.number (some ⟨b1, 0, none⟩) (some ⟨b2, 0, none⟩) none a.values.length a.holds.length 0 a.values.length a.holds.length 0 W
    rw [nothing_5 a, ← hr3] at this
    exact this
  rw [← hR]
  clear hL h hv hNF z1 z2 z3 z4 z5 z6 z7 z8 hq1 hr3 hR
  go_enter Tryz.func24, Tryz.ntmps24
  go_upto_region 1 with fail
  rw [← hwa]
  clear hwa
  have lz := HXa.out.1.lt
  have az := HXa.out.2.lt
  have x0 : wa.cell? ⟨w.heap.size + 1, 0, none⟩ = some (.string a.who) := HXa.out.2.at_ 0
  have x1 : wa.cell? ⟨w.heap.size + 1, 1, none⟩ = some (.int .i64 5) := by rw [← HVB.out]; exact HXa.out.2.at_ 1
  have x2 : wa.cell? ⟨w.heap.size + 1, 2, none⟩ = some (.string a.kind) := HXa.out.2.at_ 2
  have x3 : wa.cell? ⟨w.heap.size + 1, 3, none⟩ = some (.string a.name) := HXa.out.2.at_ 3
  have x4 : wa.cell? ⟨w.heap.size + 1, 4, none⟩ = some (.string a.team) := HXa.out.2.at_ 4
  have x5 : wa.cell? ⟨w.heap.size + 1, 5, none⟩ = some (.slice (some ⟨b1, 0, none⟩) a.values.length a.values.length) := HXa.out.2.at_ 5
  have x6 : wa.cell? ⟨w.heap.size + 1, 6, none⟩ = some (.slice (some ⟨b2, 0, none⟩) a.holds.length a.holds.length) := HXa.out.2.at_ 6
  have x7 : wa.cell? ⟨w.heap.size + 1, 7, none⟩ = some (.int .i64 a.seen) := HXa.out.2.at_ 7
  have x8 : wa.cell? ⟨w.heap.size + 1, 8, none⟩ = some (.string a.hold) := HXa.out.2.at_ 8
  have x9 : wa.cell? ⟨w.heap.size + 1, 9, none⟩ = some (.string a.to_) := HXa.out.2.at_ 9
  have x10 : wa.cell? ⟨w.heap.size + 1, 10, none⟩ = some (.slice (some ⟨b3, 0, none⟩) a.rule.verbs.length a.rule.verbs.length) := HXa.out.2.at_ 10
  have x11 : wa.cell? ⟨w.heap.size + 1, 11, none⟩ = some (.string a.rule.kind) := HXa.out.2.at_ 11
  have x12 : wa.cell? ⟨w.heap.size + 1, 12, none⟩ = some (.string a.rule.team) := HXa.out.2.at_ 12
  have x13 : wa.cell? ⟨w.heap.size + 1, 13, none⟩ = some (.string a.rule.pre) := HXa.out.2.at_ 13
  have x14 : wa.cell? ⟨w.heap.size + 1, 14, none⟩ = some (.int .i64 a.number) := HXa.out.2.at_ 14
  go_wp2_with fail
  refine HN.out.mono ?_
  rintro e w' ⟨rfl, rfl⟩
  cases q1
  · have HE : Hid (R = false) := HR.out
    clear HR HN2
    go_wp2
    go_ret
    exact ⟨Pl.ret_bool HE.out.symm, HBa.out⟩
  go_wp2_with fail
  refine (l1In_any 5 1 6 wa).mono ?_
  rintro e w' ⟨rfl, rfl⟩
  go_wp2_with fail
  refine (rest_5 a.who a.kind a.name a.team a.hold a.to_ a.rule.kind a.rule.team a.rule.pre a.seen a.number (some ⟨b1, 0, none⟩) (some ⟨b2, 0, none⟩) (some ⟨b3, 0, none⟩) a.values.length a.holds.length a.rule.verbs.length a.values.length a.holds.length a.rule.verbs.length wa).mono ?_
  rintro e wb ⟨rfl, hb⟩
  have HBb : Hid (Below w.heap.size w wb) := blw_trans HBa.out hb
  have HXb : Hid (BoxV wb w.heap.size #[.slice (some ⟨a0, 0, none⟩) L.shapes.length L.shapes.length, .slice (some ⟨a1, 0, none⟩) L.mends.length L.mends.length, .slice (some ⟨a2, 0, none⟩) L.teams.length L.teams.length] ∧ BoxV wb (w.heap.size + 1) #[.string a.who, .int .i64 a.verb, .string a.kind, .string a.name, .string a.team, .slice (some ⟨b1, 0, none⟩) a.values.length a.values.length, .slice (some ⟨b2, 0, none⟩) a.holds.length a.holds.length, .int .i64 a.seen, .string a.hold, .string a.to_, .slice (some ⟨b3, 0, none⟩) a.rule.verbs.length a.rule.verbs.length, .string a.rule.kind, .string a.rule.team, .string a.rule.pre, .int .i64 a.number]) := ⟨HXa.out.1.later hb, HXa.out.2.later hb⟩
  clear hb lz az  x0 x1 x2 x3 x4 x5 x6 x7 x8 x9 x10 x11 x12 x13 x14 HXa HBa HN
  go_wp2_with fail
  refine (HN2.out wb).mono ?_
  rintro e wc ⟨rfl, hb⟩
  have HBc : Hid (Below w.heap.size w wc) := blw_trans HBb.out hb
  have HXc : Hid (BoxV wc w.heap.size #[.slice (some ⟨a0, 0, none⟩) L.shapes.length L.shapes.length, .slice (some ⟨a1, 0, none⟩) L.mends.length L.mends.length, .slice (some ⟨a2, 0, none⟩) L.teams.length L.teams.length] ∧ BoxV wc (w.heap.size + 1) #[.string a.who, .int .i64 a.verb, .string a.kind, .string a.name, .string a.team, .slice (some ⟨b1, 0, none⟩) a.values.length a.values.length, .slice (some ⟨b2, 0, none⟩) a.holds.length a.holds.length, .int .i64 a.seen, .string a.hold, .string a.to_, .slice (some ⟨b3, 0, none⟩) a.rule.verbs.length a.rule.verbs.length, .string a.rule.kind, .string a.rule.team, .string a.rule.pre, .int .i64 a.number]) := ⟨HXb.out.1.later hb, HXb.out.2.later hb⟩
  clear hb HXb HBb HN2
  cases r3
  · have HE : Hid (R = false) := by show R = false; rw [HR.out]; simp
    clear HR
    go_wp2
    go_ret
    exact ⟨Pl.ret_bool HE.out.symm, HBc.out⟩
  have HR2 : Hid (R = (Pl.nameOk a.to_ && ruleOk a.rule)) := by show R = _; rw [HR.out]; simp
  clear HR
  have lz := HXc.out.1.lt
  have az := HXc.out.2.lt
  have l0 : wc.cell? ⟨w.heap.size, 0, none⟩ = some (.slice (some ⟨a0, 0, none⟩) L.shapes.length L.shapes.length) := HXc.out.1.at_ 0
  have x1 : wc.cell? ⟨w.heap.size + 1, 1, none⟩ = some (.int .i64 5) := by rw [← HVB.out]; exact HXc.out.2.at_ 1
  have x2 : wc.cell? ⟨w.heap.size + 1, 2, none⟩ = some (.string a.kind) := HXc.out.2.at_ 2
  go_wp2_with fail
  refine (l1Shape_any a0 L.shapes a.kind wc (HH.out.1.later HBc.out).s).mono ?_
  rintro e w' ⟨rfl, rfl⟩
  obtain ⟨ki, hki⟩ : ∃ ki : Int, ki = (if kindAt L.shapes a.kind < L.shapes.length then (kindAt L.shapes a.kind : Int) else -1) := ⟨_, rfl⟩
  rw [← hki]
  clear hki
  have HR4 : Hid (R = (Pl.nameOk a.to_ && ruleOk a.rule)) := HR2.out
  clear HR2 lz az l0 x1 x2
  have lz := HXc.out.1.lt
  have az := HXc.out.2.lt
  have x1 : wc.cell? ⟨w.heap.size + 1, 1, none⟩ = some (.int .i64 5) := by rw [← HVB.out]; exact HXc.out.2.at_ 1
  have x9 : wc.cell? ⟨w.heap.size + 1, 9, none⟩ = some (.string a.to_) := HXc.out.2.at_ 9
  have x10 : wc.cell? ⟨w.heap.size + 1, 10, none⟩ = some (.slice (some ⟨b3, 0, none⟩) a.rule.verbs.length a.rule.verbs.length) := HXc.out.2.at_ 10
  have x11 : wc.cell? ⟨w.heap.size + 1, 11, none⟩ = some (.string a.rule.kind) := HXc.out.2.at_ 11
  have x12 : wc.cell? ⟨w.heap.size + 1, 12, none⟩ = some (.string a.rule.team) := HXc.out.2.at_ 12
  have x13 : wc.cell? ⟨w.heap.size + 1, 13, none⟩ = some (.string a.rule.pre) := HXc.out.2.at_ 13
  obtain ⟨q5, hq5⟩ : ∃ q5, q5 = Pl.nameOk a.to_ := ⟨_, rfl⟩
  have HN5 : Hid (Calls Tryz.prog 48 #[.string a.to_] wc fun e w' => e = .returned (.bool q5) ∧ wc = w') := by rw [hq5]; exact l1NameOk_any a.to_ wc HZ.out.2.2.2.1
  have HR5 : Hid (R = (q5 && ruleOk a.rule)) := by show R = _; rw [HR4.out, hq5]
  clear hq5 HR4
  go_wp2_with fail
  refine HN5.out.mono ?_
  rintro e w' ⟨rfl, rfl⟩
  clear HN5
  cases q5
  · have HE : Hid (R = false) := HR5.out
    clear HR5
    go_wp2
    go_ret
    exact ⟨Pl.ret_bool HE.out.symm, HBc.out⟩
  have HE : Hid (R = ruleOk a.rule) := HR5.out
  clear HR5
  go_wp2_with fail
  refine (l4RuleOk b3 a.rule wc (HH.out.2.later HBc.out).n HZ.out.2.2.2.2).mono ?_
  rintro e wd ⟨rfl, hb⟩
  have HBd : Hid (Below w.heap.size w wd) := blw_trans HBc.out hb
  clear hb lz az  x1 x9 x10 x11 x12 x13
  rw [← HE.out]
  go_wp2
  go_ret
  exact ⟨rfl, HBd.out⟩

end Go.Proofs.YtkjkklcflpchlaaGreat

namespace Go.Proofs.YtkjkklcflpchlaaGreat
open Go.RowKit Go.Deep

set_option maxRecDepth 8000 in
set_option maxHeartbeats 8000000 in
theorem askS6 (L : Lw) (a : Ak) (a0 a1 a2 b1 b2 b3 NF : Nat) (w : World) (hL : LwIn w a0 a1 a2 L) (h : AkIn w b1 b2 b3 a) (hv : a.verb = 6) (hNF : NF = (L.shapes.getD (kindAt L.shapes a.kind) Shp.none).fields.length) :
    Calls Tryz.prog 24 #[.agg #[.slice (some ⟨a0, 0, none⟩) L.shapes.length L.shapes.length, .slice (some ⟨a1, 0, none⟩) L.mends.length L.mends.length, .slice (some ⟨a2, 0, none⟩) L.teams.length L.teams.length], .agg #[.string a.who, .int .i64 a.verb, .string a.kind, .string a.name, .string a.team, .slice (some ⟨b1, 0, none⟩) a.values.length a.values.length, .slice (some ⟨b2, 0, none⟩) a.holds.length a.holds.length, .int .i64 a.seen, .string a.hold, .string a.to_, .slice (some ⟨b3, 0, none⟩) a.rule.verbs.length a.rule.verbs.length, .string a.rule.kind, .string a.rule.team, .string a.rule.pre, .int .i64 a.number]] w fun e w' => e = .returned (.bool (askB L a NF)) ∧ Below w.heap.size w w' := by
  obtain ⟨wa, hwa⟩ : ∃ wa, wa = (w.alloc (.cells #[.slice (some ⟨a0, 0, none⟩) L.shapes.length L.shapes.length, .slice (some ⟨a1, 0, none⟩) L.mends.length L.mends.length, .slice (some ⟨a2, 0, none⟩) L.teams.length L.teams.length] 40)).alloc (.cells #[.string a.who, .int .i64 a.verb, .string a.kind, .string a.name, .string a.team, .slice (some ⟨b1, 0, none⟩) a.values.length a.values.length, .slice (some ⟨b2, 0, none⟩) a.holds.length a.holds.length, .int .i64 a.seen, .string a.hold, .string a.to_, .slice (some ⟨b3, 0, none⟩) a.rule.verbs.length a.rule.verbs.length, .string a.rule.kind, .string a.rule.team, .string a.rule.pre, .int .i64 a.number] 44) := ⟨_, rfl⟩
  have HBa : Hid (Below w.heap.size w wa) := by show Below _ _ _; rw [hwa]; exact blw_alloc (blw_alloc (Below.refl _ _) _) _
  have HXa : Hid (BoxV wa w.heap.size #[.slice (some ⟨a0, 0, none⟩) L.shapes.length L.shapes.length, .slice (some ⟨a1, 0, none⟩) L.mends.length L.mends.length, .slice (some ⟨a2, 0, none⟩) L.teams.length L.teams.length] ∧ BoxV wa (w.heap.size + 1) #[.string a.who, .int .i64 a.verb, .string a.kind, .string a.name, .string a.team, .slice (some ⟨b1, 0, none⟩) a.values.length a.values.length, .slice (some ⟨b2, 0, none⟩) a.holds.length a.holds.length, .int .i64 a.seen, .string a.hold, .string a.to_, .slice (some ⟨b3, 0, none⟩) a.rule.verbs.length a.rule.verbs.length, .string a.rule.kind, .string a.rule.team, .string a.rule.pre, .int .i64 a.number]) := by show _ ∧ _; rw [hwa]; exact ⟨(BoxV.new' _ _ _ _ rfl).past _, BoxV.new' _ _ _ _ (by simp)⟩
  have HH : Hid (LwIn w a0 a1 a2 L ∧ AkIn w b1 b2 b3 a) := ⟨hL, h⟩
  have HVB : Hid (a.verb = 6) := hv
  have HNF : Hid (NF = (L.shapes.getD (kindAt L.shapes a.kind) Shp.none).fields.length) := hNF
  obtain ⟨z1, z2, z3, z4, z5, z6, z7, z8⟩ := h.sized
  have HZ : Hid (a.who.size ≤ maxLen ∧ a.name.size ≤ maxLen ∧ a.hold.size ≤ maxLen ∧ a.to_.size ≤ maxLen ∧ a.rule.sized) := ⟨z1, z3, z5, z6, z8⟩
  obtain ⟨q1, hq1⟩ : ∃ q1, q1 = Pl.nameOk a.who := ⟨_, rfl⟩
  obtain ⟨r3, hr3⟩ : ∃ r3, r3 = noneSet 512 (setsOf a) := ⟨_, rfl⟩
  obtain ⟨R, hR⟩ : ∃ R, R = askB L a NF := ⟨_, rfl⟩
  have HR : Hid (R = (q1 && ((decide (1 ≤ a.number)) && r3))) := by
    show R = _
    rw [hR, hq1, hr3]
    unfold askB
    rw [hv, show within 6 1 6 = true from rfl, show usesOf 6 = 512 from rfl, show oksOf L a NF = [hasKind L.shapes a.kind, Pl.nameOk a.name, isTeam L.teams a.team, ((a.values.length : Int) == (NF : Int)), (decide (a.holds.length ≤ 3) && Pl.asc a.holds), decide (0 ≤ a.seen), Pl.nameOk a.hold, Pl.nameOk a.to_, ruleOk a.rule, decide (1 ≤ a.number)] from rfl, rB6, Bool.and_true]
  have HN : Hid (Calls Tryz.prog 48 #[.string a.who] wa fun e w' => e = .returned (.bool q1) ∧ wa = w') := by rw [hq1]; exact l1NameOk_any a.who wa z1
  have HN2 : Hid (∀ W, Calls Tryz.prog 50 #[.agg #[.string ⟨#[]⟩, .int .i64 6, .string a.kind, .string a.name, .string a.team, .slice (some ⟨b1, 0, none⟩) a.values.length a.values.length, .slice (some ⟨b2, 0, none⟩) a.holds.length a.holds.length, .int .i64 a.seen, .string a.hold, .string a.to_, .slice (some ⟨b3, 0, none⟩) a.rule.verbs.length a.rule.verbs.length, .string a.rule.kind, .string a.rule.team, .string a.rule.pre, .int .i64 0]] W fun e w' => e = .returned (.bool r3) ∧ Below W.heap.size W w') := fun W => by
    have := nothingS ⟨#[]⟩ a.kind a.name a.team a.hold a.to_ a.rule.kind a.rule.team a.rule.pre 6 a.seen 0 (some ⟨b1, 0, none⟩) (some ⟨b2, 0, none⟩) (some ⟨b3, 0, none⟩) a.values.length a.holds.length a.rule.verbs.length a.values.length a.holds.length a.rule.verbs.length W
    rw [nothing_6 a, ← hr3] at this
    exact this
  rw [← hR]
  clear hL h hv hNF z1 z2 z3 z4 z5 z6 z7 z8 hq1 hr3 hR
  go_enter Tryz.func24, Tryz.ntmps24
  go_upto_region 1 with fail
  rw [← hwa]
  clear hwa
  have lz := HXa.out.1.lt
  have az := HXa.out.2.lt
  have x0 : wa.cell? ⟨w.heap.size + 1, 0, none⟩ = some (.string a.who) := HXa.out.2.at_ 0
  have x1 : wa.cell? ⟨w.heap.size + 1, 1, none⟩ = some (.int .i64 6) := by rw [← HVB.out]; exact HXa.out.2.at_ 1
  have x2 : wa.cell? ⟨w.heap.size + 1, 2, none⟩ = some (.string a.kind) := HXa.out.2.at_ 2
  have x3 : wa.cell? ⟨w.heap.size + 1, 3, none⟩ = some (.string a.name) := HXa.out.2.at_ 3
  have x4 : wa.cell? ⟨w.heap.size + 1, 4, none⟩ = some (.string a.team) := HXa.out.2.at_ 4
  have x5 : wa.cell? ⟨w.heap.size + 1, 5, none⟩ = some (.slice (some ⟨b1, 0, none⟩) a.values.length a.values.length) := HXa.out.2.at_ 5
  have x6 : wa.cell? ⟨w.heap.size + 1, 6, none⟩ = some (.slice (some ⟨b2, 0, none⟩) a.holds.length a.holds.length) := HXa.out.2.at_ 6
  have x7 : wa.cell? ⟨w.heap.size + 1, 7, none⟩ = some (.int .i64 a.seen) := HXa.out.2.at_ 7
  have x8 : wa.cell? ⟨w.heap.size + 1, 8, none⟩ = some (.string a.hold) := HXa.out.2.at_ 8
  have x9 : wa.cell? ⟨w.heap.size + 1, 9, none⟩ = some (.string a.to_) := HXa.out.2.at_ 9
  have x10 : wa.cell? ⟨w.heap.size + 1, 10, none⟩ = some (.slice (some ⟨b3, 0, none⟩) a.rule.verbs.length a.rule.verbs.length) := HXa.out.2.at_ 10
  have x11 : wa.cell? ⟨w.heap.size + 1, 11, none⟩ = some (.string a.rule.kind) := HXa.out.2.at_ 11
  have x12 : wa.cell? ⟨w.heap.size + 1, 12, none⟩ = some (.string a.rule.team) := HXa.out.2.at_ 12
  have x13 : wa.cell? ⟨w.heap.size + 1, 13, none⟩ = some (.string a.rule.pre) := HXa.out.2.at_ 13
  have x14 : wa.cell? ⟨w.heap.size + 1, 14, none⟩ = some (.int .i64 a.number) := HXa.out.2.at_ 14
  go_wp2_with fail
  refine HN.out.mono ?_
  rintro e w' ⟨rfl, rfl⟩
  cases q1
  · have HE : Hid (R = false) := HR.out
    clear HR HN2
    go_wp2
    go_ret
    exact ⟨Pl.ret_bool HE.out.symm, HBa.out⟩
  go_wp2_with fail
  refine (l1In_any 6 1 6 wa).mono ?_
  rintro e w' ⟨rfl, rfl⟩
  go_wp2_with fail
  refine (rest_6 a.who a.kind a.name a.team a.hold a.to_ a.rule.kind a.rule.team a.rule.pre a.seen a.number (some ⟨b1, 0, none⟩) (some ⟨b2, 0, none⟩) (some ⟨b3, 0, none⟩) a.values.length a.holds.length a.rule.verbs.length a.values.length a.holds.length a.rule.verbs.length wa).mono ?_
  rintro e wb ⟨rfl, hb⟩
  have HBb : Hid (Below w.heap.size w wb) := blw_trans HBa.out hb
  have HXb : Hid (BoxV wb w.heap.size #[.slice (some ⟨a0, 0, none⟩) L.shapes.length L.shapes.length, .slice (some ⟨a1, 0, none⟩) L.mends.length L.mends.length, .slice (some ⟨a2, 0, none⟩) L.teams.length L.teams.length] ∧ BoxV wb (w.heap.size + 1) #[.string a.who, .int .i64 a.verb, .string a.kind, .string a.name, .string a.team, .slice (some ⟨b1, 0, none⟩) a.values.length a.values.length, .slice (some ⟨b2, 0, none⟩) a.holds.length a.holds.length, .int .i64 a.seen, .string a.hold, .string a.to_, .slice (some ⟨b3, 0, none⟩) a.rule.verbs.length a.rule.verbs.length, .string a.rule.kind, .string a.rule.team, .string a.rule.pre, .int .i64 a.number]) := ⟨HXa.out.1.later hb, HXa.out.2.later hb⟩
  clear hb lz az  x0 x1 x2 x3 x4 x5 x6 x7 x8 x9 x10 x11 x12 x13 x14 HXa HBa HN
  go_wp2_with fail
  refine (HN2.out wb).mono ?_
  rintro e wc ⟨rfl, hb⟩
  have HBc : Hid (Below w.heap.size w wc) := blw_trans HBb.out hb
  have HXc : Hid (BoxV wc w.heap.size #[.slice (some ⟨a0, 0, none⟩) L.shapes.length L.shapes.length, .slice (some ⟨a1, 0, none⟩) L.mends.length L.mends.length, .slice (some ⟨a2, 0, none⟩) L.teams.length L.teams.length] ∧ BoxV wc (w.heap.size + 1) #[.string a.who, .int .i64 a.verb, .string a.kind, .string a.name, .string a.team, .slice (some ⟨b1, 0, none⟩) a.values.length a.values.length, .slice (some ⟨b2, 0, none⟩) a.holds.length a.holds.length, .int .i64 a.seen, .string a.hold, .string a.to_, .slice (some ⟨b3, 0, none⟩) a.rule.verbs.length a.rule.verbs.length, .string a.rule.kind, .string a.rule.team, .string a.rule.pre, .int .i64 a.number]) := ⟨HXb.out.1.later hb, HXb.out.2.later hb⟩
  clear hb HXb HBb HN2
  cases r3
  · have HE : Hid (R = false) := by show R = false; rw [HR.out]; simp
    clear HR
    go_wp2
    go_ret
    exact ⟨Pl.ret_bool HE.out.symm, HBc.out⟩
  have HR2 : Hid (R = (decide (1 ≤ a.number))) := by show R = _; rw [HR.out]; simp
  clear HR
  have lz := HXc.out.1.lt
  have az := HXc.out.2.lt
  have l0 : wc.cell? ⟨w.heap.size, 0, none⟩ = some (.slice (some ⟨a0, 0, none⟩) L.shapes.length L.shapes.length) := HXc.out.1.at_ 0
  have x1 : wc.cell? ⟨w.heap.size + 1, 1, none⟩ = some (.int .i64 6) := by rw [← HVB.out]; exact HXc.out.2.at_ 1
  have x2 : wc.cell? ⟨w.heap.size + 1, 2, none⟩ = some (.string a.kind) := HXc.out.2.at_ 2
  go_wp2_with fail
  refine (l1Shape_any a0 L.shapes a.kind wc (HH.out.1.later HBc.out).s).mono ?_
  rintro e w' ⟨rfl, rfl⟩
  obtain ⟨ki, hki⟩ : ∃ ki : Int, ki = (if kindAt L.shapes a.kind < L.shapes.length then (kindAt L.shapes a.kind : Int) else -1) := ⟨_, rfl⟩
  rw [← hki]
  clear hki
  have HR4 : Hid (R = (decide (1 ≤ a.number))) := HR2.out
  clear HR2 lz az l0 x1 x2
  have lz := HXc.out.1.lt
  have az := HXc.out.2.lt
  have x1 : wc.cell? ⟨w.heap.size + 1, 1, none⟩ = some (.int .i64 6) := by rw [← HVB.out]; exact HXc.out.2.at_ 1
  have x14 : wc.cell? ⟨w.heap.size + 1, 14, none⟩ = some (.int .i64 a.number) := HXc.out.2.at_ 14
  go_wp2
  go_ret
  exact ⟨Pl.ret_bool HR4.out.symm, HBc.out⟩

end Go.Proofs.YtkjkklcflpchlaaGreat

namespace Go.Proofs.YtkjkklcflpchlaaGreat
open Go.RowKit Go.Deep

theorem askB_same (L : Lw) (a : Ak) (n m : Nat) (h : hasKind L.shapes a.kind = true → n = m) : askB L a n = askB L a m := by
  cases hk : hasKind L.shapes a.kind
  · unfold askB
    rw [show oksOf L a n = [hasKind L.shapes a.kind, Pl.nameOk a.name, isTeam L.teams a.team, ((a.values.length : Int) == (n : Int)), (decide (a.holds.length ≤ 3) && Pl.asc a.holds), decide (0 ≤ a.seen), Pl.nameOk a.hold, Pl.nameOk a.to_, ruleOk a.rule, decide (1 ≤ a.number)] from rfl, show oksOf L a m = [hasKind L.shapes a.kind, Pl.nameOk a.name, isTeam L.teams a.team, ((a.values.length : Int) == (m : Int)), (decide (a.holds.length ≤ 3) && Pl.asc a.holds), decide (0 ≤ a.seen), Pl.nameOk a.hold, Pl.nameOk a.to_, ruleOk a.rule, decide (1 ≤ a.number)] from rfl, hk]
    unfold usesOf
    split
    · rw [rB1, rB1]; simp
    split
    · rw [rB2, rB2]; simp
    split
    · rw [rB3, rB3]
    split
    · rw [rB4, rB4]
    split
    · rw [rB5, rB5]
    · rw [rB6, rB6]
  · rw [h hk]

def kindFields (L : Lw) (a : Ak) : Nat := (L.shapes.getD (kindAt L.shapes a.kind) Shp.none).fields.length
def askOkB (L : Lw) (a : Ak) : Bool := lawOk L && askB L a (kindFields L a)

set_option maxRecDepth 8000 in
set_option maxHeartbeats 4000000 in
theorem l8AskS (L : Lw) (a : Ak) (a0 a1 a2 b1 b2 b3 : Nat) (w : World) (hL : LwIn w a0 a1 a2 L) (h : AkIn w b1 b2 b3 a) :
    Calls Tryz.prog 24 #[.agg #[.slice (some ⟨a0, 0, none⟩) L.shapes.length L.shapes.length, .slice (some ⟨a1, 0, none⟩) L.mends.length L.mends.length, .slice (some ⟨a2, 0, none⟩) L.teams.length L.teams.length], .agg #[.string a.who, .int .i64 a.verb, .string a.kind, .string a.name, .string a.team, .slice (some ⟨b1, 0, none⟩) a.values.length a.values.length, .slice (some ⟨b2, 0, none⟩) a.holds.length a.holds.length, .int .i64 a.seen, .string a.hold, .string a.to_, .slice (some ⟨b3, 0, none⟩) a.rule.verbs.length a.rule.verbs.length, .string a.rule.kind, .string a.rule.team, .string a.rule.pre, .int .i64 a.number]] w fun e w' => e = .returned (.bool (askB L a (kindFields L a))) ∧ Below w.heap.size w w' := by
  by_cases h1 : a.verb = 1
  · exact askS1 L a a0 a1 a2 b1 b2 b3 _ w hL h h1 rfl
  by_cases h2 : a.verb = 2
  · exact askS2 L a a0 a1 a2 b1 b2 b3 _ w hL h h2 rfl
  by_cases h3 : a.verb = 3
  · exact askS3 L a a0 a1 a2 b1 b2 b3 _ w hL h h3 rfl
  by_cases h4 : a.verb = 4
  · exact askS4 L a a0 a1 a2 b1 b2 b3 _ w hL h h4 rfl
  by_cases h5 : a.verb = 5
  · exact askS5 L a a0 a1 a2 b1 b2 b3 _ w hL h h5 rfl
  by_cases h6 : a.verb = 6
  · exact askS6 L a a0 a1 a2 b1 b2 b3 _ w hL h h6 rfl
  have hin : (decide ((1 : Int) ≤ a.verb) && decide (a.verb ≤ 6)) = false := by
    rw [Bool.eq_false_iff]
    intro e
    simp only [Bool.and_eq_true, decide_eq_true_eq] at e
    omega
  have hF : askB L a (kindFields L a) = false := by
    unfold askB within
    rw [hin]
    simp
  obtain ⟨wa, hwa⟩ : ∃ wa, wa = (w.alloc (.cells #[.slice (some ⟨a0, 0, none⟩) L.shapes.length L.shapes.length, .slice (some ⟨a1, 0, none⟩) L.mends.length L.mends.length, .slice (some ⟨a2, 0, none⟩) L.teams.length L.teams.length] 40)).alloc (.cells #[.string a.who, .int .i64 a.verb, .string a.kind, .string a.name, .string a.team, .slice (some ⟨b1, 0, none⟩) a.values.length a.values.length, .slice (some ⟨b2, 0, none⟩) a.holds.length a.holds.length, .int .i64 a.seen, .string a.hold, .string a.to_, .slice (some ⟨b3, 0, none⟩) a.rule.verbs.length a.rule.verbs.length, .string a.rule.kind, .string a.rule.team, .string a.rule.pre, .int .i64 a.number] 44) := ⟨_, rfl⟩
  have HBa : Hid (Below w.heap.size w wa) := by show Below _ _ _; rw [hwa]; exact blw_alloc (blw_alloc (Below.refl _ _) _) _
  have HXa : Hid (BoxV wa w.heap.size #[.slice (some ⟨a0, 0, none⟩) L.shapes.length L.shapes.length, .slice (some ⟨a1, 0, none⟩) L.mends.length L.mends.length, .slice (some ⟨a2, 0, none⟩) L.teams.length L.teams.length] ∧ BoxV wa (w.heap.size + 1) #[.string a.who, .int .i64 a.verb, .string a.kind, .string a.name, .string a.team, .slice (some ⟨b1, 0, none⟩) a.values.length a.values.length, .slice (some ⟨b2, 0, none⟩) a.holds.length a.holds.length, .int .i64 a.seen, .string a.hold, .string a.to_, .slice (some ⟨b3, 0, none⟩) a.rule.verbs.length a.rule.verbs.length, .string a.rule.kind, .string a.rule.team, .string a.rule.pre, .int .i64 a.number]) := by show _ ∧ _; rw [hwa]; exact ⟨(BoxV.new' _ _ _ _ rfl).past _, BoxV.new' _ _ _ _ (by simp)⟩
  have HH : Hid (LwIn w a0 a1 a2 L ∧ AkIn w b1 b2 b3 a) := ⟨hL, h⟩
  have HIn : Hid (Calls Tryz.prog 49 #[.int .i64 a.verb, .int .i64 1, .int .i64 6] wa fun e w' => e = .returned (.bool false) ∧ wa = w') := by rw [← hin]; exact l1In_any a.verb 1 6 wa
  have hz1 := h.sized.1
  rw [hF]
  clear hL h h1 h2 h3 h4 h5 h6 hin hF
  go_enter Tryz.func24, Tryz.ntmps24
  go_upto_region 1 with fail
  rw [← hwa]
  clear hwa
  have az := HXa.out.2.lt
  have x0 : wa.cell? ⟨w.heap.size + 1, 0, none⟩ = some (.string a.who) := HXa.out.2.at_ 0
  have x1 : wa.cell? ⟨w.heap.size + 1, 1, none⟩ = some (.int .i64 a.verb) := HXa.out.2.at_ 1
  go_wp2_with fail
  refine (l1NameOk_any a.who wa hz1).mono ?_
  rintro e w' ⟨rfl, rfl⟩
  clear hz1
  cases Pl.nameOk a.who
  · go_wp2
    go_ret
    exact ⟨rfl, HBa.out⟩
  · go_wp2_with fail
    refine HIn.out.mono ?_
    rintro e w' ⟨rfl, rfl⟩
    go_wp2
    go_ret
    exact ⟨rfl, HBa.out⟩

set_option maxRecDepth 8000 in
set_option maxHeartbeats 4000000 in
theorem askOkS (L : Lw) (a : Ak) (a0 a1 a2 b1 b2 b3 : Nat) (w : World) (hL : LwIn w a0 a1 a2 L) (h : AkIn w b1 b2 b3 a) :
    Calls Tryz.prog 7 #[.agg #[.slice (some ⟨a0, 0, none⟩) L.shapes.length L.shapes.length, .slice (some ⟨a1, 0, none⟩) L.mends.length L.mends.length, .slice (some ⟨a2, 0, none⟩) L.teams.length L.teams.length], .agg #[.string a.who, .int .i64 a.verb, .string a.kind, .string a.name, .string a.team, .slice (some ⟨b1, 0, none⟩) a.values.length a.values.length, .slice (some ⟨b2, 0, none⟩) a.holds.length a.holds.length, .int .i64 a.seen, .string a.hold, .string a.to_, .slice (some ⟨b3, 0, none⟩) a.rule.verbs.length a.rule.verbs.length, .string a.rule.kind, .string a.rule.team, .string a.rule.pre, .int .i64 a.number]] w fun e w' => e = .returned (.bool (askOkB L a)) ∧ Below w.heap.size w w' := by
  obtain ⟨wa, hwa⟩ : ∃ wa, wa = (w.alloc (.cells #[.slice (some ⟨a0, 0, none⟩) L.shapes.length L.shapes.length, .slice (some ⟨a1, 0, none⟩) L.mends.length L.mends.length, .slice (some ⟨a2, 0, none⟩) L.teams.length L.teams.length] 40)).alloc (.cells #[.string a.who, .int .i64 a.verb, .string a.kind, .string a.name, .string a.team, .slice (some ⟨b1, 0, none⟩) a.values.length a.values.length, .slice (some ⟨b2, 0, none⟩) a.holds.length a.holds.length, .int .i64 a.seen, .string a.hold, .string a.to_, .slice (some ⟨b3, 0, none⟩) a.rule.verbs.length a.rule.verbs.length, .string a.rule.kind, .string a.rule.team, .string a.rule.pre, .int .i64 a.number] 44) := ⟨_, rfl⟩
  have HBa : Hid (Below w.heap.size w wa) := by show Below _ _ _; rw [hwa]; exact blw_alloc (blw_alloc (Below.refl _ _) _) _
  have HXa : Hid (BoxV wa w.heap.size #[.slice (some ⟨a0, 0, none⟩) L.shapes.length L.shapes.length, .slice (some ⟨a1, 0, none⟩) L.mends.length L.mends.length, .slice (some ⟨a2, 0, none⟩) L.teams.length L.teams.length] ∧ BoxV wa (w.heap.size + 1) #[.string a.who, .int .i64 a.verb, .string a.kind, .string a.name, .string a.team, .slice (some ⟨b1, 0, none⟩) a.values.length a.values.length, .slice (some ⟨b2, 0, none⟩) a.holds.length a.holds.length, .int .i64 a.seen, .string a.hold, .string a.to_, .slice (some ⟨b3, 0, none⟩) a.rule.verbs.length a.rule.verbs.length, .string a.rule.kind, .string a.rule.team, .string a.rule.pre, .int .i64 a.number]) := by show _ ∧ _; rw [hwa]; exact ⟨(BoxV.new' _ _ _ _ rfl).past _, BoxV.new' _ _ _ _ (by simp)⟩
  have HH : Hid (LwIn w a0 a1 a2 L ∧ AkIn w b1 b2 b3 a) := ⟨hL, h⟩
  obtain ⟨R, hR⟩ : ∃ R, R = askOkB L a := ⟨_, rfl⟩
  have HR : Hid (R = (lawOk L && askB L a (kindFields L a))) := hR
  rw [← hR]
  clear hL h hR
  go_enter Tryz.func7, Tryz.ntmps7
  go_upto_region 1 with fail
  rw [← hwa]
  clear hwa
  have lz := HXa.out.1.lt
  have l0 : wa.cell? ⟨w.heap.size, 0, none⟩ = some (.slice (some ⟨a0, 0, none⟩) L.shapes.length L.shapes.length) := HXa.out.1.at_ 0
  have l1 : wa.cell? ⟨w.heap.size, 1, none⟩ = some (.slice (some ⟨a1, 0, none⟩) L.mends.length L.mends.length) := HXa.out.1.at_ 1
  have l2 : wa.cell? ⟨w.heap.size, 2, none⟩ = some (.slice (some ⟨a2, 0, none⟩) L.teams.length L.teams.length) := HXa.out.1.at_ 2
  go_wp2_with fail
  refine (lawOkS L a0 a1 a2 wa (HH.out.1.later HBa.out)).mono ?_
  rintro e wb ⟨rfl, hb⟩
  have HBb : Hid (Below w.heap.size w wb) := blw_trans HBa.out hb
  have HXb : Hid (BoxV wb w.heap.size #[.slice (some ⟨a0, 0, none⟩) L.shapes.length L.shapes.length, .slice (some ⟨a1, 0, none⟩) L.mends.length L.mends.length, .slice (some ⟨a2, 0, none⟩) L.teams.length L.teams.length] ∧ BoxV wb (w.heap.size + 1) #[.string a.who, .int .i64 a.verb, .string a.kind, .string a.name, .string a.team, .slice (some ⟨b1, 0, none⟩) a.values.length a.values.length, .slice (some ⟨b2, 0, none⟩) a.holds.length a.holds.length, .int .i64 a.seen, .string a.hold, .string a.to_, .slice (some ⟨b3, 0, none⟩) a.rule.verbs.length a.rule.verbs.length, .string a.rule.kind, .string a.rule.team, .string a.rule.pre, .int .i64 a.number]) := ⟨HXa.out.1.later hb, HXa.out.2.later hb⟩
  clear hb lz l0 l1 l2 HXa HBa
  cases hk : lawOk L
  · have HE : Hid (R = false) := by show R = false; rw [HR.out, hk]; rfl
    go_wp2
    go_ret
    exact ⟨Pl.ret_bool HE.out.symm, HBb.out⟩
  have HE : Hid (R = askB L a (kindFields L a)) := by show R = _; rw [HR.out, hk]; rfl
  clear HR hk
  have lz := HXb.out.1.lt
  have az := HXb.out.2.lt
  have l0 : wb.cell? ⟨w.heap.size, 0, none⟩ = some (.slice (some ⟨a0, 0, none⟩) L.shapes.length L.shapes.length) := HXb.out.1.at_ 0
  have l1 : wb.cell? ⟨w.heap.size, 1, none⟩ = some (.slice (some ⟨a1, 0, none⟩) L.mends.length L.mends.length) := HXb.out.1.at_ 1
  have l2 : wb.cell? ⟨w.heap.size, 2, none⟩ = some (.slice (some ⟨a2, 0, none⟩) L.teams.length L.teams.length) := HXb.out.1.at_ 2
  have x0 : wb.cell? ⟨w.heap.size + 1, 0, none⟩ = some (.string a.who) := HXb.out.2.at_ 0
  have x1 : wb.cell? ⟨w.heap.size + 1, 1, none⟩ = some (.int .i64 a.verb) := HXb.out.2.at_ 1
  have x2 : wb.cell? ⟨w.heap.size + 1, 2, none⟩ = some (.string a.kind) := HXb.out.2.at_ 2
  have x3 : wb.cell? ⟨w.heap.size + 1, 3, none⟩ = some (.string a.name) := HXb.out.2.at_ 3
  have x4 : wb.cell? ⟨w.heap.size + 1, 4, none⟩ = some (.string a.team) := HXb.out.2.at_ 4
  have x5 : wb.cell? ⟨w.heap.size + 1, 5, none⟩ = some (.slice (some ⟨b1, 0, none⟩) a.values.length a.values.length) := HXb.out.2.at_ 5
  have x6 : wb.cell? ⟨w.heap.size + 1, 6, none⟩ = some (.slice (some ⟨b2, 0, none⟩) a.holds.length a.holds.length) := HXb.out.2.at_ 6
  have x7 : wb.cell? ⟨w.heap.size + 1, 7, none⟩ = some (.int .i64 a.seen) := HXb.out.2.at_ 7
  have x8 : wb.cell? ⟨w.heap.size + 1, 8, none⟩ = some (.string a.hold) := HXb.out.2.at_ 8
  have x9 : wb.cell? ⟨w.heap.size + 1, 9, none⟩ = some (.string a.to_) := HXb.out.2.at_ 9
  have x10 : wb.cell? ⟨w.heap.size + 1, 10, none⟩ = some (.slice (some ⟨b3, 0, none⟩) a.rule.verbs.length a.rule.verbs.length) := HXb.out.2.at_ 10
  have x11 : wb.cell? ⟨w.heap.size + 1, 11, none⟩ = some (.string a.rule.kind) := HXb.out.2.at_ 11
  have x12 : wb.cell? ⟨w.heap.size + 1, 12, none⟩ = some (.string a.rule.team) := HXb.out.2.at_ 12
  have x13 : wb.cell? ⟨w.heap.size + 1, 13, none⟩ = some (.string a.rule.pre) := HXb.out.2.at_ 13
  have x14 : wb.cell? ⟨w.heap.size + 1, 14, none⟩ = some (.int .i64 a.number) := HXb.out.2.at_ 14
  go_wp2_with fail
  refine (l8AskS L a a0 a1 a2 b1 b2 b3 wb (HH.out.1.later HBb.out) (HH.out.2.later HBb.out)).mono ?_
  rintro e wc ⟨rfl, hb⟩
  have HBc : Hid (Below w.heap.size w wc) := blw_trans HBb.out hb
  rw [← HE.out]
  clear hb lz az l0 l1 l2 x0 x1 x2 x3 x4 x5 x6 x7 x8 x9 x10 x11 x12 x13 x14 HXb HBb
  go_wp2
  go_ret
  exact ⟨rfl, HBc.out⟩

set_option maxRecDepth 8000 in
set_option maxHeartbeats 4000000 in
theorem askOkI (L : Lw) (a : Ak) (a0 a1 a2 b1 b2 b3 : Nat) (w : World) (hL : LwIn w a0 a1 a2 L) (h : AkIn w b1 b2 b3 a) :
    Calls Tryz.prog 10 #[.agg #[.slice (some ⟨a0, 0, none⟩) L.shapes.length L.shapes.length, .slice (some ⟨a1, 0, none⟩) L.mends.length L.mends.length, .slice (some ⟨a2, 0, none⟩) L.teams.length L.teams.length], .agg #[.string a.who, .int .i64 a.verb, .string a.kind, .string a.name, .string a.team, .slice (some ⟨b1, 0, none⟩) a.values.length a.values.length, .slice (some ⟨b2, 0, none⟩) a.holds.length a.holds.length, .int .i64 a.seen, .string a.hold, .string a.to_, .slice (some ⟨b3, 0, none⟩) a.rule.verbs.length a.rule.verbs.length, .string a.rule.kind, .string a.rule.team, .string a.rule.pre, .int .i64 a.number]] w fun e w' => e = .returned (.bool (askOkB L a)) ∧ Below w.heap.size w w' := by
  obtain ⟨wa, hwa⟩ : ∃ wa, wa = (w.alloc (.cells #[.slice (some ⟨a0, 0, none⟩) L.shapes.length L.shapes.length, .slice (some ⟨a1, 0, none⟩) L.mends.length L.mends.length, .slice (some ⟨a2, 0, none⟩) L.teams.length L.teams.length] 40)).alloc (.cells #[.string a.who, .int .i64 a.verb, .string a.kind, .string a.name, .string a.team, .slice (some ⟨b1, 0, none⟩) a.values.length a.values.length, .slice (some ⟨b2, 0, none⟩) a.holds.length a.holds.length, .int .i64 a.seen, .string a.hold, .string a.to_, .slice (some ⟨b3, 0, none⟩) a.rule.verbs.length a.rule.verbs.length, .string a.rule.kind, .string a.rule.team, .string a.rule.pre, .int .i64 a.number] 44) := ⟨_, rfl⟩
  have HBa : Hid (Below w.heap.size w wa) := by show Below _ _ _; rw [hwa]; exact blw_alloc (blw_alloc (Below.refl _ _) _) _
  have HXa : Hid (BoxV wa w.heap.size #[.slice (some ⟨a0, 0, none⟩) L.shapes.length L.shapes.length, .slice (some ⟨a1, 0, none⟩) L.mends.length L.mends.length, .slice (some ⟨a2, 0, none⟩) L.teams.length L.teams.length] ∧ BoxV wa (w.heap.size + 1) #[.string a.who, .int .i64 a.verb, .string a.kind, .string a.name, .string a.team, .slice (some ⟨b1, 0, none⟩) a.values.length a.values.length, .slice (some ⟨b2, 0, none⟩) a.holds.length a.holds.length, .int .i64 a.seen, .string a.hold, .string a.to_, .slice (some ⟨b3, 0, none⟩) a.rule.verbs.length a.rule.verbs.length, .string a.rule.kind, .string a.rule.team, .string a.rule.pre, .int .i64 a.number]) := by show _ ∧ _; rw [hwa]; exact ⟨(BoxV.new' _ _ _ _ rfl).past _, BoxV.new' _ _ _ _ (by simp)⟩
  have HH : Hid (LwIn w a0 a1 a2 L ∧ AkIn w b1 b2 b3 a) := ⟨hL, h⟩
  obtain ⟨R, hR⟩ : ∃ R, R = askOkB L a := ⟨_, rfl⟩
  have HR : Hid (R = (lawOk L && askB L a (kindFields L a))) := hR
  rw [← hR]
  clear hL h hR
  go_enter Tryz.func10, Tryz.ntmps10
  go_upto_region 1 with fail
  rw [← hwa]
  clear hwa
  have lz := HXa.out.1.lt
  have l0 : wa.cell? ⟨w.heap.size, 0, none⟩ = some (.slice (some ⟨a0, 0, none⟩) L.shapes.length L.shapes.length) := HXa.out.1.at_ 0
  have l1 : wa.cell? ⟨w.heap.size, 1, none⟩ = some (.slice (some ⟨a1, 0, none⟩) L.mends.length L.mends.length) := HXa.out.1.at_ 1
  have l2 : wa.cell? ⟨w.heap.size, 2, none⟩ = some (.slice (some ⟨a2, 0, none⟩) L.teams.length L.teams.length) := HXa.out.1.at_ 2
  go_wp2_with fail
  refine (lawOkI L a0 a1 a2 wa (HH.out.1.later HBa.out)).mono ?_
  rintro e wb ⟨rfl, hb⟩
  have HBb : Hid (Below w.heap.size w wb) := blw_trans HBa.out hb
  have HXb : Hid (BoxV wb w.heap.size #[.slice (some ⟨a0, 0, none⟩) L.shapes.length L.shapes.length, .slice (some ⟨a1, 0, none⟩) L.mends.length L.mends.length, .slice (some ⟨a2, 0, none⟩) L.teams.length L.teams.length] ∧ BoxV wb (w.heap.size + 1) #[.string a.who, .int .i64 a.verb, .string a.kind, .string a.name, .string a.team, .slice (some ⟨b1, 0, none⟩) a.values.length a.values.length, .slice (some ⟨b2, 0, none⟩) a.holds.length a.holds.length, .int .i64 a.seen, .string a.hold, .string a.to_, .slice (some ⟨b3, 0, none⟩) a.rule.verbs.length a.rule.verbs.length, .string a.rule.kind, .string a.rule.team, .string a.rule.pre, .int .i64 a.number]) := ⟨HXa.out.1.later hb, HXa.out.2.later hb⟩
  clear hb lz l0 l1 l2 HXa HBa
  cases hk : lawOk L
  · have HE : Hid (R = false) := by show R = false; rw [HR.out, hk]; rfl
    go_wp2
    go_ret
    exact ⟨Pl.ret_bool HE.out.symm, HBb.out⟩
  have HE : Hid (R = askB L a (kindFields L a)) := by show R = _; rw [HR.out, hk]; rfl
  clear HR hk
  have lz := HXb.out.1.lt
  have az := HXb.out.2.lt
  have l0 : wb.cell? ⟨w.heap.size, 0, none⟩ = some (.slice (some ⟨a0, 0, none⟩) L.shapes.length L.shapes.length) := HXb.out.1.at_ 0
  have l1 : wb.cell? ⟨w.heap.size, 1, none⟩ = some (.slice (some ⟨a1, 0, none⟩) L.mends.length L.mends.length) := HXb.out.1.at_ 1
  have l2 : wb.cell? ⟨w.heap.size, 2, none⟩ = some (.slice (some ⟨a2, 0, none⟩) L.teams.length L.teams.length) := HXb.out.1.at_ 2
  have x0 : wb.cell? ⟨w.heap.size + 1, 0, none⟩ = some (.string a.who) := HXb.out.2.at_ 0
  have x1 : wb.cell? ⟨w.heap.size + 1, 1, none⟩ = some (.int .i64 a.verb) := HXb.out.2.at_ 1
  have x2 : wb.cell? ⟨w.heap.size + 1, 2, none⟩ = some (.string a.kind) := HXb.out.2.at_ 2
  have x3 : wb.cell? ⟨w.heap.size + 1, 3, none⟩ = some (.string a.name) := HXb.out.2.at_ 3
  have x4 : wb.cell? ⟨w.heap.size + 1, 4, none⟩ = some (.string a.team) := HXb.out.2.at_ 4
  have x5 : wb.cell? ⟨w.heap.size + 1, 5, none⟩ = some (.slice (some ⟨b1, 0, none⟩) a.values.length a.values.length) := HXb.out.2.at_ 5
  have x6 : wb.cell? ⟨w.heap.size + 1, 6, none⟩ = some (.slice (some ⟨b2, 0, none⟩) a.holds.length a.holds.length) := HXb.out.2.at_ 6
  have x7 : wb.cell? ⟨w.heap.size + 1, 7, none⟩ = some (.int .i64 a.seen) := HXb.out.2.at_ 7
  have x8 : wb.cell? ⟨w.heap.size + 1, 8, none⟩ = some (.string a.hold) := HXb.out.2.at_ 8
  have x9 : wb.cell? ⟨w.heap.size + 1, 9, none⟩ = some (.string a.to_) := HXb.out.2.at_ 9
  have x10 : wb.cell? ⟨w.heap.size + 1, 10, none⟩ = some (.slice (some ⟨b3, 0, none⟩) a.rule.verbs.length a.rule.verbs.length) := HXb.out.2.at_ 10
  have x11 : wb.cell? ⟨w.heap.size + 1, 11, none⟩ = some (.string a.rule.kind) := HXb.out.2.at_ 11
  have x12 : wb.cell? ⟨w.heap.size + 1, 12, none⟩ = some (.string a.rule.team) := HXb.out.2.at_ 12
  have x13 : wb.cell? ⟨w.heap.size + 1, 13, none⟩ = some (.string a.rule.pre) := HXb.out.2.at_ 13
  have x14 : wb.cell? ⟨w.heap.size + 1, 14, none⟩ = some (.int .i64 a.number) := HXb.out.2.at_ 14
  go_wp2_with fail
  refine (gateAskI L a a0 a1 a2 b1 b2 b3 wb (HH.out.1.later HBb.out) (HH.out.2.later HBb.out)).mono ?_
  rintro e wc ⟨⟨n, rfl, hn⟩, hb⟩
  have HBc : Hid (Below w.heap.size w wc) := blw_trans HBb.out hb
  rw [askB_same L a n (kindFields L a) hn]
  clear hn
  rw [← HE.out]
  clear hb lz az l0 l1 l2 x0 x1 x2 x3 x4 x5 x6 x7 x8 x9 x10 x11 x12 x13 x14 HXb HBb
  go_wp2
  go_ret
  exact ⟨rfl, HBc.out⟩

end Go.Proofs.YtkjkklcflpchlaaGreat
