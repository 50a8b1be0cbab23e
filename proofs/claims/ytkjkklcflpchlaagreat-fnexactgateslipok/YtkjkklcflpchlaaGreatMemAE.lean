/-
  Two asks that are the same.
-/
import Derived.Test.YtkjkklcflpchlaaGreatMemA
namespace Go.Proofs.YtkjkklcflpchlaaGreat
open Go.RowKit Go.Deep

set_option maxRecDepth 8000 in
set_option maxHeartbeats 8000000 in
theorem eqAk (a : Ak) (b1 b2 b3 q1 q2 q3 : Nat) (w : World) (h : AkIn w b1 b2 b3 a) (h' : AkIn w q1 q2 q3 a) :
    Calls Tryz.prog 12 #[.agg #[.string a.who, .int .i64 a.verb, .string a.kind, .string a.name, .string a.team, .slice (some ⟨b1, 0, none⟩) a.values.length a.values.length, .slice (some ⟨b2, 0, none⟩) a.holds.length a.holds.length, .int .i64 a.seen, .string a.hold, .string a.to_, .slice (some ⟨b3, 0, none⟩) a.rule.verbs.length a.rule.verbs.length, .string a.rule.kind, .string a.rule.team, .string a.rule.pre, .int .i64 a.number], .agg #[.string a.who, .int .i64 a.verb, .string a.kind, .string a.name, .string a.team, .slice (some ⟨q1, 0, none⟩) a.values.length a.values.length, .slice (some ⟨q2, 0, none⟩) a.holds.length a.holds.length, .int .i64 a.seen, .string a.hold, .string a.to_, .slice (some ⟨q3, 0, none⟩) a.rule.verbs.length a.rule.verbs.length, .string a.rule.kind, .string a.rule.team, .string a.rule.pre, .int .i64 a.number]] w fun e w' => e = .returned (.bool true) ∧ Below w.heap.size w w' := by
  have HH : Hid (AkIn w b1 b2 b3 a ∧ AkIn w q1 q2 q3 a) := ⟨h, h'⟩
  clear h h'
  obtain ⟨wa, hwa⟩ : ∃ wa, wa = (w.alloc (.cells #[.string a.who, .int .i64 a.verb, .string a.kind, .string a.name, .string a.team, .slice (some ⟨b1, 0, none⟩) a.values.length a.values.length, .slice (some ⟨b2, 0, none⟩) a.holds.length a.holds.length, .int .i64 a.seen, .string a.hold, .string a.to_, .slice (some ⟨b3, 0, none⟩) a.rule.verbs.length a.rule.verbs.length, .string a.rule.kind, .string a.rule.team, .string a.rule.pre, .int .i64 a.number] 44)).alloc (.cells #[.string a.who, .int .i64 a.verb, .string a.kind, .string a.name, .string a.team, .slice (some ⟨q1, 0, none⟩) a.values.length a.values.length, .slice (some ⟨q2, 0, none⟩) a.holds.length a.holds.length, .int .i64 a.seen, .string a.hold, .string a.to_, .slice (some ⟨q3, 0, none⟩) a.rule.verbs.length a.rule.verbs.length, .string a.rule.kind, .string a.rule.team, .string a.rule.pre, .int .i64 a.number] 44) := ⟨_, rfl⟩
  have HBa : Hid (Below w.heap.size w wa) := by show Below _ _ _; rw [hwa]; exact blw_alloc (blw_alloc (Below.refl _ _) _) _
  have HXa : Hid (BoxV wa w.heap.size #[.string a.who, .int .i64 a.verb, .string a.kind, .string a.name, .string a.team, .slice (some ⟨b1, 0, none⟩) a.values.length a.values.length, .slice (some ⟨b2, 0, none⟩) a.holds.length a.holds.length, .int .i64 a.seen, .string a.hold, .string a.to_, .slice (some ⟨b3, 0, none⟩) a.rule.verbs.length a.rule.verbs.length, .string a.rule.kind, .string a.rule.team, .string a.rule.pre, .int .i64 a.number] ∧ BoxV wa (w.heap.size + 1) #[.string a.who, .int .i64 a.verb, .string a.kind, .string a.name, .string a.team, .slice (some ⟨q1, 0, none⟩) a.values.length a.values.length, .slice (some ⟨q2, 0, none⟩) a.holds.length a.holds.length, .int .i64 a.seen, .string a.hold, .string a.to_, .slice (some ⟨q3, 0, none⟩) a.rule.verbs.length a.rule.verbs.length, .string a.rule.kind, .string a.rule.team, .string a.rule.pre, .int .i64 a.number]) := by show _ ∧ _; rw [hwa]; exact ⟨(BoxV.new' _ _ _ _ rfl).past _, BoxV.new' _ _ _ _ (by simp)⟩
  go_enter Tryz.func12, Tryz.ntmps12
  go_upto_region 1 with fail
  rw [← hwa]
  clear hwa
  have xz := HXa.out.1.lt
  have yz := HXa.out.2.lt
  have x0 : wa.cell? ⟨w.heap.size, 0, none⟩ = some (.string a.who) := HXa.out.1.at_ 0
  have y0 : wa.cell? ⟨w.heap.size + 1, 0, none⟩ = some (.string a.who) := HXa.out.2.at_ 0
  have x1 : wa.cell? ⟨w.heap.size, 1, none⟩ = some (.int .i64 a.verb) := HXa.out.1.at_ 1
  have y1 : wa.cell? ⟨w.heap.size + 1, 1, none⟩ = some (.int .i64 a.verb) := HXa.out.2.at_ 1
  have x2 : wa.cell? ⟨w.heap.size, 2, none⟩ = some (.string a.kind) := HXa.out.1.at_ 2
  have y2 : wa.cell? ⟨w.heap.size + 1, 2, none⟩ = some (.string a.kind) := HXa.out.2.at_ 2
  have x3 : wa.cell? ⟨w.heap.size, 3, none⟩ = some (.string a.name) := HXa.out.1.at_ 3
  have y3 : wa.cell? ⟨w.heap.size + 1, 3, none⟩ = some (.string a.name) := HXa.out.2.at_ 3
  have x4 : wa.cell? ⟨w.heap.size, 4, none⟩ = some (.string a.team) := HXa.out.1.at_ 4
  have y4 : wa.cell? ⟨w.heap.size + 1, 4, none⟩ = some (.string a.team) := HXa.out.2.at_ 4
  have x5 : wa.cell? ⟨w.heap.size, 5, none⟩ = some (.slice (some ⟨b1, 0, none⟩) a.values.length a.values.length) := HXa.out.1.at_ 5
  have y5 : wa.cell? ⟨w.heap.size + 1, 5, none⟩ = some (.slice (some ⟨q1, 0, none⟩) a.values.length a.values.length) := HXa.out.2.at_ 5
  go_wp2_with fail
  refine (eqTexts_any _ _ a.values wa (HH.out.1.later HBa.out).t1.texts (HH.out.2.later HBa.out).t1.texts).mono ?_
  rintro e wb ⟨rfl, hb⟩
  have HBwb : Hid (Below w.heap.size w wb) := blw_trans HBa.out hb
  have HXwb : Hid (BoxV wb w.heap.size #[.string a.who, .int .i64 a.verb, .string a.kind, .string a.name, .string a.team, .slice (some ⟨b1, 0, none⟩) a.values.length a.values.length, .slice (some ⟨b2, 0, none⟩) a.holds.length a.holds.length, .int .i64 a.seen, .string a.hold, .string a.to_, .slice (some ⟨b3, 0, none⟩) a.rule.verbs.length a.rule.verbs.length, .string a.rule.kind, .string a.rule.team, .string a.rule.pre, .int .i64 a.number] ∧ BoxV wb (w.heap.size + 1) #[.string a.who, .int .i64 a.verb, .string a.kind, .string a.name, .string a.team, .slice (some ⟨q1, 0, none⟩) a.values.length a.values.length, .slice (some ⟨q2, 0, none⟩) a.holds.length a.holds.length, .int .i64 a.seen, .string a.hold, .string a.to_, .slice (some ⟨q3, 0, none⟩) a.rule.verbs.length a.rule.verbs.length, .string a.rule.kind, .string a.rule.team, .string a.rule.pre, .int .i64 a.number]) := ⟨HXa.out.1.later hb, HXa.out.2.later hb⟩
  clear hb xz yz x0 y0 x1 y1 x2 y2 x3 y3 x4 y4 x5 y5 HXa HBa
  have xz := HXwb.out.1.lt
  have yz := HXwb.out.2.lt
  have x6 : wb.cell? ⟨w.heap.size, 6, none⟩ = some (.slice (some ⟨b2, 0, none⟩) a.holds.length a.holds.length) := HXwb.out.1.at_ 6
  have y6 : wb.cell? ⟨w.heap.size + 1, 6, none⟩ = some (.slice (some ⟨q2, 0, none⟩) a.holds.length a.holds.length) := HXwb.out.2.at_ 6
  go_wp2_with fail
  refine (eqTexts_any _ _ a.holds wb (HH.out.1.later HBwb.out).t2.texts (HH.out.2.later HBwb.out).t2.texts).mono ?_
  rintro e wc ⟨rfl, hb⟩
  have HBwc : Hid (Below w.heap.size w wc) := blw_trans HBwb.out hb
  have HXwc : Hid (BoxV wc w.heap.size #[.string a.who, .int .i64 a.verb, .string a.kind, .string a.name, .string a.team, .slice (some ⟨b1, 0, none⟩) a.values.length a.values.length, .slice (some ⟨b2, 0, none⟩) a.holds.length a.holds.length, .int .i64 a.seen, .string a.hold, .string a.to_, .slice (some ⟨b3, 0, none⟩) a.rule.verbs.length a.rule.verbs.length, .string a.rule.kind, .string a.rule.team, .string a.rule.pre, .int .i64 a.number] ∧ BoxV wc (w.heap.size + 1) #[.string a.who, .int .i64 a.verb, .string a.kind, .string a.name, .string a.team, .slice (some ⟨q1, 0, none⟩) a.values.length a.values.length, .slice (some ⟨q2, 0, none⟩) a.holds.length a.holds.length, .int .i64 a.seen, .string a.hold, .string a.to_, .slice (some ⟨q3, 0, none⟩) a.rule.verbs.length a.rule.verbs.length, .string a.rule.kind, .string a.rule.team, .string a.rule.pre, .int .i64 a.number]) := ⟨HXwb.out.1.later hb, HXwb.out.2.later hb⟩
  clear hb xz yz x6 y6 HXwb HBwb
  have xz := HXwc.out.1.lt
  have yz := HXwc.out.2.lt
  have x7 : wc.cell? ⟨w.heap.size, 7, none⟩ = some (.int .i64 a.seen) := HXwc.out.1.at_ 7
  have y7 : wc.cell? ⟨w.heap.size + 1, 7, none⟩ = some (.int .i64 a.seen) := HXwc.out.2.at_ 7
  have x8 : wc.cell? ⟨w.heap.size, 8, none⟩ = some (.string a.hold) := HXwc.out.1.at_ 8
  have y8 : wc.cell? ⟨w.heap.size + 1, 8, none⟩ = some (.string a.hold) := HXwc.out.2.at_ 8
  have x9 : wc.cell? ⟨w.heap.size, 9, none⟩ = some (.string a.to_) := HXwc.out.1.at_ 9
  have y9 : wc.cell? ⟨w.heap.size + 1, 9, none⟩ = some (.string a.to_) := HXwc.out.2.at_ 9
  have x10 : wc.cell? ⟨w.heap.size, 10, none⟩ = some (.slice (some ⟨b3, 0, none⟩) a.rule.verbs.length a.rule.verbs.length) := HXwc.out.1.at_ 10
  have y10 : wc.cell? ⟨w.heap.size + 1, 10, none⟩ = some (.slice (some ⟨q3, 0, none⟩) a.rule.verbs.length a.rule.verbs.length) := HXwc.out.2.at_ 10
  have x11 : wc.cell? ⟨w.heap.size, 11, none⟩ = some (.string a.rule.kind) := HXwc.out.1.at_ 11
  have y11 : wc.cell? ⟨w.heap.size + 1, 11, none⟩ = some (.string a.rule.kind) := HXwc.out.2.at_ 11
  have x12 : wc.cell? ⟨w.heap.size, 12, none⟩ = some (.string a.rule.team) := HXwc.out.1.at_ 12
  have y12 : wc.cell? ⟨w.heap.size + 1, 12, none⟩ = some (.string a.rule.team) := HXwc.out.2.at_ 12
  have x13 : wc.cell? ⟨w.heap.size, 13, none⟩ = some (.string a.rule.pre) := HXwc.out.1.at_ 13
  have y13 : wc.cell? ⟨w.heap.size + 1, 13, none⟩ = some (.string a.rule.pre) := HXwc.out.2.at_ 13
  go_wp2_with fail
  refine (eqRule b3 q3 a.rule wc (HH.out.1.later HBwc.out).n (HH.out.2.later HBwc.out).n).mono ?_
  rintro e wd ⟨rfl, hb⟩
  have HBwd : Hid (Below w.heap.size w wd) := blw_trans HBwc.out hb
  have HXwd : Hid (BoxV wd w.heap.size #[.string a.who, .int .i64 a.verb, .string a.kind, .string a.name, .string a.team, .slice (some ⟨b1, 0, none⟩) a.values.length a.values.length, .slice (some ⟨b2, 0, none⟩) a.holds.length a.holds.length, .int .i64 a.seen, .string a.hold, .string a.to_, .slice (some ⟨b3, 0, none⟩) a.rule.verbs.length a.rule.verbs.length, .string a.rule.kind, .string a.rule.team, .string a.rule.pre, .int .i64 a.number] ∧ BoxV wd (w.heap.size + 1) #[.string a.who, .int .i64 a.verb, .string a.kind, .string a.name, .string a.team, .slice (some ⟨q1, 0, none⟩) a.values.length a.values.length, .slice (some ⟨q2, 0, none⟩) a.holds.length a.holds.length, .int .i64 a.seen, .string a.hold, .string a.to_, .slice (some ⟨q3, 0, none⟩) a.rule.verbs.length a.rule.verbs.length, .string a.rule.kind, .string a.rule.team, .string a.rule.pre, .int .i64 a.number]) := ⟨HXwc.out.1.later hb, HXwc.out.2.later hb⟩
  clear hb xz yz x7 y7 x8 y8 x9 y9 x10 y10 x11 y11 x12 y12 x13 y13 HXwc HBwc
  have xz := HXwd.out.1.lt
  have yz := HXwd.out.2.lt
  have x14 : wd.cell? ⟨w.heap.size, 14, none⟩ = some (.int .i64 a.number) := HXwd.out.1.at_ 14
  have y14 : wd.cell? ⟨w.heap.size + 1, 14, none⟩ = some (.int .i64 a.number) := HXwd.out.2.at_ 14
  go_wp2
  go_ret
  exact ⟨rfl, HBwd.out⟩

end Go.Proofs.YtkjkklcflpchlaaGreat
