/-
  An ask: its copy, its equality.
-/
import Derived.Test.YtkjkklcflpchlaaGreatMemA
namespace Go.Proofs.YtkjkklcflpchlaaGreat
open Go.RowKit Go.Deep

theorem AkW.push {w W : World} {A : Array Value} {n : Nat} {cs : List Value} (h : AkW w W A n cs) (hn : n < 15) (hc : cs.length = n) (v : Value) : AkW w (W.setCell ⟨w.heap.size + 1 + 1, n, none⟩ v) A (n + 1) (cs ++ [v]) := by
  have h2 : AkW w W A n (cs ++ [v]) := ⟨h.bel, h.out, h.res, h.arg, fun i hi => by rw [List.getElem?_append_left (by omega)]; exact h.cel i hi⟩
  exact h2.put hn (by rw [List.getElem?_append_right (by omega), hc]; simp)

theorem TxB.new (W : World) (b : Nat) (l : List ByteArray) (cs : Array Value) (hb : b = W.heap.size) (hl : l.length ≤ 1048576) (hz : ∀ i, i < l.length → (l.getD i ByteArray.empty).size ≤ maxLen) (hc : ∀ j, j < l.length → cs[j]? = some (.string (l.getD j ByteArray.empty))) : TxB (W.alloc (.cells cs 9)) b l := by
  subst hb
  exact ⟨by simp, hl, hz, fun i hi => by rw [World.cell?_alloc_at _ _ _ _ rfl]; exact hc i hi⟩

set_option maxRecDepth 8000 in
set_option maxHeartbeats 8000000 in
theorem toAkB (a : Ak) (v1 v2 : Value) (ra : Option Addr) (rc : Nat) (w : World) (hs : a.small) (h : AkAt w v1 v2 ra rc a) :
    Calls Tryz.prog 9 #[.agg #[.string a.who, .int .i64 a.verb, .string a.kind, .string a.name, .string a.team, v1, v2, .int .i64 a.seen, .string a.hold, .string a.to_, .slice ra a.rule.verbs.length rc, .string a.rule.kind, .string a.rule.team, .string a.rule.pre, .int .i64 a.number]] w fun e w' => (∃ b1 b2 b3, e = .returned (.agg #[.string a.who, .int .i64 a.verb, .string a.kind, .string a.name, .string a.team, .slice (some ⟨b1, 0, none⟩) a.values.length a.values.length, .slice (some ⟨b2, 0, none⟩) a.holds.length a.holds.length, .int .i64 a.seen, .string a.hold, .string a.to_, .slice (some ⟨b3, 0, none⟩) a.rule.verbs.length a.rule.verbs.length, .string a.rule.kind, .string a.rule.team, .string a.rule.pre, .int .i64 a.number]) ∧ AkIn w' b1 b2 b3 a ∧ w.heap.size ≤ b1 ∧ w.heap.size ≤ b2 ∧ w.heap.size ≤ b3) ∧ Below w.heap.size w w' := by
  have HH : Hid (AkAt w v1 v2 ra rc a ∧ a.small) := ⟨h, hs⟩
  clear h hs
  obtain ⟨wb, hwb⟩ : ∃ wb, wb = ((w.alloc (.cells #[.string a.who, .int .i64 a.verb, .string a.kind, .string a.name, .string a.team, v1, v2, .int .i64 a.seen, .string a.hold, .string a.to_, .slice ra a.rule.verbs.length rc, .string a.rule.kind, .string a.rule.team, .string a.rule.pre, .int .i64 a.number] 32)).alloc (.cells #[.string ⟨#[]⟩, .int .i64 0, .string ⟨#[]⟩, .string ⟨#[]⟩, .string ⟨#[]⟩, .slice none 0 0, .slice none 0 0, .int .i64 0, .string ⟨#[]⟩, .string ⟨#[]⟩, .slice none 0 0, .string ⟨#[]⟩, .string ⟨#[]⟩, .string ⟨#[]⟩, .int .i64 0] 44)).alloc (.cells #[.string a.who, .int .i64 a.verb, .string a.kind, .string a.name, .string a.team, .slice none 0 0, .slice none 0 0, .int .i64 0, .string ⟨#[]⟩, .string ⟨#[]⟩, .slice none 0 0, .string ⟨#[]⟩, .string ⟨#[]⟩, .string ⟨#[]⟩, .int .i64 0] 44) := ⟨_, rfl⟩
  have HI5 : Hid (AkW w wb #[.string a.who, .int .i64 a.verb, .string a.kind, .string a.name, .string a.team, v1, v2, .int .i64 a.seen, .string a.hold, .string a.to_, .slice ra a.rule.verbs.length rc, .string a.rule.kind, .string a.rule.team, .string a.rule.pre, .int .i64 a.number] 5 [.string a.who, .int .i64 a.verb, .string a.kind, .string a.name, .string a.team]) := by
    show AkW _ _ _ _ _
    rw [hwb]
    refine ⟨blw_alloc (blw_alloc (blw_alloc (Below.refl _ _) _) _) _, OwnBlk.alloc_at2 _ _ _ _ _ rfl (by simp), (OwnBlk.alloc_at2 _ _ _ _ _ rfl (by simp)).past _, ((BoxV.new' _ _ _ _ rfl).past _).past _, fun i hi => ?_⟩
    rw [World.cell?_alloc_at _ _ _ _ (by simp)]
    match i, hi with
    | 0, _ => rfl
    | 1, _ => rfl
    | 2, _ => rfl
    | 3, _ => rfl
    | 4, _ => rfl
    | k + 5, h => omega
  go_enter Tryz.func9, Tryz.ntmps9
  go_upto_region 7 with fail
  rw [← hwb]
  clear hwb
  have yz : w.heap.size < wb.heap.size := HI5.out.arg.lt
  have y5 : wb.cell? ⟨w.heap.size, 5, none⟩ = some (v1) := HI5.out.arg.at_ 5
  go_wp2_with fail
  refine (toTexts_any v1 a.values wb HH.out.2.1 (HH.out.1.t1.later HI5.out.bel)).mono ?_
  rintro e w1 ⟨cs1, rfl, hw1, _, hcs1⟩
  obtain ⟨b1, hb1⟩ : ∃ b1, b1 = wb.heap.size := ⟨_, rfl⟩
  have HW1 : Hid (Below wb.heap.size wb w1) := by show Below _ _ _; rw [hw1]; exact blw_alloc (Below.refl _ _) _
  have HT1 : Hid (TxB w1 b1 a.values ∧ w.heap.size + 1 + 1 < b1) := by
    show _ ∧ _
    exact ⟨by rw [hw1]; exact TxB.new wb b1 _ _ hb1 HH.out.2.1 HH.out.1.t1.sizes hcs1, by rw [hb1]; exact HI5.out.out.lt⟩
  have HJ5 : Hid (AkW w w1 #[.string a.who, .int .i64 a.verb, .string a.kind, .string a.name, .string a.team, v1, v2, .int .i64 a.seen, .string a.hold, .string a.to_, .slice ra a.rule.verbs.length rc, .string a.rule.kind, .string a.rule.team, .string a.rule.pre, .int .i64 a.number] 5 [.string a.who, .int .i64 a.verb, .string a.kind, .string a.name, .string a.team]) := HI5.out.later HW1.out
  clear hw1 hcs1 yz y5
  rw [← hb1]
  clear hb1 HI5 HW1
  have hfz := HJ5.out.out.frozen
  have hz := HJ5.out.out.lt
  obtain ⟨z5, x5⟩ := HJ5.out.out.cell 5 (by omega)
  obtain ⟨wc, hwc⟩ : ∃ wc, wc = w1.setCell ⟨w.heap.size + 1 + 1, 5, none⟩ (.slice (some ⟨b1, 0, none⟩) a.values.length a.values.length) := ⟨_, rfl⟩
  have HI6 : Hid (AkW w wc #[.string a.who, .int .i64 a.verb, .string a.kind, .string a.name, .string a.team, v1, v2, .int .i64 a.seen, .string a.hold, .string a.to_, .slice ra a.rule.verbs.length rc, .string a.rule.kind, .string a.rule.team, .string a.rule.pre, .int .i64 a.number] 6 [.string a.who, .int .i64 a.verb, .string a.kind, .string a.name, .string a.team, .slice (some ⟨b1, 0, none⟩) a.values.length a.values.length]) := by show AkW _ _ _ _ _; rw [hwc]; exact HJ5.out.push (by omega) rfl _
  have HT1c : Hid (TxB wc b1 a.values ∧ w.heap.size + 1 + 1 < b1) := by show _ ∧ _; rw [hwc]; exact ⟨HT1.out.1.sc (by have := HT1.out.2; omega) _ _, HT1.out.2⟩
  go_upto_region 8 with fail
  rw [← hwc]
  clear hwc hfz hz x5 HJ5 HT1
  have yz : w.heap.size < wc.heap.size := HI6.out.arg.lt
  have y6 : wc.cell? ⟨w.heap.size, 6, none⟩ = some (v2) := HI6.out.arg.at_ 6
  go_wp2_with fail
  refine (toTexts_any v2 a.holds wc HH.out.2.2.1 (HH.out.1.t2.later HI6.out.bel)).mono ?_
  rintro e w2 ⟨cs2, rfl, hw2, _, hcs2⟩
  obtain ⟨b2, hb2⟩ : ∃ b2, b2 = wc.heap.size := ⟨_, rfl⟩
  have HW2 : Hid (Below wc.heap.size wc w2) := by show Below _ _ _; rw [hw2]; exact blw_alloc (Below.refl _ _) _
  have HT2 : Hid ((TxB w2 b1 a.values ∧ w.heap.size + 1 + 1 < b1) ∧ TxB w2 b2 a.holds ∧ w.heap.size + 1 + 1 < b2) := by
    show _ ∧ _
    exact ⟨⟨HT1c.out.1.later HW2.out, HT1c.out.2⟩, by rw [hw2]; exact TxB.new wc b2 _ _ hb2 HH.out.2.2.1 HH.out.1.t2.sizes hcs2, by rw [hb2]; exact HI6.out.out.lt⟩
  have HJ6 : Hid (AkW w w2 #[.string a.who, .int .i64 a.verb, .string a.kind, .string a.name, .string a.team, v1, v2, .int .i64 a.seen, .string a.hold, .string a.to_, .slice ra a.rule.verbs.length rc, .string a.rule.kind, .string a.rule.team, .string a.rule.pre, .int .i64 a.number] 6 [.string a.who, .int .i64 a.verb, .string a.kind, .string a.name, .string a.team, .slice (some ⟨b1, 0, none⟩) a.values.length a.values.length]) := HI6.out.later HW2.out
  clear hw2 hcs2 yz y6
  rw [← hb2]
  clear hb2 HI6 HW2 HT1c
  have hfz := HJ6.out.out.frozen
  have hz := HJ6.out.out.lt
  obtain ⟨z6, x6⟩ := HJ6.out.out.cell 6 (by omega)
  obtain ⟨z7, x7⟩ := HJ6.out.out.cell 7 (by omega)
  obtain ⟨z8, x8⟩ := HJ6.out.out.cell 8 (by omega)
  obtain ⟨z9, x9⟩ := HJ6.out.out.cell 9 (by omega)
  have jz : w.heap.size < w2.heap.size := HJ6.out.arg.lt
  have y7 : w2.cell? ⟨w.heap.size, 7, none⟩ = some (.int .i64 a.seen) := HJ6.out.arg.at_ 7
  have y8 : w2.cell? ⟨w.heap.size, 8, none⟩ = some (.string a.hold) := HJ6.out.arg.at_ 8
  have y9 : w2.cell? ⟨w.heap.size, 9, none⟩ = some (.string a.to_) := HJ6.out.arg.at_ 9
  obtain ⟨wd, hwd⟩ : ∃ wd, wd = (((w2.setCell ⟨w.heap.size + 1 + 1, 6, none⟩ (.slice (some ⟨b2, 0, none⟩) a.holds.length a.holds.length)).setCell ⟨w.heap.size + 1 + 1, 7, none⟩ (.int .i64 a.seen)).setCell ⟨w.heap.size + 1 + 1, 8, none⟩ (.string a.hold)).setCell ⟨w.heap.size + 1 + 1, 9, none⟩ (.string a.to_) := ⟨_, rfl⟩
  have HI10 : Hid (AkW w wd #[.string a.who, .int .i64 a.verb, .string a.kind, .string a.name, .string a.team, v1, v2, .int .i64 a.seen, .string a.hold, .string a.to_, .slice ra a.rule.verbs.length rc, .string a.rule.kind, .string a.rule.team, .string a.rule.pre, .int .i64 a.number] 10 [.string a.who, .int .i64 a.verb, .string a.kind, .string a.name, .string a.team, .slice (some ⟨b1, 0, none⟩) a.values.length a.values.length, .slice (some ⟨b2, 0, none⟩) a.holds.length a.holds.length, .int .i64 a.seen, .string a.hold, .string a.to_]) := by show AkW _ _ _ _ _; rw [hwd]; exact (((HJ6.out.push (by omega) rfl _).push (by omega) rfl _).push (by omega) rfl _).push (by omega) rfl _
  have HTd : Hid ((TxB wd b1 a.values ∧ w.heap.size + 1 + 1 < b1) ∧ TxB wd b2 a.holds ∧ w.heap.size + 1 + 1 < b2) := by
    show _ ∧ _
    rw [hwd]
    have n1 := HT2.out.1.2
    have n2 := HT2.out.2.2
    exact ⟨⟨(((HT2.out.1.1.sc (by omega) _ _).sc (by omega) _ _).sc (by omega) _ _).sc (by omega) _ _, n1⟩, (((HT2.out.2.1.sc (by omega) _ _).sc (by omega) _ _).sc (by omega) _ _).sc (by omega) _ _, n2⟩
  go_upto_region 12 with fail
  rw [← hwd]
  clear hwd hfz hz x6 x7 x8 x9 HJ6 HT2 jz y7 y8 y9
  have yz : w.heap.size < wd.heap.size := HI10.out.arg.lt
  have y10 : wd.cell? ⟨w.heap.size, 10, none⟩ = some (.slice ra a.rule.verbs.length rc) := HI10.out.arg.at_ 10
  have y11 : wd.cell? ⟨w.heap.size, 11, none⟩ = some (.string a.rule.kind) := HI10.out.arg.at_ 11
  have y12 : wd.cell? ⟨w.heap.size, 12, none⟩ = some (.string a.rule.team) := HI10.out.arg.at_ 12
  have y13 : wd.cell? ⟨w.heap.size, 13, none⟩ = some (.string a.rule.pre) := HI10.out.arg.at_ 13
  go_wp2_with fail
  refine (toRule ra rc a.rule wd HH.out.2.2.2 (HH.out.1.n.later HI10.out.bel)).mono ?_
  rintro e w3 ⟨⟨b3, rfl, hle, _, hii⟩, hb⟩
  have HT3 : Hid ((TxB w3 b1 a.values ∧ w.heap.size + 1 + 1 < b1) ∧ (TxB w3 b2 a.holds ∧ w.heap.size + 1 + 1 < b2) ∧ IntsIn w3 b3 a.rule.verbs ∧ w.heap.size + 1 + 1 < b3) := ⟨⟨HTd.out.1.1.later hb, HTd.out.1.2⟩, ⟨HTd.out.2.1.later hb, HTd.out.2.2⟩, hii, Nat.lt_of_lt_of_le HI10.out.out.lt hle⟩
  have HJ10 : Hid (AkW w w3 #[.string a.who, .int .i64 a.verb, .string a.kind, .string a.name, .string a.team, v1, v2, .int .i64 a.seen, .string a.hold, .string a.to_, .slice ra a.rule.verbs.length rc, .string a.rule.kind, .string a.rule.team, .string a.rule.pre, .int .i64 a.number] 10 [.string a.who, .int .i64 a.verb, .string a.kind, .string a.name, .string a.team, .slice (some ⟨b1, 0, none⟩) a.values.length a.values.length, .slice (some ⟨b2, 0, none⟩) a.holds.length a.holds.length, .int .i64 a.seen, .string a.hold, .string a.to_]) := HI10.out.later hb
  clear hle hii hb yz y10 y11 y12 y13 HI10 HTd
  have hfz := HJ10.out.out.frozen
  have hz := HJ10.out.out.lt
  obtain ⟨z10, x10⟩ := HJ10.out.out.cell 10 (by omega)
  obtain ⟨z11, x11⟩ := HJ10.out.out.cell 11 (by omega)
  obtain ⟨z12, x12⟩ := HJ10.out.out.cell 12 (by omega)
  obtain ⟨z13, x13⟩ := HJ10.out.out.cell 13 (by omega)
  obtain ⟨z14, x14⟩ := HJ10.out.out.cell 14 (by omega)
  have jz : w.heap.size < w3.heap.size := HJ10.out.arg.lt
  have y14 : w3.cell? ⟨w.heap.size, 14, none⟩ = some (.int .i64 a.number) := HJ10.out.arg.at_ 14
  obtain ⟨we, hwe⟩ : ∃ we, we = ((((w3.setCell ⟨w.heap.size + 1 + 1, 10, none⟩ (.slice (some ⟨b3, 0, none⟩) a.rule.verbs.length a.rule.verbs.length)).setCell ⟨w.heap.size + 1 + 1, 11, none⟩ (.string a.rule.kind)).setCell ⟨w.heap.size + 1 + 1, 12, none⟩ (.string a.rule.team)).setCell ⟨w.heap.size + 1 + 1, 13, none⟩ (.string a.rule.pre)).setCell ⟨w.heap.size + 1 + 1, 14, none⟩ (.int .i64 a.number) := ⟨_, rfl⟩
  have HI15 : Hid (AkW w we #[.string a.who, .int .i64 a.verb, .string a.kind, .string a.name, .string a.team, v1, v2, .int .i64 a.seen, .string a.hold, .string a.to_, .slice ra a.rule.verbs.length rc, .string a.rule.kind, .string a.rule.team, .string a.rule.pre, .int .i64 a.number] 15 [.string a.who, .int .i64 a.verb, .string a.kind, .string a.name, .string a.team, .slice (some ⟨b1, 0, none⟩) a.values.length a.values.length, .slice (some ⟨b2, 0, none⟩) a.holds.length a.holds.length, .int .i64 a.seen, .string a.hold, .string a.to_, .slice (some ⟨b3, 0, none⟩) a.rule.verbs.length a.rule.verbs.length, .string a.rule.kind, .string a.rule.team, .string a.rule.pre, .int .i64 a.number]) := by show AkW _ _ _ _ _; rw [hwe]; exact ((((HJ10.out.push (by omega) rfl _).push (by omega) rfl _).push (by omega) rfl _).push (by omega) rfl _).push (by omega) rfl _
  have HTe : Hid ((TxB we b1 a.values ∧ w.heap.size + 1 + 1 < b1) ∧ (TxB we b2 a.holds ∧ w.heap.size + 1 + 1 < b2) ∧ IntsIn we b3 a.rule.verbs ∧ w.heap.size + 1 + 1 < b3) := by
    show _ ∧ _ ∧ _
    rw [hwe]
    have n1 := HT3.out.1.2
    have n2 := HT3.out.2.1.2
    have n3 := HT3.out.2.2.2
    exact ⟨⟨((((HT3.out.1.1.sc (by omega) _ _).sc (by omega) _ _).sc (by omega) _ _).sc (by omega) _ _).sc (by omega) _ _, n1⟩, ⟨((((HT3.out.2.1.1.sc (by omega) _ _).sc (by omega) _ _).sc (by omega) _ _).sc (by omega) _ _).sc (by omega) _ _, n2⟩, ((((HT3.out.2.2.1.scA n3 _ _).scA n3 _ _).scA n3 _ _).scA n3 _ _).scA n3 _ _, n3⟩
  go_upto_region 14 with fail
  rw [← hwe]
  clear hwe hfz hz x10 x11 x12 x13 x14 HJ10 HT3 jz y14
  have d0 : we.cell? ⟨w.heap.size + 1 + 1, 0, none⟩ = some (.string a.who) := HI15.out.cel 0 (by omega)
  have d1 : we.cell? ⟨w.heap.size + 1 + 1, 1, none⟩ = some (.int .i64 a.verb) := HI15.out.cel 1 (by omega)
  have d2 : we.cell? ⟨w.heap.size + 1 + 1, 2, none⟩ = some (.string a.kind) := HI15.out.cel 2 (by omega)
  have d3 : we.cell? ⟨w.heap.size + 1 + 1, 3, none⟩ = some (.string a.name) := HI15.out.cel 3 (by omega)
  have d4 : we.cell? ⟨w.heap.size + 1 + 1, 4, none⟩ = some (.string a.team) := HI15.out.cel 4 (by omega)
  have d5 : we.cell? ⟨w.heap.size + 1 + 1, 5, none⟩ = some (.slice (some ⟨b1, 0, none⟩) a.values.length a.values.length) := HI15.out.cel 5 (by omega)
  have d6 : we.cell? ⟨w.heap.size + 1 + 1, 6, none⟩ = some (.slice (some ⟨b2, 0, none⟩) a.holds.length a.holds.length) := HI15.out.cel 6 (by omega)
  have d7 : we.cell? ⟨w.heap.size + 1 + 1, 7, none⟩ = some (.int .i64 a.seen) := HI15.out.cel 7 (by omega)
  have d8 : we.cell? ⟨w.heap.size + 1 + 1, 8, none⟩ = some (.string a.hold) := HI15.out.cel 8 (by omega)
  have d9 : we.cell? ⟨w.heap.size + 1 + 1, 9, none⟩ = some (.string a.to_) := HI15.out.cel 9 (by omega)
  have d10 : we.cell? ⟨w.heap.size + 1 + 1, 10, none⟩ = some (.slice (some ⟨b3, 0, none⟩) a.rule.verbs.length a.rule.verbs.length) := HI15.out.cel 10 (by omega)
  have d11 : we.cell? ⟨w.heap.size + 1 + 1, 11, none⟩ = some (.string a.rule.kind) := HI15.out.cel 11 (by omega)
  have d12 : we.cell? ⟨w.heap.size + 1 + 1, 12, none⟩ = some (.string a.rule.team) := HI15.out.cel 12 (by omega)
  have d13 : we.cell? ⟨w.heap.size + 1 + 1, 13, none⟩ = some (.string a.rule.pre) := HI15.out.cel 13 (by omega)
  have d14 : we.cell? ⟨w.heap.size + 1 + 1, 14, none⟩ = some (.int .i64 a.number) := HI15.out.cel 14 (by omega)
  have dz := HI15.out.out.lt
  have hfz := HI15.out.res.frozen
  have hz := HI15.out.res.lt
  obtain ⟨z0, x0⟩ := HI15.out.res.cell 0 (by omega)
  obtain ⟨z1, x1⟩ := HI15.out.res.cell 1 (by omega)
  obtain ⟨z2, x2⟩ := HI15.out.res.cell 2 (by omega)
  obtain ⟨z3, x3⟩ := HI15.out.res.cell 3 (by omega)
  obtain ⟨z4, x4⟩ := HI15.out.res.cell 4 (by omega)
  obtain ⟨z5, x5⟩ := HI15.out.res.cell 5 (by omega)
  obtain ⟨z6, x6⟩ := HI15.out.res.cell 6 (by omega)
  obtain ⟨z7, x7⟩ := HI15.out.res.cell 7 (by omega)
  obtain ⟨z8, x8⟩ := HI15.out.res.cell 8 (by omega)
  obtain ⟨z9, x9⟩ := HI15.out.res.cell 9 (by omega)
  obtain ⟨z10, x10⟩ := HI15.out.res.cell 10 (by omega)
  obtain ⟨z11, x11⟩ := HI15.out.res.cell 11 (by omega)
  obtain ⟨z12, x12⟩ := HI15.out.res.cell 12 (by omega)
  obtain ⟨z13, x13⟩ := HI15.out.res.cell 13 (by omega)
  obtain ⟨z14, x14⟩ := HI15.out.res.cell 14 (by omega)
  go_wp2
  have p := fun i hi => puts_at 0 [.string a.who, .int .i64 a.verb, .string a.kind, .string a.name, .string a.team, .slice (some ⟨b1, 0, none⟩) a.values.length a.values.length, .slice (some ⟨b2, 0, none⟩) a.holds.length a.holds.length, .int .i64 a.seen, .string a.hold, .string a.to_, .slice (some ⟨b3, 0, none⟩) a.rule.verbs.length a.rule.verbs.length, .string a.rule.kind, .string a.rule.team, .string a.rule.pre, .int .i64 a.number] we 0 HI15.out.res (by simp) i hi
  have t0 := p 0 (by simp)
  have t1 := p 1 (by simp)
  have t2 := p 2 (by simp)
  have t3 := p 3 (by simp)
  have t4 := p 4 (by simp)
  have t5 := p 5 (by simp)
  have t6 := p 6 (by simp)
  have t7 := p 7 (by simp)
  have t8 := p 8 (by simp)
  have t9 := p 9 (by simp)
  have t10 := p 10 (by simp)
  have t11 := p 11 (by simp)
  have t12 := p 12 (by simp)
  have t13 := p 13 (by simp)
  have t14 := p 14 (by simp)
  have HPP : Hid (AkIn (puts we (w.heap.size + 1) 0 0 [.string a.who, .int .i64 a.verb, .string a.kind, .string a.name, .string a.team, .slice (some ⟨b1, 0, none⟩) a.values.length a.values.length, .slice (some ⟨b2, 0, none⟩) a.holds.length a.holds.length, .int .i64 a.seen, .string a.hold, .string a.to_, .slice (some ⟨b3, 0, none⟩) a.rule.verbs.length a.rule.verbs.length, .string a.rule.kind, .string a.rule.team, .string a.rule.pre, .int .i64 a.number]) b1 b2 b3 a ∧ Below w.heap.size w (puts we (w.heap.size + 1) 0 0 [.string a.who, .int .i64 a.verb, .string a.kind, .string a.name, .string a.team, .slice (some ⟨b1, 0, none⟩) a.values.length a.values.length, .slice (some ⟨b2, 0, none⟩) a.holds.length a.holds.length, .int .i64 a.seen, .string a.hold, .string a.to_, .slice (some ⟨b3, 0, none⟩) a.rule.verbs.length a.rule.verbs.length, .string a.rule.kind, .string a.rule.team, .string a.rule.pre, .int .i64 a.number])) := by
    show _ ∧ _
    have n1 := HTe.out.1.2
    have n2 := HTe.out.2.1.2
    have n3 := HTe.out.2.2.2
    refine ⟨⟨?_, ?_, HTe.out.2.2.1.putsA (by omega) _ _, HH.out.1.sized⟩, puts_below (a := w) _ (by omega) _ _ _ HI15.out.bel⟩
    · exact ⟨by rw [puts_size]; exact HTe.out.1.1.lt, HTe.out.1.1.len, HTe.out.1.1.sz, fun i hi => (puts_other _ _ _ _ _ _ _ (Or.inl (by omega))).trans (HTe.out.1.1.at_ i hi)⟩
    · exact ⟨by rw [puts_size]; exact HTe.out.2.1.1.lt, HTe.out.2.1.1.len, HTe.out.2.1.1.sz, fun i hi => (puts_other _ _ _ _ _ _ _ (Or.inl (by omega))).trans (HTe.out.2.1.1.at_ i hi)⟩
  simp only [puts, Nat.add_zero, Nat.zero_add, Nat.reduceAdd, List.getElem?_cons_zero, List.getElem?_cons_succ] at t0 t1 t2 t3 t4 t5 t6 t7 t8 t9 t10 t11 t12 t13 t14
  refine bodyPost_ret (v := .agg #[.string a.who, .int .i64 a.verb, .string a.kind, .string a.name, .string a.team, .slice (some ⟨b1, 0, none⟩) a.values.length a.values.length, .slice (some ⟨b2, 0, none⟩) a.holds.length a.holds.length, .int .i64 a.seen, .string a.hold, .string a.to_, .slice (some ⟨b3, 0, none⟩) a.rule.verbs.length a.rule.verbs.length, .string a.rule.kind, .string a.rule.team, .string a.rule.pre, .int .i64 a.number]) (by simp [results, Tryz.results9, go_sem, t0, t1, t2, t3, t4, t5, t6, t7, t8, t9, t10, t11, t12, t13, t14]) rfl ⟨⟨b1, b2, b3, rfl, ?_, ?_⟩, ?_⟩
  · exact HPP.out.1
  · have n1 := HTe.out.1.2
    have n2 := HTe.out.2.1.2
    have n3 := HTe.out.2.2.2
    exact ⟨by omega, by omega, by omega⟩
  · exact HPP.out.2

theorem toAk (a : Ak) (v1 v2 : Value) (ra : Option Addr) (rc : Nat) (w : World) (hs : a.small) (h : AkAt w v1 v2 ra rc a) :
    Calls Tryz.prog 9 #[.agg #[.string a.who, .int .i64 a.verb, .string a.kind, .string a.name, .string a.team, v1, v2, .int .i64 a.seen, .string a.hold, .string a.to_, .slice ra a.rule.verbs.length rc, .string a.rule.kind, .string a.rule.team, .string a.rule.pre, .int .i64 a.number]] w fun e w' => (∃ b1 b2 b3, e = .returned (.agg #[.string a.who, .int .i64 a.verb, .string a.kind, .string a.name, .string a.team, .slice (some ⟨b1, 0, none⟩) a.values.length a.values.length, .slice (some ⟨b2, 0, none⟩) a.holds.length a.holds.length, .int .i64 a.seen, .string a.hold, .string a.to_, .slice (some ⟨b3, 0, none⟩) a.rule.verbs.length a.rule.verbs.length, .string a.rule.kind, .string a.rule.team, .string a.rule.pre, .int .i64 a.number]) ∧ AkIn w' b1 b2 b3 a) ∧ Below w.heap.size w w' :=
  (toAkB a v1 v2 ra rc w hs h).mono fun _ _ ⟨⟨b1, b2, b3, he, hi, _⟩, hb⟩ => ⟨⟨b1, b2, b3, he, hi⟩, hb⟩

end Go.Proofs.YtkjkklcflpchlaaGreat
