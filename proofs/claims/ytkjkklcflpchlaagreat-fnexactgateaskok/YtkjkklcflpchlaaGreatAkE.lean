/-
  GateAskOk: what is nothing, and what a verb uses, by the plain answer.
-/
import Derived.Test.YtkjkklcflpchlaaGreatAkP
import Derived.Test.YtkjkklcflpchlaaGreatWalkLO
import Derived.Test.YtkjkklcflpchlaaGreatMemA
namespace Go.Proofs.YtkjkklcflpchlaaGreat
open Go.RowKit Go.Deep

set_option maxHeartbeats 2000000 in
theorem deed1 (w : World) : Calls Tryz.prog 64 #[.int .i64 1] w fun e w' => e = .returned (.iface 145 (.agg #[])) ∧ Below w.heap.size w w' := by
  go_enter Tryz.func64, Tryz.ntmps64
  go_wp2
  go_ret
  refine ⟨rfl, ?_⟩
  repeat (first | exact Below.refl _ _ | refine blw_alloc ?_ _ | refine Below.drew ?_)

theorem dmeth1 (w : World) : (method 342 145 (.agg #[]) "loop.example/wharfdesk/impl.uses").run Tryz.prog w = .ok (149, .agg #[]) w := by kernel_rfl

set_option maxHeartbeats 1000000 in
theorem uses1 (w : World) : Calls Tryz.prog 149 #[.agg #[]] w fun e w' => e = .returned (.int .u16 31) ∧ Below w.heap.size w w' := by
  go_enter Tryz.func149, Tryz.ntmps149
  go_wp2
  go_ret
  refine ⟨rfl, ?_⟩
  repeat (first | exact Below.refl _ _ | refine blw_alloc ?_ _ | refine Below.drew ?_)

set_option maxHeartbeats 2000000 in
theorem deed2 (w : World) : Calls Tryz.prog 64 #[.int .i64 2] w fun e w' => e = .returned (.iface 146 (.agg #[])) ∧ Below w.heap.size w w' := by
  go_enter Tryz.func64, Tryz.ntmps64
  go_wp2
  go_ret
  refine ⟨rfl, ?_⟩
  repeat (first | exact Below.refl _ _ | refine blw_alloc ?_ _ | refine Below.drew ?_)

theorem dmeth2 (w : World) : (method 342 146 (.agg #[]) "loop.example/wharfdesk/impl.uses").run Tryz.prog w = .ok (152, .agg #[]) w := by kernel_rfl

set_option maxHeartbeats 1000000 in
theorem uses2 (w : World) : Calls Tryz.prog 152 #[.agg #[]] w fun e w' => e = .returned (.int .u16 43) ∧ Below w.heap.size w w' := by
  go_enter Tryz.func152, Tryz.ntmps152
  go_wp2
  go_ret
  refine ⟨rfl, ?_⟩
  repeat (first | exact Below.refl _ _ | refine blw_alloc ?_ _ | refine Below.drew ?_)

set_option maxHeartbeats 2000000 in
theorem deed3 (w : World) : Calls Tryz.prog 64 #[.int .i64 3] w fun e w' => e = .returned (.iface 147 (.agg #[])) ∧ Below w.heap.size w w' := by
  go_enter Tryz.func64, Tryz.ntmps64
  go_wp2
  go_ret
  refine ⟨rfl, ?_⟩
  repeat (first | exact Below.refl _ _ | refine blw_alloc ?_ _ | refine Below.drew ?_)

theorem dmeth3 (w : World) : (method 342 147 (.agg #[]) "loop.example/wharfdesk/impl.uses").run Tryz.prog w = .ok (155, .agg #[]) w := by kernel_rfl

set_option maxHeartbeats 1000000 in
theorem uses3 (w : World) : Calls Tryz.prog 155 #[.agg #[]] w fun e w' => e = .returned (.int .u16 35) ∧ Below w.heap.size w w' := by
  go_enter Tryz.func155, Tryz.ntmps155
  go_wp2
  go_ret
  refine ⟨rfl, ?_⟩
  repeat (first | exact Below.refl _ _ | refine blw_alloc ?_ _ | refine Below.drew ?_)

set_option maxHeartbeats 2000000 in
theorem deed4 (w : World) : Calls Tryz.prog 64 #[.int .i64 4] w fun e w' => e = .returned (.iface 148 (.agg #[])) ∧ Below w.heap.size w w' := by
  go_enter Tryz.func64, Tryz.ntmps64
  go_wp2
  go_ret
  refine ⟨rfl, ?_⟩
  repeat (first | exact Below.refl _ _ | refine blw_alloc ?_ _ | refine Below.drew ?_)

theorem dmeth4 (w : World) : (method 342 148 (.agg #[]) "loop.example/wharfdesk/impl.uses").run Tryz.prog w = .ok (158, .agg #[]) w := by kernel_rfl

set_option maxHeartbeats 1000000 in
theorem uses4 (w : World) : Calls Tryz.prog 158 #[.agg #[]] w fun e w' => e = .returned (.int .u16 67) ∧ Below w.heap.size w w' := by
  go_enter Tryz.func158, Tryz.ntmps158
  go_wp2
  go_ret
  refine ⟨rfl, ?_⟩
  repeat (first | exact Below.refl _ _ | refine blw_alloc ?_ _ | refine Below.drew ?_)

set_option maxHeartbeats 2000000 in
theorem deed5 (w : World) : Calls Tryz.prog 64 #[.int .i64 5] w fun e w' => e = .returned (.iface 149 (.agg #[])) ∧ Below w.heap.size w w' := by
  go_enter Tryz.func64, Tryz.ntmps64
  go_wp2
  go_ret
  refine ⟨rfl, ?_⟩
  repeat (first | exact Below.refl _ _ | refine blw_alloc ?_ _ | refine Below.drew ?_)

theorem dmeth5 (w : World) : (method 342 149 (.agg #[]) "loop.example/wharfdesk/impl.uses").run Tryz.prog w = .ok (161, .agg #[]) w := by kernel_rfl

set_option maxHeartbeats 1000000 in
theorem uses5 (w : World) : Calls Tryz.prog 161 #[.agg #[]] w fun e w' => e = .returned (.int .u16 384) ∧ Below w.heap.size w w' := by
  go_enter Tryz.func161, Tryz.ntmps161
  go_wp2
  go_ret
  refine ⟨rfl, ?_⟩
  repeat (first | exact Below.refl _ _ | refine blw_alloc ?_ _ | refine Below.drew ?_)

set_option maxHeartbeats 2000000 in
theorem deed6 (w : World) : Calls Tryz.prog 64 #[.int .i64 6] w fun e w' => e = .returned (.iface 150 (.agg #[])) ∧ Below w.heap.size w w' := by
  go_enter Tryz.func64, Tryz.ntmps64
  go_wp2
  go_ret
  refine ⟨rfl, ?_⟩
  repeat (first | exact Below.refl _ _ | refine blw_alloc ?_ _ | refine Below.drew ?_)

theorem dmeth6 (w : World) : (method 342 150 (.agg #[]) "loop.example/wharfdesk/impl.uses").run Tryz.prog w = .ok (164, .agg #[]) w := by kernel_rfl

set_option maxHeartbeats 1000000 in
theorem uses6 (w : World) : Calls Tryz.prog 164 #[.agg #[]] w fun e w' => e = .returned (.int .u16 512) ∧ Below w.heap.size w w' := by
  go_enter Tryz.func164, Tryz.ntmps164
  go_wp2
  go_ret
  refine ⟨rfl, ?_⟩
  repeat (first | exact Below.refl _ _ | refine blw_alloc ?_ _ | refine Below.drew ?_)

end Go.Proofs.YtkjkklcflpchlaaGreat

namespace Go.Proofs.YtkjkklcflpchlaaGreat
open Go.RowKit Go.Deep

def usesOf (v : Int) : Nat := if v = 1 then 31 else if v = 2 then 43 else if v = 3 then 35 else if v = 4 then 67 else if v = 5 then 384 else 512
def restOk (U : Nat) (f : List Bool) : Bool := (List.range 10).all fun i => !U.testBit i || f.getD i false
def noneSet (U : Nat) (s : List Bool) : Bool := (List.range 10).all fun i => U.testBit i || !s.getD i false
def askB (L : Lw) (a : Ak) (n : Nat) : Bool := Pl.nameOk a.who && within a.verb 1 6 && (restOk (usesOf a.verb) (oksOf L a n) && noneSet (usesOf a.verb) (setsOf a))

theorem rest1 : ∀ f0 f1 f2 f3 f4 f5 f6 f7 f8 f9 : Bool, (bits BinOp.andNot IntKind.u16 31 ((acc [f0, f1, f2, f3, f4, f5, f6, f7, f8, f9] 10 : Nat) : Int) == 0) = restOk 31 [f0, f1, f2, f3, f4, f5, f6, f7, f8, f9] := by decide +kernel
theorem none1 : ∀ f0 f1 f2 f3 f4 f5 f6 f7 f8 f9 : Bool, (bits BinOp.andNot IntKind.u16 ((acc [f0, f1, f2, f3, f4, f5, f6, f7, f8, f9] 10 : Nat) : Int) 31 == 0) = noneSet 31 [f0, f1, f2, f3, f4, f5, f6, f7, f8, f9] := by decide +kernel
theorem rest2 : ∀ f0 f1 f2 f3 f4 f5 f6 f7 f8 f9 : Bool, (bits BinOp.andNot IntKind.u16 43 ((acc [f0, f1, f2, f3, f4, f5, f6, f7, f8, f9] 10 : Nat) : Int) == 0) = restOk 43 [f0, f1, f2, f3, f4, f5, f6, f7, f8, f9] := by decide +kernel
theorem none2 : ∀ f0 f1 f2 f3 f4 f5 f6 f7 f8 f9 : Bool, (bits BinOp.andNot IntKind.u16 ((acc [f0, f1, f2, f3, f4, f5, f6, f7, f8, f9] 10 : Nat) : Int) 43 == 0) = noneSet 43 [f0, f1, f2, f3, f4, f5, f6, f7, f8, f9] := by decide +kernel
theorem rest3 : ∀ f0 f1 f2 f3 f4 f5 f6 f7 f8 f9 : Bool, (bits BinOp.andNot IntKind.u16 35 ((acc [f0, f1, f2, f3, f4, f5, f6, f7, f8, f9] 10 : Nat) : Int) == 0) = restOk 35 [f0, f1, f2, f3, f4, f5, f6, f7, f8, f9] := by decide +kernel
theorem none3 : ∀ f0 f1 f2 f3 f4 f5 f6 f7 f8 f9 : Bool, (bits BinOp.andNot IntKind.u16 ((acc [f0, f1, f2, f3, f4, f5, f6, f7, f8, f9] 10 : Nat) : Int) 35 == 0) = noneSet 35 [f0, f1, f2, f3, f4, f5, f6, f7, f8, f9] := by decide +kernel
theorem rest4 : ∀ f0 f1 f2 f3 f4 f5 f6 f7 f8 f9 : Bool, (bits BinOp.andNot IntKind.u16 67 ((acc [f0, f1, f2, f3, f4, f5, f6, f7, f8, f9] 10 : Nat) : Int) == 0) = restOk 67 [f0, f1, f2, f3, f4, f5, f6, f7, f8, f9] := by decide +kernel
theorem none4 : ∀ f0 f1 f2 f3 f4 f5 f6 f7 f8 f9 : Bool, (bits BinOp.andNot IntKind.u16 ((acc [f0, f1, f2, f3, f4, f5, f6, f7, f8, f9] 10 : Nat) : Int) 67 == 0) = noneSet 67 [f0, f1, f2, f3, f4, f5, f6, f7, f8, f9] := by decide +kernel
theorem rest5 : ∀ f0 f1 f2 f3 f4 f5 f6 f7 f8 f9 : Bool, (bits BinOp.andNot IntKind.u16 384 ((acc [f0, f1, f2, f3, f4, f5, f6, f7, f8, f9] 10 : Nat) : Int) == 0) = restOk 384 [f0, f1, f2, f3, f4, f5, f6, f7, f8, f9] := by decide +kernel
theorem none5 : ∀ f0 f1 f2 f3 f4 f5 f6 f7 f8 f9 : Bool, (bits BinOp.andNot IntKind.u16 ((acc [f0, f1, f2, f3, f4, f5, f6, f7, f8, f9] 10 : Nat) : Int) 384 == 0) = noneSet 384 [f0, f1, f2, f3, f4, f5, f6, f7, f8, f9] := by decide +kernel
theorem rest6 : ∀ f0 f1 f2 f3 f4 f5 f6 f7 f8 f9 : Bool, (bits BinOp.andNot IntKind.u16 512 ((acc [f0, f1, f2, f3, f4, f5, f6, f7, f8, f9] 10 : Nat) : Int) == 0) = restOk 512 [f0, f1, f2, f3, f4, f5, f6, f7, f8, f9] := by decide +kernel
theorem none6 : ∀ f0 f1 f2 f3 f4 f5 f6 f7 f8 f9 : Bool, (bits BinOp.andNot IntKind.u16 ((acc [f0, f1, f2, f3, f4, f5, f6, f7, f8, f9] 10 : Nat) : Int) 512 == 0) = noneSet 512 [f0, f1, f2, f3, f4, f5, f6, f7, f8, f9] := by decide +kernel

set_option maxRecDepth 8000 in
set_option maxHeartbeats 8000000 in
theorem gateAskI (L : Lw) (a : Ak) (a0 a1 a2 b1 b2 b3 : Nat) (w : World) (hL : LwIn w a0 a1 a2 L) (h : AkIn w b1 b2 b3 a) :
    Calls Tryz.prog 31 #[.agg #[.slice (some ⟨a0, 0, none⟩) L.shapes.length L.shapes.length, .slice (some ⟨a1, 0, none⟩) L.mends.length L.mends.length, .slice (some ⟨a2, 0, none⟩) L.teams.length L.teams.length], .agg #[.string a.who, .int .i64 a.verb, .string a.kind, .string a.name, .string a.team, .slice (some ⟨b1, 0, none⟩) a.values.length a.values.length, .slice (some ⟨b2, 0, none⟩) a.holds.length a.holds.length, .int .i64 a.seen, .string a.hold, .string a.to_, .slice (some ⟨b3, 0, none⟩) a.rule.verbs.length a.rule.verbs.length, .string a.rule.kind, .string a.rule.team, .string a.rule.pre, .int .i64 a.number]] w fun e w' => (∃ n : Nat, e = .returned (.bool (askB L a n)) ∧ (hasKind L.shapes a.kind = true → n = (L.shapes.getD (kindAt L.shapes a.kind) Shp.none).fields.length)) ∧ Below w.heap.size w w' := by
  obtain ⟨wa, hwa⟩ : ∃ wa, wa = (w.alloc (.cells #[.slice (some ⟨a0, 0, none⟩) L.shapes.length L.shapes.length, .slice (some ⟨a1, 0, none⟩) L.mends.length L.mends.length, .slice (some ⟨a2, 0, none⟩) L.teams.length L.teams.length] 40)).alloc (.cells #[.string a.who, .int .i64 a.verb, .string a.kind, .string a.name, .string a.team, .slice (some ⟨b1, 0, none⟩) a.values.length a.values.length, .slice (some ⟨b2, 0, none⟩) a.holds.length a.holds.length, .int .i64 a.seen, .string a.hold, .string a.to_, .slice (some ⟨b3, 0, none⟩) a.rule.verbs.length a.rule.verbs.length, .string a.rule.kind, .string a.rule.team, .string a.rule.pre, .int .i64 a.number] 44) := ⟨_, rfl⟩
  have HBa : Hid (Below w.heap.size w wa) := by show Below _ _ _; rw [hwa]; exact blw_alloc (blw_alloc (Below.refl _ _) _) _
  have HXa : Hid (BoxV wa w.heap.size #[.slice (some ⟨a0, 0, none⟩) L.shapes.length L.shapes.length, .slice (some ⟨a1, 0, none⟩) L.mends.length L.mends.length, .slice (some ⟨a2, 0, none⟩) L.teams.length L.teams.length] ∧ BoxV wa (w.heap.size + 1) #[.string a.who, .int .i64 a.verb, .string a.kind, .string a.name, .string a.team, .slice (some ⟨b1, 0, none⟩) a.values.length a.values.length, .slice (some ⟨b2, 0, none⟩) a.holds.length a.holds.length, .int .i64 a.seen, .string a.hold, .string a.to_, .slice (some ⟨b3, 0, none⟩) a.rule.verbs.length a.rule.verbs.length, .string a.rule.kind, .string a.rule.team, .string a.rule.pre, .int .i64 a.number]) := by show _ ∧ _; rw [hwa]; exact ⟨(BoxV.new' _ _ _ _ rfl).past _, BoxV.new' _ _ _ _ (by simp)⟩
  have HH : Hid (LwIn w a0 a1 a2 L ∧ AkIn w b1 b2 b3 a) := ⟨hL, h⟩
  obtain ⟨NF, hNF⟩ : ∃ NF, NF = (L.shapes.getD (kindAt L.shapes a.kind) Shp.none).fields.length := ⟨_, rfl⟩
  rw [← hNF]
  have HNF : Hid (NF = (L.shapes.getD (kindAt L.shapes a.kind) Shp.none).fields.length) := hNF
  have hz1 := h.sized.1
  clear hL h hNF
  go_enter Tryz.func31, Tryz.ntmps31
  go_upto_region 1 with fail
  rw [← hwa]
  clear hwa
  have az := HXa.out.2.lt
  have x0 : wa.cell? ⟨w.heap.size + 1, 0, none⟩ = some (.string a.who) := HXa.out.2.at_ 0
  have x1 : wa.cell? ⟨w.heap.size + 1, 1, none⟩ = some (.int .i64 a.verb) := HXa.out.2.at_ 1
  obtain ⟨q1, hq1⟩ : ∃ q1, q1 = Pl.nameOk a.who := ⟨_, rfl⟩
  obtain ⟨q2, hq2⟩ : ∃ q2, q2 = within a.verb 1 6 := ⟨_, rfl⟩
  have HQ : Hid (q1 = Pl.nameOk a.who ∧ q2 = within a.verb 1 6) := ⟨hq1, hq2⟩
  have HN : Hid (Calls Tryz.prog 62 #[.string a.who] wa fun e w' => e = .returned (.bool q1) ∧ wa = w') := by rw [hq1]; exact isName_any a.who wa hz1
  have HV : Hid (Calls Tryz.prog 63 #[.int .i64 a.verb, .int .i64 1, .int .i64 6] wa fun e w' => e = .returned (.bool q2) ∧ wa = w') := by rw [hq2]; exact withinI a.verb 1 6 wa
  clear hz1 hq1 hq2
  go_wp2_with fail
  refine HN.out.mono ?_
  rintro e w' ⟨rfl, rfl⟩
  cases q1
  · have HF : Hid (∀ n, askB L a n = false) := fun n => by
      unfold askB
      rw [← HQ.out.1]
      rfl
    go_wp2
    go_ret
    exact ⟨⟨NF, by rw [HF.out]; rfl, fun _ => rfl⟩, HBa.out⟩
  · go_wp2_with fail
    refine HV.out.mono ?_
    rintro e w' ⟨rfl, rfl⟩
    cases q2
    · have HF : Hid (∀ n, askB L a n = false) := fun n => by
        unfold askB
        rw [← HQ.out.1, ← HQ.out.2]
        rfl
      go_wp2
      go_ret
      exact ⟨⟨NF, by rw [HF.out]; rfl, fun _ => rfl⟩, HBa.out⟩
    have hv : a.verb = 1 ∨ a.verb = 2 ∨ a.verb = 3 ∨ a.verb = 4 ∨ a.verb = 5 ∨ a.verb = 6 := by
      have := HQ.out.2.symm
      unfold within at this
      simp only [Bool.and_eq_true, decide_eq_true_eq] at this
      omega
    have HBb : Hid (Below w.heap.size w wa) := HBa.out
    have HXb : Hid (BoxV wa w.heap.size #[.slice (some ⟨a0, 0, none⟩) L.shapes.length L.shapes.length, .slice (some ⟨a1, 0, none⟩) L.mends.length L.mends.length, .slice (some ⟨a2, 0, none⟩) L.teams.length L.teams.length] ∧ BoxV wa (w.heap.size + 1) #[.string a.who, .int .i64 a.verb, .string a.kind, .string a.name, .string a.team, .slice (some ⟨b1, 0, none⟩) a.values.length a.values.length, .slice (some ⟨b2, 0, none⟩) a.holds.length a.holds.length, .int .i64 a.seen, .string a.hold, .string a.to_, .slice (some ⟨b3, 0, none⟩) a.rule.verbs.length a.rule.verbs.length, .string a.rule.kind, .string a.rule.team, .string a.rule.pre, .int .i64 a.number]) := HXa.out
    clear az x0 x1 HN HV HXa HBa
    generalize wa = wb at HBb HXb ⊢
    rcases hv with hv | hv | hv | hv | hv | hv
    · have HA : Hid (∀ n, askB L a n = (restOk 31 (oksOf L a n) && noneSet 31 (setsOf a))) := fun n => by
        unfold askB
        rw [← HQ.out.1, ← HQ.out.2, hv]
        rfl
      have az := HXb.out.2.lt
      have x1 : wb.cell? ⟨w.heap.size + 1, 1, none⟩ = some (.int .i64 1) := by rw [← hv]; exact HXb.out.2.at_ 1
      have hm := dmeth1
      clear hv
      go_wp2_with fail
      refine (deed1 wb).mono ?_
      rintro e wc ⟨rfl, hb⟩
      have HBc : Hid (Below w.heap.size w wc) := blw_trans HBb.out hb
      have HXc : Hid (BoxV wc w.heap.size #[.slice (some ⟨a0, 0, none⟩) L.shapes.length L.shapes.length, .slice (some ⟨a1, 0, none⟩) L.mends.length L.mends.length, .slice (some ⟨a2, 0, none⟩) L.teams.length L.teams.length] ∧ BoxV wc (w.heap.size + 1) #[.string a.who, .int .i64 a.verb, .string a.kind, .string a.name, .string a.team, .slice (some ⟨b1, 0, none⟩) a.values.length a.values.length, .slice (some ⟨b2, 0, none⟩) a.holds.length a.holds.length, .int .i64 a.seen, .string a.hold, .string a.to_, .slice (some ⟨b3, 0, none⟩) a.rule.verbs.length a.rule.verbs.length, .string a.rule.kind, .string a.rule.team, .string a.rule.pre, .int .i64 a.number]) := ⟨HXb.out.1.later hb, HXb.out.2.later hb⟩
      clear hb az x1 HXb HBb
      go_wp2_with fail
      refine (uses1 wc).mono ?_
      rintro e wd ⟨rfl, hb⟩
      have HBd : Hid (Below w.heap.size w wd) := blw_trans HBc.out hb
      have HXd : Hid (BoxV wd w.heap.size #[.slice (some ⟨a0, 0, none⟩) L.shapes.length L.shapes.length, .slice (some ⟨a1, 0, none⟩) L.mends.length L.mends.length, .slice (some ⟨a2, 0, none⟩) L.teams.length L.teams.length] ∧ BoxV wd (w.heap.size + 1) #[.string a.who, .int .i64 a.verb, .string a.kind, .string a.name, .string a.team, .slice (some ⟨b1, 0, none⟩) a.values.length a.values.length, .slice (some ⟨b2, 0, none⟩) a.holds.length a.holds.length, .int .i64 a.seen, .string a.hold, .string a.to_, .slice (some ⟨b3, 0, none⟩) a.rule.verbs.length a.rule.verbs.length, .string a.rule.kind, .string a.rule.team, .string a.rule.pre, .int .i64 a.number]) := ⟨HXc.out.1.later hb, HXc.out.2.later hb⟩
      clear hb hm HXc HBc
      have lz := HXd.out.1.lt
      have az := HXd.out.2.lt
      have l0 : wd.cell? ⟨w.heap.size, 0, none⟩ = some (.slice (some ⟨a0, 0, none⟩) L.shapes.length L.shapes.length) := HXd.out.1.at_ 0
      have l1 : wd.cell? ⟨w.heap.size, 1, none⟩ = some (.slice (some ⟨a1, 0, none⟩) L.mends.length L.mends.length) := HXd.out.1.at_ 1
      have l2 : wd.cell? ⟨w.heap.size, 2, none⟩ = some (.slice (some ⟨a2, 0, none⟩) L.teams.length L.teams.length) := HXd.out.1.at_ 2
      have x0 : wd.cell? ⟨w.heap.size + 1, 0, none⟩ = some (.string a.who) := HXd.out.2.at_ 0
      have x1 : wd.cell? ⟨w.heap.size + 1, 1, none⟩ = some (.int .i64 a.verb) := HXd.out.2.at_ 1
      have x2 : wd.cell? ⟨w.heap.size + 1, 2, none⟩ = some (.string a.kind) := HXd.out.2.at_ 2
      have x3 : wd.cell? ⟨w.heap.size + 1, 3, none⟩ = some (.string a.name) := HXd.out.2.at_ 3
      have x4 : wd.cell? ⟨w.heap.size + 1, 4, none⟩ = some (.string a.team) := HXd.out.2.at_ 4
      have x5 : wd.cell? ⟨w.heap.size + 1, 5, none⟩ = some (.slice (some ⟨b1, 0, none⟩) a.values.length a.values.length) := HXd.out.2.at_ 5
      have x6 : wd.cell? ⟨w.heap.size + 1, 6, none⟩ = some (.slice (some ⟨b2, 0, none⟩) a.holds.length a.holds.length) := HXd.out.2.at_ 6
      have x7 : wd.cell? ⟨w.heap.size + 1, 7, none⟩ = some (.int .i64 a.seen) := HXd.out.2.at_ 7
      have x8 : wd.cell? ⟨w.heap.size + 1, 8, none⟩ = some (.string a.hold) := HXd.out.2.at_ 8
      have x9 : wd.cell? ⟨w.heap.size + 1, 9, none⟩ = some (.string a.to_) := HXd.out.2.at_ 9
      have x10 : wd.cell? ⟨w.heap.size + 1, 10, none⟩ = some (.slice (some ⟨b3, 0, none⟩) a.rule.verbs.length a.rule.verbs.length) := HXd.out.2.at_ 10
      have x11 : wd.cell? ⟨w.heap.size + 1, 11, none⟩ = some (.string a.rule.kind) := HXd.out.2.at_ 11
      have x12 : wd.cell? ⟨w.heap.size + 1, 12, none⟩ = some (.string a.rule.team) := HXd.out.2.at_ 12
      have x13 : wd.cell? ⟨w.heap.size + 1, 13, none⟩ = some (.string a.rule.pre) := HXd.out.2.at_ 13
      have x14 : wd.cell? ⟨w.heap.size + 1, 14, none⟩ = some (.int .i64 a.number) := HXd.out.2.at_ 14
      go_wp2_with fail
      refine (partsI L a a0 a1 a2 b1 b2 b3 wd (HH.out.1.later HBd.out) (HH.out.2.later HBd.out)).mono ?_
      rintro e we ⟨⟨n, rfl, hn⟩, hb⟩
      have HBe : Hid (Below w.heap.size w we) := blw_trans HBd.out hb
      have HNN : Hid (hasKind L.shapes a.kind = true → n = NF) := fun hk => (hn hk).trans HNF.out.symm
      clear hn hb lz az l0 l1 l2 x0 x1 x2 x3 x4 x5 x6 x7 x8 x9 x10 x11 x12 x13 x14 HXd HBd
      have E1 : (bits BinOp.andNot IntKind.u16 31 ((acc (oksOf L a n) 10 : Nat) : Int) == 0) = restOk 31 (oksOf L a n) := rest1 _ _ _ _ _ _ _ _ _ _
      have E2 : (bits BinOp.andNot IntKind.u16 ((acc (setsOf a) 10 : Nat) : Int) 31 == 0) = noneSet 31 (setsOf a) := none1 _ _ _ _ _ _ _ _ _ _
      have HA2 : Hid (askB L a n = (restOk 31 (oksOf L a n) && noneSet 31 (setsOf a))) := HA.out n
      obtain ⟨x, hx⟩ : ∃ x, x = acc (oksOf L a n) 10 := ⟨_, rfl⟩
      obtain ⟨y, hy⟩ : ∃ y, y = acc (setsOf a) 10 := ⟨_, rfl⟩
      obtain ⟨r1, hr1⟩ : ∃ r1, r1 = restOk 31 (oksOf L a n) := ⟨_, rfl⟩
      obtain ⟨r2, hr2⟩ : ∃ r2, r2 = noneSet 31 (setsOf a) := ⟨_, rfl⟩
      rw [← hx, ← hr1] at E1
      rw [← hy, ← hr2] at E2
      rw [← hr1, ← hr2] at HA2
      rw [← hx, ← hy]
      clear hx hy hr1 hr2 HA
      cases r1 <;> cases r2
      all_goals
        go_wp2
        go_ret
        exact ⟨⟨n, by rw [HA2.out]; rfl, HNN.out⟩, HBe.out⟩
    · have HA : Hid (∀ n, askB L a n = (restOk 43 (oksOf L a n) && noneSet 43 (setsOf a))) := fun n => by
        unfold askB
        rw [← HQ.out.1, ← HQ.out.2, hv]
        rfl
      have az := HXb.out.2.lt
      have x1 : wb.cell? ⟨w.heap.size + 1, 1, none⟩ = some (.int .i64 2) := by rw [← hv]; exact HXb.out.2.at_ 1
      have hm := dmeth2
      clear hv
      go_wp2_with fail
      refine (deed2 wb).mono ?_
      rintro e wc ⟨rfl, hb⟩
      have HBc : Hid (Below w.heap.size w wc) := blw_trans HBb.out hb
      have HXc : Hid (BoxV wc w.heap.size #[.slice (some ⟨a0, 0, none⟩) L.shapes.length L.shapes.length, .slice (some ⟨a1, 0, none⟩) L.mends.length L.mends.length, .slice (some ⟨a2, 0, none⟩) L.teams.length L.teams.length] ∧ BoxV wc (w.heap.size + 1) #[.string a.who, .int .i64 a.verb, .string a.kind, .string a.name, .string a.team, .slice (some ⟨b1, 0, none⟩) a.values.length a.values.length, .slice (some ⟨b2, 0, none⟩) a.holds.length a.holds.length, .int .i64 a.seen, .string a.hold, .string a.to_, .slice (some ⟨b3, 0, none⟩) a.rule.verbs.length a.rule.verbs.length, .string a.rule.kind, .string a.rule.team, .string a.rule.pre, .int .i64 a.number]) := ⟨HXb.out.1.later hb, HXb.out.2.later hb⟩
      clear hb az x1 HXb HBb
      go_wp2_with fail
      refine (uses2 wc).mono ?_
      rintro e wd ⟨rfl, hb⟩
      have HBd : Hid (Below w.heap.size w wd) := blw_trans HBc.out hb
      have HXd : Hid (BoxV wd w.heap.size #[.slice (some ⟨a0, 0, none⟩) L.shapes.length L.shapes.length, .slice (some ⟨a1, 0, none⟩) L.mends.length L.mends.length, .slice (some ⟨a2, 0, none⟩) L.teams.length L.teams.length] ∧ BoxV wd (w.heap.size + 1) #[.string a.who, .int .i64 a.verb, .string a.kind, .string a.name, .string a.team, .slice (some ⟨b1, 0, none⟩) a.values.length a.values.length, .slice (some ⟨b2, 0, none⟩) a.holds.length a.holds.length, .int .i64 a.seen, .string a.hold, .string a.to_, .slice (some ⟨b3, 0, none⟩) a.rule.verbs.length a.rule.verbs.length, .string a.rule.kind, .string a.rule.team, .string a.rule.pre, .int .i64 a.number]) := ⟨HXc.out.1.later hb, HXc.out.2.later hb⟩
      clear hb hm HXc HBc
      have lz := HXd.out.1.lt
      have az := HXd.out.2.lt
      have l0 : wd.cell? ⟨w.heap.size, 0, none⟩ = some (.slice (some ⟨a0, 0, none⟩) L.shapes.length L.shapes.length) := HXd.out.1.at_ 0
      have l1 : wd.cell? ⟨w.heap.size, 1, none⟩ = some (.slice (some ⟨a1, 0, none⟩) L.mends.length L.mends.length) := HXd.out.1.at_ 1
      have l2 : wd.cell? ⟨w.heap.size, 2, none⟩ = some (.slice (some ⟨a2, 0, none⟩) L.teams.length L.teams.length) := HXd.out.1.at_ 2
      have x0 : wd.cell? ⟨w.heap.size + 1, 0, none⟩ = some (.string a.who) := HXd.out.2.at_ 0
      have x1 : wd.cell? ⟨w.heap.size + 1, 1, none⟩ = some (.int .i64 a.verb) := HXd.out.2.at_ 1
      have x2 : wd.cell? ⟨w.heap.size + 1, 2, none⟩ = some (.string a.kind) := HXd.out.2.at_ 2
      have x3 : wd.cell? ⟨w.heap.size + 1, 3, none⟩ = some (.string a.name) := HXd.out.2.at_ 3
      have x4 : wd.cell? ⟨w.heap.size + 1, 4, none⟩ = some (.string a.team) := HXd.out.2.at_ 4
      have x5 : wd.cell? ⟨w.heap.size + 1, 5, none⟩ = some (.slice (some ⟨b1, 0, none⟩) a.values.length a.values.length) := HXd.out.2.at_ 5
      have x6 : wd.cell? ⟨w.heap.size + 1, 6, none⟩ = some (.slice (some ⟨b2, 0, none⟩) a.holds.length a.holds.length) := HXd.out.2.at_ 6
      have x7 : wd.cell? ⟨w.heap.size + 1, 7, none⟩ = some (.int .i64 a.seen) := HXd.out.2.at_ 7
      have x8 : wd.cell? ⟨w.heap.size + 1, 8, none⟩ = some (.string a.hold) := HXd.out.2.at_ 8
      have x9 : wd.cell? ⟨w.heap.size + 1, 9, none⟩ = some (.string a.to_) := HXd.out.2.at_ 9
      have x10 : wd.cell? ⟨w.heap.size + 1, 10, none⟩ = some (.slice (some ⟨b3, 0, none⟩) a.rule.verbs.length a.rule.verbs.length) := HXd.out.2.at_ 10
      have x11 : wd.cell? ⟨w.heap.size + 1, 11, none⟩ = some (.string a.rule.kind) := HXd.out.2.at_ 11
      have x12 : wd.cell? ⟨w.heap.size + 1, 12, none⟩ = some (.string a.rule.team) := HXd.out.2.at_ 12
      have x13 : wd.cell? ⟨w.heap.size + 1, 13, none⟩ = some (.string a.rule.pre) := HXd.out.2.at_ 13
      have x14 : wd.cell? ⟨w.heap.size + 1, 14, none⟩ = some (.int .i64 a.number) := HXd.out.2.at_ 14
      go_wp2_with fail
      refine (partsI L a a0 a1 a2 b1 b2 b3 wd (HH.out.1.later HBd.out) (HH.out.2.later HBd.out)).mono ?_
      rintro e we ⟨⟨n, rfl, hn⟩, hb⟩
      have HBe : Hid (Below w.heap.size w we) := blw_trans HBd.out hb
      have HNN : Hid (hasKind L.shapes a.kind = true → n = NF) := fun hk => (hn hk).trans HNF.out.symm
      clear hn hb lz az l0 l1 l2 x0 x1 x2 x3 x4 x5 x6 x7 x8 x9 x10 x11 x12 x13 x14 HXd HBd
      have E1 : (bits BinOp.andNot IntKind.u16 43 ((acc (oksOf L a n) 10 : Nat) : Int) == 0) = restOk 43 (oksOf L a n) := rest2 _ _ _ _ _ _ _ _ _ _
      have E2 : (bits BinOp.andNot IntKind.u16 ((acc (setsOf a) 10 : Nat) : Int) 43 == 0) = noneSet 43 (setsOf a) := none2 _ _ _ _ _ _ _ _ _ _
      have HA2 : Hid (askB L a n = (restOk 43 (oksOf L a n) && noneSet 43 (setsOf a))) := HA.out n
      obtain ⟨x, hx⟩ : ∃ x, x = acc (oksOf L a n) 10 := ⟨_, rfl⟩
      obtain ⟨y, hy⟩ : ∃ y, y = acc (setsOf a) 10 := ⟨_, rfl⟩
      obtain ⟨r1, hr1⟩ : ∃ r1, r1 = restOk 43 (oksOf L a n) := ⟨_, rfl⟩
      obtain ⟨r2, hr2⟩ : ∃ r2, r2 = noneSet 43 (setsOf a) := ⟨_, rfl⟩
      rw [← hx, ← hr1] at E1
      rw [← hy, ← hr2] at E2
      rw [← hr1, ← hr2] at HA2
      rw [← hx, ← hy]
      clear hx hy hr1 hr2 HA
      cases r1 <;> cases r2
      all_goals
        go_wp2
        go_ret
        exact ⟨⟨n, by rw [HA2.out]; rfl, HNN.out⟩, HBe.out⟩
    · have HA : Hid (∀ n, askB L a n = (restOk 35 (oksOf L a n) && noneSet 35 (setsOf a))) := fun n => by
        unfold askB
        rw [← HQ.out.1, ← HQ.out.2, hv]
        rfl
      have az := HXb.out.2.lt
      have x1 : wb.cell? ⟨w.heap.size + 1, 1, none⟩ = some (.int .i64 3) := by rw [← hv]; exact HXb.out.2.at_ 1
      have hm := dmeth3
      clear hv
      go_wp2_with fail
      refine (deed3 wb).mono ?_
      rintro e wc ⟨rfl, hb⟩
      have HBc : Hid (Below w.heap.size w wc) := blw_trans HBb.out hb
      have HXc : Hid (BoxV wc w.heap.size #[.slice (some ⟨a0, 0, none⟩) L.shapes.length L.shapes.length, .slice (some ⟨a1, 0, none⟩) L.mends.length L.mends.length, .slice (some ⟨a2, 0, none⟩) L.teams.length L.teams.length] ∧ BoxV wc (w.heap.size + 1) #[.string a.who, .int .i64 a.verb, .string a.kind, .string a.name, .string a.team, .slice (some ⟨b1, 0, none⟩) a.values.length a.values.length, .slice (some ⟨b2, 0, none⟩) a.holds.length a.holds.length, .int .i64 a.seen, .string a.hold, .string a.to_, .slice (some ⟨b3, 0, none⟩) a.rule.verbs.length a.rule.verbs.length, .string a.rule.kind, .string a.rule.team, .string a.rule.pre, .int .i64 a.number]) := ⟨HXb.out.1.later hb, HXb.out.2.later hb⟩
      clear hb az x1 HXb HBb
      go_wp2_with fail
      refine (uses3 wc).mono ?_
      rintro e wd ⟨rfl, hb⟩
      have HBd : Hid (Below w.heap.size w wd) := blw_trans HBc.out hb
      have HXd : Hid (BoxV wd w.heap.size #[.slice (some ⟨a0, 0, none⟩) L.shapes.length L.shapes.length, .slice (some ⟨a1, 0, none⟩) L.mends.length L.mends.length, .slice (some ⟨a2, 0, none⟩) L.teams.length L.teams.length] ∧ BoxV wd (w.heap.size + 1) #[.string a.who, .int .i64 a.verb, .string a.kind, .string a.name, .string a.team, .slice (some ⟨b1, 0, none⟩) a.values.length a.values.length, .slice (some ⟨b2, 0, none⟩) a.holds.length a.holds.length, .int .i64 a.seen, .string a.hold, .string a.to_, .slice (some ⟨b3, 0, none⟩) a.rule.verbs.length a.rule.verbs.length, .string a.rule.kind, .string a.rule.team, .string a.rule.pre, .int .i64 a.number]) := ⟨HXc.out.1.later hb, HXc.out.2.later hb⟩
      clear hb hm HXc HBc
      have lz := HXd.out.1.lt
      have az := HXd.out.2.lt
      have l0 : wd.cell? ⟨w.heap.size, 0, none⟩ = some (.slice (some ⟨a0, 0, none⟩) L.shapes.length L.shapes.length) := HXd.out.1.at_ 0
      have l1 : wd.cell? ⟨w.heap.size, 1, none⟩ = some (.slice (some ⟨a1, 0, none⟩) L.mends.length L.mends.length) := HXd.out.1.at_ 1
      have l2 : wd.cell? ⟨w.heap.size, 2, none⟩ = some (.slice (some ⟨a2, 0, none⟩) L.teams.length L.teams.length) := HXd.out.1.at_ 2
      have x0 : wd.cell? ⟨w.heap.size + 1, 0, none⟩ = some (.string a.who) := HXd.out.2.at_ 0
      have x1 : wd.cell? ⟨w.heap.size + 1, 1, none⟩ = some (.int .i64 a.verb) := HXd.out.2.at_ 1
      have x2 : wd.cell? ⟨w.heap.size + 1, 2, none⟩ = some (.string a.kind) := HXd.out.2.at_ 2
      have x3 : wd.cell? ⟨w.heap.size + 1, 3, none⟩ = some (.string a.name) := HXd.out.2.at_ 3
      have x4 : wd.cell? ⟨w.heap.size + 1, 4, none⟩ = some (.string a.team) := HXd.out.2.at_ 4
      have x5 : wd.cell? ⟨w.heap.size + 1, 5, none⟩ = some (.slice (some ⟨b1, 0, none⟩) a.values.length a.values.length) := HXd.out.2.at_ 5
      have x6 : wd.cell? ⟨w.heap.size + 1, 6, none⟩ = some (.slice (some ⟨b2, 0, none⟩) a.holds.length a.holds.length) := HXd.out.2.at_ 6
      have x7 : wd.cell? ⟨w.heap.size + 1, 7, none⟩ = some (.int .i64 a.seen) := HXd.out.2.at_ 7
      have x8 : wd.cell? ⟨w.heap.size + 1, 8, none⟩ = some (.string a.hold) := HXd.out.2.at_ 8
      have x9 : wd.cell? ⟨w.heap.size + 1, 9, none⟩ = some (.string a.to_) := HXd.out.2.at_ 9
      have x10 : wd.cell? ⟨w.heap.size + 1, 10, none⟩ = some (.slice (some ⟨b3, 0, none⟩) a.rule.verbs.length a.rule.verbs.length) := HXd.out.2.at_ 10
      have x11 : wd.cell? ⟨w.heap.size + 1, 11, none⟩ = some (.string a.rule.kind) := HXd.out.2.at_ 11
      have x12 : wd.cell? ⟨w.heap.size + 1, 12, none⟩ = some (.string a.rule.team) := HXd.out.2.at_ 12
      have x13 : wd.cell? ⟨w.heap.size + 1, 13, none⟩ = some (.string a.rule.pre) := HXd.out.2.at_ 13
      have x14 : wd.cell? ⟨w.heap.size + 1, 14, none⟩ = some (.int .i64 a.number) := HXd.out.2.at_ 14
      go_wp2_with fail
      refine (partsI L a a0 a1 a2 b1 b2 b3 wd (HH.out.1.later HBd.out) (HH.out.2.later HBd.out)).mono ?_
      rintro e we ⟨⟨n, rfl, hn⟩, hb⟩
      have HBe : Hid (Below w.heap.size w we) := blw_trans HBd.out hb
      have HNN : Hid (hasKind L.shapes a.kind = true → n = NF) := fun hk => (hn hk).trans HNF.out.symm
      clear hn hb lz az l0 l1 l2 x0 x1 x2 x3 x4 x5 x6 x7 x8 x9 x10 x11 x12 x13 x14 HXd HBd
      have E1 : (bits BinOp.andNot IntKind.u16 35 ((acc (oksOf L a n) 10 : Nat) : Int) == 0) = restOk 35 (oksOf L a n) := rest3 _ _ _ _ _ _ _ _ _ _
      have E2 : (bits BinOp.andNot IntKind.u16 ((acc (setsOf a) 10 : Nat) : Int) 35 == 0) = noneSet 35 (setsOf a) := none3 _ _ _ _ _ _ _ _ _ _
      have HA2 : Hid (askB L a n = (restOk 35 (oksOf L a n) && noneSet 35 (setsOf a))) := HA.out n
      obtain ⟨x, hx⟩ : ∃ x, x = acc (oksOf L a n) 10 := ⟨_, rfl⟩
      obtain ⟨y, hy⟩ : ∃ y, y = acc (setsOf a) 10 := ⟨_, rfl⟩
      obtain ⟨r1, hr1⟩ : ∃ r1, r1 = restOk 35 (oksOf L a n) := ⟨_, rfl⟩
      obtain ⟨r2, hr2⟩ : ∃ r2, r2 = noneSet 35 (setsOf a) := ⟨_, rfl⟩
      rw [← hx, ← hr1] at E1
      rw [← hy, ← hr2] at E2
      rw [← hr1, ← hr2] at HA2
      rw [← hx, ← hy]
      clear hx hy hr1 hr2 HA
      cases r1 <;> cases r2
      all_goals
        go_wp2
        go_ret
        exact ⟨⟨n, by rw [HA2.out]; rfl, HNN.out⟩, HBe.out⟩
    · have HA : Hid (∀ n, askB L a n = (restOk 67 (oksOf L a n) && noneSet 67 (setsOf a))) := fun n => by
        unfold askB
        rw [← HQ.out.1, ← HQ.out.2, hv]
        rfl
      have az := HXb.out.2.lt
      have x1 : wb.cell? ⟨w.heap.size + 1, 1, none⟩ = some (.int .i64 4) := by rw [← hv]; exact HXb.out.2.at_ 1
      have hm := dmeth4
      clear hv
      go_wp2_with fail
      refine (deed4 wb).mono ?_
      rintro e wc ⟨rfl, hb⟩
      have HBc : Hid (Below w.heap.size w wc) := blw_trans HBb.out hb
      have HXc : Hid (BoxV wc w.heap.size #[.slice (some ⟨a0, 0, none⟩) L.shapes.length L.shapes.length, .slice (some ⟨a1, 0, none⟩) L.mends.length L.mends.length, .slice (some ⟨a2, 0, none⟩) L.teams.length L.teams.length] ∧ BoxV wc (w.heap.size + 1) #[.string a.who, .int .i64 a.verb, .string a.kind, .string a.name, .string a.team, .slice (some ⟨b1, 0, none⟩) a.values.length a.values.length, .slice (some ⟨b2, 0, none⟩) a.holds.length a.holds.length, .int .i64 a.seen, .string a.hold, .string a.to_, .slice (some ⟨b3, 0, none⟩) a.rule.verbs.length a.rule.verbs.length, .string a.rule.kind, .string a.rule.team, .string a.rule.pre, .int .i64 a.number]) := ⟨HXb.out.1.later hb, HXb.out.2.later hb⟩
      clear hb az x1 HXb HBb
      go_wp2_with fail
      refine (uses4 wc).mono ?_
      rintro e wd ⟨rfl, hb⟩
      have HBd : Hid (Below w.heap.size w wd) := blw_trans HBc.out hb
      have HXd : Hid (BoxV wd w.heap.size #[.slice (some ⟨a0, 0, none⟩) L.shapes.length L.shapes.length, .slice (some ⟨a1, 0, none⟩) L.mends.length L.mends.length, .slice (some ⟨a2, 0, none⟩) L.teams.length L.teams.length] ∧ BoxV wd (w.heap.size + 1) #[.string a.who, .int .i64 a.verb, .string a.kind, .string a.name, .string a.team, .slice (some ⟨b1, 0, none⟩) a.values.length a.values.length, .slice (some ⟨b2, 0, none⟩) a.holds.length a.holds.length, .int .i64 a.seen, .string a.hold, .string a.to_, .slice (some ⟨b3, 0, none⟩) a.rule.verbs.length a.rule.verbs.length, .string a.rule.kind, .string a.rule.team, .string a.rule.pre, .int .i64 a.number]) := ⟨HXc.out.1.later hb, HXc.out.2.later hb⟩
      clear hb hm HXc HBc
      have lz := HXd.out.1.lt
      have az := HXd.out.2.lt
      have l0 : wd.cell? ⟨w.heap.size, 0, none⟩ = some (.slice (some ⟨a0, 0, none⟩) L.shapes.length L.shapes.length) := HXd.out.1.at_ 0
      have l1 : wd.cell? ⟨w.heap.size, 1, none⟩ = some (.slice (some ⟨a1, 0, none⟩) L.mends.length L.mends.length) := HXd.out.1.at_ 1
      have l2 : wd.cell? ⟨w.heap.size, 2, none⟩ = some (.slice (some ⟨a2, 0, none⟩) L.teams.length L.teams.length) := HXd.out.1.at_ 2
      have x0 : wd.cell? ⟨w.heap.size + 1, 0, none⟩ = some (.string a.who) := HXd.out.2.at_ 0
      have x1 : wd.cell? ⟨w.heap.size + 1, 1, none⟩ = some (.int .i64 a.verb) := HXd.out.2.at_ 1
      have x2 : wd.cell? ⟨w.heap.size + 1, 2, none⟩ = some (.string a.kind) := HXd.out.2.at_ 2
      have x3 : wd.cell? ⟨w.heap.size + 1, 3, none⟩ = some (.string a.name) := HXd.out.2.at_ 3
      have x4 : wd.cell? ⟨w.heap.size + 1, 4, none⟩ = some (.string a.team) := HXd.out.2.at_ 4
      have x5 : wd.cell? ⟨w.heap.size + 1, 5, none⟩ = some (.slice (some ⟨b1, 0, none⟩) a.values.length a.values.length) := HXd.out.2.at_ 5
      have x6 : wd.cell? ⟨w.heap.size + 1, 6, none⟩ = some (.slice (some ⟨b2, 0, none⟩) a.holds.length a.holds.length) := HXd.out.2.at_ 6
      have x7 : wd.cell? ⟨w.heap.size + 1, 7, none⟩ = some (.int .i64 a.seen) := HXd.out.2.at_ 7
      have x8 : wd.cell? ⟨w.heap.size + 1, 8, none⟩ = some (.string a.hold) := HXd.out.2.at_ 8
      have x9 : wd.cell? ⟨w.heap.size + 1, 9, none⟩ = some (.string a.to_) := HXd.out.2.at_ 9
      have x10 : wd.cell? ⟨w.heap.size + 1, 10, none⟩ = some (.slice (some ⟨b3, 0, none⟩) a.rule.verbs.length a.rule.verbs.length) := HXd.out.2.at_ 10
      have x11 : wd.cell? ⟨w.heap.size + 1, 11, none⟩ = some (.string a.rule.kind) := HXd.out.2.at_ 11
      have x12 : wd.cell? ⟨w.heap.size + 1, 12, none⟩ = some (.string a.rule.team) := HXd.out.2.at_ 12
      have x13 : wd.cell? ⟨w.heap.size + 1, 13, none⟩ = some (.string a.rule.pre) := HXd.out.2.at_ 13
      have x14 : wd.cell? ⟨w.heap.size + 1, 14, none⟩ = some (.int .i64 a.number) := HXd.out.2.at_ 14
      go_wp2_with fail
      refine (partsI L a a0 a1 a2 b1 b2 b3 wd (HH.out.1.later HBd.out) (HH.out.2.later HBd.out)).mono ?_
      rintro e we ⟨⟨n, rfl, hn⟩, hb⟩
      have HBe : Hid (Below w.heap.size w we) := blw_trans HBd.out hb
      have HNN : Hid (hasKind L.shapes a.kind = true → n = NF) := fun hk => (hn hk).trans HNF.out.symm
      clear hn hb lz az l0 l1 l2 x0 x1 x2 x3 x4 x5 x6 x7 x8 x9 x10 x11 x12 x13 x14 HXd HBd
      have E1 : (bits BinOp.andNot IntKind.u16 67 ((acc (oksOf L a n) 10 : Nat) : Int) == 0) = restOk 67 (oksOf L a n) := rest4 _ _ _ _ _ _ _ _ _ _
      have E2 : (bits BinOp.andNot IntKind.u16 ((acc (setsOf a) 10 : Nat) : Int) 67 == 0) = noneSet 67 (setsOf a) := none4 _ _ _ _ _ _ _ _ _ _
      have HA2 : Hid (askB L a n = (restOk 67 (oksOf L a n) && noneSet 67 (setsOf a))) := HA.out n
      obtain ⟨x, hx⟩ : ∃ x, x = acc (oksOf L a n) 10 := ⟨_, rfl⟩
      obtain ⟨y, hy⟩ : ∃ y, y = acc (setsOf a) 10 := ⟨_, rfl⟩
      obtain ⟨r1, hr1⟩ : ∃ r1, r1 = restOk 67 (oksOf L a n) := ⟨_, rfl⟩
      obtain ⟨r2, hr2⟩ : ∃ r2, r2 = noneSet 67 (setsOf a) := ⟨_, rfl⟩
      rw [← hx, ← hr1] at E1
      rw [← hy, ← hr2] at E2
      rw [← hr1, ← hr2] at HA2
      rw [← hx, ← hy]
      clear hx hy hr1 hr2 HA
      cases r1 <;> cases r2
      all_goals
        go_wp2
        go_ret
        exact ⟨⟨n, by rw [HA2.out]; rfl, HNN.out⟩, HBe.out⟩
    · have HA : Hid (∀ n, askB L a n = (restOk 384 (oksOf L a n) && noneSet 384 (setsOf a))) := fun n => by
        unfold askB
        rw [← HQ.out.1, ← HQ.out.2, hv]
        rfl
      have az := HXb.out.2.lt
      have x1 : wb.cell? ⟨w.heap.size + 1, 1, none⟩ = some (.int .i64 5) := by rw [← hv]; exact HXb.out.2.at_ 1
      have hm := dmeth5
      clear hv
      go_wp2_with fail
      refine (deed5 wb).mono ?_
      rintro e wc ⟨rfl, hb⟩
      have HBc : Hid (Below w.heap.size w wc) := blw_trans HBb.out hb
      have HXc : Hid (BoxV wc w.heap.size #[.slice (some ⟨a0, 0, none⟩) L.shapes.length L.shapes.length, .slice (some ⟨a1, 0, none⟩) L.mends.length L.mends.length, .slice (some ⟨a2, 0, none⟩) L.teams.length L.teams.length] ∧ BoxV wc (w.heap.size + 1) #[.string a.who, .int .i64 a.verb, .string a.kind, .string a.name, .string a.team, .slice (some ⟨b1, 0, none⟩) a.values.length a.values.length, .slice (some ⟨b2, 0, none⟩) a.holds.length a.holds.length, .int .i64 a.seen, .string a.hold, .string a.to_, .slice (some ⟨b3, 0, none⟩) a.rule.verbs.length a.rule.verbs.length, .string a.rule.kind, .string a.rule.team, .string a.rule.pre, .int .i64 a.number]) := ⟨HXb.out.1.later hb, HXb.out.2.later hb⟩
      clear hb az x1 HXb HBb
      go_wp2_with fail
      refine (uses5 wc).mono ?_
      rintro e wd ⟨rfl, hb⟩
      have HBd : Hid (Below w.heap.size w wd) := blw_trans HBc.out hb
      have HXd : Hid (BoxV wd w.heap.size #[.slice (some ⟨a0, 0, none⟩) L.shapes.length L.shapes.length, .slice (some ⟨a1, 0, none⟩) L.mends.length L.mends.length, .slice (some ⟨a2, 0, none⟩) L.teams.length L.teams.length] ∧ BoxV wd (w.heap.size + 1) #[.string a.who, .int .i64 a.verb, .string a.kind, .string a.name, .string a.team, .slice (some ⟨b1, 0, none⟩) a.values.length a.values.length, .slice (some ⟨b2, 0, none⟩) a.holds.length a.holds.length, .int .i64 a.seen, .string a.hold, .string a.to_, .slice (some ⟨b3, 0, none⟩) a.rule.verbs.length a.rule.verbs.length, .string a.rule.kind, .string a.rule.team, .string a.rule.pre, .int .i64 a.number]) := ⟨HXc.out.1.later hb, HXc.out.2.later hb⟩
      clear hb hm HXc HBc
      have lz := HXd.out.1.lt
      have az := HXd.out.2.lt
      have l0 : wd.cell? ⟨w.heap.size, 0, none⟩ = some (.slice (some ⟨a0, 0, none⟩) L.shapes.length L.shapes.length) := HXd.out.1.at_ 0
      have l1 : wd.cell? ⟨w.heap.size, 1, none⟩ = some (.slice (some ⟨a1, 0, none⟩) L.mends.length L.mends.length) := HXd.out.1.at_ 1
      have l2 : wd.cell? ⟨w.heap.size, 2, none⟩ = some (.slice (some ⟨a2, 0, none⟩) L.teams.length L.teams.length) := HXd.out.1.at_ 2
      have x0 : wd.cell? ⟨w.heap.size + 1, 0, none⟩ = some (.string a.who) := HXd.out.2.at_ 0
      have x1 : wd.cell? ⟨w.heap.size + 1, 1, none⟩ = some (.int .i64 a.verb) := HXd.out.2.at_ 1
      have x2 : wd.cell? ⟨w.heap.size + 1, 2, none⟩ = some (.string a.kind) := HXd.out.2.at_ 2
      have x3 : wd.cell? ⟨w.heap.size + 1, 3, none⟩ = some (.string a.name) := HXd.out.2.at_ 3
      have x4 : wd.cell? ⟨w.heap.size + 1, 4, none⟩ = some (.string a.team) := HXd.out.2.at_ 4
      have x5 : wd.cell? ⟨w.heap.size + 1, 5, none⟩ = some (.slice (some ⟨b1, 0, none⟩) a.values.length a.values.length) := HXd.out.2.at_ 5
      have x6 : wd.cell? ⟨w.heap.size + 1, 6, none⟩ = some (.slice (some ⟨b2, 0, none⟩) a.holds.length a.holds.length) := HXd.out.2.at_ 6
      have x7 : wd.cell? ⟨w.heap.size + 1, 7, none⟩ = some (.int .i64 a.seen) := HXd.out.2.at_ 7
      have x8 : wd.cell? ⟨w.heap.size + 1, 8, none⟩ = some (.string a.hold) := HXd.out.2.at_ 8
      have x9 : wd.cell? ⟨w.heap.size + 1, 9, none⟩ = some (.string a.to_) := HXd.out.2.at_ 9
      have x10 : wd.cell? ⟨w.heap.size + 1, 10, none⟩ = some (.slice (some ⟨b3, 0, none⟩) a.rule.verbs.length a.rule.verbs.length) := HXd.out.2.at_ 10
      have x11 : wd.cell? ⟨w.heap.size + 1, 11, none⟩ = some (.string a.rule.kind) := HXd.out.2.at_ 11
      have x12 : wd.cell? ⟨w.heap.size + 1, 12, none⟩ = some (.string a.rule.team) := HXd.out.2.at_ 12
      have x13 : wd.cell? ⟨w.heap.size + 1, 13, none⟩ = some (.string a.rule.pre) := HXd.out.2.at_ 13
      have x14 : wd.cell? ⟨w.heap.size + 1, 14, none⟩ = some (.int .i64 a.number) := HXd.out.2.at_ 14
      go_wp2_with fail
      refine (partsI L a a0 a1 a2 b1 b2 b3 wd (HH.out.1.later HBd.out) (HH.out.2.later HBd.out)).mono ?_
      rintro e we ⟨⟨n, rfl, hn⟩, hb⟩
      have HBe : Hid (Below w.heap.size w we) := blw_trans HBd.out hb
      have HNN : Hid (hasKind L.shapes a.kind = true → n = NF) := fun hk => (hn hk).trans HNF.out.symm
      clear hn hb lz az l0 l1 l2 x0 x1 x2 x3 x4 x5 x6 x7 x8 x9 x10 x11 x12 x13 x14 HXd HBd
      have E1 : (bits BinOp.andNot IntKind.u16 384 ((acc (oksOf L a n) 10 : Nat) : Int) == 0) = restOk 384 (oksOf L a n) := rest5 _ _ _ _ _ _ _ _ _ _
      have E2 : (bits BinOp.andNot IntKind.u16 ((acc (setsOf a) 10 : Nat) : Int) 384 == 0) = noneSet 384 (setsOf a) := none5 _ _ _ _ _ _ _ _ _ _
      have HA2 : Hid (askB L a n = (restOk 384 (oksOf L a n) && noneSet 384 (setsOf a))) := HA.out n
      obtain ⟨x, hx⟩ : ∃ x, x = acc (oksOf L a n) 10 := ⟨_, rfl⟩
      obtain ⟨y, hy⟩ : ∃ y, y = acc (setsOf a) 10 := ⟨_, rfl⟩
      obtain ⟨r1, hr1⟩ : ∃ r1, r1 = restOk 384 (oksOf L a n) := ⟨_, rfl⟩
      obtain ⟨r2, hr2⟩ : ∃ r2, r2 = noneSet 384 (setsOf a) := ⟨_, rfl⟩
      rw [← hx, ← hr1] at E1
      rw [← hy, ← hr2] at E2
      rw [← hr1, ← hr2] at HA2
      rw [← hx, ← hy]
      clear hx hy hr1 hr2 HA
      cases r1 <;> cases r2
      all_goals
        go_wp2
        go_ret
        exact ⟨⟨n, by rw [HA2.out]; rfl, HNN.out⟩, HBe.out⟩
    · have HA : Hid (∀ n, askB L a n = (restOk 512 (oksOf L a n) && noneSet 512 (setsOf a))) := fun n => by
        unfold askB
        rw [← HQ.out.1, ← HQ.out.2, hv]
        rfl
      have az := HXb.out.2.lt
      have x1 : wb.cell? ⟨w.heap.size + 1, 1, none⟩ = some (.int .i64 6) := by rw [← hv]; exact HXb.out.2.at_ 1
      have hm := dmeth6
      clear hv
      go_wp2_with fail
      refine (deed6 wb).mono ?_
      rintro e wc ⟨rfl, hb⟩
      have HBc : Hid (Below w.heap.size w wc) := blw_trans HBb.out hb
      have HXc : Hid (BoxV wc w.heap.size #[.slice (some ⟨a0, 0, none⟩) L.shapes.length L.shapes.length, .slice (some ⟨a1, 0, none⟩) L.mends.length L.mends.length, .slice (some ⟨a2, 0, none⟩) L.teams.length L.teams.length] ∧ BoxV wc (w.heap.size + 1) #[.string a.who, .int .i64 a.verb, .string a.kind, .string a.name, .string a.team, .slice (some ⟨b1, 0, none⟩) a.values.length a.values.length, .slice (some ⟨b2, 0, none⟩) a.holds.length a.holds.length, .int .i64 a.seen, .string a.hold, .string a.to_, .slice (some ⟨b3, 0, none⟩) a.rule.verbs.length a.rule.verbs.length, .string a.rule.kind, .string a.rule.team, .string a.rule.pre, .int .i64 a.number]) := ⟨HXb.out.1.later hb, HXb.out.2.later hb⟩
      clear hb az x1 HXb HBb
      go_wp2_with fail
      refine (uses6 wc).mono ?_
      rintro e wd ⟨rfl, hb⟩
      have HBd : Hid (Below w.heap.size w wd) := blw_trans HBc.out hb
      have HXd : Hid (BoxV wd w.heap.size #[.slice (some ⟨a0, 0, none⟩) L.shapes.length L.shapes.length, .slice (some ⟨a1, 0, none⟩) L.mends.length L.mends.length, .slice (some ⟨a2, 0, none⟩) L.teams.length L.teams.length] ∧ BoxV wd (w.heap.size + 1) #[.string a.who, .int .i64 a.verb, .string a.kind, .string a.name, .string a.team, .slice (some ⟨b1, 0, none⟩) a.values.length a.values.length, .slice (some ⟨b2, 0, none⟩) a.holds.length a.holds.length, .int .i64 a.seen, .string a.hold, .string a.to_, .slice (some ⟨b3, 0, none⟩) a.rule.verbs.length a.rule.verbs.length, .string a.rule.kind, .string a.rule.team, .string a.rule.pre, .int .i64 a.number]) := ⟨HXc.out.1.later hb, HXc.out.2.later hb⟩
      clear hb hm HXc HBc
      have lz := HXd.out.1.lt
      have az := HXd.out.2.lt
      have l0 : wd.cell? ⟨w.heap.size, 0, none⟩ = some (.slice (some ⟨a0, 0, none⟩) L.shapes.length L.shapes.length) := HXd.out.1.at_ 0
      have l1 : wd.cell? ⟨w.heap.size, 1, none⟩ = some (.slice (some ⟨a1, 0, none⟩) L.mends.length L.mends.length) := HXd.out.1.at_ 1
      have l2 : wd.cell? ⟨w.heap.size, 2, none⟩ = some (.slice (some ⟨a2, 0, none⟩) L.teams.length L.teams.length) := HXd.out.1.at_ 2
      have x0 : wd.cell? ⟨w.heap.size + 1, 0, none⟩ = some (.string a.who) := HXd.out.2.at_ 0
      have x1 : wd.cell? ⟨w.heap.size + 1, 1, none⟩ = some (.int .i64 a.verb) := HXd.out.2.at_ 1
      have x2 : wd.cell? ⟨w.heap.size + 1, 2, none⟩ = some (.string a.kind) := HXd.out.2.at_ 2
      have x3 : wd.cell? ⟨w.heap.size + 1, 3, none⟩ = some (.string a.name) := HXd.out.2.at_ 3
      have x4 : wd.cell? ⟨w.heap.size + 1, 4, none⟩ = some (.string a.team) := HXd.out.2.at_ 4
      have x5 : wd.cell? ⟨w.heap.size + 1, 5, none⟩ = some (.slice (some ⟨b1, 0, none⟩) a.values.length a.values.length) := HXd.out.2.at_ 5
      have x6 : wd.cell? ⟨w.heap.size + 1, 6, none⟩ = some (.slice (some ⟨b2, 0, none⟩) a.holds.length a.holds.length) := HXd.out.2.at_ 6
      have x7 : wd.cell? ⟨w.heap.size + 1, 7, none⟩ = some (.int .i64 a.seen) := HXd.out.2.at_ 7
      have x8 : wd.cell? ⟨w.heap.size + 1, 8, none⟩ = some (.string a.hold) := HXd.out.2.at_ 8
      have x9 : wd.cell? ⟨w.heap.size + 1, 9, none⟩ = some (.string a.to_) := HXd.out.2.at_ 9
      have x10 : wd.cell? ⟨w.heap.size + 1, 10, none⟩ = some (.slice (some ⟨b3, 0, none⟩) a.rule.verbs.length a.rule.verbs.length) := HXd.out.2.at_ 10
      have x11 : wd.cell? ⟨w.heap.size + 1, 11, none⟩ = some (.string a.rule.kind) := HXd.out.2.at_ 11
      have x12 : wd.cell? ⟨w.heap.size + 1, 12, none⟩ = some (.string a.rule.team) := HXd.out.2.at_ 12
      have x13 : wd.cell? ⟨w.heap.size + 1, 13, none⟩ = some (.string a.rule.pre) := HXd.out.2.at_ 13
      have x14 : wd.cell? ⟨w.heap.size + 1, 14, none⟩ = some (.int .i64 a.number) := HXd.out.2.at_ 14
      go_wp2_with fail
      refine (partsI L a a0 a1 a2 b1 b2 b3 wd (HH.out.1.later HBd.out) (HH.out.2.later HBd.out)).mono ?_
      rintro e we ⟨⟨n, rfl, hn⟩, hb⟩
      have HBe : Hid (Below w.heap.size w we) := blw_trans HBd.out hb
      have HNN : Hid (hasKind L.shapes a.kind = true → n = NF) := fun hk => (hn hk).trans HNF.out.symm
      clear hn hb lz az l0 l1 l2 x0 x1 x2 x3 x4 x5 x6 x7 x8 x9 x10 x11 x12 x13 x14 HXd HBd
      have E1 : (bits BinOp.andNot IntKind.u16 512 ((acc (oksOf L a n) 10 : Nat) : Int) == 0) = restOk 512 (oksOf L a n) := rest6 _ _ _ _ _ _ _ _ _ _
      have E2 : (bits BinOp.andNot IntKind.u16 ((acc (setsOf a) 10 : Nat) : Int) 512 == 0) = noneSet 512 (setsOf a) := none6 _ _ _ _ _ _ _ _ _ _
      have HA2 : Hid (askB L a n = (restOk 512 (oksOf L a n) && noneSet 512 (setsOf a))) := HA.out n
      obtain ⟨x, hx⟩ : ∃ x, x = acc (oksOf L a n) 10 := ⟨_, rfl⟩
      obtain ⟨y, hy⟩ : ∃ y, y = acc (setsOf a) 10 := ⟨_, rfl⟩
      obtain ⟨r1, hr1⟩ : ∃ r1, r1 = restOk 512 (oksOf L a n) := ⟨_, rfl⟩
      obtain ⟨r2, hr2⟩ : ∃ r2, r2 = noneSet 512 (setsOf a) := ⟨_, rfl⟩
      rw [← hx, ← hr1] at E1
      rw [← hy, ← hr2] at E2
      rw [← hr1, ← hr2] at HA2
      rw [← hx, ← hy]
      clear hx hy hr1 hr2 HA
      cases r1 <;> cases r2
      all_goals
        go_wp2
        go_ret
        exact ⟨⟨n, by rw [HA2.out]; rfl, HNN.out⟩, HBe.out⟩

end Go.Proofs.YtkjkklcflpchlaaGreat

namespace Go.Proofs.YtkjkklcflpchlaaGreat
open Go.RowKit Go.Deep

set_option maxRecDepth 8000 in
set_option maxHeartbeats 4000000 in
theorem rest_1 (who kind name team hold too rk rt rp : ByteArray) (seen number : Int) (x1 x2 x3 : Option Addr) (n1 n2 n3 c1 c2 c3 : Nat) (w : World) :
    Calls Tryz.prog 51 #[.agg #[.string who, .int .i64 1, .string kind, .string name, .string team, .slice x1 n1 c1, .slice x2 n2 c2, .int .i64 seen, .string hold, .string too, .slice x3 n3 c3, .string rk, .string rt, .string rp, .int .i64 number]] w fun e w' => e = .returned (.agg #[.string ⟨#[]⟩, .int .i64 1, .string ⟨#[]⟩, .string ⟨#[]⟩, .string ⟨#[]⟩, .slice none 0 0, .slice none 0 0, .int .i64 seen, .string hold, .string too, .slice x3 n3 c3, .string rk, .string rt, .string rp, .int .i64 number]) ∧ Below w.heap.size w w' := by
  go_enter Tryz.func51, Tryz.ntmps51
  go_wp2
  refine bodyPost_ret (v := .agg #[.string ⟨#[]⟩, .int .i64 1, .string ⟨#[]⟩, .string ⟨#[]⟩, .string ⟨#[]⟩, .slice none 0 0, .slice none 0 0, .int .i64 seen, .string hold, .string too, .slice x3 n3 c3, .string rk, .string rt, .string rp, .int .i64 number]) (by simp [results, Tryz.results51, go_sem]) rfl ⟨rfl, blw_alloc (blw_alloc (Below.refl _ _) _) _⟩

set_option maxRecDepth 8000 in
set_option maxHeartbeats 4000000 in
theorem rest_2 (who kind name team hold too rk rt rp : ByteArray) (seen number : Int) (x1 x2 x3 : Option Addr) (n1 n2 n3 c1 c2 c3 : Nat) (w : World) :
    Calls Tryz.prog 51 #[.agg #[.string who, .int .i64 2, .string kind, .string name, .string team, .slice x1 n1 c1, .slice x2 n2 c2, .int .i64 seen, .string hold, .string too, .slice x3 n3 c3, .string rk, .string rt, .string rp, .int .i64 number]] w fun e w' => e = .returned (.agg #[.string ⟨#[]⟩, .int .i64 2, .string ⟨#[]⟩, .string ⟨#[]⟩, .string team, .slice none 0 0, .slice x2 n2 c2, .int .i64 0, .string hold, .string too, .slice x3 n3 c3, .string rk, .string rt, .string rp, .int .i64 number]) ∧ Below w.heap.size w w' := by
  go_enter Tryz.func51, Tryz.ntmps51
  go_wp2
  refine bodyPost_ret (v := .agg #[.string ⟨#[]⟩, .int .i64 2, .string ⟨#[]⟩, .string ⟨#[]⟩, .string team, .slice none 0 0, .slice x2 n2 c2, .int .i64 0, .string hold, .string too, .slice x3 n3 c3, .string rk, .string rt, .string rp, .int .i64 number]) (by simp [results, Tryz.results51, go_sem]) rfl ⟨rfl, blw_alloc (blw_alloc (Below.refl _ _) _) _⟩

set_option maxRecDepth 8000 in
set_option maxHeartbeats 4000000 in
theorem rest_3 (who kind name team hold too rk rt rp : ByteArray) (seen number : Int) (x1 x2 x3 : Option Addr) (n1 n2 n3 c1 c2 c3 : Nat) (w : World) :
    Calls Tryz.prog 51 #[.agg #[.string who, .int .i64 3, .string kind, .string name, .string team, .slice x1 n1 c1, .slice x2 n2 c2, .int .i64 seen, .string hold, .string too, .slice x3 n3 c3, .string rk, .string rt, .string rp, .int .i64 number]] w fun e w' => e = .returned (.agg #[.string ⟨#[]⟩, .int .i64 3, .string ⟨#[]⟩, .string ⟨#[]⟩, .string team, .slice x1 n1 c1, .slice x2 n2 c2, .int .i64 0, .string hold, .string too, .slice x3 n3 c3, .string rk, .string rt, .string rp, .int .i64 number]) ∧ Below w.heap.size w w' := by
  go_enter Tryz.func51, Tryz.ntmps51
  go_wp2
  refine bodyPost_ret (v := .agg #[.string ⟨#[]⟩, .int .i64 3, .string ⟨#[]⟩, .string ⟨#[]⟩, .string team, .slice x1 n1 c1, .slice x2 n2 c2, .int .i64 0, .string hold, .string too, .slice x3 n3 c3, .string rk, .string rt, .string rp, .int .i64 number]) (by simp [results, Tryz.results51, go_sem]) rfl ⟨rfl, blw_alloc (blw_alloc (Below.refl _ _) _) _⟩

set_option maxRecDepth 8000 in
set_option maxHeartbeats 4000000 in
theorem rest_4 (who kind name team hold too rk rt rp : ByteArray) (seen number : Int) (x1 x2 x3 : Option Addr) (n1 n2 n3 c1 c2 c3 : Nat) (w : World) :
    Calls Tryz.prog 51 #[.agg #[.string who, .int .i64 4, .string kind, .string name, .string team, .slice x1 n1 c1, .slice x2 n2 c2, .int .i64 seen, .string hold, .string too, .slice x3 n3 c3, .string rk, .string rt, .string rp, .int .i64 number]] w fun e w' => e = .returned (.agg #[.string ⟨#[]⟩, .int .i64 4, .string ⟨#[]⟩, .string ⟨#[]⟩, .string team, .slice x1 n1 c1, .slice x2 n2 c2, .int .i64 seen, .string ⟨#[]⟩, .string too, .slice x3 n3 c3, .string rk, .string rt, .string rp, .int .i64 number]) ∧ Below w.heap.size w w' := by
  go_enter Tryz.func51, Tryz.ntmps51
  go_wp2
  refine bodyPost_ret (v := .agg #[.string ⟨#[]⟩, .int .i64 4, .string ⟨#[]⟩, .string ⟨#[]⟩, .string team, .slice x1 n1 c1, .slice x2 n2 c2, .int .i64 seen, .string ⟨#[]⟩, .string too, .slice x3 n3 c3, .string rk, .string rt, .string rp, .int .i64 number]) (by simp [results, Tryz.results51, go_sem]) rfl ⟨rfl, blw_alloc (blw_alloc (Below.refl _ _) _) _⟩

set_option maxRecDepth 8000 in
set_option maxHeartbeats 4000000 in
theorem rest_5 (who kind name team hold too rk rt rp : ByteArray) (seen number : Int) (x1 x2 x3 : Option Addr) (n1 n2 n3 c1 c2 c3 : Nat) (w : World) :
    Calls Tryz.prog 51 #[.agg #[.string who, .int .i64 5, .string kind, .string name, .string team, .slice x1 n1 c1, .slice x2 n2 c2, .int .i64 seen, .string hold, .string too, .slice x3 n3 c3, .string rk, .string rt, .string rp, .int .i64 number]] w fun e w' => e = .returned (.agg #[.string ⟨#[]⟩, .int .i64 5, .string kind, .string name, .string team, .slice x1 n1 c1, .slice x2 n2 c2, .int .i64 seen, .string hold, .string ⟨#[]⟩, .slice none 0 0, .string ⟨#[]⟩, .string ⟨#[]⟩, .string ⟨#[]⟩, .int .i64 number]) ∧ Below w.heap.size w w' := by
  go_enter Tryz.func51, Tryz.ntmps51
  go_wp2
  refine bodyPost_ret (v := .agg #[.string ⟨#[]⟩, .int .i64 5, .string kind, .string name, .string team, .slice x1 n1 c1, .slice x2 n2 c2, .int .i64 seen, .string hold, .string ⟨#[]⟩, .slice none 0 0, .string ⟨#[]⟩, .string ⟨#[]⟩, .string ⟨#[]⟩, .int .i64 number]) (by simp [results, Tryz.results51, go_sem]) rfl ⟨rfl, blw_alloc (blw_alloc (Below.refl _ _) _) _⟩

set_option maxRecDepth 8000 in
set_option maxHeartbeats 4000000 in
theorem rest_6 (who kind name team hold too rk rt rp : ByteArray) (seen number : Int) (x1 x2 x3 : Option Addr) (n1 n2 n3 c1 c2 c3 : Nat) (w : World) :
    Calls Tryz.prog 51 #[.agg #[.string who, .int .i64 6, .string kind, .string name, .string team, .slice x1 n1 c1, .slice x2 n2 c2, .int .i64 seen, .string hold, .string too, .slice x3 n3 c3, .string rk, .string rt, .string rp, .int .i64 number]] w fun e w' => e = .returned (.agg #[.string ⟨#[]⟩, .int .i64 6, .string kind, .string name, .string team, .slice x1 n1 c1, .slice x2 n2 c2, .int .i64 seen, .string hold, .string too, .slice x3 n3 c3, .string rk, .string rt, .string rp, .int .i64 0]) ∧ Below w.heap.size w w' := by
  go_enter Tryz.func51, Tryz.ntmps51
  go_wp2
  refine bodyPost_ret (v := .agg #[.string ⟨#[]⟩, .int .i64 6, .string kind, .string name, .string team, .slice x1 n1 c1, .slice x2 n2 c2, .int .i64 seen, .string hold, .string too, .slice x3 n3 c3, .string rk, .string rt, .string rp, .int .i64 0]) (by simp [results, Tryz.results51, go_sem]) rfl ⟨rfl, blw_alloc (blw_alloc (Below.refl _ _) _) _⟩

end Go.Proofs.YtkjkklcflpchlaaGreat

namespace Go.Proofs.YtkjkklcflpchlaaGreat
open Go.RowKit Go.Deep

def nothingB (kind name team : ByteArray) (n1 n2 : Nat) (seen : Int) (hold too : ByteArray) (n3 : Nat) (rk rt rp : ByteArray) (number : Int) : Bool := kind.toList.isEmpty && name.toList.isEmpty && team.toList.isEmpty && decide (n1 = 0) && decide (n2 = 0) && decide (seen = 0) && hold.toList.isEmpty && too.toList.isEmpty && decide (n3 = 0) && rk.toList.isEmpty && rt.toList.isEmpty && rp.toList.isEmpty && decide (number = 0)

set_option maxRecDepth 8000 in
set_option maxHeartbeats 4000000 in
theorem nothingS (who kind name team hold too rk rt rp : ByteArray) (verb seen number : Int) (x1 x2 x3 : Option Addr) (n1 n2 n3 c1 c2 c3 : Nat) (w : World) :
    Calls Tryz.prog 50 #[.agg #[.string who, .int .i64 verb, .string kind, .string name, .string team, .slice x1 n1 c1, .slice x2 n2 c2, .int .i64 seen, .string hold, .string too, .slice x3 n3 c3, .string rk, .string rt, .string rp, .int .i64 number]] w fun e w' => e = .returned (.bool (nothingB kind name team n1 n2 seen hold too n3 rk rt rp number)) ∧ Below w.heap.size w w' := by
  obtain ⟨R, hR⟩ : ∃ R, R = nothingB kind name team n1 n2 seen hold too n3 rk rt rp number := ⟨_, rfl⟩
  have HR : Hid (R = (kind.toList.isEmpty && name.toList.isEmpty && team.toList.isEmpty && decide (n1 = 0) && decide (n2 = 0) && decide (seen = 0) && hold.toList.isEmpty && too.toList.isEmpty && decide (n3 = 0) && rk.toList.isEmpty && rt.toList.isEmpty && rp.toList.isEmpty && decide (number = 0))) := hR
  rw [← hR]
  clear hR
  have HB : Hid (Below w.heap.size w (w.alloc (.cells #[.string who, .int .i64 verb, .string kind, .string name, .string team, .slice x1 n1 c1, .slice x2 n2 c2, .int .i64 seen, .string hold, .string too, .slice x3 n3 c3, .string rk, .string rt, .string rp, .int .i64 number] 44))) := blw_alloc (Below.refl _ _) _
  cases h0 : kind.toList.isEmpty
  · have HE : Hid (R = false) := by show R = false; rw [HR.out]; simp [h0]
    clear HR
    go_enter Tryz.func50, Tryz.ntmps50
    go_wp2
    go_ret
    exact ⟨Pl.ret_bool HE.out.symm, HB.out⟩
  cases h1 : name.toList.isEmpty
  · have HE : Hid (R = false) := by show R = false; rw [HR.out]; simp [h0, h1]
    clear HR
    go_enter Tryz.func50, Tryz.ntmps50
    go_wp2
    go_ret
    exact ⟨Pl.ret_bool HE.out.symm, HB.out⟩
  cases h2 : team.toList.isEmpty
  · have HE : Hid (R = false) := by show R = false; rw [HR.out]; simp [h0, h1, h2]
    clear HR
    go_enter Tryz.func50, Tryz.ntmps50
    go_wp2
    go_ret
    exact ⟨Pl.ret_bool HE.out.symm, HB.out⟩
  by_cases h3 : n1 = 0
  case neg =>
    have HE : Hid (R = false) := by show R = false; rw [HR.out]; simp [h0, h1, h2, h3]
    clear HR
    have g1 : (n1 == 0) = false := by simpa using h3
    have g2 : (((n1 : Nat) : Int) == 0) = false := by simp [h3]
    have g3 : decide (n1 = 0) = false := decide_eq_false h3
    go_enter Tryz.func50, Tryz.ntmps50
    go_wp2
    go_ret
    exact ⟨Pl.ret_bool HE.out.symm, HB.out⟩
  subst h3
  by_cases h4 : n2 = 0
  case neg =>
    have HE : Hid (R = false) := by show R = false; rw [HR.out]; simp [h0, h1, h2, h4]
    clear HR
    have g1 : (n2 == 0) = false := by simpa using h4
    have g2 : (((n2 : Nat) : Int) == 0) = false := by simp [h4]
    have g3 : decide (n2 = 0) = false := decide_eq_false h4
    go_enter Tryz.func50, Tryz.ntmps50
    go_wp2
    go_ret
    exact ⟨Pl.ret_bool HE.out.symm, HB.out⟩
  subst h4
  by_cases h5 : seen = 0
  case neg =>
    have HE : Hid (R = false) := by show R = false; rw [HR.out]; simp [h0, h1, h2, h5]
    clear HR
    have g1 : (seen == 0) = false := by simpa using h5
    have g3 : decide (seen = 0) = false := decide_eq_false h5
    go_enter Tryz.func50, Tryz.ntmps50
    go_wp2
    go_ret
    exact ⟨Pl.ret_bool HE.out.symm, HB.out⟩
  subst h5
  cases h6 : hold.toList.isEmpty
  · have HE : Hid (R = false) := by show R = false; rw [HR.out]; simp [h0, h1, h2, h6]
    clear HR
    go_enter Tryz.func50, Tryz.ntmps50
    go_wp2
    go_ret
    exact ⟨Pl.ret_bool HE.out.symm, HB.out⟩
  cases h7 : too.toList.isEmpty
  · have HE : Hid (R = false) := by show R = false; rw [HR.out]; simp [h0, h1, h2, h6, h7]
    clear HR
    go_enter Tryz.func50, Tryz.ntmps50
    go_wp2
    go_ret
    exact ⟨Pl.ret_bool HE.out.symm, HB.out⟩
  by_cases h8 : n3 = 0
  case neg =>
    have HE : Hid (R = false) := by show R = false; rw [HR.out]; simp [h0, h1, h2, h6, h7, h8]
    clear HR
    have g1 : (n3 == 0) = false := by simpa using h8
    have g2 : (((n3 : Nat) : Int) == 0) = false := by simp [h8]
    have g3 : decide (n3 = 0) = false := decide_eq_false h8
    go_enter Tryz.func50, Tryz.ntmps50
    go_wp2
    go_ret
    exact ⟨Pl.ret_bool HE.out.symm, HB.out⟩
  subst h8
  cases h9 : rk.toList.isEmpty
  · have HE : Hid (R = false) := by show R = false; rw [HR.out]; simp [h0, h1, h2, h6, h7, h9]
    clear HR
    go_enter Tryz.func50, Tryz.ntmps50
    go_wp2
    go_ret
    exact ⟨Pl.ret_bool HE.out.symm, HB.out⟩
  cases h10 : rt.toList.isEmpty
  · have HE : Hid (R = false) := by show R = false; rw [HR.out]; simp [h0, h1, h2, h6, h7, h9, h10]
    clear HR
    go_enter Tryz.func50, Tryz.ntmps50
    go_wp2
    go_ret
    exact ⟨Pl.ret_bool HE.out.symm, HB.out⟩
  cases h11 : rp.toList.isEmpty
  · have HE : Hid (R = false) := by show R = false; rw [HR.out]; simp [h0, h1, h2, h6, h7, h9, h10, h11]
    clear HR
    go_enter Tryz.func50, Tryz.ntmps50
    go_wp2
    go_ret
    exact ⟨Pl.ret_bool HE.out.symm, HB.out⟩
  by_cases h12 : number = 0
  case neg =>
    have HE : Hid (R = false) := by show R = false; rw [HR.out]; simp [h0, h1, h2, h6, h7, h9, h10, h11, h12]
    clear HR
    have g1 : (number == 0) = false := by simpa using h12
    have g3 : decide (number = 0) = false := decide_eq_false h12
    go_enter Tryz.func50, Tryz.ntmps50
    go_wp2
    go_ret
    exact ⟨Pl.ret_bool HE.out.symm, HB.out⟩
  subst h12
  have HE : Hid (R = true) := by show R = true; rw [HR.out]; simp [h0, h1, h2, h6, h7, h9, h10, h11]
  clear HR
  go_enter Tryz.func50, Tryz.ntmps50
  go_wp2
  go_ret
  exact ⟨Pl.ret_bool HE.out.symm, HB.out⟩

end Go.Proofs.YtkjkklcflpchlaaGreat

namespace Go.Proofs.YtkjkklcflpchlaaGreat
open Go.RowKit Go.Deep

theorem rB1 : ∀ f0 f1 f2 f3 f4 f5 f6 f7 f8 f9 : Bool, restOk 31 [f0, f1, f2, f3, f4, f5, f6, f7, f8, f9] = (f0 && f1 && f2 && f3 && f4) := by decide +kernel
theorem nB1 : ∀ f0 f1 f2 f3 f4 f5 f6 f7 f8 f9 : Bool, noneSet 31 [f0, f1, f2, f3, f4, f5, f6, f7, f8, f9] = (!f5 && !f6 && !f7 && !f8 && !f9) := by decide +kernel
theorem rB2 : ∀ f0 f1 f2 f3 f4 f5 f6 f7 f8 f9 : Bool, restOk 43 [f0, f1, f2, f3, f4, f5, f6, f7, f8, f9] = (f0 && f1 && f3 && f5) := by decide +kernel
theorem nB2 : ∀ f0 f1 f2 f3 f4 f5 f6 f7 f8 f9 : Bool, noneSet 43 [f0, f1, f2, f3, f4, f5, f6, f7, f8, f9] = (!f2 && !f4 && !f6 && !f7 && !f8 && !f9) := by decide +kernel
theorem rB3 : ∀ f0 f1 f2 f3 f4 f5 f6 f7 f8 f9 : Bool, restOk 35 [f0, f1, f2, f3, f4, f5, f6, f7, f8, f9] = (f0 && f1 && f5) := by decide +kernel
theorem nB3 : ∀ f0 f1 f2 f3 f4 f5 f6 f7 f8 f9 : Bool, noneSet 35 [f0, f1, f2, f3, f4, f5, f6, f7, f8, f9] = (!f2 && !f3 && !f4 && !f6 && !f7 && !f8 && !f9) := by decide +kernel
theorem rB4 : ∀ f0 f1 f2 f3 f4 f5 f6 f7 f8 f9 : Bool, restOk 67 [f0, f1, f2, f3, f4, f5, f6, f7, f8, f9] = (f0 && f1 && f6) := by decide +kernel
theorem nB4 : ∀ f0 f1 f2 f3 f4 f5 f6 f7 f8 f9 : Bool, noneSet 67 [f0, f1, f2, f3, f4, f5, f6, f7, f8, f9] = (!f2 && !f3 && !f4 && !f5 && !f7 && !f8 && !f9) := by decide +kernel
theorem rB5 : ∀ f0 f1 f2 f3 f4 f5 f6 f7 f8 f9 : Bool, restOk 384 [f0, f1, f2, f3, f4, f5, f6, f7, f8, f9] = (f7 && f8) := by decide +kernel
theorem nB5 : ∀ f0 f1 f2 f3 f4 f5 f6 f7 f8 f9 : Bool, noneSet 384 [f0, f1, f2, f3, f4, f5, f6, f7, f8, f9] = (!f0 && !f1 && !f2 && !f3 && !f4 && !f5 && !f6 && !f9) := by decide +kernel
theorem rB6 : ∀ f0 f1 f2 f3 f4 f5 f6 f7 f8 f9 : Bool, restOk 512 [f0, f1, f2, f3, f4, f5, f6, f7, f8, f9] = (f9) := by decide +kernel
theorem nB6 : ∀ f0 f1 f2 f3 f4 f5 f6 f7 f8 f9 : Bool, noneSet 512 [f0, f1, f2, f3, f4, f5, f6, f7, f8, f9] = (!f0 && !f1 && !f2 && !f3 && !f4 && !f5 && !f6 && !f7 && !f8) := by decide +kernel

theorem nothing_1 (a : Ak) : nothingB ⟨#[]⟩ ⟨#[]⟩ ⟨#[]⟩ 0 0 a.seen a.hold a.to_ a.rule.verbs.length a.rule.kind a.rule.team a.rule.pre a.number = noneSet 31 (setsOf a) := by
  rw [show setsOf a = [!a.kind.toList.isEmpty, !a.name.toList.isEmpty, !a.team.toList.isEmpty, decide (0 < a.values.length), decide (0 < a.holds.length), (a.seen != 0), !a.hold.toList.isEmpty, !a.to_.toList.isEmpty, ruleSet a.rule, (a.number != 0)] from rfl, nB1]
  unfold nothingB ruleSet
  rw [Bool.eq_iff_iff]
  simp [and_assoc]
  try omega

theorem nothing_2 (a : Ak) : nothingB ⟨#[]⟩ ⟨#[]⟩ a.team 0 a.holds.length 0 a.hold a.to_ a.rule.verbs.length a.rule.kind a.rule.team a.rule.pre a.number = noneSet 43 (setsOf a) := by
  rw [show setsOf a = [!a.kind.toList.isEmpty, !a.name.toList.isEmpty, !a.team.toList.isEmpty, decide (0 < a.values.length), decide (0 < a.holds.length), (a.seen != 0), !a.hold.toList.isEmpty, !a.to_.toList.isEmpty, ruleSet a.rule, (a.number != 0)] from rfl, nB2]
  unfold nothingB ruleSet
  rw [Bool.eq_iff_iff]
  simp [and_assoc]
  try omega

theorem nothing_3 (a : Ak) : nothingB ⟨#[]⟩ ⟨#[]⟩ a.team a.values.length a.holds.length 0 a.hold a.to_ a.rule.verbs.length a.rule.kind a.rule.team a.rule.pre a.number = noneSet 35 (setsOf a) := by
  rw [show setsOf a = [!a.kind.toList.isEmpty, !a.name.toList.isEmpty, !a.team.toList.isEmpty, decide (0 < a.values.length), decide (0 < a.holds.length), (a.seen != 0), !a.hold.toList.isEmpty, !a.to_.toList.isEmpty, ruleSet a.rule, (a.number != 0)] from rfl, nB3]
  unfold nothingB ruleSet
  rw [Bool.eq_iff_iff]
  simp [and_assoc]
  try omega

theorem nothing_4 (a : Ak) : nothingB ⟨#[]⟩ ⟨#[]⟩ a.team a.values.length a.holds.length a.seen ⟨#[]⟩ a.to_ a.rule.verbs.length a.rule.kind a.rule.team a.rule.pre a.number = noneSet 67 (setsOf a) := by
  rw [show setsOf a = [!a.kind.toList.isEmpty, !a.name.toList.isEmpty, !a.team.toList.isEmpty, decide (0 < a.values.length), decide (0 < a.holds.length), (a.seen != 0), !a.hold.toList.isEmpty, !a.to_.toList.isEmpty, ruleSet a.rule, (a.number != 0)] from rfl, nB4]
  unfold nothingB ruleSet
  rw [Bool.eq_iff_iff]
  simp [and_assoc]
  try omega

theorem nothing_5 (a : Ak) : nothingB a.kind a.name a.team a.values.length a.holds.length a.seen a.hold ⟨#[]⟩ 0 ⟨#[]⟩ ⟨#[]⟩ ⟨#[]⟩ a.number = noneSet 384 (setsOf a) := by
  rw [show setsOf a = [!a.kind.toList.isEmpty, !a.name.toList.isEmpty, !a.team.toList.isEmpty, decide (0 < a.values.length), decide (0 < a.holds.length), (a.seen != 0), !a.hold.toList.isEmpty, !a.to_.toList.isEmpty, ruleSet a.rule, (a.number != 0)] from rfl, nB5]
  unfold nothingB
  rw [Bool.eq_iff_iff]
  simp [and_assoc]
  try omega

theorem nothing_6 (a : Ak) : nothingB a.kind a.name a.team a.values.length a.holds.length a.seen a.hold a.to_ a.rule.verbs.length a.rule.kind a.rule.team a.rule.pre 0 = noneSet 512 (setsOf a) := by
  rw [show setsOf a = [!a.kind.toList.isEmpty, !a.name.toList.isEmpty, !a.team.toList.isEmpty, decide (0 < a.values.length), decide (0 < a.holds.length), (a.seen != 0), !a.hold.toList.isEmpty, !a.to_.toList.isEmpty, ruleSet a.rule, (a.number != 0)] from rfl, nB6]
  unfold nothingB ruleSet
  rw [Bool.eq_iff_iff]
  simp [and_assoc]
  try omega

end Go.Proofs.YtkjkklcflpchlaaGreat
