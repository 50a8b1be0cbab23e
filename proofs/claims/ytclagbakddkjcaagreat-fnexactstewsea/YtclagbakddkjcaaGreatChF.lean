/-
  The sea, by the program: a berth is raised.
-/
import Derived.Test.YtclagbakddkjcaaGreatChE
namespace Go.Proofs.YtclagbakddkjcaaGreat
open Go.RowKit Go.Deep

def T1 (R : World) (g : Nat) (e : TypeId) (cur cur' : Array Value) (s : Nat) (up : Nat → Bool) (_ : Nat → Value) (W : World) : Prop := BelX g R W ∧ W.heap[g]? = some (.cells (if up s then cur' else cur) e (0, 0))
/-- Behind what changes the row of berths alone. -/
theorem XG.bts {lo px : Nat} {t : TypeId} {ex : List Value} {W W' : World} {now : Int} {sv : List Sv} {cp : List Cp} {bt : List Bt} {p0 p1 p2 : Option Addr} {n0 n1 n2 q0 q1 q2 : Nat} {g : Nat} (h : XG lo px t ex W now sv cp bt p0 p1 p2 n0 n1 n2 q0 q1 q2) {cur : Array Value} (hg : W.heap[g]? = some (.cells cur 79 (0, 0))) (hX : BelX g W W') {bt' : List Bt} {p2' : Option Addr} {n2' q2' : Nat} (hb : W'.heap[px]? = some (.cells (.int .i64 now :: .slice p0 n0 q0 :: .slice p1 n1 q1 :: .slice p2' n2' q2' :: ex).toArray t (0, 0))) (ho : W'.ownsRow lo 79 2 (.slice p2' n2' q2') n2' (bt'.flatMap BtC)) (hl : bt'.length = n2') (hz : ∀ i, i < bt'.length → (bt'.getD i Bt.none).sized) (hm : n2' ≤ 1048576) : XG lo px t ex W' now sv cp bt' p0 p1 p2' n0 n1 n2' q0 q1 q2' :=
  ⟨h.nr, hb, owns_belx h.o0 hX hg (fun e => t_bs e.symm), owns_belx h.o1 hX hg (fun e => t_bc e.symm), ho, h.l0, h.l1, hl, h.z0, h.z1, hz, h.m0, h.m1, hm⟩
/-- Behind what turns the variable and its row of berths. -/
theorem XG.btsY {lo px : Nat} {t : TypeId} {ex : List Value} {W W' : World} {now : Int} {sv : List Sv} {cp : List Cp} {bt : List Bt} {p0 p1 p2 : Option Addr} {n0 n1 n2 q0 q1 q2 : Nat} (h : XG lo px t ex W now sv cp bt p0 p1 p2 n0 n1 n2 q0 q1 q2) (hY : BelY px p2 W W') {bt' : List Bt} {p2' : Option Addr} {n2' q2' : Nat} (hb : W'.heap[px]? = some (.cells (.int .i64 now :: .slice p0 n0 q0 :: .slice p1 n1 q1 :: .slice p2' n2' q2' :: ex).toArray t (0, 0))) (ho : W'.ownsRow lo 79 2 (.slice p2' n2' q2') n2' (bt'.flatMap BtC)) (hl : bt'.length = n2') (hz : ∀ i, i < bt'.length → (bt'.getD i Bt.none).sized) (hm : n2' ≤ 1048576) : XG lo px t ex W' now sv cp bt' p0 p1 p2' n0 n1 n2' q0 q1 q2' :=
  ⟨h.nr, hb, owns_bely h.o0 hY h.bx h.nr.1 (fun g e => (owns_typ h.o2 g e).2) (fun e => t_bs e.symm), owns_bely h.o1 hY h.bx h.nr.2.1 (fun g e => (owns_typ h.o2 g e).2) (fun e => t_bc e.symm), ho, h.l0, h.l1, hl, h.z0, h.z1, hz, h.m0, h.m1, hm⟩
theorem set_cut {α : Type} (x : α) : ∀ (l : List α) (k : Nat), k < l.length → l.set k x = l.take k ++ [x] ++ l.drop (k + 1)
  | [], _, h => by simp at h
  | y :: ys, 0, _ => by simp
  | y :: ys, k + 1, h => by
    rw [List.set_cons_succ, set_cut x ys k (by simpa using h)]
    simp
def V60 (px : Nat) (bt : List Bt) (p2 : Option Addr) (q2 : Nat) (nm : ByteArray) (dr : Bool) (i : Nat) (u : Value) (_ : World) : Prop := match i with
  | 0 => u = .pointer (some ⟨px, 0, none⟩)
  | 1 => u = .pointer (some ⟨px, 0, none⟩)
  | 2 => u = .pointer (some ⟨px, 0, none⟩)
  | 3 => u = .pointer (some ⟨px, 0, none⟩)
  | 4 => u = .pointer (some ⟨px, 3, none⟩)
  | 5 => u = .slice p2 bt.length q2
  | 6 => u = .pointer (some ⟨px, 0, none⟩)
  | 7 => u = .pointer (some ⟨px, 0, none⟩)
  | 8 => u = .pointer (some ⟨px, 4, none⟩)
  | 9 => u = .agg #[.string nm, .bool dr]
  | 10 => u = .tuple #[.int .i64 (posB bt nm : Nat), .bool (decide (posB bt nm < bt.length) && same (bt.getD (posB bt nm) Bt.none).nm nm)]
  | 11 => u = .tuple #[.int .i64 (posB bt nm : Nat), .bool (decide (posB bt nm < bt.length) && same (bt.getD (posB bt nm) Bt.none).nm nm)]
  | 12 => u = .int .i64 (posB bt nm : Nat)
  | 13 => u = .bool (decide (posB bt nm < bt.length) && same (bt.getD (posB bt nm) Bt.none).nm nm)
  | 14 => u = .int .i64 (posB bt nm : Nat)
  | 15 => u = .bool (decide (posB bt nm < bt.length) && same (bt.getD (posB bt nm) Bt.none).nm nm)
  | _ => True

def V60s (px g k : Nat) (nm : ByteArray) (dr : Bool) (n2 q2 : Nat) : Nat → Value → Prop
  | 0, u => u = .pointer (some ⟨px, 0, none⟩)
  | 1, u => u = .pointer (some ⟨px, 0, none⟩)
  | 2, u => u = .pointer (some ⟨px, 0, none⟩)
  | 3, u => u = .pointer (some ⟨px, 0, none⟩)
  | 4, u => u = .pointer (some ⟨px, 3, none⟩)
  | 5, u => u = .slice (some ⟨g, 0, none⟩) n2 q2
  | 6, u => u = .int .i64 (k : Nat)
  | 7, u => u = .pointer (some ⟨px, 0, none⟩)
  | 8, u => u = .pointer (some ⟨px, 0, none⟩)
  | 9, u => u = .pointer (some ⟨px, 4, none⟩)
  | 10, u => u = .agg #[.string nm, .bool dr]
  | 11, u => u = .pointer (some ⟨g, k * 2, none⟩)
  | _, _ => True
def V60i (px k : Nat) (nm : ByteArray) (dr : Bool) (p2 : Option Addr) (n2 q2 : Nat) : Nat → Value → Prop
  | 0, u => u = .pointer (some ⟨px, 0, none⟩)
  | 1, u => u = .pointer (some ⟨px, 0, none⟩)
  | 2, u => u = .pointer (some ⟨px, 0, none⟩)
  | 3, u => u = .pointer (some ⟨px, 0, none⟩)
  | 4, u => u = .pointer (some ⟨px, 0, none⟩)
  | 5, u => u = .pointer (some ⟨px, 3, none⟩)
  | 6, u => u = .slice p2 n2 q2
  | 7, u => u = .int .i64 (k : Nat)
  | 8, u => u = .pointer (some ⟨px, 0, none⟩)
  | 9, u => u = .pointer (some ⟨px, 0, none⟩)
  | 10, u => u = .pointer (some ⟨px, 4, none⟩)
  | 11, u => u = .agg #[.string nm, .bool dr]
  | 14, u => u = .pointer (some ⟨px, 0, none⟩)
  | 15, u => u = .pointer (some ⟨px, 0, none⟩)
  | 16, u => u = .pointer (some ⟨px, 0, none⟩)
  | 17, u => u = .pointer (some ⟨px, 3, none⟩)
  | _, _ => True

set_option maxRecDepth 8000 in
set_option maxHeartbeats 16000000 in
theorem raiseI {lo px : Nat} {t : TypeId} {nm : ByteArray} {dr : Bool} {R : World} {now : Int} {sv : List Sv} {cp : List Cp} {bt : List Bt} {p0 p1 p2 : Option Addr} {q0 q1 q2 : Nat} (h : XG lo px t [.string nm, .bool dr] R now sv cp bt p0 p1 p2 sv.length cp.length bt.length q0 q1 q2) (hasc : ascBt bt = true) (hsz : nm.size ≤ maxLen) (hlen : bt.length ≤ 100000) (hlo : lo ≤ R.heap.size) (hpl : lo ≤ px) :
    Calls Tryz.prog 60 #[.pointer (some ⟨px, 0, none⟩)] R fun e W' => e = .returned (.int .i64 (if sbOk ⟨now, sv, cp, raiseOf bt nm dr⟩ then 0 else 2)) ∧ (∃ p2' n2' q2', XG lo px t [.string nm, .bool dr] W' now sv cp (raiseOf bt nm dr) p0 p1 p2' sv.length cp.length n2' q0 q1 q2') ∧ Below lo R W' := by
  obtain ⟨r, hr⟩ : ∃ r : Int, r = (if sbOk ⟨now, sv, cp, raiseOf bt nm dr⟩ then 0 else 2) := ⟨_, rfl⟩
  rw [← hr]
  have HRE := hid hr
  have HXG := hid h
  have HV := hid h.v
  have HM := hid h.m2
  have HLO := hid hlo
  have HPL := hid hpl
  have HSZ := hid hsz
  have HLN := hid hlen
  have X3 := h.cell 3 _ rfl
  have X4 := h.cell 4 _ rfl
  have X5 := h.cell 5 _ rfl
  have HXL := lt_heap h.bx
  clear h hlo hpl hr hsz hlen
  go_enter Tryz.func60, Tryz.ntmps60
  go_upto_region 1 with fail
  refine RY.region_past R (Below.refl _ _) (V60 px bt p2 q2 nm dr) (fun j u W W' _ h => h) (by kernel_rfl) (by kernel_rfl) (by kernel_rfl) (by kernel_rfl) ?_ ?_
  · intro i o ho a W hW hk hd
    have x3 := (hW.cell (p := ⟨px, 3, none⟩) HXL).trans X3
    have x4 := (hW.cell (p := ⟨px, 4, none⟩) HXL).trans X4
    have x5 := (hW.cell (p := ⟨px, 5, none⟩) HXL).trans X5
    match i, ho with
    | 0, ho =>
      injection ho with ho; subst ho
      have e0 : a.tmps[0]?.getD undef = .pointer (some ⟨px, 0, none⟩) := (RY.ev_tmp a 0).trans ((hk 0 (by kernel_rfl)).trans rfl)
      exact Or.inl ⟨.pointer (some ⟨px, 0, none⟩), W, by simp [execOp, go_sem, e0], Below.refl _ _, rfl⟩
    | 1, ho =>
      injection ho with ho; subst ho
      have d0 := hd 0 _ 6 rfl rfl ⟨⟨0, .data⟩, by simp, rfl, rfl⟩
      have e0 : a.tmps[6]?.getD undef = .pointer (some ⟨px, 0, none⟩) := (RY.ev_tmp a 6).trans d0
      exact Or.inl ⟨.pointer (some ⟨px, 0, none⟩), W, by simp [execOp, go_sem, e0], Below.refl _ _, rfl⟩
    | 2, ho =>
      injection ho with ho; subst ho
      have d0 := hd 1 _ 7 rfl rfl ⟨⟨1, .data⟩, by simp, rfl, rfl⟩
      have e0 : a.tmps[7]?.getD undef = .pointer (some ⟨px, 0, none⟩) := (RY.ev_tmp a 7).trans d0
      exact Or.inl ⟨.pointer (some ⟨px, 0, none⟩), W, by simp [execOp, go_sem, e0], Below.refl _ _, rfl⟩
    | 3, ho =>
      injection ho with ho; subst ho
      have d0 := hd 2 _ 8 rfl rfl ⟨⟨2, .data⟩, by simp, rfl, rfl⟩
      have e0 : a.tmps[8]?.getD undef = .pointer (some ⟨px, 0, none⟩) := (RY.ev_tmp a 8).trans d0
      exact Or.inl ⟨.pointer (some ⟨px, 0, none⟩), W, by simp [execOp, go_sem, e0], Below.refl _ _, rfl⟩
    | 4, ho =>
      injection ho with ho; subst ho
      have d0 := hd 3 _ 9 rfl rfl ⟨⟨3, .data⟩, by simp, rfl, rfl⟩
      have e0 : a.tmps[9]?.getD undef = .pointer (some ⟨px, 0, none⟩) := (RY.ev_tmp a 9).trans d0
      exact Or.inl ⟨.pointer (some ⟨px, 3, none⟩), W, by simp [execOp, go_sem, e0], Below.refl _ _, rfl⟩
    | 5, ho =>
      injection ho with ho; subst ho
      have d0 := hd 4 _ 10 rfl rfl ⟨⟨4, .data⟩, by simp, rfl, rfl⟩
      have e0 : a.tmps[10]?.getD undef = .pointer (some ⟨px, 3, none⟩) := (RY.ev_tmp a 10).trans d0
      exact Or.inl ⟨.slice p2 bt.length q2, W, by simp [execOp, go_sem, e0, x3], Below.refl _ _, rfl⟩
    | 6, ho =>
      injection ho with ho; subst ho
      have e0 : a.tmps[0]?.getD undef = .pointer (some ⟨px, 0, none⟩) := (RY.ev_tmp a 0).trans ((hk 0 (by kernel_rfl)).trans rfl)
      exact Or.inl ⟨.pointer (some ⟨px, 0, none⟩), W, by simp [execOp, go_sem, e0], Below.refl _ _, rfl⟩
    | 7, ho =>
      injection ho with ho; subst ho
      have d0 := hd 6 _ 12 rfl rfl ⟨⟨6, .data⟩, by simp, rfl, rfl⟩
      have e0 : a.tmps[12]?.getD undef = .pointer (some ⟨px, 0, none⟩) := (RY.ev_tmp a 12).trans d0
      exact Or.inl ⟨.pointer (some ⟨px, 0, none⟩), W, by simp [execOp, go_sem, e0], Below.refl _ _, rfl⟩
    | 8, ho =>
      injection ho with ho; subst ho
      have d0 := hd 7 _ 13 rfl rfl ⟨⟨7, .data⟩, by simp, rfl, rfl⟩
      have e0 : a.tmps[13]?.getD undef = .pointer (some ⟨px, 0, none⟩) := (RY.ev_tmp a 13).trans d0
      exact Or.inl ⟨.pointer (some ⟨px, 4, none⟩), W, by simp [execOp, go_sem, e0], Below.refl _ _, rfl⟩
    | 9, ho =>
      injection ho with ho; subst ho
      have d0 := hd 8 _ 14 rfl rfl ⟨⟨8, .data⟩, by simp, rfl, rfl⟩
      have e0 : a.tmps[14]?.getD undef = .pointer (some ⟨px, 4, none⟩) := (RY.ev_tmp a 14).trans d0
      exact Or.inl ⟨.agg #[.string nm, .bool dr], W, by simp [execOp, go_sem, e0, x4, x5], Below.refl _ _, rfl⟩
    | 10, ho =>
      injection ho with ho; subst ho
      have d0 := hd 5 _ 11 rfl rfl ⟨⟨5, .data⟩, by simp, rfl, rfl⟩
      have e0 : a.tmps[11]?.getD undef = .slice p2 bt.length q2 := (RY.ev_tmp a 11).trans d0
      have d1 := hd 9 _ 15 rfl rfl ⟨⟨9, .data⟩, by simp, rfl, rfl⟩
      have e1 : a.tmps[15]?.getD undef = .agg #[.string nm, .bool dr] := (RY.ev_tmp a 15).trans d1
      refine Or.inr ⟨90, #[.slice p2 bt.length q2, .agg #[.string nm, .bool dr], .func (.func 74) #[] #[]], by simp [go_sem, e0, e1], (binBt p2 q2 bt nm (.bool dr) (posB bt nm) W (HV.out.later hW).b HM.out (posB_le bt nm) (posB_lt bt nm) (posB_ge hasc nm)).mono ?_⟩
      rintro e W' ⟨rfl, hb⟩
      rw [posB_hit]
      exact ⟨_, rfl, hb, rfl⟩
    | 11, ho =>
      injection ho with ho; subst ho
      have d0 := hd 10 _ 16 rfl rfl ⟨⟨10, .data⟩, by simp, rfl, rfl⟩
      have e0 : a.tmps[16]?.getD undef = .tuple #[.int .i64 (posB bt nm : Nat), .bool (decide (posB bt nm < bt.length) && same (bt.getD (posB bt nm) Bt.none).nm nm)] := (RY.ev_tmp a 16).trans d0
      exact Or.inl ⟨.tuple #[.int .i64 (posB bt nm : Nat), .bool (decide (posB bt nm < bt.length) && same (bt.getD (posB bt nm) Bt.none).nm nm)], W, by simp [execOp, go_sem, e0], Below.refl _ _, rfl⟩
    | 12, ho =>
      injection ho with ho; subst ho
      have d0 := hd 11 _ 5 rfl rfl ⟨⟨11, .data⟩, by simp, rfl, rfl⟩
      have e0 : a.tmps[5]?.getD undef = .tuple #[.int .i64 (posB bt nm : Nat), .bool (decide (posB bt nm < bt.length) && same (bt.getD (posB bt nm) Bt.none).nm nm)] := (RY.ev_tmp a 5).trans d0
      exact Or.inl ⟨.int .i64 (posB bt nm : Nat), W, by simp [execOp, go_sem, e0], Below.refl _ _, rfl⟩
    | 13, ho =>
      injection ho with ho; subst ho
      have d0 := hd 11 _ 5 rfl rfl ⟨⟨11, .data⟩, by simp, rfl, rfl⟩
      have e0 : a.tmps[5]?.getD undef = .tuple #[.int .i64 (posB bt nm : Nat), .bool (decide (posB bt nm < bt.length) && same (bt.getD (posB bt nm) Bt.none).nm nm)] := (RY.ev_tmp a 5).trans d0
      exact Or.inl ⟨.bool (decide (posB bt nm < bt.length) && same (bt.getD (posB bt nm) Bt.none).nm nm), W, by simp [execOp, go_sem, e0], Below.refl _ _, rfl⟩
    | 14, ho =>
      injection ho with ho; subst ho
      have d0 := hd 12 _ 17 rfl rfl ⟨⟨12, .data⟩, by simp, rfl, rfl⟩
      have e0 : a.tmps[17]?.getD undef = .int .i64 (posB bt nm : Nat) := (RY.ev_tmp a 17).trans d0
      exact Or.inl ⟨.int .i64 (posB bt nm : Nat), W, by simp [execOp, go_sem, e0], Below.refl _ _, rfl⟩
    | 15, ho =>
      injection ho with ho; subst ho
      have d0 := hd 13 _ 18 rfl rfl ⟨⟨13, .data⟩, by simp, rfl, rfl⟩
      have e0 : a.tmps[18]?.getD undef = .bool (decide (posB bt nm < bt.length) && same (bt.getD (posB bt nm) Bt.none).nm nm) := (RY.ev_tmp a 18).trans d0
      exact Or.inl ⟨.bool (decide (posB bt nm < bt.length) && same (bt.getD (posB bt nm) Bt.none).nm nm), W, by simp [execOp, go_sem, e0], Below.refl _ _, rfl⟩
    | n + 16, ho => simp at ho
  intro W1 vs hb hvs
  have e3 : vs 3 = _ := hvs 14 _ 3 rfl rfl
  have e4 : vs 4 = _ := hvs 15 _ 4 rfl rfl
  simp only [RY.putAll, Act.put, List.setIfInBounds_toArray, List.set_cons_zero, List.set_cons_succ]
  rw [e3, e4]
  generalize vs 5 = s5
  generalize vs 6 = s6
  generalize vs 7 = s7
  generalize vs 8 = s8
  generalize vs 9 = s9
  generalize vs 10 = s10
  generalize vs 11 = s11
  generalize vs 12 = s12
  generalize vs 13 = s13
  generalize vs 14 = s14
  generalize vs 15 = s15
  generalize vs 16 = s16
  generalize vs 17 = s17
  generalize vs 18 = s18
  clear hvs e3 e4 X3 X4 X5 HXL
  have HX1 := hid (HXG.out.later hb)
  have HB1 : Hid (Below lo R W1) := hb.mono HLO.out
  have HLO1 : Hid (lo ≤ W1.heap.size) := Nat.le_trans HLO.out hb.size
  clear hb HXG
  obtain ⟨k, hkk⟩ : ∃ k, k = posB bt nm := ⟨_, rfl⟩
  have HRO : Hid (raiseOf bt nm dr = bt.take k ++ [⟨nm, dr⟩] ++ (if decide (k < bt.length) && same (bt.getD k Bt.none).nm nm then bt.drop (k + 1) else bt.drop k)) := by show _ = _; rw [hkk]; rfl
  have HKL : Hid (k ≤ bt.length) := by rw [hkk]; exact posB_le bt nm
  have HSZD : Hid (∀ i, i < (raiseOf bt nm dr).length → ((raiseOf bt nm dr).getD i Bt.none).sized) := raise_sized HX1.out.z2 HSZ.out dr
  have HTAIL : Hid (∀ W2 p2' n2' q2', XG lo px t [.string nm, .bool dr] W2 now sv cp (raiseOf bt nm dr) p0 p1 p2' sv.length cp.length n2' q0 q1 q2' → Below lo R W2 → lo ≤ W2.heap.size → Calls Tryz.prog 85 #[.pointer (some ⟨px, 0, none⟩)] W2 fun e W' => e = .returned (.int .i64 r) ∧ (∃ p2' n2' q2', XG lo px t [.string nm, .bool dr] W' now sv cp (raiseOf bt nm dr) p0 p1 p2' sv.length cp.length n2' q0 q1 q2') ∧ Below lo R W') := by
    intro W2 p2' n2' q2' hX hB hl
    refine (codeI hX).mono ?_
    rintro e W' ⟨rfl, hb⟩
    exact ⟨by rw [HRE.out], ⟨p2', n2', q2', hX.later hb⟩, hB.trans (hb.mono hl)⟩
  rw [← hkk]
  clear hkk HRE
  cases hf : (decide (k < bt.length) && same (bt.getD k Bt.none).nm nm)
  · have HRO2 : Hid (raiseOf bt nm dr = bt.take k ++ [⟨nm, dr⟩] ++ bt.drop k) := by show _ = _; rw [HRO.out, hf]; rfl
    have HMM : Hid (bt.length + 1 ≤ 1048576) := by have := HLN.out; show _ ≤ _; omega
    have HRL : Hid ((raiseOf bt nm dr).length = bt.length + 1) := by
      show _ = _
      have := HKL.out
      rw [HRO2.out, List.length_append, List.length_append, List.length_take, List.length_drop, List.length_singleton]; omega
    clear hf HRO
    go_upto_region 4 with fail
    have X3 := HX1.out.cell 3 _ rfl
    have X4 := HX1.out.cell 4 _ rfl
    have X5 := HX1.out.cell 5 _ rfl
    have HXL := lt_heap HX1.out.bx
    have HPX := HX1.out.bx
    have HNE : 79 ≠ t := HX1.out.nr.2.2
    have HPG : Hid (∀ g, p2 = some ⟨g, 0, none⟩ → px ≠ g) := fun g e => by
      obtain ⟨cur, hc⟩ := (owns_typ HX1.out.o2 g e).2
      exact HX1.out.ne hc HX1.out.nr.2.2
    refine RY.region_TC (V60i px k nm dr p2 bt.length q2) (TY W1 px p2 t (fun u => (.int .i64 now :: .slice p0 sv.length q0 :: .slice p1 cp.length q1 :: u :: [.string nm, .bool dr]).toArray) lo 79 2 (bt.length + 1) ((bt.take k ++ [(⟨nm, dr⟩ : Bt)] ++ bt.drop k).flatMap BtC) [.string nm, .bool dr] 12 13 18) (by kernel_rfl) (by kernel_rfl) (by kernel_rfl) (by kernel_rfl) ?_ ?_ ?_
    · intro vals
      exact ⟨BelY.of (Below.refl _ _).drew, fun _ => (Below.refl _ _).drew, fun h => (by cases h), fun _ => rfl, fun h => (by cases h), fun h => (by cases h)⟩
    · intro up vals i o ho hi hcl a W hk hd hT
      obtain ⟨hY, hBe, hO, hS0, hS1, hBb⟩ := hT
      match i, ho with
        | 0, ho =>
          injection ho with ho; subst ho
          have e0 : a.tmps[0]?.getD undef = .pointer (some ⟨px, 0, none⟩) := (RY.ev_tmp a 0).trans ((hk 0 (by kernel_rfl)).trans rfl)
          exact Or.inl ⟨.pointer (some ⟨px, 0, none⟩), W, by simp [execOp, go_sem, e0], rfl, rfl, ⟨hY, hBe, hO, hS0, hS1, hBb⟩⟩
        | 1, ho =>
          injection ho with ho; subst ho
          have e0 : a.tmps[0]?.getD undef = .pointer (some ⟨px, 0, none⟩) := (RY.ev_tmp a 0).trans ((hk 0 (by kernel_rfl)).trans rfl)
          exact Or.inl ⟨.pointer (some ⟨px, 0, none⟩), W, by simp [execOp, go_sem, e0], rfl, rfl, ⟨hY, hBe, hO, hS0, hS1, hBb⟩⟩
        | 2, ho =>
          injection ho with ho; subst ho
          have d0 := hd 1 _ 33 rfl rfl ⟨⟨1, .data⟩, by simp, rfl, rfl⟩
          have e0 : a.tmps[33]?.getD undef = .pointer (some ⟨px, 0, none⟩) := (RY.ev_tmp a 33).trans (d0.2.1.trans d0.2.2)
          exact Or.inl ⟨.pointer (some ⟨px, 0, none⟩), W, by simp [execOp, go_sem, e0], rfl, rfl, ⟨hY, hBe, hO, hS0, hS1, hBb⟩⟩
        | 3, ho =>
          injection ho with ho; subst ho
          have d0 := hd 2 _ 34 rfl rfl ⟨⟨2, .data⟩, by simp, rfl, rfl⟩
          have e0 : a.tmps[34]?.getD undef = .pointer (some ⟨px, 0, none⟩) := (RY.ev_tmp a 34).trans (d0.2.1.trans d0.2.2)
          exact Or.inl ⟨.pointer (some ⟨px, 0, none⟩), W, by simp [execOp, go_sem, e0], rfl, rfl, ⟨hY, hBe, hO, hS0, hS1, hBb⟩⟩
        | 4, ho =>
          injection ho with ho; subst ho
          have d0 := hd 3 _ 35 rfl rfl ⟨⟨3, .data⟩, by simp, rfl, rfl⟩
          have e0 : a.tmps[35]?.getD undef = .pointer (some ⟨px, 0, none⟩) := (RY.ev_tmp a 35).trans (d0.2.1.trans d0.2.2)
          exact Or.inl ⟨.pointer (some ⟨px, 0, none⟩), W, by simp [execOp, go_sem, e0], rfl, rfl, ⟨hY, hBe, hO, hS0, hS1, hBb⟩⟩
        | 5, ho =>
          injection ho with ho; subst ho
          have d0 := hd 4 _ 36 rfl rfl ⟨⟨4, .data⟩, by simp, rfl, rfl⟩
          have e0 : a.tmps[36]?.getD undef = .pointer (some ⟨px, 0, none⟩) := (RY.ev_tmp a 36).trans (d0.2.1.trans d0.2.2)
          exact Or.inl ⟨.pointer (some ⟨px, 3, none⟩), W, by simp [execOp, go_sem, e0], rfl, rfl, ⟨hY, hBe, hO, hS0, hS1, hBb⟩⟩
        | 6, ho =>
          injection ho with ho; subst ho
          have d0 := hd 5 _ 37 rfl rfl ⟨⟨5, .data⟩, by simp, rfl, rfl⟩
          have e0 : a.tmps[37]?.getD undef = .pointer (some ⟨px, 3, none⟩) := (RY.ev_tmp a 37).trans (d0.2.1.trans d0.2.2)
          have fc : up 13 = false := by
            cases e : up 13
            · rfl
            · exfalso
              have e := hcl 13 _ ⟨6, .data⟩ rfl (by simp) rfl e
              rw [hi] at e; cases e
          have hW := hBe fc
          have x3 := (hW.cell (p := ⟨px, 3, none⟩) HXL).trans X3
          exact Or.inl ⟨.slice p2 bt.length q2, W, by simp [execOp, go_sem, e0, x3], rfl, rfl, ⟨hY, hBe, hO, hS0, hS1, hBb⟩⟩
        | 7, ho =>
          injection ho with ho; subst ho
          have e0 : a.tmps[3]?.getD undef = .int .i64 (k : Nat) := (RY.ev_tmp a 3).trans ((hk 3 (by kernel_rfl)).trans rfl)
          exact Or.inl ⟨.int .i64 (k : Nat), W, by simp [execOp, go_sem, e0], rfl, rfl, ⟨hY, hBe, hO, hS0, hS1, hBb⟩⟩
        | 8, ho =>
          injection ho with ho; subst ho
          have e0 : a.tmps[0]?.getD undef = .pointer (some ⟨px, 0, none⟩) := (RY.ev_tmp a 0).trans ((hk 0 (by kernel_rfl)).trans rfl)
          exact Or.inl ⟨.pointer (some ⟨px, 0, none⟩), W, by simp [execOp, go_sem, e0], rfl, rfl, ⟨hY, hBe, hO, hS0, hS1, hBb⟩⟩
        | 9, ho =>
          injection ho with ho; subst ho
          have d0 := hd 8 _ 40 rfl rfl ⟨⟨8, .data⟩, by simp, rfl, rfl⟩
          have e0 : a.tmps[40]?.getD undef = .pointer (some ⟨px, 0, none⟩) := (RY.ev_tmp a 40).trans (d0.2.1.trans d0.2.2)
          exact Or.inl ⟨.pointer (some ⟨px, 0, none⟩), W, by simp [execOp, go_sem, e0], rfl, rfl, ⟨hY, hBe, hO, hS0, hS1, hBb⟩⟩
        | 10, ho =>
          injection ho with ho; subst ho
          have d0 := hd 9 _ 41 rfl rfl ⟨⟨9, .data⟩, by simp, rfl, rfl⟩
          have e0 : a.tmps[41]?.getD undef = .pointer (some ⟨px, 0, none⟩) := (RY.ev_tmp a 41).trans (d0.2.1.trans d0.2.2)
          exact Or.inl ⟨.pointer (some ⟨px, 4, none⟩), W, by simp [execOp, go_sem, e0], rfl, rfl, ⟨hY, hBe, hO, hS0, hS1, hBb⟩⟩
        | 11, ho =>
          injection ho with ho; subst ho
          have d0 := hd 10 _ 42 rfl rfl ⟨⟨10, .data⟩, by simp, rfl, rfl⟩
          have e0 : a.tmps[42]?.getD undef = .pointer (some ⟨px, 4, none⟩) := (RY.ev_tmp a 42).trans (d0.2.1.trans d0.2.2)
          have fc : up 13 = false := by
            cases e : up 13
            · rfl
            · exfalso
              have e := hcl 13 _ ⟨12, .data⟩ rfl (by simp) rfl e
              have e := hcl 12 _ ⟨11, .data⟩ rfl (by simp) rfl e
              rw [hi] at e; cases e
          have hW := hBe fc
          have x4 := (hW.cell (p := ⟨px, 4, none⟩) HXL).trans X4
          have x5 := (hW.cell (p := ⟨px, 5, none⟩) HXL).trans X5
          exact Or.inl ⟨.agg #[.string nm, .bool dr], W, by simp [execOp, go_sem, e0, x4, x5], rfl, rfl, ⟨hY, hBe, hO, hS0, hS1, hBb⟩⟩
        | 12, ho =>
          injection ho with ho; subst ho
          have d0 := hd 11 _ 43 rfl rfl ⟨⟨11, .data⟩, by simp, rfl, rfl⟩
          have e0 : a.tmps[43]?.getD undef = .agg #[.string nm, .bool dr] := (RY.ev_tmp a 43).trans (d0.2.1.trans d0.2.2)
          have fc : up 13 = false := by
            cases e : up 13
            · rfl
            · have := hcl 13 _ ⟨12, .data⟩ rfl (by simp) rfl e; rw [hi] at this; cases this
          have hW := hBe fc
          have hb9 : Below W.heap.size W (W.alloc (.cells #[.string nm, .bool dr] 79)) := blw_alloc (Below.refl _ _) _
          have f18 : up 18 = false := by
            cases e : up 18
            · rfl
            · have := hcl 18 _ ⟨13, .data⟩ rfl (by simp) rfl e; rw [fc] at this; cases this
          refine Or.inl ⟨.slice (some ⟨W.heap.size, 0, none⟩) 1 1, W.alloc (.cells #[.string nm, .bool dr] 79), by simp [execOp, go_sem, e0], rfl, trivial, BelY.of (blw_trans hW hb9), fun _ => blw_trans hW hb9, ?_, fun _ => (hb9.block px (Nat.lt_of_lt_of_le HXL hW.size)).trans (hW.block px HXL), ?_, fun _ _ => ⟨W.heap.size, rfl, hW.size, World.alloc_heap_new W _⟩⟩
          · show ((13 == 12) || up 13) = true → _
            rw [fc]; intro h; cases h
          · show ((18 == 12) || up 18) = true → _
            rw [f18]; intro h; cases h
        | 13, ho =>
          injection ho with ho; subst ho
          have d0 := hd 6 _ 38 rfl rfl ⟨⟨6, .data⟩, by simp, rfl, rfl⟩
          have e0 : a.tmps[38]?.getD undef = .slice p2 bt.length q2 := (RY.ev_tmp a 38).trans (d0.2.1.trans d0.2.2)
          have d1 := hd 7 _ 39 rfl rfl ⟨⟨7, .data⟩, by simp, rfl, rfl⟩
          have e1 : a.tmps[39]?.getD undef = .int .i64 (k : Nat) := (RY.ev_tmp a 39).trans (d1.2.1.trans d1.2.2)
          have d2 := hd 12 _ 44 rfl rfl ⟨⟨12, .data⟩, by simp, rfl, rfl⟩
          obtain ⟨gc, ev, hgr, hgc⟩ := hBb (hd 12 _ 44 rfl rfl ⟨⟨12, .data⟩, by simp, rfl, rfl⟩).1 hi
          have hW := hBe hi
          have e9 : a.tmps[44]?.getD undef = .slice (some ⟨gc, 0, none⟩) 1 1 := (RY.ev_tmp a 44).trans ((hd 12 _ 44 rfl rfl ⟨⟨12, .data⟩, by simp, rfl, rfl⟩).2.1.trans ev)
          have hne9 : ∀ g, p2 = some ⟨g, 0, none⟩ → g ≠ gc := fun g e => by have := (World.ownsRow.lt HX1.out.o2 g (by rw [e]; rfl)).2; omega
          refine Or.inr (Or.inr ⟨91, #[.slice p2 bt.length q2, .int .i64 (k : Nat), .slice (some ⟨gc, 0, none⟩) 1 1], by simp [go_sem, e0, e1, e9], rfl, (insOneB lo W p2 q2 bt (owns_on HX1.out.o2 hW) ⟨nm, dr⟩ gc hgc hne9 k HKL.out HMM.out (Nat.le_trans HLO1.out hW.size)).mono ?_⟩)
          rintro e W' ⟨g', q', rfl, ho, hb⟩
          have f18 : up 18 = false := by
            cases e : up 18
            · rfl
            · have := hcl 18 _ ⟨13, .data⟩ rfl (by simp) rfl e; rw [hi] at this; cases this
          refine ⟨_, rfl, trivial, BelY.call hW hb, fun h => (by cases h), fun _ => ⟨_, _, rfl, ho⟩, fun _ => (hb.block px (Nat.lt_of_lt_of_le HXL hW.size) HPG.out).trans (hW.block px HXL), ?_, fun _ h => (by cases h)⟩
          show ((18 == 13) || up 18) = true → _
          rw [f18]; intro h; cases h
        | 14, ho =>
          injection ho with ho; subst ho
          have d0 := hd 0 _ 32 rfl rfl ⟨⟨0, .data⟩, by simp, rfl, rfl⟩
          have e0 : a.tmps[32]?.getD undef = .pointer (some ⟨px, 0, none⟩) := (RY.ev_tmp a 32).trans (d0.2.1.trans d0.2.2)
          exact Or.inl ⟨.pointer (some ⟨px, 0, none⟩), W, by simp [execOp, go_sem, e0], rfl, rfl, ⟨hY, hBe, hO, hS0, hS1, hBb⟩⟩
        | 15, ho =>
          injection ho with ho; subst ho
          have d0 := hd 14 _ 46 rfl rfl ⟨⟨14, .data⟩, by simp, rfl, rfl⟩
          have e0 : a.tmps[46]?.getD undef = .pointer (some ⟨px, 0, none⟩) := (RY.ev_tmp a 46).trans (d0.2.1.trans d0.2.2)
          exact Or.inl ⟨.pointer (some ⟨px, 0, none⟩), W, by simp [execOp, go_sem, e0], rfl, rfl, ⟨hY, hBe, hO, hS0, hS1, hBb⟩⟩
        | 16, ho =>
          injection ho with ho; subst ho
          have d0 := hd 15 _ 47 rfl rfl ⟨⟨15, .data⟩, by simp, rfl, rfl⟩
          have e0 : a.tmps[47]?.getD undef = .pointer (some ⟨px, 0, none⟩) := (RY.ev_tmp a 47).trans (d0.2.1.trans d0.2.2)
          exact Or.inl ⟨.pointer (some ⟨px, 0, none⟩), W, by simp [execOp, go_sem, e0], rfl, rfl, ⟨hY, hBe, hO, hS0, hS1, hBb⟩⟩
        | 17, ho =>
          injection ho with ho; subst ho
          have d0 := hd 16 _ 48 rfl rfl ⟨⟨16, .data⟩, by simp, rfl, rfl⟩
          have e0 : a.tmps[48]?.getD undef = .pointer (some ⟨px, 0, none⟩) := (RY.ev_tmp a 48).trans (d0.2.1.trans d0.2.2)
          exact Or.inl ⟨.pointer (some ⟨px, 3, none⟩), W, by simp [execOp, go_sem, e0], rfl, rfl, ⟨hY, hBe, hO, hS0, hS1, hBb⟩⟩
        | 18, ho =>
          injection ho with ho; subst ho
          have d0 := hd 17 _ 49 rfl rfl ⟨⟨17, .data⟩, by simp, rfl, rfl⟩
          have e0 : a.tmps[49]?.getD undef = .pointer (some ⟨px, 3, none⟩) := (RY.ev_tmp a 49).trans (d0.2.1.trans d0.2.2)
          have d1 := hd 13 _ 45 rfl rfl ⟨⟨13, .data⟩, by simp, rfl, rfl⟩
          have dc := hd 13 _ 45 rfl rfl ⟨⟨13, .data⟩, by simp, rfl, rfl⟩
          obtain ⟨g9, q9, ev9, ho9⟩ := hO dc.1
          have e9 : a.tmps[45]?.getD undef = .slice g9 (bt.length + 1) q9 := (RY.ev_tmp a 45).trans (dc.2.1.trans ev9)
          have hp := (hS0 hi).trans HPX
          have fz : ∀ j, W.frozen? ⟨px, j, none⟩ = false := fun j => by simp [World.frozen?, hp]
          have y : W.cell? ⟨px, 3, none⟩ = some (.slice p2 bt.length q2) := by simp [World.cell?, hp]
          refine Or.inr (Or.inl ⟨W.setCell ⟨px, 3, none⟩ (.slice g9 (bt.length + 1) q9), by simp [execOp, go_sem, e0, e9, y, fz], rfl, hY.sc _ _, ?_, fun _ => ⟨g9, q9, ev9, owns_else ho9 hp HNE _ _⟩, fun h => (by cases h), fun _ => ?_, ?_⟩)
          · show ((13 == 18) || up 13) = false → _
            rw [dc.1]; intro h; cases h
          · show _ = some (Obj.cells ((fun u => (.int .i64 now :: .slice p0 sv.length q0 :: .slice p1 cp.length q1 :: u :: [.string nm, .bool dr]).toArray) (vals 13)) _ _)
            rw [ev9, heap_setCell_same W px 3 _ _ _ hp]; rfl
          · show ((12 == 18) || up 12) = true → ((13 == 18) || up 13) = false → _
            rw [dc.1]; intro _ h; cases h
        | n + 19, ho => simp at ho
    · intro up vals vs W2 hall hv hT
      obtain ⟨hY, _, hO, _, hS1, _⟩ := hT
      obtain ⟨g9, q9, ev9, ho9⟩ := hO (hall 13 (by decide))
      have hpx := hS1 (hall 18 (by decide))
      rw [ev9] at hpx
      simp only [RY.putAll, Act.put, List.setIfInBounds_toArray, List.set_cons_zero, List.set_cons_succ]
      generalize vs 32 = s32
      generalize vs 33 = s33
      generalize vs 34 = s34
      generalize vs 35 = s35
      generalize vs 36 = s36
      generalize vs 37 = s37
      generalize vs 38 = s38
      generalize vs 39 = s39
      generalize vs 40 = s40
      generalize vs 41 = s41
      generalize vs 42 = s42
      generalize vs 43 = s43
      generalize vs 44 = s44
      generalize vs 45 = s45
      generalize vs 46 = s46
      generalize vs 47 = s47
      generalize vs 48 = s48
      generalize vs 49 = s49
      have HX2 : Hid (XG lo px t [.string nm, .bool dr] W2 now sv cp (raiseOf bt nm dr) p0 p1 g9 sv.length cp.length (bt.length + 1) q0 q1 q9) := HX1.out.btsY hY hpx (by rw [HRO2.out]; exact ho9) HRL.out HSZD.out HMM.out
      have HB2 : Hid (Below lo R W2) := HB1.out.trans (hY.lo HPL.out (fun g e => (owns_typ HX1.out.o2 g e).1) HLO1.out)
      have HLO2 : Hid (lo ≤ W2.heap.size) := Nat.le_trans HLO1.out hY.size
      clear hY hO hS1 hpx ho9 ev9 hv hall X3 X4 X5 HXL HPX HNE
      have xz := lt_heap HX2.out.bx
      go_wp2_with fail
      refine (HTAIL.out W2 _ _ _ HX2.out HB2.out HLO2.out).mono ?_
      rintro e W3 ⟨rfl, hx3, hb3⟩
      have HX3 := hid hx3
      have HB3 := hid hb3
      clear hx3 hb3 xz
      go_wp2
      go_ret
      exact ⟨rfl, HX3.out, HB3.out⟩
  · obtain ⟨hlt, hsm⟩ := (Bool.and_eq_true_iff.1 hf)
    have hlt : k < bt.length := of_decide_eq_true hlt
    have HRO2 : Hid (raiseOf bt nm dr = bt.set k ⟨nm, dr⟩) := by show _ = _; rw [HRO.out, hf, if_pos rfl, set_cut _ bt k hlt]
    clear hf HRO hsm
    obtain ⟨g, cur, hpg, hgl, hgh, hcs, hcell⟩ := owns_blk HX1.out.o2 (by omega)
    subst hpg
    obtain ⟨x, hx⟩ : ∃ x, x = bt.getD k Bt.none := ⟨_, rfl⟩
    have cell := fun j (hj : j < 2) u (hu : (BtC x)[j]? = some u) => hcell (k * 2 + j) u ((flat_at Bt.none BtC 2 BtC_len bt k j hlt hj).trans (by rw [← hx]; exact hu))
    have HC0 : Hid (cur[k * 2]? = some (.string x.nm)) := by show _ = _; simpa [World.cell?, hgh] using cell 0 (by omega) _ rfl
    have HC1 : Hid (cur[k * 2 + 1]? = some (.bool x.drain)) := by show _ = _; simpa [World.cell?, hgh] using cell 1 (by omega) _ rfl
    have HGL := hid hgl
    have HGH := hid hgh
    have HR : Hid (∀ W', BelX g W1 W' → W'.heap[g]? = some (.cells ((cur.setIfInBounds (k * 2) (.string nm)).setIfInBounds (k * 2 + 1) (.bool dr)) 79 (0, 0)) → XG lo px t [.string nm, .bool dr] W' now sv cp (raiseOf bt nm dr) p0 p1 (some ⟨g, 0, none⟩) sv.length cp.length bt.length q0 q1 q2) := by
      intro W' hX hH
      refine HX1.out.bts hgh hX ((hX.block px (lt_heap HX1.out.bx) (HX1.out.ne hgh HX1.out.nr.2.2)).trans HX1.out.bx) ?_ (by rw [HRO2.out, List.length_set]) HSZD.out HX1.out.m2
      rw [HRO2.out]
      have e1 := owns_set (owns_set HX1.out.o2 (k * 2) (.string nm)) (k * 2 + 1) (.bool dr)
      have f1 := flat_set Bt.none BtC 2 BtC_len 0 (by omega) (.string nm) bt k ⟨nm, x.drain⟩ hlt (by rw [← hx]; rfl)
      rw [Nat.add_zero] at f1
      rw [f1, flat_set Bt.none BtC 2 BtC_len 1 (by omega) (.bool dr) (bt.set k ⟨nm, x.drain⟩) k ⟨nm, dr⟩ (by rw [List.length_set]; exact hlt) (by rw [show (bt.set k ⟨nm, x.drain⟩).getD k Bt.none = ⟨nm, x.drain⟩ from by simp [hlt]]; rfl), List.set_set] at e1
      rcases e1.2 with ⟨q, _⟩ | ⟨g', cap, cu, w1, w2, w3, w4⟩
      · cases q
      · cases w1
        refine ⟨e1.1, Or.inr ⟨g, _, cu, rfl, w2, ?_, w4⟩⟩
        rw [hH]
        rw [heap_setCell_same _ g _ _ _ _ (heap_setCell_same W1 g _ _ _ _ hgh)] at w3
        exact w3
    clear hcell cell hx hgl hgh hcs
    go_upto_region 3 with fail
    have X3 := HX1.out.cell 3 _ rfl
    have X4 := HX1.out.cell 4 _ rfl
    have X5 := HX1.out.cell 5 _ rfl
    have hpl := lt_heap HX1.out.bx
    have hgh := HGH.out
    have hne := HX1.out.ne hgh HX1.out.nr.2.2
    have C0 := HC0.out
    have C1 := HC1.out
    have hm0 : (0 : Int) ≤ (k : Int) := by omega
    have hm3 : (k : Int) < (bt.length : Int) := by omega
    refine RY.region_TC (V60s px g k nm dr bt.length q2) (T1 W1 g 79 cur ((cur.setIfInBounds (k * 2) (.string nm)).setIfInBounds (k * 2 + 1) (.bool dr)) 12) (by kernel_rfl) (by kernel_rfl) (by kernel_rfl) (by kernel_rfl) ?_ ?_ ?_
    · intro vals
      exact ⟨(BelX.refl g W1).drew, hgh⟩
    · intro up vals i o ho hi hcl a W hk hd hT
      obtain ⟨hX, hH⟩ := hT
      have x3 := (hX.cell hpl hne 3).trans X3
      have x4 := (hX.cell hpl hne 4).trans X4
      have x5 := (hX.cell hpl hne 5).trans X5
      match i, ho with
      | 0, ho =>
        injection ho with ho; subst ho
        have e0 : a.tmps[0]?.getD undef = .pointer (some ⟨px, 0, none⟩) := (RY.ev_tmp a 0).trans ((hk 0 (by kernel_rfl)).trans rfl)
        exact Or.inl ⟨.pointer (some ⟨px, 0, none⟩), W, by simp [execOp, go_sem, e0], rfl, rfl, hX, hH⟩
      | 1, ho =>
        injection ho with ho; subst ho
        have d0 := hd 0 _ 20 rfl rfl ⟨⟨0, .data⟩, by simp, rfl, rfl⟩
        have e0 : a.tmps[20]?.getD undef = .pointer (some ⟨px, 0, none⟩) := (RY.ev_tmp a 20).trans (d0.2.1.trans d0.2.2)
        exact Or.inl ⟨.pointer (some ⟨px, 0, none⟩), W, by simp [execOp, go_sem, e0], rfl, rfl, hX, hH⟩
      | 2, ho =>
        injection ho with ho; subst ho
        have d0 := hd 1 _ 21 rfl rfl ⟨⟨1, .data⟩, by simp, rfl, rfl⟩
        have e0 : a.tmps[21]?.getD undef = .pointer (some ⟨px, 0, none⟩) := (RY.ev_tmp a 21).trans (d0.2.1.trans d0.2.2)
        exact Or.inl ⟨.pointer (some ⟨px, 0, none⟩), W, by simp [execOp, go_sem, e0], rfl, rfl, hX, hH⟩
      | 3, ho =>
        injection ho with ho; subst ho
        have d0 := hd 2 _ 22 rfl rfl ⟨⟨2, .data⟩, by simp, rfl, rfl⟩
        have e0 : a.tmps[22]?.getD undef = .pointer (some ⟨px, 0, none⟩) := (RY.ev_tmp a 22).trans (d0.2.1.trans d0.2.2)
        exact Or.inl ⟨.pointer (some ⟨px, 0, none⟩), W, by simp [execOp, go_sem, e0], rfl, rfl, hX, hH⟩
      | 4, ho =>
        injection ho with ho; subst ho
        have d0 := hd 3 _ 23 rfl rfl ⟨⟨3, .data⟩, by simp, rfl, rfl⟩
        have e0 : a.tmps[23]?.getD undef = .pointer (some ⟨px, 0, none⟩) := (RY.ev_tmp a 23).trans (d0.2.1.trans d0.2.2)
        exact Or.inl ⟨.pointer (some ⟨px, 3, none⟩), W, by simp [execOp, go_sem, e0], rfl, rfl, hX, hH⟩
      | 5, ho =>
        injection ho with ho; subst ho
        have d0 := hd 4 _ 24 rfl rfl ⟨⟨4, .data⟩, by simp, rfl, rfl⟩
        have e0 : a.tmps[24]?.getD undef = .pointer (some ⟨px, 3, none⟩) := (RY.ev_tmp a 24).trans (d0.2.1.trans d0.2.2)
        exact Or.inl ⟨.slice (some ⟨g, 0, none⟩) bt.length q2, W, by simp [execOp, go_sem, e0, x3], rfl, rfl, hX, hH⟩
      | 6, ho =>
        injection ho with ho; subst ho
        have e0 : a.tmps[3]?.getD undef = .int .i64 (k : Nat) := (RY.ev_tmp a 3).trans ((hk 3 (by kernel_rfl)).trans rfl)
        exact Or.inl ⟨.int .i64 (k : Nat), W, by simp [execOp, go_sem, e0], rfl, rfl, hX, hH⟩
      | 7, ho =>
        injection ho with ho; subst ho
        have e0 : a.tmps[0]?.getD undef = .pointer (some ⟨px, 0, none⟩) := (RY.ev_tmp a 0).trans ((hk 0 (by kernel_rfl)).trans rfl)
        exact Or.inl ⟨.pointer (some ⟨px, 0, none⟩), W, by simp [execOp, go_sem, e0], rfl, rfl, hX, hH⟩
      | 8, ho =>
        injection ho with ho; subst ho
        have d0 := hd 7 _ 27 rfl rfl ⟨⟨7, .data⟩, by simp, rfl, rfl⟩
        have e0 : a.tmps[27]?.getD undef = .pointer (some ⟨px, 0, none⟩) := (RY.ev_tmp a 27).trans (d0.2.1.trans d0.2.2)
        exact Or.inl ⟨.pointer (some ⟨px, 0, none⟩), W, by simp [execOp, go_sem, e0], rfl, rfl, hX, hH⟩
      | 9, ho =>
        injection ho with ho; subst ho
        have d0 := hd 8 _ 28 rfl rfl ⟨⟨8, .data⟩, by simp, rfl, rfl⟩
        have e0 : a.tmps[28]?.getD undef = .pointer (some ⟨px, 0, none⟩) := (RY.ev_tmp a 28).trans (d0.2.1.trans d0.2.2)
        exact Or.inl ⟨.pointer (some ⟨px, 4, none⟩), W, by simp [execOp, go_sem, e0], rfl, rfl, hX, hH⟩
      | 10, ho =>
        injection ho with ho; subst ho
        have d0 := hd 9 _ 29 rfl rfl ⟨⟨9, .data⟩, by simp, rfl, rfl⟩
        have e0 : a.tmps[29]?.getD undef = .pointer (some ⟨px, 4, none⟩) := (RY.ev_tmp a 29).trans (d0.2.1.trans d0.2.2)
        exact Or.inl ⟨.agg #[.string nm, .bool dr], W, by simp [execOp, go_sem, e0, x4, x5], rfl, rfl, hX, hH⟩
      | 11, ho =>
        injection ho with ho; subst ho
        have d0 := hd 5 _ 25 rfl rfl ⟨⟨5, .data⟩, by simp, rfl, rfl⟩
        have e0 : a.tmps[25]?.getD undef = .slice (some ⟨g, 0, none⟩) bt.length q2 := (RY.ev_tmp a 25).trans (d0.2.1.trans d0.2.2)
        have d1 := hd 6 _ 26 rfl rfl ⟨⟨6, .data⟩, by simp, rfl, rfl⟩
        have e1 : a.tmps[26]?.getD undef = .int .i64 (k : Nat) := (RY.ev_tmp a 26).trans (d1.2.1.trans d1.2.2)
        exact Or.inl ⟨.pointer (some ⟨g, k * 2, none⟩), W, by simp [execOp, go_sem, e0, e1, hm0, hm3], rfl, rfl, hX, hH⟩
      | 12, ho =>
        injection ho with ho; subst ho
        have d0 := hd 11 _ 31 rfl rfl ⟨⟨11, .data⟩, by simp, rfl, rfl⟩
        have e0 : a.tmps[31]?.getD undef = .pointer (some ⟨g, k * 2, none⟩) := (RY.ev_tmp a 31).trans (d0.2.1.trans d0.2.2)
        have d1 := hd 10 _ 30 rfl rfl ⟨⟨10, .data⟩, by simp, rfl, rfl⟩
        have e1 : a.tmps[30]?.getD undef = .agg #[.string nm, .bool dr] := (RY.ev_tmp a 30).trans (d1.2.1.trans d1.2.2)
        rw [hi] at hH
        have hH : W.heap[g]? = some (.cells cur 79 (0, 0)) := hH
        have ya : W.cell? ⟨g, k * 2, none⟩ = some (.string x.nm) := by simp only [World.cell?, hH]; exact C0
        have yb : W.cell? ⟨g, k * 2 + 1, none⟩ = some (.bool x.drain) := by simp only [World.cell?, hH]; exact C1
        have fz : ∀ j, W.frozen? ⟨g, j, none⟩ = false := fun j => by simp [World.frozen?, hH]
        refine Or.inr (Or.inl ⟨(W.setCell ⟨g, k * 2, none⟩ (.string nm)).setCell ⟨g, k * 2 + 1, none⟩ (.bool dr), by simp [execOp, go_sem, e0, e1, ya, yb, fz], rfl, (hX.sc _ _).sc _ _, ?_⟩)
        exact heap_setCell_same _ g _ _ _ _ (heap_setCell_same W g _ _ _ _ hH)
      | n + 13, ho => simp at ho
    · intro up vals vs W2 hall hv hT
      have h12 := hall 12 (by decide)
      obtain ⟨hX, hH⟩ := hT
      rw [h12] at hH
      simp only [RY.putAll, Act.put, List.setIfInBounds_toArray, List.set_cons_zero, List.set_cons_succ]
      generalize vs 20 = s20
      generalize vs 21 = s21
      generalize vs 22 = s22
      generalize vs 23 = s23
      generalize vs 24 = s24
      generalize vs 25 = s25
      generalize vs 26 = s26
      generalize vs 27 = s27
      generalize vs 28 = s28
      generalize vs 29 = s29
      generalize vs 30 = s30
      generalize vs 31 = s31
      have HX2 := hid (HR.out W2 hX hH)
      have HB2 : Hid (Below lo R W2) := HB1.out.trans (hX.lo HGL.out HLO1.out)
      have HLO2 : Hid (lo ≤ W2.heap.size) := Nat.le_trans HLO1.out hX.size
      clear hX hH hv hall h12 X3 X4 X5 C0 C1 hpl hne hgh
      have xz := lt_heap HX2.out.bx
      go_wp2_with fail
      refine (HTAIL.out W2 _ _ _ HX2.out HB2.out HLO2.out).mono ?_
      rintro e W3 ⟨rfl, hx3, hb3⟩
      have HX3 := hid hx3
      have HB3 := hid hb3
      clear hx3 hb3 xz
      go_wp2
      go_ret
      exact ⟨rfl, HX3.out, HB3.out⟩

end Go.Proofs.YtclagbakddkjcaaGreat
