/-
  A text taken as a sheet: the program.
-/
import Derived.Deep.LoopGhost
import Derived.WalkKit
import Derived.LaidEql
import Derived.Stop.Asserts
import Derived.RowKitTokens
import Derived.Laws.Externs
import Derived.Test.YtdllbcafbfkngaaGreatDoorEXd
import Derived.Test.YtdllbcafbfkngaaGreatDoorOwn
import Derived.Test.YtdllbcafbfkngaaGreatDoorEPy
import Derived.Test.YtdllbcafbfkngaaGreatDoorEXa
import Derived.Test.YtdllbcafbfkngaaGreatDoorEIc
namespace Go.Proofs.YtdllbcafbfkngaaGreatDoor
open Go.RowKit Go.Deep

set_option maxHeartbeats 2000000 in
theorem beginBad (rb : Nat) (at_ : Int) (mv lv cw bv ov : Value) (w : World) (hrd : WBox w rb 79 [mv, lv, .int .i64 at_, cw, .bool true, bv, ov]) (hcw : ∃ a n c, cw = .slice a n c) :
    Calls Tryz.prog 53 #[.pointer (some ⟨rb, 0, none⟩)] w fun e w' => e = .returned (.iface 51 (.agg #[.int .i64 at_, .int .i64 1])) ∧ w = w' := by
  obtain ⟨a, n, c, rfl⟩ := hcw
  have c3 := hrd.get 3 _ rfl
  have c4 := hrd.get 4 _ rfl
  have cl := hrd.own.lt
  have HFT := uh (faultI rb at_ 1 w (hrd.get 2 _ rfl) cl)
  clear hrd
  go_enter Tryz.func53, Tryz.ntmps53
  go_wp2_with (go_at_call 66; refine HFT.out.mono ?_; rintro e w' ⟨rfl, rfl⟩)
  go_ret
  exact ⟨rfl, rfl⟩

set_option maxHeartbeats 2000000 in
theorem addBad (rb : Nat) (at_ : Int) (mv lv cw bv ov : Value) (w : World) (hrd : WBox w rb 79 [mv, lv, .int .i64 at_, cw, .bool true, bv, ov]) :
    Calls Tryz.prog 55 #[.pointer (some ⟨rb, 0, none⟩)] w fun e w' => e = .returned (.iface 51 (.agg #[.int .i64 at_, .int .i64 1])) ∧ w = w' := by
  have c4 := hrd.get 4 _ rfl
  have cl := hrd.own.lt
  have HFT := uh (faultI rb at_ 1 w (hrd.get 2 _ rfl) cl)
  clear hrd
  go_enter Tryz.func55, Tryz.ntmps55
  go_wp2_with (go_at_call 66; refine HFT.out.mono ?_; rintro e w' ⟨rfl, rfl⟩)
  go_ret
  exact ⟨rfl, rfl⟩

/-- What stays while a text is read. -/
structure RdC (rb mb : Nat) (la : Option Addr) (lc : Nat) (ls : List ByteArray) (vt vb vs : Value) (w0 : World) : Prop where
  lines : Raw w0 shTxs [.row ls.length (txD ls)] [.slice la ls.length lc]
  mp : w0.heap[mb]? = some (.map #[⟨.string { data := #[116, 101, 97, 109] }, .agg #[vt], 0⟩, ⟨.string { data := #[98, 101, 114, 116, 104] }, .agg #[vb], 1⟩, ⟨.string { data := #[115, 101, 114, 118, 105, 99, 101] }, .agg #[vs], 2⟩] 3)
  kinds : ∀ kind, ∃ ra rc, kindV kind vt vb vs = .slice ra (Pl.rulesOf kind).length rc ∧ Raw w0 [.row 68 shSheetRule] [rulesD (Pl.rulesOf kind)] [.slice ra (Pl.rulesOf kind).length rc]
  lo : w0.heap.size ≤ rb
  len : ls.length ≤ 400
  sz : ∀ x ∈ ls, x.size ≤ 1048576
theorem RdC.map {rb mb : Nat} {la : Option Addr} {lc : Nat} {ls : List ByteArray} {vt vb vs : Value} {w0 w : World} (h : RdC rb mb la lc ls vt vb vs w0) (hb : Below w0.heap.size w0 w) : w.heap[mb]? = some (.map #[⟨.string { data := #[116, 101, 97, 109] }, .agg #[vt], 0⟩, ⟨.string { data := #[98, 101, 114, 116, 104] }, .agg #[vb], 1⟩, ⟨.string { data := #[115, 101, 114, 118, 105, 99, 101] }, .agg #[vs], 2⟩] 3) :=
  (hb.block mb (lt_heap h.mp)).trans h.mp

/-- Where a block belongs. -/
def atB (A : List Pl.Bl) (cur : Pl.Bl) : Nat := plOf Pl.ahead A ⟨cur.kind, cur.name, []⟩
/-- The reader within a block. -/
def SO (rb mb : Nat) (la : Option Addr) (lc : Nat) (ls : List ByteArray) (k : Nat) (A : List Pl.Bl) (cur : Pl.Bl) (W : World) : Prop :=
  ∃ cw cb g q, WBox W rb 79 [.map (some mb), .slice la ls.length lc, .int .i64 (k : Nat), cw, .bool cb, .slice (some ⟨g, 0, none⟩) (A.length + 1) q, .int .i64 (atB A cur : Nat)] ∧ OpM rb A cur (atB A cur) g q W
/-- What is true of the block that is open. -/
structure OpP (k : Nat) (A : List Pl.Bl) (cur : Pl.Bl) : Prop where
  pw : A.Pairwise fun a b => Pl.ahead a b = true
  lt : A.length < 60
  new : ¬ (atB A cur < A.length ∧ cmpBl (A.getD (atB A cur) Pl.blNo) ⟨cur.kind, cur.name, []⟩ = 0)
  lw : cur.lines.Pairwise fun a c => Pl.lineLess cur.kind a c = true
  cnt : ∀ key, Pl.keyCnt cur.lines key ≤ 10
  ln : cur.lines.length ≤ k

theorem cut_ws_size (x : ByteArray) : ∀ y ∈ Pl.cutWs x, y.size ≤ maxLen := by
  unfold Pl.cutWs
  cases hc : Pl.cutL x.data.toList 0 with
  | none => intro y hy; cases hy
  | some ws =>
    intro y hy
    have := Pl.cut_sizes _ _ _ (Nat.le_refl _) ws hc y hy
    unfold maxLen
    omega

set_option maxHeartbeats 4000000 in
theorem beginS {rb mb : Nat} {la : Option Addr} {lc : Nat} {ls : List ByteArray} {vt vb vs : Value} {w0 : World} (C : RdC rb mb la lc ls vt vb vs w0) (x : ByteArray) (k : Nat) (a : Option Addr) (c : Nat) (F : List Nat) (A : List Pl.Bl) (bv : Value) (op : Int) (cur : Pl.Bl) (w : World)
    (hrd : WBox w rb 79 [.map (some mb), .slice la ls.length lc, .int .i64 (k : Nat), .slice a (Pl.cutWs x).length c, .bool (Pl.cutBad x), bv, .int .i64 op]) (hw : Rep w false shTxs F [.row (Pl.cutWs x).length (txD (Pl.cutWs x))] [.slice a (Pl.cutWs x).length c]) (hne : Pl.cutBad x = true ∨ (Pl.cutWs x).length ≠ 0)
    (hcl : ClM rb A bv w) (hb : Below w0.heap.size w0 w) (hP : A.Pairwise fun a b => Pl.ahead a b = true) (h60 : A.length ≤ 60) :
    Calls Tryz.prog 53 #[.pointer (some ⟨rb, 0, none⟩)] w fun e w' =>
      (Pl.stepC ⟨A, cur, false⟩ x ≠ 0 ∧ e = .returned (.iface 51 (.agg #[.int .i64 (k : Nat), .int .i64 (Pl.stepC ⟨A, cur, false⟩ x : Nat)])) ∧ Below w.heap.size w w') ∨
      (Pl.stepC ⟨A, cur, false⟩ x = 0 ∧ e = .returned .nilIface ∧ ∃ cur', Pl.stepS ⟨A, cur, false⟩ x = ⟨A, cur', true⟩ ∧ OpP k A cur' ∧ SO rb mb la lc ls k A cur' w' ∧ Below w0.heap.size w0 w') := by
  cases hbad : Pl.cutBad x with
  | true =>
    rw [hbad] at hrd
    refine (beginBad rb k _ _ _ bv _ w hrd ⟨_, _, _, rfl⟩).mono ?_
    rintro e w' ⟨rfl, rfl⟩
    rw [step_bad hbad]
    exact Or.inl ⟨by decide, rfl, Below.refl _ _⟩
  | false =>
    rw [hbad] at hrd
    have hwn : (Pl.cutWs x).length ≠ 0 := by
      rcases hne with h | h
      · rw [hbad] at h; cases h
      · exact h
    obtain ⟨hsc, hss⟩ := step_ok hbad ⟨A, cur, false⟩
    have e1 : Pl.wordsC ⟨A, cur, false⟩ (Pl.cutWs x) = Pl.beginC A (Pl.cutWs x) := by
      unfold Pl.wordsC Pl.isEnd; rw [if_neg hwn]; rfl
    have e2 : Pl.wordsS ⟨A, cur, false⟩ (Pl.cutWs x) = ⟨A, Pl.beginB A (Pl.cutWs x), true⟩ := by
      unfold Pl.wordsS Pl.isEnd; rw [if_neg hwn]; rfl
    rw [hsc, hss, e1, e2]
    have hwz := cut_ws_size x
    generalize Pl.cutWs x = ws at hrd hw hwz
    obtain ⟨cs, FB, hown, hrep, hnd, hlo, hg⟩ := hcl
    obtain ⟨p1, q, rfl⟩ := owns_is hown
    obtain ⟨t, ht⟩ : ∃ t, t = (⟨ws.getD 0 Pl.txNo, ws.getD 1 Pl.txNo, []⟩ : Pl.Bl) := ⟨_, rfl⟩
    obtain ⟨ag, hag⟩ : ∃ ag, ag = (decide (plOf Pl.ahead A ⟨ws.getD 0 Pl.txNo, ws.getD 1 Pl.txNo, []⟩ < A.length) && decide (cmpBl (A.getD (plOf Pl.ahead A ⟨ws.getD 0 Pl.txNo, ws.getD 1 Pl.txNo, []⟩) Pl.blNo) ⟨ws.getD 0 Pl.txNo, ws.getD 1 Pl.txNo, []⟩ = 0)) := ⟨_, rfl⟩
    have hkv : ∀ kind, ∃ ra rn rc, kindV kind vt vb vs = .slice ra rn rc := fun kind => by
      obtain ⟨ra, rc, e, _⟩ := C.kinds kind
      exact ⟨ra, _, rc, e⟩
    have hc := beginI rb mb _ k op a c ws A p1 q cs FB vt vb vs w hrd hw.raw hwz hown hrep h60 (C.map hb) hkv (plOf Pl.ahead A ⟨ws.getD 0 Pl.txNo, ws.getD 1 Pl.txNo, []⟩) (pl_le _ _ _) (pl_head totBl Pl.blNo A _) (pl_tail totBl Pl.blNo hP _) ag hag
    have he := begin_eq hP h60 ws ag hag
    rw [he] at hc
    refine hc.mono ?_
    rintro e w' (⟨h1, h2, h3⟩ | ⟨h1, h2, g', q', h3, h4, h5, h6⟩)
    · exact Or.inl ⟨h1, h2, h3⟩
    · have hbB : Pl.beginB A ws = ⟨ws.getD 0 Pl.txNo, ws.getD 1 Pl.txNo, []⟩ := by unfold Pl.beginB; rw [if_pos h1]
      have hag0 : ag = false := by
        rw [← he] at h1
        cases hq : ag with
        | false => rfl
        | true =>
          exfalso
          unfold bgC at h1
          rw [hq] at h1
          simp only [if_true] at h1
          repeat' split at h1
          all_goals cases h1
      have hlt : A.length < 60 := by
        rw [← he] at h1
        rcases Nat.lt_or_ge A.length 60 with q | q
        · exact q
        · exfalso
          have e60 : A.length = 60 := by omega
          unfold bgC at h1
          rw [if_pos e60] at h1
          repeat' split at h1
          all_goals cases h1
      refine Or.inr ⟨h1, h2, ⟨ws.getD 0 Pl.txNo, ws.getD 1 Pl.txNo, []⟩, by rw [hbB], ⟨hP, hlt, ?_, List.Pairwise.nil, fun _ => Nat.zero_le _, Nat.zero_le _⟩, ⟨_, _, g', q', h3, op_begin hrep hnd hlo hg (pl_le _ _ _) h4 h5 h6⟩, ?_⟩
      · intro hq
        rw [hag0] at hag
        have : (decide (plOf Pl.ahead A ⟨ws.getD 0 Pl.txNo, ws.getD 1 Pl.txNo, []⟩ < A.length) && decide (cmpBl (A.getD (plOf Pl.ahead A ⟨ws.getD 0 Pl.txNo, ws.getD 1 Pl.txNo, []⟩) Pl.blNo) ⟨ws.getD 0 Pl.txNo, ws.getD 1 Pl.txNo, []⟩ = 0)) = true := by
          rw [Bool.and_eq_true, decide_eq_true_eq, decide_eq_true_eq]
          exact hq
        rw [this] at hag
        cases hag
      · refine h5.below (fun b hq => ?_) hb
        rcases hq with rfl | hq
        · exact C.lo
        · have := (owns_lo hown hq).1
          have := C.lo
          omega

end Go.Proofs.YtdllbcafbfkngaaGreatDoor

namespace Go.Proofs.YtdllbcafbfkngaaGreatDoor
open Go.RowKit Go.Deep

set_option maxHeartbeats 4000000 in
theorem addS {rb mb : Nat} {la : Option Addr} {lc : Nat} {ls : List ByteArray} {vt vb vs : Value} {w0 : World} (C : RdC rb mb la lc ls vt vb vs w0) (x : ByteArray) (k0 k : Nat) (a : Option Addr) (c : Nat) (F : List Nat) (A : List Pl.Bl) (g q : Nat) (cur : Pl.Bl) (wp w : World)
    (hrd : WBox w rb 79 [.map (some mb), .slice la ls.length lc, .int .i64 (k : Nat), .slice a (Pl.cutWs x).length c, .bool (Pl.cutBad x), .slice (some ⟨g, 0, none⟩) (A.length + 1) q, .int .i64 (atB A cur : Nat)]) (hw : Rep w false shTxs F [.row (Pl.cutWs x).length (txD (Pl.cutWs x))] [.slice a (Pl.cutWs x).length c]) (hwn : F.Nodup) (hF : ∀ b ∈ F, wp.heap.size ≤ b) (hne : Pl.cutBad x = true ∨ (Pl.cutWs x).length ≠ 0)
    (hend : (decide ((Pl.cutWs x).length = 1) && (((Pl.cutWs x).getD 0 Pl.txNo).toList == [101, 110, 100])) = false) (hop : OpM rb A cur (atB A cur) g q wp) (hmk : Frm (fun b => b = rb) wp w) (hb : Below w0.heap.size w0 w) (hP : OpP k0 A cur) (hk : k0 < k) (hk4 : k ≤ 400) :
    Calls Tryz.prog 55 #[.pointer (some ⟨rb, 0, none⟩)] w fun e w' =>
      (Pl.stepC ⟨A, cur, true⟩ x ≠ 0 ∧ e = .returned (.iface 51 (.agg #[.int .i64 (k : Nat), .int .i64 (Pl.stepC ⟨A, cur, true⟩ x : Nat)])) ∧ Below w.heap.size w w') ∨
      (Pl.stepC ⟨A, cur, true⟩ x = 0 ∧ e = .returned .nilIface ∧ ∃ cur', Pl.stepS ⟨A, cur, true⟩ x = ⟨A, cur', true⟩ ∧ OpP k A cur' ∧ SO rb mb la lc ls k A cur' w' ∧ Below w0.heap.size w0 w') := by
  cases hbad : Pl.cutBad x with
  | true =>
    rw [hbad] at hrd
    refine (addBad rb k _ _ _ _ _ w hrd).mono ?_
    rintro e w' ⟨rfl, rfl⟩
    rw [step_bad hbad]
    exact Or.inl ⟨by decide, rfl, Below.refl _ _⟩
  | false =>
    rw [hbad] at hrd
    have hwl : (Pl.cutWs x).length ≠ 0 := by
      rcases hne with h | h
      · rw [hbad] at h; cases h
      · exact h
    obtain ⟨hsc, hss⟩ := step_ok hbad ⟨A, cur, true⟩
    have hie : Pl.isEnd ⟨A, cur, true⟩ (Pl.cutWs x) = false := by unfold Pl.isEnd; rw [hend]; rfl
    have e1 : Pl.wordsC ⟨A, cur, true⟩ (Pl.cutWs x) = Pl.insideC cur (Pl.cutWs x) := by
      unfold Pl.wordsC; rw [if_neg hwl, hie]; rfl
    have e2 : Pl.wordsS ⟨A, cur, true⟩ (Pl.cutWs x) = ⟨A, Pl.insideB cur (Pl.cutWs x), true⟩ := by
      unfold Pl.wordsS; rw [if_neg hwl, hie]; rfl
    rw [hsc, hss, e1, e2]
    have hwz := cut_ws_size x
    generalize Pl.cutWs x = ws at hrd hw hwz hwl
    obtain ⟨kind, name, L⟩ := cur
    obtain ⟨ca, cb, l1, lq, cl, FA, FL, FB, o1, o2, o3, o4, o5, o6, o7, o8⟩ := hop
    simp only at o1 o3 o5 o8
    have hltA : ∀ b ∈ FA ++ (FL ++ FB), b < wp.heap.size := fun b hb => by
      rcases List.mem_append.1 hb with e | e
      · exact o4.lt b e
      · rcases List.mem_append.1 e with e | e
        · exact o5.lt b e
        · exact o6.lt b e
    have hgl := owns_lo o1 (g := g) rfl
    have hgN : g < wp.heap.size := by
      obtain ⟨_, cu, h⟩ := hgl
      exact lt_heap h
    have hlN : ∀ b, (Value.slice l1 L.length lq).ownBlock = some b → b < wp.heap.size := fun b e => by
      obtain ⟨_, cu, h⟩ := owns_lo o3 e
      exact lt_heap h
    have hl1 : ∀ b, (Value.slice l1 L.length lq).ownBlock = some b → rb + 1 ≤ b := fun b e => (owns_lo o3 e).1
    have o1' := owns_frm o1 hmk fun b e q => by
      have := (owns_lo o1 e).1
      omega
    have o3' := owns_frm o3 hmk fun b e q => by
      have := (owns_lo o3 e).1
      omega
    have o4' := o4.frm hmk fun b e q => by
      have := (o8 b (by simp [e])).1
      omega
    have o5' := o5.frm hmk fun b e q => by
      have := (o8 b (by simp [e])).1
      omega
    have o6' := o6.frm hmk fun b e q => by
      have := (o8 b (by simp [e])).1
      omega
    obtain ⟨m, hm⟩ : ∃ m, ws.length = m + 1 := ⟨ws.length - 1, by omega⟩
    rcases txs_open hw.raw with ⟨e0, _⟩ | ⟨p, o, c', hv, _, _, _⟩
    · omega
    injection hv with v1 _ v3
    subst v1; subst v3
    rw [hm] at hrd
    obtain ⟨F', htr, hfn, hff⟩ := tail_rep (by rw [hm] at hw ⊢; exact hw) hm
    obtain ⟨ra, rc, hkv, hrr⟩ := C.kinds kind
    have hlk : ∀ W, Below w.heap.size w W → (Instr.lookup 76 (.map (some mb)) (.string kind) false).run Tryz.prog W = .ok (.agg #[.slice ra (Pl.rulesOf kind).length rc]) W := fun W hW => by
      rw [← hkv]
      have hm1 := C.map hb
      exact look_kind ((hW.block mb (lt_heap hm1)).trans hm1) kind
    obtain ⟨ag, hag⟩ : ∃ ag, ag = (decide (plOf (Pl.lineLess kind) L (Pl.insLn ws) < L.length) && decide (cmpLn (Pl.rulesOf kind) (L.getD (plOf (Pl.lineLess kind) L (Pl.insLn ws)) Pl.lnNo) (Pl.insLn ws) = 0)) := ⟨_, rfl⟩
    have hLk : L.length ≤ k0 := hP.ln
    have hlt60 := hP.lt
    have hc := addI rb mb _ k p o m c ws g (A.length + 1) q (atB A ⟨kind, name, L⟩) ca cb kind name l1 L.length lq L cl FL (Pl.rulesOf kind) ra rc w0 w hrd hm (by rw [hm] at hw; exact hw.raw) hwz o1' o2 (by have : atB A ⟨kind, name, L⟩ ≤ A.length := pl_le _ _ _; omega) (by omega) o3' rfl o5' (by omega) hb hlk hrr (Pl.rules_len kind) (Pl.rules_args kind) (plOf (Pl.lineLess kind) L (Pl.insLn ws)) (pl_le _ _ _) (pl_head (totLn kind) Pl.lnNo L _) (pl_tail (totLn kind) Pl.lnNo hP.lw _) ag hag _ _ rfl rfl htr.raw
    have he : adC (Pl.rulesOf kind) (Pl.keyCnt L (Pl.insLn ws).key) (Pl.insLn ws) ag = Pl.insideC ⟨kind, name, L⟩ ws := add_eq (b := ⟨kind, name, L⟩) hP.lw hP.cnt ws ag hag
    rw [he] at hc
    refine hc.mono ?_
    rintro e w' (⟨h1, h2, h3⟩ | ⟨h1, h2, g', q', h3, h4, h5, h6⟩)
    · exact Or.inl ⟨h1, h2, h3⟩
    · have hiB : Pl.insideB ⟨kind, name, L⟩ ws = ⟨kind, name, Pl.putLn kind L (Pl.insLn ws)⟩ := by unfold Pl.insideB; rw [if_pos h1]
      have hps : Pl.putLn kind L (Pl.insLn ws) = L.take (plOf (Pl.lineLess kind) L (Pl.insLn ws)) ++ Pl.insLn ws :: L.drop (plOf (Pl.lineLess kind) L (Pl.insLn ws)) := put_split _ _ _
      have hadc := h1
      rw [← he] at hadc
      have hag0 : ag = false := by
        cases hq : ag with
        | false => rfl
        | true =>
          exfalso
          unfold adC at hadc
          rw [hq] at hadc
          simp only [Bool.true_or, if_true] at hadc
          repeat' split at hadc
          all_goals cases hadc
      have h10 : Pl.keyCnt L (Pl.insLn ws).key ≠ 10 := fun q => by
        unfold adC at hadc
        rw [if_pos q] at hadc
        repeat' split at hadc
        all_goals cases hadc
      have htl : (Pl.insLn ws).ws.length = m := by
        show (ws.drop 1).length = m
        rw [List.length_drop]
        omega
      have hnew : ¬ (plOf (Pl.lineLess kind) L (Pl.insLn ws) < L.length ∧ cmpLn (Pl.rulesOf kind) (L.getD (plOf (Pl.lineLess kind) L (Pl.insLn ws)) Pl.lnNo) (Pl.insLn ws) = 0) := fun hq => by
        rw [hag0] at hag
        have : (decide (plOf (Pl.lineLess kind) L (Pl.insLn ws) < L.length) && decide (cmpLn (Pl.rulesOf kind) (L.getD (plOf (Pl.lineLess kind) L (Pl.insLn ws)) Pl.lnNo) (Pl.insLn ws) = 0)) = true := by
          rw [Bool.and_eq_true, decide_eq_true_eq, decide_eq_true_eq]
          exact hq
        rw [this] at hag
        cases hag
      refine Or.inr ⟨h1, h2, ⟨kind, name, Pl.putLn kind L (Pl.insLn ws)⟩, by rw [hiB], ⟨hP.pw, hP.lt, hP.new, ?_, ?_, ?_⟩, ⟨_, _, g, q, hrd.frm h5 ?_, ?_⟩, ?_⟩
      · show List.Pairwise _ (Pl.putLn kind L (Pl.insLn ws))
        rw [hps]
        exact pl_pair (totLn kind) Pl.lnNo hP.lw _ hnew
      · intro key
        show Pl.keyCnt (Pl.putLn kind L (Pl.insLn ws)) key ≤ 10
        rw [put_key]
        have hck := hP.cnt key
        have hck2 : Pl.keyCnt L key ≤ 10 := hck
        cases hq : Pl.txEq (Pl.insLn ws).key key with
        | false => simpa using hck2
        | true =>
          rw [tx_eq hq] at h10
          simp only [if_true]
          omega
      · show (Pl.putLn kind L (Pl.insLn ws)).length ≤ k
        rw [hps, List.length_append, List.length_cons, List.length_take, List.length_drop]
        omega
      · intro hq
        rcases hq with hq | hq
        · have := hgl.1
          omega
        · have := hl1 _ hq
          omega
      · rw [hps]
        rw [← htl] at htr h4
        have hrN : rb < wp.heap.size := by
          have := hgl.1
          omega
        exact op_add (N := wp.heap.size) (pl := atB A ⟨kind, name, L⟩) o2 o4' o5' o6' o7 o8 (pl_le _ _ _) htr (hfn hwn) (fun b hb => hF b (hff b hb)) hltA hgN hlN hrN h3 h4 h5 h6
      · refine h5.below (fun b hq => ?_) hb
        have := C.lo
        rcases hq with rfl | hq
        · have := hgl.1
          omega
        · have := hl1 _ hq
          omega

end Go.Proofs.YtdllbcafbfkngaaGreatDoor

namespace Go.Proofs.YtdllbcafbfkngaaGreatDoor
open Go.RowKit Go.Deep

theorem next_pf {st : Pl.PS} {ls : List ByteArray} {k j : Nat} (hkj : k ≤ j) (hj : j < ls.length) (hbl : Pl.blank ls k j) : Pl.parseFrom st (ls.drop k) k = if Pl.stepC st (ls.getD j Pl.txNo) = 0 then Pl.parseFrom (Pl.stepS st (ls.getD j Pl.txNo)) (ls.drop (j + 1)) (j + 1) else ([], j + 1, Pl.stepC st (ls.getD j Pl.txNo)) := by
  have e : k + (j - k) = j := by omega
  have h := pf_blank st ls (j - k) k (by omega) (by rw [e]; exact hbl)
  rw [e] at h
  rw [h]
  exact pf_line st ls j hj
theorem end_pf {st : Pl.PS} {ls : List ByteArray} {k : Nat} (hk : k ≤ ls.length) (hbl : Pl.blank ls k ls.length) : Pl.parseFrom st (ls.drop k) k = if st.opn then ([], ls.length + 1, 8) else (st.acc, 0, 0) := by
  have e : k + (ls.length - k) = ls.length := by omega
  have h := pf_blank st ls (ls.length - k) k (by omega) (by rw [e]; exact hbl)
  rw [e] at h
  rw [h, List.drop_length]
  rfl
def NextY (rb : Nat) (mv : Value) (la : Option Addr) (lc : Nat) (ls : List ByteArray) (k : Nat) (bv : Value) (op : Int) (w : World) (e : Ending) (w' : World) : Prop :=
  ∃ j, k ≤ j ∧ j < ls.length ∧ Pl.blank ls k j ∧ e = .returned (.bool true) ∧ ∃ a c F, WBox w' rb 79 [mv, .slice la ls.length lc, .int .i64 ((j + 1 : Nat) : Int), .slice a (Pl.cutWs (ls.getD j Pl.txNo)).length c, .bool (Pl.cutBad (ls.getD j Pl.txNo)), bv, .int .i64 op] ∧ Rep w' false shTxs F [.row (Pl.cutWs (ls.getD j Pl.txNo)).length (txD (Pl.cutWs (ls.getD j Pl.txNo)))] [.slice a (Pl.cutWs (ls.getD j Pl.txNo)).length c] ∧ F.Nodup ∧ (∀ b ∈ F, w.heap.size ≤ b) ∧ (Pl.cutBad (ls.getD j Pl.txNo) = true ∨ (Pl.cutWs (ls.getD j Pl.txNo)).length ≠ 0) ∧ Marks (fun b => b = rb) w w'
theorem next_yes {rb : Nat} {mv : Value} {la : Option Addr} {lc : Nat} {ls : List ByteArray} {k : Nat} {bv : Value} {op : Int} {w : World} {e : Ending} {w' : World} (h : NextA rb mv la lc ls k bv op w e w') (hn : ¬ Pl.blank ls k ls.length) : NextY rb mv la lc ls k bv op w e w' := by
  rcases h with h | ⟨h, _⟩
  · exact h
  · exact absurd h hn
theorem next_no {rb : Nat} {mv : Value} {la : Option Addr} {lc : Nat} {ls : List ByteArray} {k : Nat} {bv : Value} {op : Int} {w : World} {e : Ending} {w' : World} (h : NextA rb mv la lc ls k bv op w e w') (hn : Pl.blank ls k ls.length) : e = .returned (.bool false) ∧ (∃ cw cb, WBox w' rb 79 [mv, .slice la ls.length lc, .int .i64 (ls.length : Nat), cw, .bool cb, bv, .int .i64 op]) ∧ Marks (fun b => b = rb) w w' := by
  rcases h with ⟨j, h1, h2, _, _, a, c, F, _, _, _, _, h3, _⟩ | ⟨_, h⟩
  · exfalso
    have h := hn j h1 h2
    unfold Pl.cutBad Pl.cutWs at h3
    rw [h] at h3
    rcases h3 with h3 | h3
    · cases h3
    · exact h3 rfl
  · exact h

theorem Below.frmB {a b c : World} (h : Below b.heap.size b c) (k : Below a.heap.size a b) : Below a.heap.size a c :=
  (Frm.of_below (S := fun _ => False) h).below (fun _ h => h.elim) k
theorem end_step {A : List Pl.Bl} {cur : Pl.Bl} {x : ByteArray} (h : (decide ((Pl.cutWs x).length = 1) && (((Pl.cutWs x).getD 0 Pl.txNo).toList == [101, 110, 100])) = true) : Pl.stepC ⟨A, cur, true⟩ x = 0 ∧ Pl.stepS ⟨A, cur, true⟩ x = ⟨Pl.putBl A cur, cur, false⟩ := by
  have hl : (Pl.cutWs x).length = 1 := by
    rw [Bool.and_eq_true, decide_eq_true_eq] at h
    exact h.1
  have hb : Pl.cutBad x = false := by
    unfold Pl.cutWs at hl
    unfold Pl.cutBad
    cases hc : Pl.cutL x.data.toList 0 with
    | none => rw [hc] at hl; cases hl
    | some ws => rfl
  obtain ⟨h1, h2⟩ := step_ok hb ⟨A, cur, true⟩
  have hie : Pl.isEnd ⟨A, cur, true⟩ (Pl.cutWs x) = true := by unfold Pl.isEnd; rw [h]; rfl
  have h0 : (Pl.cutWs x).length ≠ 0 := by omega
  rw [h1, h2]
  unfold Pl.wordsC Pl.wordsS
  rw [if_neg h0, if_neg h0, hie]
  exact ⟨rfl, rfl⟩
/-- The reader between blocks. -/
def SC (rb mb : Nat) (la : Option Addr) (lc : Nat) (ls : List ByteArray) (k : Nat) (A : List Pl.Bl) (W : World) : Prop :=
  ∃ cw cb bv op, WBox W rb 79 [.map (some mb), .slice la ls.length lc, .int .i64 (k : Nat), cw, .bool cb, bv, .int .i64 op] ∧ ClM rb A bv W
def ReadA (rb mb : Nat) (la : Option Addr) (lc : Nat) (ls : List ByteArray) (o : List Pl.Bl × Nat × Nat) (w0 : World) (e : Ending) (w' : World) : Prop :=
  ((o.1 = [] ∧ o.2.2 ≠ 0 ∧ e = .returned (.iface 51 (.agg #[.int .i64 (o.2.1 : Nat), .int .i64 (o.2.2 : Nat)]))) ∨ (o.2.1 = 0 ∧ o.2.2 = 0 ∧ e = .returned .nilIface ∧ o.1.length ≤ 60 ∧ ∃ k, SC rb mb la lc ls k o.1 w')) ∧ Below w0.heap.size w0 w'
theorem read_bad {rb mb : Nat} {la : Option Addr} {lc : Nat} {ls : List ByteArray} {o : List Pl.Bl × Nat × Nat} {w0 w' : World} {i c : Nat} (ho : o = ([], i, c)) (hc : c ≠ 0) (hb : Below w0.heap.size w0 w') : ReadA rb mb la lc ls o w0 (.returned (.iface 51 (.agg #[.int .i64 (i : Nat), .int .i64 (c : Nat)]))) w' := by
  subst ho
  exact ⟨Or.inl ⟨rfl, hc, rfl⟩, hb⟩

set_option maxRecDepth 8000 in
set_option maxHeartbeats 16000000 in
theorem readI {rb mb : Nat} {la : Option Addr} {lc : Nat} {ls : List ByteArray} {vt vb vs : Value} {w0 : World} (C : RdC rb mb la lc ls vt vb vs w0) (o : List Pl.Bl × Nat × Nat) (ho : Pl.parseFrom Pl.psNo ls 0 = o) (w : World) (hs : SC rb mb la lc ls 0 [] w) (hb : Below w0.heap.size w0 w) :
    Calls Tryz.prog 34 #[.pointer (some ⟨rb, 0, none⟩)] w (ReadA rb mb la lc ls o w0) := by
  have HC : Hid (RdC rb mb la lc ls vt vb vs w0) := C
  have HO := uh ho
  have HS := uh hs
  have HB := uh hb
  clear C ho hs hb
  go_enter Tryz.func34, Tryz.ntmps34
  go_wp2
  go_step3
  go_wp2
  go_step3
  go_wp2
  go_loopg [] ls.length (fun gk wr => ∃ (k : Nat) (A : List Pl.Bl) (cur : Pl.Bl), k + gk = ls.length ∧ Hid (Pl.parseFrom ⟨A, cur, false⟩ (ls.drop k) k = o) ∧ Hid ((A.Pairwise fun a b => Pl.ahead a b = true) ∧ A.length ≤ 60) ∧ Hid (SC rb mb la lc ls k A wr) ∧ Hid (Below w0.heap.size w0 wr))
  case atStart => exact ⟨0, [], Pl.psNo.cur, by omega, HO, ⟨List.Pairwise.nil, Nat.zero_le _⟩, HS, HB⟩
  case round =>
    obtain ⟨k, A, cur, hkg, HPF, HPW, HSC, HBL⟩ := hrel
    obtain ⟨cw, cb, bv, op, hrd, hcl⟩ := HSC.out
    have HN := uh (nextI rb (.map (some mb)) la lc ls k cw bv cb op w0 wr hrd HC.out.lines HBL.out HC.out.lo (by omega) HC.out.sz (by have := HC.out.len; omega))
    have HCL := uh hcl
    clear hrd hcl
    by_cases hq : Pl.blank ls k ls.length
    · have HQ := uh hq
      have HKL : Hid (k ≤ ls.length) := by show _ ≤ _; omega
      clear hq hkg
      go_wp2_with (go_at_call 52; refine HN.out.mono ?_; intro e w1 hx; obtain ⟨rfl, hx1, hx2⟩ := next_no hx HQ.out; have HX1 := uh hx1; have HX2 := uh hx2; clear hx hx1 hx2)
      try rw [Exit.noGoto_ret]
      go_ret
      have he : o = (A, 0, 0) := HPF.out.symm.trans ((end_pf HKL.out HQ.out).trans rfl)
      obtain ⟨cw', cb', hrd'⟩ := HX1.out
      rw [he]
      exact ⟨Or.inr ⟨rfl, rfl, rfl, HPW.out.2, ls.length, _, _, _, _, hrd', HCL.out.frm (HX2.out.frm fun _ h => h)⟩, HX2.out.below (fun b hb => by rw [hb]; exact HC.out.lo) HBL.out⟩
    · have HQ := uh hq
      have HKG := uh hkg
      clear hq hkg
      go_wp2_with (go_at_call 52; refine HN.out.mono ?_; intro e w1 hx; obtain ⟨j, hkj, hjl, hblk, rfl, a, c, F, hrd, hwr, hnd, hfr, hne, hmk⟩ := next_yes hx HQ.out; have HXJ : Hid (k ≤ j ∧ j < ls.length) := ⟨hkj, hjl⟩; have HBK := uh hblk; have HRD := uh hrd; have HWR := uh hwr; have HNE := uh hne; have HMK := uh hmk; clear hx hkj hjl hblk hrd hwr hnd hfr hne hmk)
      have HB1 : Hid (Below w0.heap.size w0 w1) := HMK.out.below (fun b hb => by rw [hb]; exact HC.out.lo) HBL.out
      have hpf := HPF.out
      rw [next_pf HXJ.out.1 HXJ.out.2 HBK.out] at hpf
      have HBG := uh (beginS HC.out (ls.getD j Pl.txNo) (j + 1) a c F A bv op cur w1 HRD.out HWR.out HNE.out (HCL.out.frm (HMK.out.frm fun _ h => h)) HB1.out HPW.out.1 HPW.out.2)
      by_cases hst : Pl.stepC ⟨A, cur, false⟩ (ls.getD j Pl.txNo) = 0
      rotate_left
      · rw [if_neg hst] at hpf
        have HPF2 := uh hpf
        have HST := uh hst
        clear hpf hst HPF HN
        go_wp2_with (go_at_call 53; refine HBG.out.mono ?_; intro e w2 hx; obtain ⟨_, rfl, hx2⟩ := hx.resolve_right (fun h => HST.out h.1); have HX2 := uh hx2; clear hx hx2)
        try rw [Exit.noGoto_ret]
        go_ret
        exact read_bad HPF2.out.symm HST.out (Below.frmB HX2.out HB1.out)
      · rw [if_pos hst] at hpf
        have HPF2 := uh hpf
        have HST := uh hst
        clear hpf hst HPF HN
        go_wp2_with (go_at_call 53; refine HBG.out.mono ?_; intro e w2 hx; obtain ⟨_, rfl, cur1, hx2, hx3, hx4, hx5⟩ := hx.resolve_left (fun h => h.1 HST.out); have HX2 := uh hx2; have HX3 := uh hx3; have HX4 := uh hx4; have HX5 := uh hx5; clear hx hx2 hx3 hx4 hx5)
        have HPF3 : Hid (Pl.parseFrom ⟨A, cur1, true⟩ (ls.drop (j + 1)) (j + 1) = o) := by show _ = _; rw [← HX2.out]; exact HPF2.out
        clear HPF2 HBG HRD HWR HNE HMK HCL HBK HST HB1 HBL HSC HX2
        go_loopg [] (ls.length - (j + 1)) (fun gi wy => ∃ (k2 : Nat) (cur : Pl.Bl), Hid (j + 1 ≤ k2 ∧ k2 + gi = ls.length) ∧ Hid (Pl.parseFrom ⟨A, cur, true⟩ (ls.drop k2) k2 = o) ∧ Hid (OpP k2 A cur) ∧ Hid (SO rb mb la lc ls k2 A cur wy) ∧ Hid (Below w0.heap.size w0 wy))
        case atStart => exact ⟨j + 1, cur1, ⟨Nat.le_refl _, by have := HXJ.out.2; omega⟩, HPF3, HX3, HX4, HX5⟩
        case round =>
          obtain ⟨k2, cur2, HK2, HPF, HOP, HSO, HBL⟩ := hrel
          obtain ⟨cw2, cb2, g2, q2, hrd, hop⟩ := HSO.out
          have HN := uh (nextI rb (.map (some mb)) la lc ls k2 cw2 (.slice (some ⟨g2, 0, none⟩) (A.length + 1) q2) cb2 (atB A cur2 : Nat) w0 wr hrd HC.out.lines HBL.out HC.out.lo (by have := HK2.out.2; omega) HC.out.sz (by have := HC.out.len; omega))
          have HOM := uh hop
          clear hrd hop HPF3 HX3 HX4 HX5
          by_cases hq : Pl.blank ls k2 ls.length
          · have HQ := uh hq
            clear hq
            have he : ([], ls.length + 1, 8) = o := (HPF.out.symm.trans ((end_pf (by have := HK2.out.2; omega) HQ.out).trans rfl)).symm
            have HE := uh he
            have HLN : Hid (ls.length ≤ 400) := HC.out.len
            have hln : (ls.length : Int) ≤ 400 := by have := HLN.out; omega
            have hln0 : (0 : Int) ≤ (ls.length : Int) := by omega
            clear he
            go_wp2_with (go_at_call 52; refine HN.out.mono ?_; intro e w3 hx; obtain ⟨rfl, hx1, hx2⟩ := next_no hx HQ.out; have HX2 := uh hx2; obtain ⟨cw3, cb3, hx1⟩ := hx1; have c2 := hx1.get 2 _ rfl; have cl := hx1.own.lt; clear hx hx1 hx2)
            try rw [Exit.noGoto_ret]
            go_ret
            exact read_bad HE.out.symm (by decide) (HX2.out.below (fun b hb => by rw [hb]; exact HC.out.lo) HBL.out)
          · have HQ := uh hq
            clear hq
            go_wp2_with (go_at_call 52; refine HN.out.mono ?_; intro e w3 hx; obtain ⟨j2, hkj, hjl, hblk, rfl, a2, c2, F2, hrd, hwr, hnd, hfr, hne, hmk⟩ := next_yes hx HQ.out; have HXJ2 : Hid (k2 ≤ j2 ∧ j2 < ls.length) := ⟨hkj, hjl⟩; have HBK := uh hblk; have HRD := uh hrd; have HWR := uh hwr; have HNE := uh hne; have HND := uh hnd; have HFR := uh hfr; have HMK := uh hmk; clear hx hkj hjl hblk hrd hwr hnd hfr hne hmk)
            have HB3 : Hid (Below w0.heap.size w0 w3) := HMK.out.below (fun b hb => by rw [hb]; exact HC.out.lo) HBL.out
            have HFM : Hid (Frm (fun b => b = rb) wr w3) := HMK.out.frm fun _ h => h
            have hpf := HPF.out
            rw [next_pf HXJ2.out.1 HXJ2.out.2 HBK.out] at hpf
            have HEN := uh (endsI rb (Pl.cutWs (ls.getD j2 Pl.txNo)) _ w3 (HRD.out.get 3 _ rfl) HRD.out.own.lt HWR.out.raw)
            cases hen : (decide ((Pl.cutWs (ls.getD j2 Pl.txNo)).length = 1) && (((Pl.cutWs (ls.getD j2 Pl.txNo)).getD 0 Pl.txNo).toList == [101, 110, 100])) with
            | true =>
              rw [hen] at HEN
              obtain ⟨s1, s2⟩ := end_step (A := A) (cur := cur2) hen
              rw [if_pos s1, s2] at hpf
              have HPF4 := uh hpf
              clear hpf hen s1 s2 HPF HN
              go_wp2_with (go_at_call 54; refine HEN.out.mono ?_; rintro e w4 ⟨rfl, rfl⟩)
              go_roundg (ls.length - (j2 + 1))
              case measure =>
                have h1 := HKG.out
                have h2 := HXJ.out
                have h3 := HK2.out
                have h4 := HXJ2.out
                omega
              case rel =>
                have hl : cur2.lines.length ≤ maxLen := by
                  have h1 := HOP.out.ln
                  have h2 := HK2.out.2
                  have h3 := HC.out.len
                  unfold maxLen
                  omega
                have hcl := op_end (HOM.out.frm HFM.out) (pl_le _ _ _) hl
                have hps : Pl.putBl A cur2 = A.take (atB A cur2) ++ cur2 :: A.drop (atB A cur2) := put_split Pl.ahead A cur2
                rw [← hps] at hcl
                refine ⟨j2 + 1, Pl.putBl A cur2, cur2, by have := HXJ2.out; omega, HPF4, ⟨?_, ?_⟩, ⟨_, _, _, _, HRD.out, hcl⟩, HB3⟩
                · rw [hps]
                  exact pl_pair totBl Pl.blNo HPW.out.1 cur2 HOP.out.new
                · have h1 := HOP.out.lt
                  rw [hps, List.length_append, List.length_cons, List.length_take, List.length_drop]
                  omega
            | false =>
              have HAD := uh (addS HC.out (ls.getD j2 Pl.txNo) k2 (j2 + 1) a2 c2 F2 A g2 q2 cur2 wr w3 HRD.out HWR.out HND.out HFR.out HNE.out hen HOM.out HFM.out HB3.out HOP.out (by have := HXJ2.out; omega) (by have := HXJ2.out; have := HC.out.len; omega))
              rw [hen] at HEN
              by_cases hst : Pl.stepC ⟨A, cur2, true⟩ (ls.getD j2 Pl.txNo) = 0
              rotate_left
              · rw [if_neg hst] at hpf
                have HPF4 := uh hpf
                have HST := uh hst
                clear hpf hst hen HPF HN
                go_wp2_with (first
                  | (go_at_call 54; refine HEN.out.mono ?_; rintro e w4 ⟨rfl, rfl⟩)
                  | (go_at_call 55; refine HAD.out.mono ?_; intro e w5 hx; obtain ⟨_, rfl, hx2⟩ := hx.resolve_right (fun h => HST.out h.1); have HX2 := uh hx2; clear hx hx2))
                try rw [Exit.noGoto_ret]
                go_ret
                exact read_bad HPF4.out.symm HST.out (Below.frmB HX2.out HB3.out)
              · rw [if_pos hst] at hpf
                have HPF4 := uh hpf
                have HST := uh hst
                clear hpf hst hen HPF HN
                go_wp2_with (first
                  | (go_at_call 54; refine HEN.out.mono ?_; rintro e w4 ⟨rfl, rfl⟩)
                  | (go_at_call 55; refine HAD.out.mono ?_; intro e w5 hx; obtain ⟨_, rfl, cur3, hx2, hx3, hx4, hx5⟩ := hx.resolve_left (fun h => h.1 HST.out); have HX2 := uh hx2; have HX3 := uh hx3; have HX4 := uh hx4; have HX5 := uh hx5; clear hx hx2 hx3 hx4 hx5))
                go_roundg (ls.length - (j2 + 1))
                case measure =>
                  have h3 := HK2.out
                  have h4 := HXJ2.out
                  omega
                case rel => exact ⟨j2 + 1, cur3, ⟨by have := HXJ2.out; have := HK2.out; omega, by have := HXJ2.out; omega⟩, by show _ = _; rw [← HX2.out]; exact HPF4.out, HX3, HX4, HX5⟩

end Go.Proofs.YtdllbcafbfkngaaGreatDoor

namespace Go.Proofs.YtdllbcafbfkngaaGreatDoor
open Go.RowKit Go.Extern.Stop Go.Stop Go.Extern

theorem as_nil (t : Value) (w : World) : Calls Tryz.prog 17 #[.nilIface, t] w fun e w' => e = .returned (.bool false) ∧ w = w' := by
  go_enter Tryz.func17, Tryz.ntmps17
  go_wp2
  go_ret
  exact ⟨rfl, rfl⟩

theorem Tryz.valueOf70 (t : Addr) (w : World) : (ReflectliteValue.unpack (.iface 53 (.pointer (some t)))).run Tryz.prog w
    = .ok (.agg #[.pointer (some ⟨4, 53, none⟩), .pointer (some ⟨w.heap.size, 0, none⟩), .int .u64 150]) (w.alloc (.cells #[.pointer (some t)] 53)) := by kernel_rfl
theorem Tryz.type70 (a : Addr) (w : World) : (ReflectliteValue.methodAny (ReflectliteValue.valueError "reflectlite.Value.Type" 0) (fun t _ _ _ => ReflectliteType.toType t) #[.agg #[.pointer (some ⟨4, 53, none⟩), .pointer (some a), .int .u64 150]]).run Tryz.prog w
    = .ok (.iface 110 (.agg #[.pointer (some ⟨4, 53, none⟩)])) w := by kernel_rfl
theorem Tryz.methodKind (h : Value) (w : World) : (Go.method 320 110 (.agg #[h]) "Kind").run Tryz.prog w = .ok (147, h) w := by kernel_rfl
theorem Tryz.kind70 (w : World) : ((ReflectliteType.abiMethod fun t => (fun a : Nat => Value.int IntKind.u8 (a : Int)) <$> Rtype.kind t) #[.pointer (some ⟨4, 53, none⟩)]).run Tryz.prog w = .ok (.int .u8 22) w := by kernel_rfl
theorem Tryz.kind68 (w : World) : ((ReflectliteType.abiMethod fun t => (fun a : Nat => Value.int IntKind.u8 (a : Int)) <$> Rtype.kind t) #[.pointer (some ⟨4, 51, none⟩)]).run Tryz.prog w = .ok (.int .u8 25) w := by kernel_rfl
theorem Tryz.methodElem (h : Value) (w : World) : (Go.method 320 110 (.agg #[h]) "Elem").run Tryz.prog w = .ok (157, .agg #[h]) w := by kernel_rfl
theorem Tryz.methodImplements (h : Value) (w : World) : (Go.method 320 110 (.agg #[h]) "Implements").run Tryz.prog w = .ok (158, .agg #[h]) w := by kernel_rfl
theorem Tryz.methodAssignableTo (h : Value) (w : World) : (Go.method 320 110 (.agg #[h]) "AssignableTo").run Tryz.prog w = .ok (155, .agg #[h]) w := by kernel_rfl
theorem Tryz.elem70 (w : World) : (ReflectliteType.method ReflectliteType.elem #[.agg #[.pointer (some ⟨4, 53, none⟩)]]).run Tryz.prog w = .ok (.iface 110 (.agg #[.pointer (some ⟨4, 51, none⟩)])) w := by kernel_rfl
theorem Tryz.implements68 (w : World) : (ReflectliteType.relation "Implements" ReflectliteType.implements_ #[.agg #[.pointer (some ⟨4, 51, none⟩)], .iface 110 (.agg #[.pointer (some ⟨4, 47, none⟩)])]).run Tryz.prog w = .ok (.bool true) w := by kernel_rfl
theorem Tryz.typeOf68 (v : Value) (w : World) : (ReflectliteType.typeOf #[.iface 51 v]).run Tryz.prog w = .ok (.iface 110 (.agg #[.pointer (some ⟨4, 51, none⟩)])) w := by kernel_rfl
theorem Tryz.assignable68 (w : World) : (ReflectliteType.relation "AssignableTo" ReflectliteType.assignableTo #[.agg #[.pointer (some ⟨4, 51, none⟩)], .iface 110 (.agg #[.pointer (some ⟨4, 51, none⟩)])]).run Tryz.prog w = .ok (.bool true) w := by kernel_rfl
theorem Tryz.valueOf68 (x y : Value) (w : World) : (ReflectliteValue.unpack (.iface 51 (.agg #[x, y]))).run Tryz.prog w
    = .ok (.agg #[.pointer (some ⟨4, 51, none⟩), .pointer (some ⟨w.heap.size, 0, none⟩), .int .u64 153]) (w.alloc (.cells #[x, y] 51)) := by kernel_rfl
theorem Tryz.elemOf70 (w : World) : (Rtype.elem? 53).run Tryz.prog w = .ok (some 51) w := by kernel_rfl
theorem Tryz.mk68 (p : Addr) (w : World) : (ReflectliteValue.mk 51 p ReflectliteValue.flagAddr).run Tryz.prog w = .ok (.agg #[.pointer (some ⟨4, 51, none⟩), .pointer (some p), .int .u64 409]) w := by kernel_rfl
theorem Tryz.isNil70 (a p : Addr) (W : World) (ha : W.cell? a = some (.pointer (some p))) :
    (ReflectliteValue.method (ReflectliteValue.valueError "reflectlite.Value.IsNil" 0) ReflectliteValue.isNil #[.agg #[.pointer (some ⟨4, 53, none⟩), .pointer (some a), .int .u64 150]]).run Tryz.prog W = .ok (.bool false) W := by
  have e : (ReflectliteValue.method (ReflectliteValue.valueError "reflectlite.Value.IsNil" 0) ReflectliteValue.isNil #[.agg #[.pointer (some ⟨4, 53, none⟩), .pointer (some a), .int .u64 150]]).run Tryz.prog W = (ReflectliteValue.isNil 53 a 150 22).run Tryz.prog W := by kernel_rfl
  rw [e]
  simp [ReflectliteValue.isNil, loadVar, isAgg, underlying, Tryz.underlying53, ha, Result.andThen]

theorem Tryz.elemV70 (a p : Addr) (W : World) (ha : W.cell? a = some (.pointer (some p))) :
    (ReflectliteValue.method (ReflectliteValue.valueError "reflectlite.Value.Elem" 0) ReflectliteValue.elem #[.agg #[.pointer (some ⟨4, 53, none⟩), .pointer (some a), .int .u64 150]]).run Tryz.prog W
      = .ok (.agg #[.pointer (some ⟨4, 51, none⟩), .pointer (some p), .int .u64 409]) W := by
  have e : (ReflectliteValue.method (ReflectliteValue.valueError "reflectlite.Value.Elem" 0) ReflectliteValue.elem #[.agg #[.pointer (some ⟨4, 53, none⟩), .pointer (some a), .int .u64 150]]).run Tryz.prog W = (ReflectliteValue.elem 53 a 150 22).run Tryz.prog W := by kernel_rfl
  rw [e]
  simp [ReflectliteValue.elem, loadVar, isAgg, underlying, Tryz.underlying53, ha, Result.andThen, Tryz.elemOf70, Tryz.mk68]

theorem load68 (b : Nat) (x y : Value) (W : World) (hb0 : W.cell? ⟨b, 0, none⟩ = some x) (hb1 : W.cell? ⟨b, 1, none⟩ = some y) : (loadVar 51 ⟨b, 0, none⟩).run Tryz.prog W = .ok (.agg #[x, y]) W := by
  simp [loadVar, loadCells, loadCellsFrom, Addr.add, hb0, hb1, Result.andThen]

theorem store68 (tb : Nat) (x y : Int) (o0 o1 : Value) (W : World) (ht0 : W.cell? ⟨tb, 0, none⟩ = some o0) (ht1 : W.cell? ⟨tb, 1, none⟩ = some o1) (hf : ∀ o, W.frozen? ⟨tb, o, none⟩ = false) :
    (storeVar 51 ⟨tb, 0, none⟩ (.agg #[.int .i64 x, .int .i64 y])).run Tryz.prog W = .ok () ((W.setCell ⟨tb, 0, none⟩ (.int .i64 x)).setCell ⟨tb, 1, none⟩ (.int .i64 y)) := by
  simp [storeVar, Value.cells, storeCells, Addr.add, Result.andThen]
  rw [run_store Tryz.prog W ⟨tb, 0, none⟩ _ _ (by rfl)]
  simp only [ht0, hf, Bool.false_eq_true, if_false]
  rw [run_store Tryz.prog _ ⟨tb, 1, none⟩ _ _ (by rfl)]
  rw [World.cell?_setCell_other _ _ _ _ (by simp), ht1]
  simp [hf]

/-- The fault at tb gets the numbers that lie at b. -/
theorem Tryz.set68 (tb b : Nat) (x y : Int) (o0 o1 : Value) (W : World) (hb0 : W.cell? ⟨b, 0, none⟩ = some (.int .i64 x)) (hb1 : W.cell? ⟨b, 1, none⟩ = some (.int .i64 y)) (ht0 : W.cell? ⟨tb, 0, none⟩ = some o0) (ht1 : W.cell? ⟨tb, 1, none⟩ = some o1) (hf : ∀ o, W.frozen? ⟨tb, o, none⟩ = false) :
    (ReflectliteValue.set #[.agg #[.pointer (some ⟨4, 51, none⟩), .pointer (some ⟨tb, 0, none⟩), .int .u64 409], .agg #[.pointer (some ⟨4, 51, none⟩), .pointer (some ⟨b, 0, none⟩), .int .u64 153]]).run Tryz.prog W
      = .ok (.tuple #[]) ((W.setCell ⟨tb, 0, none⟩ (.int .i64 x)).setCell ⟨tb, 1, none⟩ (.int .i64 y)) := by
  have e : (ReflectliteValue.set #[.agg #[.pointer (some ⟨4, 51, none⟩), .pointer (some ⟨tb, 0, none⟩), .int .u64 409], .agg #[.pointer (some ⟨4, 51, none⟩), .pointer (some ⟨b, 0, none⟩), .int .u64 153]]).run Tryz.prog W
      = (((loadVar 51 ⟨b, 0, none⟩) >>= fun val => (storeVar 51 ⟨tb, 0, none⟩ val) >>= fun _ => pure (Value.tuple #[])) : Sem Value).run Tryz.prog W := by kernel_rfl
  rw [e]
  simp only [Sem.run_bind, load68 b _ _ W hb0 hb1, Result.andThen, store68 tb x y o0 o1 W ht0 ht1 hf]
  rfl

set_option maxHeartbeats 4000000 in
theorem as_hit (tb : Nat) (x y : Int) (o0 o1 : Value) (w : World) (hg : w.cell? ⟨0, 0, none⟩ = some (.iface 110 (.agg #[.pointer (some ⟨4, 47, none⟩)]))) (ht0 : w.cell? ⟨tb, 0, none⟩ = some o0) (ht1 : w.cell? ⟨tb, 1, none⟩ = some o1) (hf0 : ∀ o, w.frozen? ⟨tb, o, none⟩ = false) (htl : tb < w.heap.size) :
    Calls Tryz.prog 17 #[.iface 51 (.agg #[.int .i64 x, .int .i64 y]), .iface 53 (.pointer (some ⟨tb, 0, none⟩))] w fun ev w' => ev = .returned (.bool true) ∧ w' = (((((w.alloc (.cells #[.pointer (some ⟨tb, 0, none⟩)] 53)).alloc (.cells #[.pointer (some ⟨4, 53, none⟩), .pointer (some ⟨w.heap.size, 0, none⟩), .int .u64 150] 84)).alloc (.cells #[.pointer (some ⟨4, 53, none⟩), .pointer (some ⟨w.heap.size, 0, none⟩), .int .u64 150] 84)).alloc (.cells #[.int .i64 x, .int .i64 y] 51)).setCell ⟨tb, 0, none⟩ (.int .i64 x)).setCell ⟨tb, 1, none⟩ (.int .i64 y) := by
  have h49 := @run_callFunc_extern Tryz.prog 35 _ (fun args => ReflectliteValue.unpack (args.getD 0 (.tuple #[]))) Tryz.func35 (by kernel_rfl) (by kernel_rfl) (by kernel_rfl) (by kernel_rfl)
  have h50 := @run_callFunc_extern Tryz.prog 36 _ (ReflectliteValue.methodAny (ReflectliteValue.valueError "reflectlite.Value.Type" 0) (fun t _ _ _ => ReflectliteType.toType t)) Tryz.func36 (by kernel_rfl) (by kernel_rfl) (by kernel_rfl) (by kernel_rfl)
  have h51 := @run_callFunc_extern Tryz.prog 37 _ (ReflectliteValue.method (ReflectliteValue.valueError "reflectlite.Value.IsNil" 0) ReflectliteValue.isNil) Tryz.func37 (by kernel_rfl) (by kernel_rfl) (by kernel_rfl) (by kernel_rfl)
  have h85 := @run_callFunc_extern Tryz.prog 147 _ (ReflectliteType.abiMethod fun t => do pure (.int .u8 (← Rtype.kind t))) Tryz.func147 (by kernel_rfl) (by kernel_rfl) (by kernel_rfl) (by kernel_rfl)
  have h95 := @run_callFunc_extern Tryz.prog 157 _ (ReflectliteType.method ReflectliteType.elem) Tryz.func157 (by kernel_rfl) (by kernel_rfl) (by kernel_rfl) (by kernel_rfl)
  have h96 := @run_callFunc_extern Tryz.prog 158 _ (ReflectliteType.relation "Implements" ReflectliteType.implements_) Tryz.func158 (by kernel_rfl) (by kernel_rfl) (by kernel_rfl) (by kernel_rfl)
  have h60 := @run_callFunc_extern Tryz.prog 56 _ ReflectliteType.typeOf Tryz.func56 (by kernel_rfl) (by kernel_rfl) (by kernel_rfl) (by kernel_rfl)
  have h93 := @run_callFunc_extern Tryz.prog 155 _ (ReflectliteType.relation "AssignableTo" ReflectliteType.assignableTo) Tryz.func155 (by kernel_rfl) (by kernel_rfl) (by kernel_rfl) (by kernel_rfl)
  have h61 := @run_callFunc_extern Tryz.prog 57 _ (ReflectliteValue.method (ReflectliteValue.valueError "reflectlite.Value.Elem" 0) ReflectliteValue.elem) Tryz.func57 (by kernel_rfl) (by kernel_rfl) (by kernel_rfl) (by kernel_rfl)
  have h62 := @run_callFunc_extern Tryz.prog 58 _ ReflectliteValue.set Tryz.func58 (by kernel_rfl) (by kernel_rfl) (by kernel_rfl) (by kernel_rfl)
  have tO := Tryz.typeOf68
  have mA := Tryz.methodAssignableTo
  have a68 := Tryz.assignable68
  have v68 := Tryz.valueOf68
  have f6 := Tryz.valueOf70
  have f7 := Tryz.type70
  have mK := Tryz.methodKind
  have mE := Tryz.methodElem
  have mI := Tryz.methodImplements
  have k70 := Tryz.kind70
  have k68 := Tryz.kind68
  have e70 := Tryz.elem70
  have i68 := Tryz.implements68
  have hlt : 0 < w.heap.size := by omega
  have n8 := Tryz.isNil70 ⟨w.heap.size, 0, none⟩ ⟨tb, 0, none⟩ ((w.alloc (.cells #[.pointer (some ⟨tb, 0, none⟩)] 53)).alloc (.cells #[.pointer (some ⟨4, 53, none⟩), .pointer (some ⟨w.heap.size, 0, none⟩), .int .u64 150] 84)) (by simp)
  have hg2 : ((w.alloc (.cells #[.pointer (some ⟨tb, 0, none⟩)] 53)).alloc (.cells #[.pointer (some ⟨4, 53, none⟩), .pointer (some ⟨w.heap.size, 0, none⟩), .int .u64 150] 84)).cell? ⟨0, 0, none⟩ = some (.iface 110 (.agg #[.pointer (some ⟨4, 47, none⟩)])) := by
    rw [World.cell?_alloc_lt _ _ ⟨0, 0, none⟩ (by simp), World.cell?_alloc_lt _ _ ⟨0, 0, none⟩ hlt]; exact hg
  have el := Tryz.elemV70 ⟨w.heap.size, 0, none⟩ ⟨tb, 0, none⟩ (((w.alloc (.cells #[.pointer (some ⟨tb, 0, none⟩)] 53)).alloc (.cells #[.pointer (some ⟨4, 53, none⟩), .pointer (some ⟨w.heap.size, 0, none⟩), .int .u64 150] 84)).alloc (.cells #[.pointer (some ⟨4, 53, none⟩), .pointer (some ⟨w.heap.size, 0, none⟩), .int .u64 150] 84)) (by rw [World.cell?_alloc_lt _ _ ⟨w.heap.size, 0, none⟩ (by simp; omega)]; simp)
  have hold : Below w.heap.size w ((((w.alloc (.cells #[.pointer (some ⟨tb, 0, none⟩)] 53)).alloc (.cells #[.pointer (some ⟨4, 53, none⟩), .pointer (some ⟨w.heap.size, 0, none⟩), .int .u64 150] 84)).alloc (.cells #[.pointer (some ⟨4, 53, none⟩), .pointer (some ⟨w.heap.size, 0, none⟩), .int .u64 150] 84)).alloc (.cells #[.int .i64 x, .int .i64 y] 51)) := blw_alloc (blw_alloc (blw_alloc (blw_alloc (Below.refl _ _) _) _) _) _
  have st := Tryz.set68 tb (w.heap.size + 1 + 1 + 1) x y o0 o1 ((((w.alloc (.cells #[.pointer (some ⟨tb, 0, none⟩)] 53)).alloc (.cells #[.pointer (some ⟨4, 53, none⟩), .pointer (some ⟨w.heap.size, 0, none⟩), .int .u64 150] 84)).alloc (.cells #[.pointer (some ⟨4, 53, none⟩), .pointer (some ⟨w.heap.size, 0, none⟩), .int .u64 150] 84)).alloc (.cells #[.int .i64 x, .int .i64 y] 51))
    (by rw [World.cell?_alloc_at _ _ _ _ (by simp)]; rfl) (by rw [World.cell?_alloc_at _ _ _ _ (by simp)]; rfl)
    ((hold.cell (p := ⟨tb, 0, none⟩) htl).trans ht0) ((hold.cell (p := ⟨tb, 1, none⟩) htl).trans ht1) (fun o => (hold.frozen (p := ⟨tb, o, none⟩) htl).trans (hf0 o))
  clear hold
  go_enter Tryz.func17, Tryz.ntmps17
  go_wp2
  refine wp_loop_rounds 1 ?_
  rw [rounds_succ]
  go_wp2
  go_ret
  exact ⟨rfl, rfl⟩

end Go.Proofs.YtdllbcafbfkngaaGreatDoor

namespace Go.Proofs.YtdllbcafbfkngaaGreatDoor
open Go.RowKit Go.Deep

def ReadB (o : List Pl.Bl × Nat × Nat) (w : World) (e : Ending) (w' : World) : Prop :=
  ((o.1 = [] ∧ o.2.2 ≠ 0 ∧ e = .returned (.tuple #[.slice none 0 0, .iface 51 (.agg #[.int .i64 (o.2.1 : Nat), .int .i64 (o.2.2 : Nat)])])) ∨ (o.2.1 = 0 ∧ o.2.2 = 0 ∧ ∃ bv F, e = .returned (.tuple #[bv, .nilIface]) ∧ Rep w' false [.row 37 shSheetBlock] F [blsD o.1] [bv] ∧ F.Nodup ∧ ∀ b ∈ F, w.heap.size ≤ b)) ∧ Below w.heap.size w w'
theorem readB_bad {o : List Pl.Bl × Nat × Nat} {w w' : World} {i c : Nat} (ho : o = ([], i, c)) (hc : c ≠ 0) (hb : Below w.heap.size w w') : ReadB o w (.returned (.tuple #[.slice none 0 0, .iface 51 (.agg #[.int .i64 (i : Nat), .int .i64 (c : Nat)])])) w' := by
  subst ho
  exact ⟨Or.inl ⟨rfl, hc, rfl⟩, hb⟩

set_option maxRecDepth 8000 in
set_option maxHeartbeats 8000000 in
theorem sheetReadI (t : ByteArray) (w : World) (hs : t.size ≤ 1048576) : Calls Tryz.prog 16 #[.string t] w (ReadB (Pl.parseOut t) w) := by
  have HSL := uh (sheetLinesI t w (by unfold maxLen; omega))
  obtain ⟨o, ho⟩ : ∃ o, o = Pl.parseOut t := ⟨_, rfl⟩
  rw [← ho]
  have HO := uh ho
  clear ho
  by_cases hbig : 20000 < t.size
  · have HO2 : Hid (o = ([], 0, 11)) := by show _ = _; rw [HO.out]; unfold Pl.parseOut; rw [if_pos hbig]
    have HBG := uh hbig
    clear hbig
    go_enter Tryz.func16, Tryz.ntmps16
    go_wp2_with (go_at_call 32; refine HSL.out.mono ?_; intro e w1 hx; obtain ⟨hx1, hx2⟩ := hx; unfold LnAns at hx1; rw [if_pos HBG.out] at hx1; subst hx1; have HX2 := uh hx2; clear hx2)
    go_ret2
    exact readB_bad HO2.out (by decide) HX2.out
  have HSM : Hid (t.size ≤ 20000) := by show _ ≤ _; omega
  obtain ⟨ls, hls⟩ : ∃ ls, ls = Pl.linL t := ⟨_, rfl⟩
  have HSL2 : Hid (Calls Tryz.prog 32 #[.string t] w fun e w' => ∃ g c, e = .returned (.tuple #[.slice (some ⟨g, 0, none⟩) ls.length c, .bool (decide (ls.length ≤ 400))]) ∧ Raw w' shTxs [.row ls.length (txD ls)] [.slice (some ⟨g, 0, none⟩) ls.length c] ∧ Below w.heap.size w w') := by
    refine HSL.out.mono ?_
    intro e w1 hx
    obtain ⟨hx1, hx2⟩ := hx
    unfold LnAns at hx1
    rw [if_neg hbig, ← hls] at hx1
    obtain ⟨g, c, h1, h2⟩ := hx1
    exact ⟨g, c, h1, h2, hx2⟩
  have HSZ : Hid (∀ x ∈ ls, x.size ≤ 1048576) := fun x hx => by
    rw [hls] at hx
    have h1 := Pl.linL_size t x hx
    have h2 := HSM.out
    omega
  have HO3 : Hid (o = if 400 < ls.length then ([], 0, 11) else Pl.parseFrom Pl.psNo ls 0) := by show _ = _; rw [HO.out, hls]; unfold Pl.parseOut; rw [if_neg hbig]
  clear hls hbig HSL
  by_cases h4 : ls.length ≤ 400
  rotate_left
  · have HO2 : Hid (o = ([], 0, 11)) := by show _ = _; rw [HO3.out, if_pos (by omega)]
    have hd : decide (ls.length ≤ 400) = false := decide_eq_false h4
    rw [hd] at HSL2
    clear h4 hd
    go_enter Tryz.func16, Tryz.ntmps16
    go_wp2_with (go_at_call 32; refine HSL2.out.mono ?_; intro e w1 hx; obtain ⟨g, c, rfl, hx1, hx2⟩ := hx; have HX2 := uh hx2; clear hx1 hx2)
    go_ret2
    exact readB_bad HO2.out (by decide) HX2.out
  have HO2 : Hid (Pl.parseFrom Pl.psNo ls 0 = o) := by show _ = _; rw [HO3.out, if_neg (by omega)]
  have hd : decide (ls.length ≤ 400) = true := decide_eq_true h4
  rw [hd] at HSL2
  have HL4 := uh h4
  have HK := uh sheetKindsI
  clear h4 hd HO HO3
  go_enter Tryz.func16, Tryz.ntmps16
  go_wp2_with (go_at_call 32; refine HSL2.out.mono ?_; intro e w1 hx; obtain ⟨g, c, rfl, hx1, hx2⟩ := hx; have HX1 := uh hx1; have HX2 := uh hx2; clear hx1 hx2)
  refine (HK.out _).mono ?_
  rintro e w2 ⟨mb, w0, vt, vb, vs, rfl, hm, h0, k1, k2, k3, hb⟩
  have HKD : Hid (∀ kind, ∃ ra rc, kindV kind vt vb vs = .slice ra (Pl.rulesOf kind).length rc ∧ Raw w2 [.row 68 shSheetRule] [rulesD (Pl.rulesOf kind)] [.slice ra (Pl.rulesOf kind).length rc]) := fun kind => by
    obtain ⟨v, F, he, hrep, _⟩ := kind_ans (w := w1) kind h0 k1 k2 k3 hb
    injection he with he
    obtain ⟨ra, rc, hv⟩ := hrep.raw.len0
    subst hv
    exact ⟨ra, rc, he, hrep.raw⟩
  have HC : Hid (RdC w2.heap.size mb (some ⟨g, 0, none⟩) c ls vt vb vs w2) := ⟨HX1.out.later hb, hm, HKD.out, Nat.le_refl _, HL4.out, HSZ.out⟩
  have HB2 : Hid (Below w.heap.size w w2) := blw_trans HX2.out hb
  clear hm h0 k1 k2 k3 hb HKD HX1 HX2 HK
  obtain ⟨w3, hw3⟩ : ∃ w3, w3 = w2.alloc (.cells #[.map (some mb), .slice (some ⟨g, 0, none⟩) ls.length c, .int .i64 0, .slice none 0 0, .bool false, .slice none 0 0, .int .i64 0] 79) := ⟨_, rfl⟩
  have HB3 : Hid (Below w2.heap.size w2 w3) := by show Below _ _ _; rw [hw3]; exact blw_alloc (Below.refl _ _) _
  have HSC : Hid (SC w2.heap.size mb (some ⟨g, 0, none⟩) c ls 0 [] w3) := by
    refine ⟨.slice none 0 0, false, .slice none 0 0, 0, ?_, [], [], ⟨rfl, .inl ⟨rfl, rfl⟩⟩, .nil, List.nodup_nil, (fun b hb => by cases hb), (fun g hg => by cases hg)⟩
    rw [hw3]
    exact WBox.new w2 _ _ _ rfl
  have HRI := uh (readI HC.out o HO2.out w3 HSC.out HB3.out)
  obtain ⟨rb, hrb⟩ : ∃ rb, rb = w2.heap.size := ⟨_, rfl⟩
  have HRB := uh hrb
  go_upto_region 5 with fail
  rw [← hw3]
  clear hw3
  rw [← hrb] at HRI ⊢
  have HLB : Hid (Below w.heap.size w w3) := blw_trans HB2.out HB3.out
  by_cases hz : o.2.2 = 0
  rotate_left
  · have HZ := uh hz
    clear hz hrb
    go_wp2_with (go_at_call 34; refine HRI.out.mono ?_; intro e w4 hx; obtain ⟨hx1, hx2⟩ := hx; obtain ⟨hx3, hx4, rfl⟩ := hx1.resolve_right (fun h => HZ.out h.2.1); have HX2 := uh hx2; have HX3 := uh hx3; have HX4 := uh hx4; clear hx1 hx2 hx3 hx4)
    go_ret2
    exact ⟨Or.inl ⟨HX3.out, HX4.out, rfl⟩, blw_trans HB2.out HX2.out⟩
  · have HZ := uh hz
    clear hz hrb
    go_wp2_with (go_at_call 34; refine HRI.out.mono ?_; intro e w4 hx; obtain ⟨hx1, hx2⟩ := hx; obtain ⟨hx3, hx4, rfl, hx5, k, cw, cb, bv, op, hrd, hcl⟩ := hx1.resolve_left (fun h => h.2.1 HZ.out); have HX2 := uh hx2; have HX3 := uh hx3; have HX5 := uh hx5; have HCL := uh hcl; have c5 := hrd.get 5 _ rfl; have cl := hrd.own.lt; clear hx1 hx2 hx3 hx4 hx5 hrd hcl)
    go_ret2
    obtain ⟨cs, F, q1, q2, q3, q4, q5⟩ := HCL.out
    obtain ⟨G, r, n1, n2, _⟩ := owns_repX (sh := shSheetBlock) q1 q2 (fun e => by rw [List.eq_nil_of_length_eq_zero e]; rfl) (by have := HX5.out; unfold maxLen; omega) q3 q4 q5
    refine ⟨Or.inr ⟨HX3.out, HZ.out, bv, G, rfl, r, n1, fun b hb => ?_⟩, blw_trans HB2.out HX2.out⟩
    have h1 := n2 b hb
    have h2 := HRB.out
    have h3 := HB2.out.size
    omega

end Go.Proofs.YtdllbcafbfkngaaGreatDoor

namespace Go.Proofs.YtdllbcafbfkngaaGreatDoor
open Go.RowKit Go.Deep

/-- What errors.As looks at. -/
def ErrT (W : World) : Prop := W.cell? ⟨0, 0, none⟩ = some (.iface 110 (.agg #[.pointer (some ⟨4, 47, none⟩)]))
theorem ErrT.lt {W : World} (h : ErrT W) : 0 < W.heap.size := by
  rcases Nat.lt_or_ge 0 W.heap.size with q | q
  · exact q
  · unfold ErrT World.cell? at h
    rw [Array.getElem?_eq_none (by simpa using q)] at h
    cases h
theorem ErrT.later {W W' : World} (h : ErrT W) (hb : Below W.heap.size W W') : ErrT W' := (hb.cell (p := ⟨0, 0, none⟩) h.lt).trans h

theorem as_hit2 (tb : Nat) (x y : Int) (w w3 : World) (htb : tb = w.heap.size) (hw3 : w3 = w.alloc (.cells #[.int .i64 0, .int .i64 0] 51)) (hg : ErrT w) :
    Calls Tryz.prog 17 #[.iface 51 (.agg #[.int .i64 x, .int .i64 y]), .iface 53 (.pointer (some ⟨tb, 0, none⟩))] w3 fun ev w' => ev = .returned (.bool true) ∧ Below w.heap.size w w' ∧ w'.cell? ⟨tb, 0, none⟩ = some (.int .i64 x) ∧ w'.cell? ⟨tb, 1, none⟩ = some (.int .i64 y) ∧ tb < w'.heap.size := by
  have hbx := WBox.new w [.int .i64 0, .int .i64 0] 51 tb htb
  have hb3 : Below w.heap.size w w3 := by rw [hw3]; exact blw_alloc (Below.refl _ _) _
  rw [← hw3] at hbx
  refine (as_hit tb x y (.int .i64 0) (.int .i64 0) w3 (hg.later hb3) (hbx.get 0 _ rfl) (hbx.get 1 _ rfl) (fun o => by obtain ⟨cur, hc, _⟩ := hbx.own; simp [World.frozen?, hc]) hbx.own.lt).mono ?_
  rintro ev w' ⟨rfl, rfl⟩
  have hb4 := blw_alloc (blw_alloc (blw_alloc (blw_alloc (Below.refl w3.heap.size w3) (.cells #[.pointer (some ⟨tb, 0, none⟩)] 53)) (.cells #[.pointer (some ⟨4, 53, none⟩), .pointer (some ⟨w3.heap.size, 0, none⟩), .int .u64 150] 84)) (.cells #[.pointer (some ⟨4, 53, none⟩), .pointer (some ⟨w3.heap.size, 0, none⟩), .int .u64 150] 84)) (.cells #[.int .i64 x, .int .i64 y] 51)
  have hb5 := (hbx.later hb4)
  have h1 := hb5.set 0 (.int .i64 x) (by decide)
  have h2 := h1.set 1 (.int .i64 y) (by simp)
  exact ⟨rfl, ((blw_trans hb3 hb4).setCell (p := ⟨tb, 0, none⟩) (show w.heap.size ≤ tb by omega) _).setCell (p := ⟨tb, 1, none⟩) (show w.heap.size ≤ tb by omega) _, h2.get 0 _ rfl, h2.get 1 _ rfl, h2.own.lt⟩

theorem wb_fz {W : World} {p : Nat} {u : TypeId} {cs : List Value} (h : WBox W p u cs) : ∀ o, W.frozen? ⟨p, o, none⟩ = false := fun o => by
  obtain ⟨cur, hc, _⟩ := h.own
  simp [World.frozen?, hc]
theorem frm_set {S : Nat → Prop} (W : World) (b o : Nat) (v : Value) (h : S b) : Frm S W (W.setCell ⟨b, o, none⟩ v) :=
  ⟨rfl, rfl, rfl, by simp [World.setCell], fun k _ hn => Below.heap_setCell _ _ _ _ (fun e => hn (by rw [e]; exact h))⟩

set_option maxRecDepth 8000 in
set_option maxHeartbeats 8000000 in
theorem sheetParseI (t : ByteArray) (w : World) (hg : ErrT w) (hs : t.size ≤ 1048576) : Calls Tryz.prog 5 #[.string t] w (AnsF (Pl.parseOut t) w) := by
  obtain ⟨o, ho⟩ : ∃ o, o = Pl.parseOut t := ⟨_, rfl⟩
  have HSR : Hid (∀ X, Calls Tryz.prog 16 #[.string t] X (ReadB o X)) := fun X => by rw [ho]; exact sheetReadI t X hs
  rw [← ho]
  clear ho
  have HG := uh hg
  clear hg
  obtain ⟨b0, hb0⟩ : ∃ b0, b0 = w.heap.size := ⟨_, rfl⟩
  obtain ⟨w1, hw1⟩ : ∃ w1, w1 = (w.alloc (.cells #[.slice none 0 0] 24)).alloc (.cells #[.int .i64 0, .int .i64 0] 26) := ⟨_, rfl⟩
  have HB1 : Hid (Below w.heap.size w w1) := by show Below _ _ _; rw [hw1]; exact blw_alloc (blw_alloc (Below.refl _ _) _) _
  have HX0 : Hid (WBox w1 b0 24 [.slice none 0 0]) := by
    show WBox _ _ _ _
    rw [hw1]
    exact (WBox.new w [.slice none 0 0] _ b0 hb0).later (blw_alloc (Below.refl _ _) _)
  have HX1 : Hid (WBox w1 (b0 + 1) 26 [.int .i64 0, .int .i64 0]) := by
    show WBox _ _ _ _
    rw [hw1]
    exact WBox.new _ [.int .i64 0, .int .i64 0] _ _ (by simp [hb0])
  have HBW : Hid (b0 = w.heap.size) := hb0
  by_cases hz : o.2.2 = 0
  · have HZ := uh hz
    clear hz
    go_enter Tryz.func5, Tryz.ntmps5
    go_upto_region 1 with fail
    rw [← hw1, ← hb0]
    clear hw1 hb0
    go_upto_region 2 with (go_at_call 16; refine (HSR.out _).mono ?_; intro e w2 hx; obtain ⟨hx1, hx2⟩ := hx; obtain ⟨h1, h2, bv, F, rfl, h3, h4, h5⟩ := hx1.resolve_left (fun h => h.2.1 HZ.out); obtain ⟨ya, yc, hbv⟩ := h3.raw.len0; subst hbv; have HX2 := uh hx2; have HO1 := uh h1; have HR := uh h3; have HND := uh h4; have HLO := uh h5; clear hx1 hx2 h1 h2 h3 h4 h5)
    obtain ⟨w3, hw3⟩ : ∃ w3, w3 = w2.alloc (.cells #[.int .i64 0, .int .i64 0] 51) := ⟨_, rfl⟩
    have HB23 : Hid (Below w2.heap.size w2 w3) := by show Below _ _ _; rw [hw3]; exact blw_alloc (Below.refl _ _) _
    have Y0 := (HX0.out.later HX2.out).later HB23.out
    have Y1 := (HX1.out.later HX2.out).later HB23.out
    have y0 := Y0.get 0 _ rfl
    have y1 := Y1.get 0 _ rfl
    have y2 := Y1.get 1 _ rfl
    have f0 := wb_fz Y0
    have f1 := wb_fz Y1
    have l0 := Y0.own.lt
    have l1 := Y1.own.lt
    have HL1 : Hid (b0 + 1 < w1.heap.size) := HX1.out.own.lt
    obtain ⟨X, hX⟩ : ∃ X, X = ((w3.setCell ⟨b0, 0, none⟩ (.slice ya o.1.length yc)).setCell ⟨b0 + 1, 0, none⟩ (.int .i64 0)).setCell ⟨b0 + 1, 1, none⟩ (.int .i64 0) := ⟨_, rfl⟩
    have HXE := uh hX
    have nb : b0 ≠ b0 + 1 := by omega
    have nb2 : b0 + 1 ≠ b0 := by omega
    have HZ0 : Hid (WBox X b0 24 [(.slice ya o.1.length yc)]) := by
      show WBox _ _ _ _
      rw [hX]
      exact ((Y0.set 0 (.slice ya o.1.length yc) (by simp)).other nb 0 (.int .i64 0)).other nb 1 (.int .i64 0)
    have HZ1 : Hid (WBox X (b0 + 1) 26 [.int .i64 0, .int .i64 0]) := by
      show WBox _ _ _ _
      rw [hX]
      exact ((Y1.other nb2 0 (.slice ya o.1.length yc)).set 0 (.int .i64 0) (by simp)).set 1 (.int .i64 0) (by simp)
    clear hX
    clear Y0 Y1
    go_upto_region 3 with fail
    rw [← hw3]
    clear hw3
    go_wp2_with (go_at_call 17; refine (as_nil _ _).mono ?_; rintro e w4 ⟨rfl, rfl⟩)
    rw [← HXE.out]
    refine bodyPost_ret (v := .tuple #[.agg #[(.slice ya o.1.length yc)], .agg #[.int .i64 0, .int .i64 0]]) (by simp [results, Tryz.results5, asAddr, run_loadVar_mid (P := Tryz.prog) _ _ _ 24 [(.slice ya o.1.length yc)] _ HZ0.out.at_ Tryz.underlying24 rfl (by kernel_rfl), run_loadVar_mid (P := Tryz.prog) _ _ _ 26 [.int .i64 0, .int .i64 0] _ HZ1.out.at_ Tryz.underlying26 rfl (by kernel_rfl)]) rfl ?_
    have hf : Frm (fun b => b = b0 ∨ b = b0 + 1) w3 X := by
      rw [HXE.out]
      exact ((frm_set _ _ _ _ (Or.inl rfl)).trans (frm_set _ _ _ _ (Or.inr rfl))).trans (frm_set _ _ _ _ (Or.inr rfl))
    have hr := (HR.out.later HB23.out).frm hf (fun b hb e => by
      have h1 := HLO.out b hb
      have h2 := HL1.out
      omega)
    refine ⟨[(.slice ya o.1.length yc)], F, by rw [HO1.out, HZ.out]; rfl, hr, HND.out, fun b hb => ?_, ?_⟩
    · have h1 := HLO.out b hb
      have h2 := HB1.out.size
      omega
    · exact hf.below (fun b e => by have := HBW.out; omega) (blw_trans (blw_trans HB1.out HX2.out) HB23.out)
  · have HZ := uh hz
    clear hz
    go_enter Tryz.func5, Tryz.ntmps5
    go_upto_region 1 with fail
    rw [← hw1, ← hb0]
    clear hw1 hb0
    go_upto_region 2 with (go_at_call 16; refine (HSR.out _).mono ?_; intro e w2 hx; obtain ⟨hx1, hx2⟩ := hx; obtain ⟨h1, h2, rfl⟩ := hx1.resolve_right (fun h => HZ.out h.2.1); have HX2 := uh hx2; have HO1 := uh h1; clear hx1 hx2 h1 h2)
    obtain ⟨w3, hw3⟩ : ∃ w3, w3 = w2.alloc (.cells #[.int .i64 0, .int .i64 0] 51) := ⟨_, rfl⟩
    have HB23 : Hid (Below w2.heap.size w2 w3) := by show Below _ _ _; rw [hw3]; exact blw_alloc (Below.refl _ _) _
    obtain ⟨tb, htb⟩ : ∃ tb, tb = w2.heap.size := ⟨_, rfl⟩
    have HTB := uh htb
    have HAS := uh (as_hit2 tb ((o.2.1 : Nat) : Int) ((o.2.2 : Nat) : Int) w2 w3 htb hw3 ((HG.out.later HB1.out).later HX2.out))
    go_upto_region 3 with fail
    rw [← hw3, ← htb]
    clear hw3 htb
    go_upto_region 4 with (go_at_call 17; refine HAS.out.mono ?_; intro e w4 hx; obtain ⟨rfl, hx1, t0, t1, tl⟩ := hx; have HX4 := uh hx1; clear hx1)
    have Y0 := (HX0.out.later HX2.out).later HX4.out
    have Y1 := (HX1.out.later HX2.out).later HX4.out
    have y0 := Y0.get 0 _ rfl
    have y1 := Y1.get 0 _ rfl
    have y2 := Y1.get 1 _ rfl
    have f0 := wb_fz Y0
    have f1 := wb_fz Y1
    have l0 := Y0.own.lt
    have l1 := Y1.own.lt
    have HL2 : Hid (b0 + 1 < tb) := by
      have h1 := HX1.out.own.lt
      have h2 := HX2.out.size
      have h3 := HTB.out
      show _ < _
      omega
    have n1 : tb ≠ b0 := by have := HL2.out; omega
    have n2 : tb ≠ b0 + 1 := by have := HL2.out; omega
    have n3 : b0 ≠ tb := by have := HL2.out; omega
    have n4 : b0 + 1 ≠ tb := by have := HL2.out; omega
    obtain ⟨X, hX⟩ : ∃ X, X = (((w4.setCell ⟨b0, 0, none⟩ (.slice none 0 0)).setCell ⟨b0 + 1, 0, none⟩ (.int .i64 ((o.2.1 : Nat) : Int))).setCell ⟨b0 + 1, 1, none⟩ (.int .i64 ((o.2.2 : Nat) : Int))).drew := ⟨_, rfl⟩
    have HXE := uh hX
    have nb : b0 ≠ b0 + 1 := by omega
    have nb2 : b0 + 1 ≠ b0 := by omega
    have HZ0 : Hid (WBox X b0 24 [.slice none 0 0]) := by
      show WBox _ _ _ _
      rw [hX]
      exact (((Y0.set 0 (.slice none 0 0) (by simp)).other nb 0 (.int .i64 ((o.2.1 : Nat) : Int))).other nb 1 (.int .i64 ((o.2.2 : Nat) : Int))).later ⟨rfl, rfl, rfl, Nat.le_refl _, fun _ _ => rfl⟩
    have HZ1 : Hid (WBox X (b0 + 1) 26 [.int .i64 ((o.2.1 : Nat) : Int), .int .i64 ((o.2.2 : Nat) : Int)]) := by
      show WBox _ _ _ _
      rw [hX]
      exact (((Y1.other nb2 0 (.slice none 0 0)).set 0 (.int .i64 ((o.2.1 : Nat) : Int)) (by simp)).set 1 (.int .i64 ((o.2.2 : Nat) : Int)) (by simp)).later ⟨rfl, rfl, rfl, Nat.le_refl _, fun _ _ => rfl⟩
    clear Y0 Y1 hX
    go_region
    go_wp2
    rw [← HXE.out]
    refine bodyPost_ret (v := .tuple #[.agg #[.slice none 0 0], .agg #[.int .i64 ((o.2.1 : Nat) : Int), .int .i64 ((o.2.2 : Nat) : Int)]]) (by simp [results, Tryz.results5, asAddr, run_loadVar_mid (P := Tryz.prog) _ _ _ 24 [.slice none 0 0] _ HZ0.out.at_ Tryz.underlying24 rfl (by kernel_rfl), run_loadVar_mid (P := Tryz.prog) _ _ _ 26 [.int .i64 ((o.2.1 : Nat) : Int), .int .i64 ((o.2.2 : Nat) : Int)] _ HZ1.out.at_ Tryz.underlying26 rfl (by kernel_rfl)]) rfl ?_
    have hf : Frm (fun b => b = b0 ∨ b = b0 + 1) w4 X := by
      rw [HXE.out]
      exact (((frm_set _ _ _ _ (Or.inl rfl)).trans (frm_set _ _ _ _ (Or.inr rfl))).trans (frm_set _ _ _ _ (Or.inr rfl))).trans (Frm.of_below ⟨rfl, rfl, rfl, Nat.le_refl _, fun _ _ => rfl⟩)
    refine ⟨[.slice none 0 0], [], rfl, by rw [HO1.out]; exact .emp _ _ _ rfl .nil, List.nodup_nil, (fun b hb => by cases hb), ?_⟩
    exact hf.below (fun b e => by have := HBW.out; omega) (blw_trans (blw_trans HB1.out HX2.out) HX4.out)

end Go.Proofs.YtdllbcafbfkngaaGreatDoor
