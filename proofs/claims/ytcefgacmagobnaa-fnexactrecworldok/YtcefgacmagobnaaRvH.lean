/-
  Recorders: what is held, and roles: the program's.
-/
import Derived.Test.YtcefgacmagobnaaRwL
import Derived.Test.YtcefgacmagobnaaLBx
namespace Go.Proofs.Ytcefgacmagobnaa
open Go.RowKit Go.Deep

theorem load_mid_g {P : Program} {ops : Array Oper} {rest : List Oper} {op : Oper} {a : Act} {w : World} {Q : Exit → Act → World → Prop} (hw : Region.wanted op (yielded ops a.tmps) = true) (ty : TypeId) (x : Operand) (ho : op.op = .load ty x)
    (b o : Nat) (hx : a.eval x = .pointer (some ⟨b, o, none⟩)) (cs : List Value) (d : TypeDesc) (hc : w.rangeAt b o cs)
    (hu : P.underlying ty = some d) (hd : d.isRow = true) (hi : (P.info? ty).map (·.size) = some cs.length)
    (h : wpList P ops Q rest (a.put op.dst (.agg cs.toArray)) w) : wpList P ops Q (op :: rest) a w :=
  BigFrame.wpList_want hw fun _ hK => wp_load_mid ty x ho b o hx cs d hc hu hd hi (hK _ _ h)

def RrC (K : Rr) (a0 a1 a2 a3 a4 a5 a6 : Option Addr) (c0 c1 c2 c3 c4 c5 c6 : Nat) : List Value := [.int .i64 K.num, .int .i64 K.of_, .bool K.up, .int .i64 K.safe.prom, .int .i64 K.safe.known, .slice a0 K.safe.slots.length c0, .int .i64 K.disk.prom, .int .i64 K.disk.known, .slice a1 K.disk.slots.length c1, .slice a2 K.held.length c2, .slice a3 K.wish.length c3, .bool K.lead, .bool K.try_, .int .i64 K.bal, .slice a4 K.yes.length c4, .slice a5 K.best.length c5, .slice a6 K.acks.length c6, .int .i64 K.heard]
theorem RrC_len (K : Rr) (a0 a1 a2 a3 a4 a5 a6 : Option Addr) (c0 c1 c2 c3 c4 c5 c6 : Nat) : (RrC K a0 a1 a2 a3 a4 a5 a6 c0 c1 c2 c3 c4 c5 c6).length = 18 := rfl

/-- A message that may not be held. -/
def badHeld (num of : Int) (x : Rm) : Bool := !(x.frm == num) || !msgOk x of

set_option maxRecDepth 8000 in
set_option maxHeartbeats 4000000 in
theorem heldClI (x : Rm) (a0 : Option Addr) (c0 : Nat) (num of : Int) (p : Nat) (W : World) (hs : RssV W a0 x.slots) (hp : p < W.heap.size) (h0 : W.cell? ⟨p, 0, none⟩ = some (.int .i64 num)) (h1 : W.cell? ⟨p, 1, none⟩ = some (.int .i64 of)) :
    Calls Try.prog 82 #[.agg #[.int .i64 x.kind, .int .i64 x.frm, .int .i64 x.to_, .int .i64 x.bal, .int .i64 x.ix, .int .i64 x.known, .string x.txt, .slice a0 x.slots.length c0], .pointer (some ⟨p, 0, none⟩)] W fun e w' => e = .returned (.bool (badHeld num of x)) ∧ Below W.heap.size W w' := by
  have HH := hid hs
  obtain ⟨R, hR⟩ : ∃ R, R = badHeld num of x := ⟨_, rfl⟩
  have HR : Hid (R = (!(x.frm == num) || !msgOk x of)) := hR
  rw [← hR]
  clear hR hs
  obtain ⟨wa, hwa⟩ : ∃ wa, wa = W.alloc (.cells #[.int .i64 x.kind, .int .i64 x.frm, .int .i64 x.to_, .int .i64 x.bal, .int .i64 x.ix, .int .i64 x.known, .string x.txt, .slice a0 x.slots.length c0] 55) := ⟨_, rfl⟩
  have HB : Hid (Below W.heap.size W wa) := by show Below _ _ _; rw [hwa]; exact blw_alloc (Below.refl _ _) _
  have HX : Hid (LBox wa W.heap.size [.int .i64 x.kind, .int .i64 x.frm, .int .i64 x.to_, .int .i64 x.bal, .int .i64 x.ix, .int .i64 x.known, .string x.txt, .slice a0 x.slots.length c0]) := by show LBox _ _ _; rw [hwa]; exact LBox.new W #[.int .i64 x.kind, .int .i64 x.frm, .int .i64 x.to_, .int .i64 x.bal, .int .i64 x.ix, .int .i64 x.known, .string x.txt, .slice a0 x.slots.length c0] _ _ rfl
  have g0 : wa.cell? ⟨p, 0, none⟩ = some (.int .i64 num) := (HB.out.cell (p := ⟨p, 0, none⟩) hp).trans h0
  have g1 : wa.cell? ⟨p, 1, none⟩ = some (.int .i64 of) := (HB.out.cell (p := ⟨p, 1, none⟩) hp).trans h1
  have gp : p < wa.heap.size := Nat.lt_of_lt_of_le hp HB.out.size
  go_enter Try.func82, Try.ntmps82
  go_upto_region 1 with fail
  rw [← hwa]
  clear hwa h0 h1 hp
  have yz := HX.out.lt
  have y1 := HX.out.get 1 (.int .i64 x.frm) rfl
  cases hq : (x.frm == num)
  · have hq2 : (x.frm != num) = true := by rw [bne, hq]; rfl
    have HE : Hid (R = true) := by show R = _; rw [HR.out, hq]; rfl
    clear HR
    go_wp2
    go_ret
    exact ⟨Pl.ret_bool HE.out.symm, HB.out⟩
  · have hq2 : (x.frm != num) = false := by rw [bne, hq]; rfl
    have HE : Hid (R = !msgOk x of) := by show R = _; rw [HR.out, hq]; rfl
    clear HR
    have hrg := HX.out.at_
    go_wp2_with (refine load_mid_g (by kernel_rfl) 55 _ rfl W.heap.size 0 rfl [.int .i64 x.kind, .int .i64 x.frm, .int .i64 x.to_, .int .i64 x.bal, .int .i64 x.ix, .int .i64 x.known, .string x.txt, .slice a0 x.slots.length c0] _ hrg Try.underlying55 rfl (by kernel_rfl) ?_)
    refine (recMessageOkV x a0 c0 of wa (HH.out.later HB.out)).mono ?_
    rintro e w2 ⟨rfl, hb⟩
    have HB2 := hid (blw_trans HB.out hb)
    clear hb hrg yz y1 g0 g1 gp
    go_wp2
    go_ret
    exact ⟨Pl.ret_bool HE.out.symm, HB2.out⟩

set_option maxRecDepth 8000 in
set_option maxHeartbeats 8000000 in
theorem idxFnRm (num of : Int) (p : Nat) (l : List Rm) (a : Option Addr) (c : Nat) (w : World) (hC : RmsV w a l) (hp : p < w.heap.size) (h0 : w.cell? ⟨p, 0, none⟩ = some (.int .i64 num)) (h1 : w.cell? ⟨p, 1, none⟩ = some (.int .i64 of)) :
    Calls Try.prog 61 #[.slice a l.length c, .func (.func 82) #[] #[.pointer (some ⟨p, 0, none⟩)]] w fun e w' => e = .returned (.int .i64 (firstTo (fun i => badHeld num of (l.getD i Rm.none)) l.length)) ∧ Below w.heap.size w w' := by
  have HL := hid hC
  have hl := hC.len
  have HP := hid (And.intro hp (And.intro h0 h1))
  clear hC hp h0 h1
  go_enter Try.func61, Try.ntmps61
  go_wp2
  go_loopw [8] (fun i wr => ∃ k : Nat, k ≤ l.length ∧ i = .int .i64 k ∧ (∀ j, j < k → badHeld num of (l.getD j Rm.none) = false) ∧ Below w.heap.size w wr) (fun i _ => l.length - (intOf i).toNat)
  case atStart => exact ⟨0, Nat.zero_le _, rfl, fun j hj => absurd hj (Nat.not_lt_zero j), Below.refl _ _⟩
  case round =>
    obtain ⟨k, hk, rfl, hall, hW⟩ := hrel
    have HA := hid hall
    have HW := hid hW
    clear hall hW
    by_cases hlt : k < l.length
    · obtain ⟨b1, off1, a0, c0, ha1, hbl1, hf1, hn⟩ := (HL.out.later HW.out).at_ k hlt
      subst ha1
      obtain ⟨x, hx⟩ : ∃ x, x = l.getD k Rm.none := ⟨_, rfl⟩
      rw [← hx] at hf1 hn
      have HXE := hid hx
      have HN := hid hn
      clear hx hn
      obtain ⟨e0, e1, e2, e3, e4, e5, e6, e7⟩ := hf1
      have hm0 : (0 : Int) ≤ (k : Int) := by omega
      have hm3 : (k : Int) < (l.length : Int) := by omega
      have HCL := heldClI x a0 c0 num of p wr HN.out (Nat.lt_of_lt_of_le HP.out.1 HW.out.size) ((HW.out.cell (p := ⟨p, 0, none⟩) HP.out.1).trans HP.out.2.1) ((HW.out.cell (p := ⟨p, 1, none⟩) HP.out.1).trans HP.out.2.2)
      go_wp2_with fail
      refine HCL.mono ?_
      rintro e w1 ⟨rfl, hb⟩
      have HW1 := hid (blw_trans HW.out hb)
      clear e0 e1 e2 e3 e4 e5 e6 e7 hb HW hbl1 HCL
      cases hd : badHeld num of x
      · have HN : Hid (∀ j, j < k + 1 → badHeld num of (l.getD j Rm.none) = false) := fun j hj => by
          by_cases e : j = k
          · subst e; rw [← HXE.out]; exact hd
          · exact HA.out j (by omega)
        go_wp2
        go_roundw
        case rel => exact ⟨k + 1, by omega, by go_num, HN.out, HW1.out⟩
        case measure => simp [intOf]; omega
      · have HN : Hid (firstTo (fun i => badHeld num of (l.getD i Rm.none)) l.length = k) := firstTo_hit hlt (by rw [← HXE.out]; exact hd) HA.out
        go_wp2
        go_ret
        exact ⟨by rw [HN.out]; rfl, HW1.out⟩
    · obtain rfl : k = l.length := by omega
      have HN : Hid (firstTo (fun i => badHeld num of (l.getD i Rm.none)) l.length = -1) := firstTo_none HA.out
      go_wp2
      go_ret
      exact ⟨by rw [HN.out]; rfl, HW.out⟩

set_option maxHeartbeats 4000000 in
theorem containsRm (num of : Int) (p : Nat) (l : List Rm) (a : Option Addr) (c : Nat) (w : World) (hC : RmsV w a l) (hp : p < w.heap.size) (h0 : w.cell? ⟨p, 0, none⟩ = some (.int .i64 num)) (h1 : w.cell? ⟨p, 1, none⟩ = some (.int .i64 of)) :
    Calls Try.prog 26 #[.slice a l.length c, .func (.func 82) #[] #[.pointer (some ⟨p, 0, none⟩)]] w fun e w' => e = .returned (.bool (!allTo (fun i => !badHeld num of (l.getD i Rm.none)) l.length)) ∧ Below w.heap.size w w' := by
  have HH := hid (idxFnRm num of p l a c w hC hp h0 h1)
  have hq : (!allTo (fun i => !badHeld num of (l.getD i Rm.none)) l.length) = decide (0 ≤ firstTo (fun i => badHeld num of (l.getD i Rm.none)) l.length) := by
    rcases firstTo_cases (fun i => badHeld num of (l.getD i Rm.none)) l.length with ⟨h, hn⟩ | ⟨k, hk, h, hp, _⟩
    · rw [h, (allTo_iff _ _).2 (fun i hi => by rw [hn i hi]; rfl)]; rfl
    · rw [h, allTo_false (k := k) (by rw [hp]; rfl) _ hk]; simp
  rw [hq]
  clear hC hp h0 h1 hq
  obtain ⟨y, hy⟩ : ∃ y, y = firstTo (fun i => badHeld num of (l.getD i Rm.none)) l.length := ⟨_, rfl⟩
  rw [← hy] at HH ⊢
  clear hy
  go_enter Try.func26, Try.ntmps26
  go_wp2_with fail
  refine HH.out.mono ?_
  rintro e w2 ⟨rfl, hb⟩
  go_wp2
  go_ret
  exact ⟨rfl, hb⟩

theorem heldOk_eq (K : Rr) : allTo (fun i => !badHeld K.num K.of_ (K.held.getD i Rm.none)) K.held.length = allTo (heldAt K) K.held.length :=
  allTo_congr fun i _ => by
    unfold badHeld heldAt
    cases h : msgOk (K.held.getD i Rm.none) K.of_ <;> cases q : (((K.held.getD i Rm.none).frm) == K.num) <;> simp_all

set_option maxRecDepth 8000 in
set_option maxHeartbeats 4000000 in
theorem heldOkI (K : Rr) (a0 a1 a2 a3 a4 a5 a6 : Option Addr) (c0 c1 c2 c3 c4 c5 c6 : Nat) (cs : List Value) (hcs : cs = RrC K a0 a1 a2 a3 a4 a5 a6 c0 c1 c2 c3 c4 c5 c6) (w : World) (h : RmsV w a2 K.held) :
    Calls Try.prog 54 #[.agg cs.toArray] w fun e w' => e = .returned (.bool (decide (K.held.length ≤ 400) && allTo (heldAt K) K.held.length)) ∧ Below w.heap.size w w' := by
  have HH := hid h
  have hl := h.len
  have HC := hid hcs
  rw [← heldOk_eq]
  obtain ⟨R, hR⟩ : ∃ R, R = (decide (K.held.length ≤ 400) && allTo (fun i => !badHeld K.num K.of_ (K.held.getD i Rm.none)) K.held.length) := ⟨_, rfl⟩
  have HR := hid hR
  rw [← hR]
  clear hR h hcs
  obtain ⟨wa, hwa⟩ : ∃ wa, wa = w.alloc (.cells cs.toArray 52) := ⟨_, rfl⟩
  have HB : Hid (Below w.heap.size w wa) := by show Below _ _ _; rw [hwa]; exact blw_alloc (Below.refl _ _) _
  have HX : Hid (LBox wa w.heap.size cs) := by show LBox _ _ _; rw [hwa]; exact LBox.new w cs.toArray _ _ rfl
  go_enter Try.func54, Try.ntmps54
  go_upto_region 1 with fail
  rw [← hwa]
  clear hwa
  have yz := HX.out.lt
  have y0 := HX.out.get 0 (.int .i64 K.num) (by rw [HC.out]; rfl)
  have y1 := HX.out.get 1 (.int .i64 K.of_) (by rw [HC.out]; rfl)
  have y9 := HX.out.get 9 (.slice a2 K.held.length c2) (by rw [HC.out]; rfl)
  by_cases h2 : K.held.length ≤ 400
  · have h2i : ¬ ((400 : Int) < (K.held.length : Int)) := by omega
    have HE : Hid (R = allTo (fun i => !badHeld K.num K.of_ (K.held.getD i Rm.none)) K.held.length) := by show R = _; rw [HR.out, decide_eq_true h2]; rfl
    go_wp2_with fail
    refine (containsRm K.num K.of_ w.heap.size K.held a2 c2 wa (HH.out.later HB.out) yz y0 y1).mono ?_
    rintro e w2 ⟨rfl, hb⟩
    have HB2 := hid (blw_trans HB.out hb)
    go_wp2
    go_ret
    exact ⟨Pl.ret_bool (by rw [HE.out]; simp), HB2.out⟩
  · have h2i : (400 : Int) < (K.held.length : Int) := by omega
    have HE : Hid (R = false) := by show R = _; rw [HR.out, decide_eq_false h2]; rfl
    go_wp2
    go_ret
    exact ⟨Pl.ret_bool HE.out.symm, HB.out⟩

end Go.Proofs.Ytcefgacmagobnaa
