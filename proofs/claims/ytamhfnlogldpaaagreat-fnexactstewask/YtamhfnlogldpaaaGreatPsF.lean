/-
  Stewards: copies that are replaced one at a time, by the program.
-/
import Derived.Test.YtamhfnlogldpaaaGreatPsE
namespace Go.Proofs.YtamhfnlogldpaaaGreat
open Go.RowKit Go.Deep

theorem LBox.mid {W : World} {p : Nat} {cs xs bs ds : List Value} (h : LBox W p cs) (e : cs = xs ++ (bs ++ ds)) : W.rangeAt p xs.length bs := fun j v hv => by
  refine h.get (xs.length + j) v ?_
  rw [e, List.getElem?_append_right (by omega), Nat.add_sub_cancel_left, List.getElem?_append_left (List.getElem?_eq_some_iff.1 hv).1]
  exact hv
theorem exec_loadM {P : Program} {o : Oper} {a : Act} {W : World} (ty : TypeId) (x : Operand) (ho : o.op = .load ty x) (b off : Nat) (hx : a.eval x = .pointer (some ⟨b, off, none⟩)) (cs : List Value) (d : TypeDesc) (hc : W.rangeAt b off cs)
    (hu : P.underlying ty = some d) (hd : d.isRow = true) (hi : (P.info? ty).map (·.size) = some cs.length) : (execOp a.eval o).run P W = .ok (.value (.agg cs.toArray)) W := by
  unfold execOp
  simp only [ho, hx, Instr.loadAt, Instr.sureAddr, Sem.run_bind, Sem.run_pure, Result.andThen_ok, run_loadVar_mid W b off ty cs d hc hu hd hi]
theorem range_bx {p b : Nat} {v W : World} {cs : List Value} (h : LBox v b cs) (hx : BelX p v W) (hn : b ≠ p) : LBox W b cs :=
  ⟨Nat.lt_of_lt_of_le h.lt hx.size, fun j u hu => (hx.cell h.lt hn (0 + j)).trans (h.at_ j u hu)⟩

set_option maxRecDepth 8000 in
set_option maxHeartbeats 16000000 in
theorem bothOld (K : SBk) (a0 a1 a2 : Option Addr) (c0 c1 c2 : Nat) (s : Sv) (n : Cn) (al : Option Addr) (cl : Nat) (L : List Cp) (lv : Int) (c : Cp) (p3 p2 : Nat) (w : World) (h : SBkV w a0 a1 a2 K) (hasc : ascCp K.cps = true) (hlen : K.cps.length ≤ 200) (hs : 0 ≤ s.want ∧ s.want ≤ 10 ∧ 0 ≤ s.down ∧ s.down ≤ 10) (hX : LBox w p2 [.int .i64 K.now, .slice a0 K.svcs.length c0, .slice a1 K.cps.length c1, .slice a2 K.bts.length c2, .string s.nm, .int .i64 s.ver, .bool s.gone, .int .i64 s.image, .int .i64 s.want, .int .i64 s.down, .int .i64 s.over, .int .i64 s.next, .int .i64 s.per, .int .i64 s.least, .int .i64 s.most, .int .i64 s.load, .int .i64 s.cool, .int .i64 n.live, .int .i64 n.ready, .int .i64 n.old, .int .i64 n.failed, .int .i64 n.ending, .slice al L.length cl, .int .i64 lv]) (hz3 : p3 < w.heap.size) (h3 : w.cell? ⟨p3, 0, none⟩ = some (.func (.func 68) #[.agg #[.int .i64 K.now, .slice a0 K.svcs.length c0, .slice a1 K.cps.length c1, .slice a2 K.bts.length c2, .string s.nm, .int .i64 s.ver, .bool s.gone, .int .i64 s.image, .int .i64 s.want, .int .i64 s.down, .int .i64 s.over, .int .i64 s.next, .int .i64 s.per, .int .i64 s.least, .int .i64 s.most, .int .i64 s.load, .int .i64 s.cool, .int .i64 n.live, .int .i64 n.ready, .int .i64 n.old, .int .i64 n.failed, .int .i64 n.ending, .slice al L.length cl, .int .i64 lv]] #[])) :
    Calls Tryz.prog 102 #[.agg #[.string c.svc, .int .i64 c.num, .int .i64 c.ver, .int .i64 c.image, .int .i64 c.state, .bool c.ending, .string c.berth], .pointer (some ⟨p3, 0, none⟩), .pointer (some ⟨p2, 0, none⟩)] w fun e w' => e = .returned (.bool ((c.image != s.image) && mayGo K s c)) ∧ Below w.heap.size w w' := by
  have HH := hid h
  have HAS := hid hasc
  have HLN := hid hlen
  have HS := hid hs
  clear h hasc hlen hs
  obtain ⟨R, hR⟩ : ∃ R, R = ((c.image != s.image) && mayGo K s c) := ⟨_, rfl⟩
  have HRR := hid hR
  rw [← hR]
  clear hR
  have HX := hid hX
  have H3 := hid h3
  clear hX h3
  obtain ⟨wa, hwa⟩ : ∃ wa, wa = w.alloc (.cells #[.string c.svc, .int .i64 c.num, .int .i64 c.ver, .int .i64 c.image, .int .i64 c.state, .bool c.ending, .string c.berth] 84) := ⟨_, rfl⟩
  have hba : Below w.heap.size w wa := by rw [hwa]; exact blw_alloc (Below.refl _ _) _
  have HB := hid hba
  have HC : Hid (LBox wa w.heap.size [.string c.svc, .int .i64 c.num, .int .i64 c.ver, .int .i64 c.image, .int .i64 c.state, .bool c.ending, .string c.berth]) := by show LBox _ _ _; rw [hwa]; exact LBox.new w _ _ _ rfl
  have k3 : wa.cell? ⟨p3, 0, none⟩ = some (.func (.func 68) #[.agg #[.int .i64 K.now, .slice a0 K.svcs.length c0, .slice a1 K.cps.length c1, .slice a2 K.bts.length c2, .string s.nm, .int .i64 s.ver, .bool s.gone, .int .i64 s.image, .int .i64 s.want, .int .i64 s.down, .int .i64 s.over, .int .i64 s.next, .int .i64 s.per, .int .i64 s.least, .int .i64 s.most, .int .i64 s.load, .int .i64 s.cool, .int .i64 n.live, .int .i64 n.ready, .int .i64 n.old, .int .i64 n.failed, .int .i64 n.ending, .slice al L.length cl, .int .i64 lv]] #[]) := (hba.cell (p := ⟨p3, 0, none⟩) hz3).trans H3.out
  have kz : p3 < wa.heap.size := Nat.lt_of_lt_of_le hz3 hba.size
  have HX2 := hid (HX.out.later hba)
  go_enter Tryz.func102, Tryz.ntmps102
  go_upto_region 1 with fail
  rw [← hwa]
  clear hwa hba HX H3
  have cz := HC.out.lt
  have d0 := HC.out.get 0 _ rfl
  have d1 := HC.out.get 1 _ rfl
  have d2 := HC.out.get 2 _ rfl
  have d3 := HC.out.get 3 _ rfl
  have d4 := HC.out.get 4 _ rfl
  have d5 := HC.out.get 5 _ rfl
  have d6 := HC.out.get 6 _ rfl
  go_wp2_with fail
  refine (isOldI K a0 a1 a2 c0 c1 c2 s n al cl L lv c wa).mono ?_
  rintro e w1 ⟨rfl, hb1⟩
  have HB1 := hid (blw_trans HB.out hb1)
  have HC1 := hid (HC.out.later hb1)
  have HX1 := hid (HX2.out.later hb1)
  clear hb1 cz d0 d1 d2 d3 d4 d5 d6 HB HC HX2 k3 kz
  cases hq : ((c.image != s.image))
  · have HE : Hid (R = false) := by show R = _; rw [HRR.out, hq]; rfl
    clear HRR
    go_wp2
    go_ret
    exact ⟨by rw [HE.out]; rfl, HB1.out⟩
  have HE : Hid (R = mayGo K s c) := by show R = _; rw [HRR.out, hq]; rfl
  clear HRR
  have cz := HC1.out.lt
  have d0 := HC1.out.get 0 _ rfl
  have d1 := HC1.out.get 1 _ rfl
  have d2 := HC1.out.get 2 _ rfl
  have d3 := HC1.out.get 3 _ rfl
  have d4 := HC1.out.get 4 _ rfl
  have d5 := HC1.out.get 5 _ rfl
  have d6 := HC1.out.get 6 _ rfl
  have hrg := HX1.out.at_
  go_wp2_with (refine load_mid_g (by kernel_rfl) 58 _ rfl p2 0 rfl [.int .i64 K.now, .slice a0 K.svcs.length c0, .slice a1 K.cps.length c1, .slice a2 K.bts.length c2, .string s.nm, .int .i64 s.ver, .bool s.gone, .int .i64 s.image, .int .i64 s.want, .int .i64 s.down, .int .i64 s.over, .int .i64 s.next, .int .i64 s.per, .int .i64 s.least, .int .i64 s.most, .int .i64 s.load, .int .i64 s.cool, .int .i64 n.live, .int .i64 n.ready, .int .i64 n.old, .int .i64 n.failed, .int .i64 n.ending, .slice al L.length cl, .int .i64 lv] _ hrg Tryz.underlying58 rfl (by kernel_rfl) ?_)
  refine (mayEndI K a0 a1 a2 c0 c1 c2 s n al cl L lv c w1 (HH.out.later HB1.out) HAS.out HLN.out HS.out).mono ?_
  rintro e w2 ⟨rfl, hb2⟩
  have HB2 := hid (blw_trans HB1.out hb2)
  clear hb2 cz d0 d1 d2 d3 d4 d5 d6 hrg
  go_wp2
  go_ret
  exact ⟨by rw [HE.out]; rfl, HB2.out⟩

set_option maxRecDepth 8000 in
set_option maxHeartbeats 16000000 in
theorem bothLv (K : SBk) (a0 a1 a2 : Option Addr) (c0 c1 c2 : Nat) (s : Sv) (n : Cn) (al : Option Addr) (cl : Nat) (L : List Cp) (lv : Int) (c : Cp) (p3 p2 : Nat) (w : World) (h : SBkV w a0 a1 a2 K) (hasc : ascCp K.cps = true) (hlen : K.cps.length ≤ 200) (hs : 0 ≤ s.want ∧ s.want ≤ 10 ∧ 0 ≤ s.down ∧ s.down ≤ 10) (hX : LBox w p2 [.int .i64 K.now, .slice a0 K.svcs.length c0, .slice a1 K.cps.length c1, .slice a2 K.bts.length c2, .string s.nm, .int .i64 s.ver, .bool s.gone, .int .i64 s.image, .int .i64 s.want, .int .i64 s.down, .int .i64 s.over, .int .i64 s.next, .int .i64 s.per, .int .i64 s.least, .int .i64 s.most, .int .i64 s.load, .int .i64 s.cool, .int .i64 n.live, .int .i64 n.ready, .int .i64 n.old, .int .i64 n.failed, .int .i64 n.ending, .slice al L.length cl, .int .i64 lv]) (hz3 : p3 < w.heap.size) (h3 : w.cell? ⟨p3, 0, none⟩ = some (.func (.func 65) #[.agg #[.int .i64 K.now, .slice a0 K.svcs.length c0, .slice a1 K.cps.length c1, .slice a2 K.bts.length c2, .string s.nm, .int .i64 s.ver, .bool s.gone, .int .i64 s.image, .int .i64 s.want, .int .i64 s.down, .int .i64 s.over, .int .i64 s.next, .int .i64 s.per, .int .i64 s.least, .int .i64 s.most, .int .i64 s.load, .int .i64 s.cool, .int .i64 n.live, .int .i64 n.ready, .int .i64 n.old, .int .i64 n.failed, .int .i64 n.ending, .slice al L.length cl, .int .i64 lv]] #[])) :
    Calls Tryz.prog 102 #[.agg #[.string c.svc, .int .i64 c.num, .int .i64 c.ver, .int .i64 c.image, .int .i64 c.state, .bool c.ending, .string c.berth], .pointer (some ⟨p3, 0, none⟩), .pointer (some ⟨p2, 0, none⟩)] w fun e w' => e = .returned (.bool (leaves K c && mayGo K s c)) ∧ Below w.heap.size w w' := by
  have HH := hid h
  have HAS := hid hasc
  have HLN := hid hlen
  have HS := hid hs
  clear h hasc hlen hs
  obtain ⟨R, hR⟩ : ∃ R, R = (leaves K c && mayGo K s c) := ⟨_, rfl⟩
  have HRR := hid hR
  rw [← hR]
  clear hR
  have HX := hid hX
  have H3 := hid h3
  clear hX h3
  obtain ⟨wa, hwa⟩ : ∃ wa, wa = w.alloc (.cells #[.string c.svc, .int .i64 c.num, .int .i64 c.ver, .int .i64 c.image, .int .i64 c.state, .bool c.ending, .string c.berth] 84) := ⟨_, rfl⟩
  have hba : Below w.heap.size w wa := by rw [hwa]; exact blw_alloc (Below.refl _ _) _
  have HB := hid hba
  have HC : Hid (LBox wa w.heap.size [.string c.svc, .int .i64 c.num, .int .i64 c.ver, .int .i64 c.image, .int .i64 c.state, .bool c.ending, .string c.berth]) := by show LBox _ _ _; rw [hwa]; exact LBox.new w _ _ _ rfl
  have k3 : wa.cell? ⟨p3, 0, none⟩ = some (.func (.func 65) #[.agg #[.int .i64 K.now, .slice a0 K.svcs.length c0, .slice a1 K.cps.length c1, .slice a2 K.bts.length c2, .string s.nm, .int .i64 s.ver, .bool s.gone, .int .i64 s.image, .int .i64 s.want, .int .i64 s.down, .int .i64 s.over, .int .i64 s.next, .int .i64 s.per, .int .i64 s.least, .int .i64 s.most, .int .i64 s.load, .int .i64 s.cool, .int .i64 n.live, .int .i64 n.ready, .int .i64 n.old, .int .i64 n.failed, .int .i64 n.ending, .slice al L.length cl, .int .i64 lv]] #[]) := (hba.cell (p := ⟨p3, 0, none⟩) hz3).trans H3.out
  have kz : p3 < wa.heap.size := Nat.lt_of_lt_of_le hz3 hba.size
  have HX2 := hid (HX.out.later hba)
  go_enter Tryz.func102, Tryz.ntmps102
  go_upto_region 1 with fail
  rw [← hwa]
  clear hwa hba HX H3
  have cz := HC.out.lt
  have d0 := HC.out.get 0 _ rfl
  have d1 := HC.out.get 1 _ rfl
  have d2 := HC.out.get 2 _ rfl
  have d3 := HC.out.get 3 _ rfl
  have d4 := HC.out.get 4 _ rfl
  have d5 := HC.out.get 5 _ rfl
  have d6 := HC.out.get 6 _ rfl
  go_wp2_with fail
  refine (mustLeaveI K a0 a1 a2 c0 c1 c2 s n al cl L lv c wa (HH.out.later HB.out)).mono ?_
  rintro e w1 ⟨rfl, hb1⟩
  have HB1 := hid (blw_trans HB.out hb1)
  have HC1 := hid (HC.out.later hb1)
  have HX1 := hid (HX2.out.later hb1)
  clear hb1 cz d0 d1 d2 d3 d4 d5 d6 HB HC HX2 k3 kz
  cases hq : (leaves K c)
  · have HE : Hid (R = false) := by show R = _; rw [HRR.out, hq]; rfl
    clear HRR
    go_wp2
    go_ret
    exact ⟨by rw [HE.out]; rfl, HB1.out⟩
  have HE : Hid (R = mayGo K s c) := by show R = _; rw [HRR.out, hq]; rfl
  clear HRR
  have cz := HC1.out.lt
  have d0 := HC1.out.get 0 _ rfl
  have d1 := HC1.out.get 1 _ rfl
  have d2 := HC1.out.get 2 _ rfl
  have d3 := HC1.out.get 3 _ rfl
  have d4 := HC1.out.get 4 _ rfl
  have d5 := HC1.out.get 5 _ rfl
  have d6 := HC1.out.get 6 _ rfl
  have hrg := HX1.out.at_
  go_wp2_with (refine load_mid_g (by kernel_rfl) 58 _ rfl p2 0 rfl [.int .i64 K.now, .slice a0 K.svcs.length c0, .slice a1 K.cps.length c1, .slice a2 K.bts.length c2, .string s.nm, .int .i64 s.ver, .bool s.gone, .int .i64 s.image, .int .i64 s.want, .int .i64 s.down, .int .i64 s.over, .int .i64 s.next, .int .i64 s.per, .int .i64 s.least, .int .i64 s.most, .int .i64 s.load, .int .i64 s.cool, .int .i64 n.live, .int .i64 n.ready, .int .i64 n.old, .int .i64 n.failed, .int .i64 n.ending, .slice al L.length cl, .int .i64 lv] _ hrg Tryz.underlying58 rfl (by kernel_rfl) ?_)
  refine (mayEndI K a0 a1 a2 c0 c1 c2 s n al cl L lv c w1 (HH.out.later HB1.out) HAS.out HLN.out HS.out).mono ?_
  rintro e w2 ⟨rfl, hb2⟩
  have HB2 := hid (blw_trans HB1.out hb2)
  clear hb2 cz d0 d1 d2 d3 d4 d5 d6 hrg
  go_wp2
  go_ret
  exact ⟨by rw [HE.out]; rfl, HB2.out⟩

/-- What is asked to replace copies for which q holds: how many are made, ends, whether it is asked for. -/
def rpl (K : SBk) (s : Sv) (n : Cn) (L : List Cp) (q : Cp → Bool) : Int × List En × Bool :=
  if n.live < s.want then (0, [], false)
  else if n.live < s.want + s.over then (1, [], true)
  else (0, efE K s (L.filter fun c => q c && mayGo K s c), decide (0 < (efE K s (L.filter fun c => q c && mayGo K s c)).length))
def VRq (B : Nat) (G : Value) (M : List Cp) (E : List En) (i : Nat) (u : Value) (W : World) : Prop :=
  match i with
  | 0 => u = G
  | 1 => u = G
  | 2 => u = .func (.func 102) #[] #[.pointer (some ⟨B + 1, 0, none⟩), .pointer (some ⟨B, 0, none⟩)]
  | 3 => W.ownsRow (B + 4) 84 7 u M.length (M.flatMap CpC)
  | 4 => ∃ va vc, u = .tuple #[.agg #[.string ByteArray.empty, .int .i64 0, .int .i64 0, .int .i64 0, .int .i64 0, .bool false, (.slice va E.length vc), .bool false], .bool (decide (0 < E.length))] ∧ W.ownsRow (B + 4) 114 2 (.slice va E.length vc) E.length (E.flatMap EnC)
  | 5 => ∃ va vc, u = .agg #[.string ByteArray.empty, .int .i64 0, .int .i64 0, .int .i64 0, .int .i64 0, .bool false, (.slice va E.length vc), .bool false] ∧ W.ownsRow (B + 4) 114 2 (.slice va E.length vc) E.length (E.flatMap EnC)
  | 6 => u = .bool (decide (0 < E.length))
  | 8 => u = .bool (decide (0 < E.length))
  | _ => True

theorem VRq_mono (B : Nat) (G : Value) (M : List Cp) (E : List En) : ∀ j u W W', Below W.heap.size W W' → VRq B G M E j u W → VRq B G M E j u W' := by
  intro j u W W' hb h
  match j, h with
  | 0, h => exact h
  | 1, h => exact h
  | 2, h => exact h
  | 3, h => exact owns_later h hb
  | 4, h => obtain ⟨va, vc, e, h0⟩ := h; exact ⟨va, vc, e, owns_later h0 hb⟩
  | 5, h => obtain ⟨va, vc, e, h0⟩ := h; exact ⟨va, vc, e, owns_later h0 hb⟩
  | 6, h => exact h
  | 7, _ => trivial
  | 8, h => exact h
  | n + 9, _ => trivial
theorem VRq_sc (B : Nat) (G : Value) (M : List Cp) (E : List En) : ∀ j u W o x, VRq B G M E j u W → VRq B G M E j u (W.setCell ⟨B + 2, o, none⟩ x) := by
  intro j u W o x h
  match j, h with
  | 0, h => exact h
  | 1, h => exact h
  | 2, h => exact h
  | 3, h => exact owns_stc h (by omega) o x
  | 4, h => obtain ⟨va, vc, e, h0⟩ := h; exact ⟨va, vc, e, owns_stc h0 (by omega) o x⟩
  | 5, h => obtain ⟨va, vc, e, h0⟩ := h; exact ⟨va, vc, e, owns_stc h0 (by omega) o x⟩
  | 6, h => exact h
  | 7, _ => trivial
  | 8, h => exact h
  | n + 9, _ => trivial
theorem Tryz.infoAct : (Tryz.prog.info? 47).map (·.size) = some 8 := by kernel_rfl
theorem Tryz.infoSgt : (Tryz.prog.info? 58).map (·.size) = some 24 := by kernel_rfl

set_option maxRecDepth 8000 in
set_option maxHeartbeats 16000000 in
theorem replaceOld (K : SBk) (a0 a1 a2 : Option Addr) (c0 c1 c2 : Nat) (s : Sv) (n : Cn) (al : Option Addr) (cl : Nat) (L : List Cp) (lv : Int) (w : World) (h : SBkV w a0 a1 a2 K) (hasc : ascCp K.cps = true) (hlen : K.cps.length ≤ 200) (hs : 0 ≤ s.want ∧ s.want ≤ 10 ∧ 0 ≤ s.down ∧ s.down ≤ 10) (hov : 0 ≤ s.over ∧ s.over ≤ 10) (hnl : 0 ≤ n.live ∧ n.live ≤ 200) (hL : CpsV w al L) (hll : L.length ≤ 200) :
    Calls Tryz.prog 67 #[.agg #[.int .i64 K.now, .slice a0 K.svcs.length c0, .slice a1 K.cps.length c1, .slice a2 K.bts.length c2, .string s.nm, .int .i64 s.ver, .bool s.gone, .int .i64 s.image, .int .i64 s.want, .int .i64 s.down, .int .i64 s.over, .int .i64 s.next, .int .i64 s.per, .int .i64 s.least, .int .i64 s.most, .int .i64 s.load, .int .i64 s.cool, .int .i64 n.live, .int .i64 n.ready, .int .i64 n.old, .int .i64 n.failed, .int .i64 n.ending, .slice al L.length cl, .int .i64 lv], .func (.func 68) #[.agg #[.int .i64 K.now, .slice a0 K.svcs.length c0, .slice a1 K.cps.length c1, .slice a2 K.bts.length c2, .string s.nm, .int .i64 s.ver, .bool s.gone, .int .i64 s.image, .int .i64 s.want, .int .i64 s.down, .int .i64 s.over, .int .i64 s.next, .int .i64 s.per, .int .i64 s.least, .int .i64 s.most, .int .i64 s.load, .int .i64 s.cool, .int .i64 n.live, .int .i64 n.ready, .int .i64 n.old, .int .i64 n.failed, .int .i64 n.ending, .slice al L.length cl, .int .i64 lv]] #[]] w fun e w' => (∃ va vc, e = .returned (.tuple #[.agg #[.string ByteArray.empty, .int .i64 0, .int .i64 (rpl K s n L (fun c => (c.image != s.image))).1, .int .i64 0, .int .i64 0, .bool false, (.slice va ((rpl K s n L (fun c => (c.image != s.image))).2.1).length vc), .bool false], .bool (rpl K s n L (fun c => (c.image != s.image))).2.2]) ∧ w'.ownsRow w.heap.size 114 2 (.slice va ((rpl K s n L (fun c => (c.image != s.image))).2.1).length vc) ((rpl K s n L (fun c => (c.image != s.image))).2.1).length (((rpl K s n L (fun c => (c.image != s.image))).2.1).flatMap EnC)) ∧ Below w.heap.size w w' := by
  have HH := hid h
  have HAS := hid hasc
  have HLN := hid hlen
  have HS := hid hs
  clear h hasc hlen hs
  obtain ⟨ho0, ho1⟩ := hov
  obtain ⟨hn0, hn1⟩ := hnl
  have HL := hid hL
  have hw0 := HS.out.1
  have hw1 := HS.out.2.1
  clear hL
  obtain ⟨R, hR⟩ : ∃ R, R = rpl K s n L (fun c => (c.image != s.image)) := ⟨_, rfl⟩
  rw [← hR]
  have HE : Hid (R = if n.live < s.want then (0, [], false) else if n.live < s.want + s.over then (1, [], true) else (0, efE K s (L.filter fun c => (c.image != s.image) && mayGo K s c), decide (0 < (efE K s (L.filter fun c => (c.image != s.image) && mayGo K s c)).length))) := by show R = _; rw [hR, rpl]
  clear hR
  obtain ⟨wa, hwa⟩ : ∃ wa, wa = ((w.alloc (.cells #[.int .i64 K.now, .slice a0 K.svcs.length c0, .slice a1 K.cps.length c1, .slice a2 K.bts.length c2, .string s.nm, .int .i64 s.ver, .bool s.gone, .int .i64 s.image, .int .i64 s.want, .int .i64 s.down, .int .i64 s.over, .int .i64 s.next, .int .i64 s.per, .int .i64 s.least, .int .i64 s.most, .int .i64 s.load, .int .i64 s.cool, .int .i64 n.live, .int .i64 n.ready, .int .i64 n.old, .int .i64 n.failed, .int .i64 n.ending, .slice al L.length cl, .int .i64 lv] 58)).alloc (.cells #[.func (.func 68) #[.agg #[.int .i64 K.now, .slice a0 K.svcs.length c0, .slice a1 K.cps.length c1, .slice a2 K.bts.length c2, .string s.nm, .int .i64 s.ver, .bool s.gone, .int .i64 s.image, .int .i64 s.want, .int .i64 s.down, .int .i64 s.over, .int .i64 s.next, .int .i64 s.per, .int .i64 s.least, .int .i64 s.most, .int .i64 s.load, .int .i64 s.cool, .int .i64 n.live, .int .i64 n.ready, .int .i64 n.old, .int .i64 n.failed, .int .i64 n.ending, .slice al L.length cl, .int .i64 lv]] #[]] 103)).alloc (.cells #[.string { data := #[] }, .int .i64 0, .int .i64 0, .int .i64 0, .int .i64 0, .bool false, .slice none 0 0, .bool false] 47) := ⟨_, rfl⟩
  have HB : Hid (Below w.heap.size w wa) := by show Below _ _ _; rw [hwa]; exact blw_alloc (blw_alloc (blw_alloc (Below.refl _ _) _) _) _
  have HX : Hid (LBox wa w.heap.size [.int .i64 K.now, .slice a0 K.svcs.length c0, .slice a1 K.cps.length c1, .slice a2 K.bts.length c2, .string s.nm, .int .i64 s.ver, .bool s.gone, .int .i64 s.image, .int .i64 s.want, .int .i64 s.down, .int .i64 s.over, .int .i64 s.next, .int .i64 s.per, .int .i64 s.least, .int .i64 s.most, .int .i64 s.load, .int .i64 s.cool, .int .i64 n.live, .int .i64 n.ready, .int .i64 n.old, .int .i64 n.failed, .int .i64 n.ending, .slice al L.length cl, .int .i64 lv]) := by show LBox _ _ _; rw [hwa]; exact ((LBox.new w _ _ _ rfl).past _).past _
  have HF : Hid (LBox wa (w.heap.size + 1) [.func (.func 68) #[.agg #[.int .i64 K.now, .slice a0 K.svcs.length c0, .slice a1 K.cps.length c1, .slice a2 K.bts.length c2, .string s.nm, .int .i64 s.ver, .bool s.gone, .int .i64 s.image, .int .i64 s.want, .int .i64 s.down, .int .i64 s.over, .int .i64 s.next, .int .i64 s.per, .int .i64 s.least, .int .i64 s.most, .int .i64 s.load, .int .i64 s.cool, .int .i64 n.live, .int .i64 n.ready, .int .i64 n.old, .int .i64 n.failed, .int .i64 n.ending, .slice al L.length cl, .int .i64 lv]] #[]]) := by show LBox _ _ _; rw [hwa]; exact (LBox.new _ _ _ _ (by simp)).past _
  have HR : Hid (OwnBlk wa (w.heap.size + 2) 47 8) := by show OwnBlk _ _ _ _; rw [hwa]; exact OwnBlk.alloc_at2 _ _ _ _ _ rfl (by simp)
  have HZ : Hid (wa.heap.size = w.heap.size + 3) := by show _ = _; rw [hwa]; simp
  go_enter Tryz.func67, Tryz.ntmps67
  go_upto_region 1 with fail
  rw [← hwa]
  clear hwa
  obtain ⟨wb, hwb⟩ : ∃ wb, wb = wa.alloc (.cells #[.string s.nm, .int .i64 s.ver, .bool s.gone, .int .i64 s.image, .int .i64 s.want, .int .i64 s.down, .int .i64 s.over, .int .i64 s.next, .int .i64 s.per, .int .i64 s.least, .int .i64 s.most, .int .i64 s.load, .int .i64 s.cool] 50) := ⟨_, rfl⟩
  have hbb : Below wa.heap.size wa wb := by rw [hwb]; exact blw_alloc (Below.refl _ _) _
  have HSb : Hid (LBox wb (w.heap.size + 3) [.string s.nm, .int .i64 s.ver, .bool s.gone, .int .i64 s.image, .int .i64 s.want, .int .i64 s.down, .int .i64 s.over, .int .i64 s.next, .int .i64 s.per, .int .i64 s.least, .int .i64 s.most, .int .i64 s.load, .int .i64 s.cool]) := by show LBox _ _ _; rw [hwb]; exact LBox.new _ _ _ _ HZ.out.symm
  have HZb : Hid (wb.heap.size = w.heap.size + 4) := by show _ = _; rw [hwb]; simp [HZ.out]
  have hmid := HX.out.mid (xs := [.int .i64 K.now, .slice a0 K.svcs.length c0, .slice a1 K.cps.length c1, .slice a2 K.bts.length c2]) (bs := [.string s.nm, .int .i64 s.ver, .bool s.gone, .int .i64 s.image, .int .i64 s.want, .int .i64 s.down, .int .i64 s.over, .int .i64 s.next, .int .i64 s.per, .int .i64 s.least, .int .i64 s.most, .int .i64 s.load, .int .i64 s.cool]) (ds := [.int .i64 n.live, .int .i64 n.ready, .int .i64 n.old, .int .i64 n.failed, .int .i64 n.ending, .slice al L.length cl, .int .i64 lv]) rfl
  have yz := HX.out.lt
  go_upto_region 2 with (refine wpList_load_mid rfl 50 _ rfl w.heap.size 4 rfl [.string s.nm, .int .i64 s.ver, .bool s.gone, .int .i64 s.image, .int .i64 s.want, .int .i64 s.down, .int .i64 s.over, .int .i64 s.next, .int .i64 s.per, .int .i64 s.least, .int .i64 s.most, .int .i64 s.load, .int .i64 s.cool] _ hmid Tryz.underlying50 rfl (by kernel_rfl) ?_)
  obtain ⟨G, hG⟩ : ∃ G : Value, G = .agg #[.int .i64 K.now, .slice a0 K.svcs.length c0, .slice a1 K.cps.length c1, .slice a2 K.bts.length c2, .string s.nm, .int .i64 s.ver, .bool s.gone, .int .i64 s.image, .int .i64 s.want, .int .i64 s.down, .int .i64 s.over, .int .i64 s.next, .int .i64 s.per, .int .i64 s.least, .int .i64 s.most, .int .i64 s.load, .int .i64 s.cool, .int .i64 n.live, .int .i64 n.ready, .int .i64 n.old, .int .i64 n.failed, .int .i64 n.ending, .slice al L.length cl, .int .i64 lv] := ⟨_, rfl⟩
  have hz3 : w.heap.size + 1 + 1 + 1 = wa.heap.size := by rw [HZ.out]
  rw [← hwb, ← hG]
  have HG := hid hG
  have HBb := hid (blw_trans HB.out hbb)
  have HXb := hid (HX.out.later hbb)
  have HFb := hid (HF.out.later hbb)
  have HRb := hid (HR.out.later hbb)
  have hzb := HZb.out
  clear hwb hG hbb hmid yz HX HF HR HB
  have yz := HXb.out.lt
  have y17 := HXb.out.get 17 _ rfl
  have tz := HSb.out.lt
  have t4 := HSb.out.get 4 _ rfl
  have t6 := HSb.out.get 6 _ rfl
  rw [HZ.out]
  clear hz3 HZ
  by_cases q1 : n.live < s.want
  · have HN : Hid (R = (0, [], false)) := by show R = _; rw [HE.out, if_pos q1]
    clear HE
    have hth := RY.own_there HRb.out
    have hrt : World.rangeAt (wb.setCells (w.heap.size + 2) 0 [.string ByteArray.empty, .int .i64 0, .int .i64 0, .int .i64 0, .int .i64 0, .bool false, .slice none 0 0, .bool false]) (w.heap.size + 2) 0 [.string ByteArray.empty, .int .i64 0, .int .i64 0, .int .i64 0, .int .i64 0, .bool false, .slice none 0 0, .bool false] := World.rangeAt_setCells_same _ _ _ _ hth
    go_wp2_with (refine wpList_store_mid rfl 47 _ _ rfl (w.heap.size + 2) 0 #[.string ByteArray.empty, .int .i64 0, .int .i64 0, .int .i64 0, .int .i64 0, .bool false, .slice none 0 0, .bool false] rfl rfl hth (by kernel_rfl) (by simp [Value.oneCell']) ?_)
    refine bodyPost_ret (v := .tuple #[.agg #[.string ByteArray.empty, .int .i64 0, .int .i64 0, .int .i64 0, .int .i64 0, .bool false, .slice none 0 0, .bool false], .bool false]) (by simp [results, Tryz.results67, asAddr, run_loadVar_mid (P := Tryz.prog) _ _ _ 47 [.string ByteArray.empty, .int .i64 0, .int .i64 0, .int .i64 0, .int .i64 0, .bool false, .slice none 0 0, .bool false] _ hrt Tryz.underlying47 rfl (by kernel_rfl)]) rfl ?_
    rw [HN.out]
    exact ⟨⟨none, 0, rfl, owns_nil _ _ _ _⟩, setCells_below HBb.out (by omega) _ _⟩
  by_cases q2 : n.live < s.want + s.over
  · have HN : Hid (R = (1, [], true)) := by show R = _; rw [HE.out, if_neg q1, if_pos q2]
    clear HE
    have hth := RY.own_there HRb.out
    have hrt : World.rangeAt (wb.setCells (w.heap.size + 2) 0 [.string ByteArray.empty, .int .i64 0, .int .i64 1, .int .i64 0, .int .i64 0, .bool false, .slice none 0 0, .bool false]) (w.heap.size + 2) 0 [.string ByteArray.empty, .int .i64 0, .int .i64 1, .int .i64 0, .int .i64 0, .bool false, .slice none 0 0, .bool false] := World.rangeAt_setCells_same _ _ _ _ hth
    go_wp2_with (refine wpList_store_mid rfl 47 _ _ rfl (w.heap.size + 2) 0 #[.string ByteArray.empty, .int .i64 0, .int .i64 1, .int .i64 0, .int .i64 0, .bool false, .slice none 0 0, .bool false] rfl rfl hth (by kernel_rfl) (by simp [Value.oneCell']) ?_)
    refine bodyPost_ret (v := .tuple #[.agg #[.string ByteArray.empty, .int .i64 0, .int .i64 1, .int .i64 0, .int .i64 0, .bool false, .slice none 0 0, .bool false], .bool true]) (by simp [results, Tryz.results67, asAddr, run_loadVar_mid (P := Tryz.prog) _ _ _ 47 [.string ByteArray.empty, .int .i64 0, .int .i64 1, .int .i64 0, .int .i64 0, .bool false, .slice none 0 0, .bool false] _ hrt Tryz.underlying47 rfl (by kernel_rfl)]) rfl ?_
    rw [HN.out]
    exact ⟨⟨none, 0, rfl, owns_nil _ _ _ _⟩, setCells_below HBb.out (by omega) _ _⟩
  obtain ⟨M, hM⟩ : ∃ M, M = (L.filter fun c => (c.image != s.image) && mayGo K s c) := ⟨_, rfl⟩
  obtain ⟨E, hE⟩ : ∃ E, E = efE K s M := ⟨_, rfl⟩
  have HN : Hid (R = (0, E, decide (0 < E.length))) := by show R = _; rw [HE.out, if_neg q1, if_neg q2, ← hM, ← hE]
  have HM := hid hM
  have HEE := hid hE
  have HML : Hid (M.length ≤ 200) := by show _ ≤ _; rw [hM]; exact Nat.le_trans (List.length_filter_le _ _) hll
  have HMS : Hid (∀ c ∈ M, c.sized) := by intro c hc; rw [hM] at hc; exact HL.out.mem c (List.mem_filter.1 hc).1
  clear HE hM hE
  go_upto_region 6 with fail
  refine RY.region_put (VRq w.heap.size G M E) (VRq_mono w.heap.size G M E) 5 7 31 4 47 8 (w.heap.size + 2) (VRq_sc w.heap.size G M E) (by kernel_rfl) (by kernel_rfl) (by kernel_rfl) (by kernel_rfl) _ _ rfl rfl rfl rfl rfl (by decide) (by kernel_rfl) rfl (by kernel_rfl) HRb.out Tryz.infoAct ?_ ?_ ?_
  · rintro u W ⟨va, vc, rfl, h0⟩
    exact ⟨[_, _, _, _, _, _, _, _], rfl, rfl, by simp [Value.oneCell']⟩
  · intro i o ho hne a W hW hk hd
    have hBW : Below w.heap.size w W := hW.below HBb.out (by omega)
    have hsz : w.heap.size + 4 ≤ W.heap.size := by have := hW.size; omega
    have hXW := range_bx HXb.out hW (by omega)
    have hFW := range_bx HFb.out hW (by omega)
    have et2 : a.eval (.tmp 2) = .pointer (some ⟨w.heap.size, 0, none⟩) := (hk 2 (by kernel_rfl)).trans rfl
    have et3 : a.tmps[3]?.getD undef = .pointer (some ⟨w.heap.size + 1, 0, none⟩) := (RY.ev_tmp a 3).trans ((hk 3 (by kernel_rfl)).trans rfl)
    match i, ho with
    | 0, ho =>
      injection ho with ho; subst ho
      exact Or.inl ⟨_, W, exec_loadM 58 (.tmp 2) rfl w.heap.size 0 et2 _ _ hXW.at_ Tryz.underlying58 rfl Tryz.infoSgt, Below.refl _ _, HG.out.symm⟩
    | 1, ho =>
      injection ho with ho; subst ho
      exact Or.inl ⟨_, W, exec_loadM 58 (.tmp 2) rfl w.heap.size 0 et2 _ _ hXW.at_ Tryz.underlying58 rfl Tryz.infoSgt, Below.refl _ _, HG.out.symm⟩
    | 2, ho =>
      injection ho with ho; subst ho
      exact Or.inl ⟨_, W, by simp [execOp, go_sem, et3, (RY.ev_tmp a 2).trans et2], Below.refl _ _, rfl⟩
    | 3, ho =>
      injection ho with ho; subst ho
      have e0 : a.tmps[27]?.getD undef = _ := (RY.ev_tmp a 27).trans (hd 1 _ 27 rfl rfl ⟨⟨1, .data⟩, by simp, rfl, rfl⟩)
      have e1 : a.tmps[28]?.getD undef = _ := (RY.ev_tmp a 28).trans (hd 2 _ 28 rfl rfl ⟨⟨2, .data⟩, by simp, rfl, rfl⟩)
      refine Or.inr ⟨64, #[G, .func (.func 102) #[] #[.pointer (some ⟨w.heap.size + 1, 0, none⟩), .pointer (some ⟨w.heap.size, 0, none⟩)]], by simp [go_sem, e0, e1], ?_⟩
      rw [HG.out]
      refine (liveThatBoth K a0 a1 a2 c0 c1 c2 s n al cl L lv (w.heap.size + 1) w.heap.size (fun c => (c.image != s.image) && mayGo K s c) W (HL.out.later hBW) (by omega) (fun c W' hW' => bothOld K a0 a1 a2 c0 c1 c2 s n al cl L lv c (w.heap.size + 1) w.heap.size W' (HH.out.later (blw_trans hBW hW')) HAS.out HLN.out HS.out (hXW.later hW') ((hFW.later hW').lt) ((hFW.later hW').get 0 _ rfl))).mono ?_
      rintro e W' ⟨⟨v, rfl, ho⟩, hb⟩
      rw [← HM.out] at ho
      exact ⟨_, rfl, hb, owns_base ho hsz⟩
    | 4, ho =>
      injection ho with ho; subst ho
      have e0 : a.tmps[26]?.getD undef = _ := (RY.ev_tmp a 26).trans (hd 0 _ 26 rfl rfl ⟨⟨0, .data⟩, by simp, rfl, rfl⟩)
      have o1 := hd 3 _ 29 rfl rfl ⟨⟨3, .data⟩, by simp, rfl, rfl⟩
      obtain ⟨am, cm, e1', hCM⟩ := owns_Cps o1 (fun i hi => HMS.out _ (by have e : M.getD i Cp.none = M[i] := by simp [hi]
                                                                          rw [e]; exact List.getElem_mem _)) (by have := HML.out; unfold maxLen; omega)
      have e1 := (RY.ev_tmp a 29).trans e1'
      refine Or.inr ⟨66, #[G, .slice am M.length cm], by simp [go_sem, e0, e1], ?_⟩
      rw [HG.out]
      refine (endFirstI K a0 a1 a2 c0 c1 c2 s n al cl L lv M am cm W (HH.out.later hBW) HAS.out HLN.out HS.out hCM (by have := HML.out; omega)).mono ?_
      rintro e W' ⟨⟨va, vc, rfl, ho⟩, hb⟩
      rw [← HEE.out] at ho ⊢
      exact ⟨_, rfl, hb, va, vc, rfl, owns_base ho hsz⟩
    | 5, ho =>
      injection ho with ho; subst ho
      obtain ⟨va, vc, e0', h0⟩ := hd 4 _ 30 rfl rfl ⟨⟨4, .data⟩, by simp, rfl, rfl⟩
      have e0 := (RY.ev_tmp a 30).trans e0'
      exact Or.inl ⟨_, W, by simp [execOp, go_sem, e0], Below.refl _ _, va, vc, rfl, h0⟩
    | 6, ho =>
      injection ho with ho; subst ho
      obtain ⟨va, vc, e0', h0⟩ := hd 4 _ 30 rfl rfl ⟨⟨4, .data⟩, by simp, rfl, rfl⟩
      have e0 := (RY.ev_tmp a 30).trans e0'
      exact Or.inl ⟨_, W, by simp [execOp, go_sem, e0], Below.refl _ _, rfl⟩
    | 7, ho => exact absurd rfl hne
    | 8, ho =>
      injection ho with ho; subst ho
      have e0 : a.tmps[32]?.getD undef = _ := (RY.ev_tmp a 32).trans (hd 6 _ 32 rfl rfl ⟨⟨6, .data⟩, by simp, rfl, rfl⟩)
      exact Or.inl ⟨_, W, by simp [execOp, go_sem, e0], Below.refl _ _, rfl⟩
    | n + 9, ho => simp at ho
  intro W vs hW hvs hOw hrg
  obtain ⟨va, vc, e5, hro⟩ := hvs 5 _ 31 rfl rfl
  have e8 : vs 5 = .bool (decide (0 < E.length)) := hvs 8 _ 5 rfl rfl
  have hrt := hrg [.string ByteArray.empty, .int .i64 0, .int .i64 0, .int .i64 0, .int .i64 0, .bool false, (.slice va E.length vc), .bool false] e5
  have HB3 := hid (hW.below HBb.out (by omega))
  have HRO := hid hro
  simp only [RY.putAll, Act.put, List.setIfInBounds_toArray, List.set_cons_zero, List.set_cons_succ]
  rw [e8]
  clear hvs hrg e5 e8 hro hOw
  generalize vs 26 = z26
  generalize vs 27 = z27
  generalize vs 28 = z28
  generalize vs 29 = z29
  generalize vs 30 = z30
  generalize vs 31 = z31
  generalize vs 32 = z32
  go_wp2
  refine bodyPost_ret (v := .tuple #[.agg #[.string ByteArray.empty, .int .i64 0, .int .i64 0, .int .i64 0, .int .i64 0, .bool false, (.slice va E.length vc), .bool false], .bool (decide (0 < E.length))]) (by simp [results, Tryz.results67, asAddr, run_loadVar_mid (P := Tryz.prog) _ _ _ 47 [.string ByteArray.empty, .int .i64 0, .int .i64 0, .int .i64 0, .int .i64 0, .bool false, (.slice va E.length vc), .bool false] _ hrt Tryz.underlying47 rfl (by kernel_rfl)]) rfl ?_
  rw [HN.out]
  exact ⟨⟨va, vc, rfl, owns_base HRO.out (by omega)⟩, HB3.out⟩

set_option maxRecDepth 8000 in
set_option maxHeartbeats 16000000 in
theorem replaceLv (K : SBk) (a0 a1 a2 : Option Addr) (c0 c1 c2 : Nat) (s : Sv) (n : Cn) (al : Option Addr) (cl : Nat) (L : List Cp) (lv : Int) (w : World) (h : SBkV w a0 a1 a2 K) (hasc : ascCp K.cps = true) (hlen : K.cps.length ≤ 200) (hs : 0 ≤ s.want ∧ s.want ≤ 10 ∧ 0 ≤ s.down ∧ s.down ≤ 10) (hov : 0 ≤ s.over ∧ s.over ≤ 10) (hnl : 0 ≤ n.live ∧ n.live ≤ 200) (hL : CpsV w al L) (hll : L.length ≤ 200) :
    Calls Tryz.prog 67 #[.agg #[.int .i64 K.now, .slice a0 K.svcs.length c0, .slice a1 K.cps.length c1, .slice a2 K.bts.length c2, .string s.nm, .int .i64 s.ver, .bool s.gone, .int .i64 s.image, .int .i64 s.want, .int .i64 s.down, .int .i64 s.over, .int .i64 s.next, .int .i64 s.per, .int .i64 s.least, .int .i64 s.most, .int .i64 s.load, .int .i64 s.cool, .int .i64 n.live, .int .i64 n.ready, .int .i64 n.old, .int .i64 n.failed, .int .i64 n.ending, .slice al L.length cl, .int .i64 lv], .func (.func 65) #[.agg #[.int .i64 K.now, .slice a0 K.svcs.length c0, .slice a1 K.cps.length c1, .slice a2 K.bts.length c2, .string s.nm, .int .i64 s.ver, .bool s.gone, .int .i64 s.image, .int .i64 s.want, .int .i64 s.down, .int .i64 s.over, .int .i64 s.next, .int .i64 s.per, .int .i64 s.least, .int .i64 s.most, .int .i64 s.load, .int .i64 s.cool, .int .i64 n.live, .int .i64 n.ready, .int .i64 n.old, .int .i64 n.failed, .int .i64 n.ending, .slice al L.length cl, .int .i64 lv]] #[]] w fun e w' => (∃ va vc, e = .returned (.tuple #[.agg #[.string ByteArray.empty, .int .i64 0, .int .i64 (rpl K s n L (fun c => leaves K c)).1, .int .i64 0, .int .i64 0, .bool false, (.slice va ((rpl K s n L (fun c => leaves K c)).2.1).length vc), .bool false], .bool (rpl K s n L (fun c => leaves K c)).2.2]) ∧ w'.ownsRow w.heap.size 114 2 (.slice va ((rpl K s n L (fun c => leaves K c)).2.1).length vc) ((rpl K s n L (fun c => leaves K c)).2.1).length (((rpl K s n L (fun c => leaves K c)).2.1).flatMap EnC)) ∧ Below w.heap.size w w' := by
  have HH := hid h
  have HAS := hid hasc
  have HLN := hid hlen
  have HS := hid hs
  clear h hasc hlen hs
  obtain ⟨ho0, ho1⟩ := hov
  obtain ⟨hn0, hn1⟩ := hnl
  have HL := hid hL
  have hw0 := HS.out.1
  have hw1 := HS.out.2.1
  clear hL
  obtain ⟨R, hR⟩ : ∃ R, R = rpl K s n L (fun c => leaves K c) := ⟨_, rfl⟩
  rw [← hR]
  have HE : Hid (R = if n.live < s.want then (0, [], false) else if n.live < s.want + s.over then (1, [], true) else (0, efE K s (L.filter fun c => leaves K c && mayGo K s c), decide (0 < (efE K s (L.filter fun c => leaves K c && mayGo K s c)).length))) := by show R = _; rw [hR, rpl]
  clear hR
  obtain ⟨wa, hwa⟩ : ∃ wa, wa = ((w.alloc (.cells #[.int .i64 K.now, .slice a0 K.svcs.length c0, .slice a1 K.cps.length c1, .slice a2 K.bts.length c2, .string s.nm, .int .i64 s.ver, .bool s.gone, .int .i64 s.image, .int .i64 s.want, .int .i64 s.down, .int .i64 s.over, .int .i64 s.next, .int .i64 s.per, .int .i64 s.least, .int .i64 s.most, .int .i64 s.load, .int .i64 s.cool, .int .i64 n.live, .int .i64 n.ready, .int .i64 n.old, .int .i64 n.failed, .int .i64 n.ending, .slice al L.length cl, .int .i64 lv] 58)).alloc (.cells #[.func (.func 65) #[.agg #[.int .i64 K.now, .slice a0 K.svcs.length c0, .slice a1 K.cps.length c1, .slice a2 K.bts.length c2, .string s.nm, .int .i64 s.ver, .bool s.gone, .int .i64 s.image, .int .i64 s.want, .int .i64 s.down, .int .i64 s.over, .int .i64 s.next, .int .i64 s.per, .int .i64 s.least, .int .i64 s.most, .int .i64 s.load, .int .i64 s.cool, .int .i64 n.live, .int .i64 n.ready, .int .i64 n.old, .int .i64 n.failed, .int .i64 n.ending, .slice al L.length cl, .int .i64 lv]] #[]] 103)).alloc (.cells #[.string { data := #[] }, .int .i64 0, .int .i64 0, .int .i64 0, .int .i64 0, .bool false, .slice none 0 0, .bool false] 47) := ⟨_, rfl⟩
  have HB : Hid (Below w.heap.size w wa) := by show Below _ _ _; rw [hwa]; exact blw_alloc (blw_alloc (blw_alloc (Below.refl _ _) _) _) _
  have HX : Hid (LBox wa w.heap.size [.int .i64 K.now, .slice a0 K.svcs.length c0, .slice a1 K.cps.length c1, .slice a2 K.bts.length c2, .string s.nm, .int .i64 s.ver, .bool s.gone, .int .i64 s.image, .int .i64 s.want, .int .i64 s.down, .int .i64 s.over, .int .i64 s.next, .int .i64 s.per, .int .i64 s.least, .int .i64 s.most, .int .i64 s.load, .int .i64 s.cool, .int .i64 n.live, .int .i64 n.ready, .int .i64 n.old, .int .i64 n.failed, .int .i64 n.ending, .slice al L.length cl, .int .i64 lv]) := by show LBox _ _ _; rw [hwa]; exact ((LBox.new w _ _ _ rfl).past _).past _
  have HF : Hid (LBox wa (w.heap.size + 1) [.func (.func 65) #[.agg #[.int .i64 K.now, .slice a0 K.svcs.length c0, .slice a1 K.cps.length c1, .slice a2 K.bts.length c2, .string s.nm, .int .i64 s.ver, .bool s.gone, .int .i64 s.image, .int .i64 s.want, .int .i64 s.down, .int .i64 s.over, .int .i64 s.next, .int .i64 s.per, .int .i64 s.least, .int .i64 s.most, .int .i64 s.load, .int .i64 s.cool, .int .i64 n.live, .int .i64 n.ready, .int .i64 n.old, .int .i64 n.failed, .int .i64 n.ending, .slice al L.length cl, .int .i64 lv]] #[]]) := by show LBox _ _ _; rw [hwa]; exact (LBox.new _ _ _ _ (by simp)).past _
  have HR : Hid (OwnBlk wa (w.heap.size + 2) 47 8) := by show OwnBlk _ _ _ _; rw [hwa]; exact OwnBlk.alloc_at2 _ _ _ _ _ rfl (by simp)
  have HZ : Hid (wa.heap.size = w.heap.size + 3) := by show _ = _; rw [hwa]; simp
  go_enter Tryz.func67, Tryz.ntmps67
  go_upto_region 1 with fail
  rw [← hwa]
  clear hwa
  obtain ⟨wb, hwb⟩ : ∃ wb, wb = wa.alloc (.cells #[.string s.nm, .int .i64 s.ver, .bool s.gone, .int .i64 s.image, .int .i64 s.want, .int .i64 s.down, .int .i64 s.over, .int .i64 s.next, .int .i64 s.per, .int .i64 s.least, .int .i64 s.most, .int .i64 s.load, .int .i64 s.cool] 50) := ⟨_, rfl⟩
  have hbb : Below wa.heap.size wa wb := by rw [hwb]; exact blw_alloc (Below.refl _ _) _
  have HSb : Hid (LBox wb (w.heap.size + 3) [.string s.nm, .int .i64 s.ver, .bool s.gone, .int .i64 s.image, .int .i64 s.want, .int .i64 s.down, .int .i64 s.over, .int .i64 s.next, .int .i64 s.per, .int .i64 s.least, .int .i64 s.most, .int .i64 s.load, .int .i64 s.cool]) := by show LBox _ _ _; rw [hwb]; exact LBox.new _ _ _ _ HZ.out.symm
  have HZb : Hid (wb.heap.size = w.heap.size + 4) := by show _ = _; rw [hwb]; simp [HZ.out]
  have hmid := HX.out.mid (xs := [.int .i64 K.now, .slice a0 K.svcs.length c0, .slice a1 K.cps.length c1, .slice a2 K.bts.length c2]) (bs := [.string s.nm, .int .i64 s.ver, .bool s.gone, .int .i64 s.image, .int .i64 s.want, .int .i64 s.down, .int .i64 s.over, .int .i64 s.next, .int .i64 s.per, .int .i64 s.least, .int .i64 s.most, .int .i64 s.load, .int .i64 s.cool]) (ds := [.int .i64 n.live, .int .i64 n.ready, .int .i64 n.old, .int .i64 n.failed, .int .i64 n.ending, .slice al L.length cl, .int .i64 lv]) rfl
  have yz := HX.out.lt
  go_upto_region 2 with (refine wpList_load_mid rfl 50 _ rfl w.heap.size 4 rfl [.string s.nm, .int .i64 s.ver, .bool s.gone, .int .i64 s.image, .int .i64 s.want, .int .i64 s.down, .int .i64 s.over, .int .i64 s.next, .int .i64 s.per, .int .i64 s.least, .int .i64 s.most, .int .i64 s.load, .int .i64 s.cool] _ hmid Tryz.underlying50 rfl (by kernel_rfl) ?_)
  obtain ⟨G, hG⟩ : ∃ G : Value, G = .agg #[.int .i64 K.now, .slice a0 K.svcs.length c0, .slice a1 K.cps.length c1, .slice a2 K.bts.length c2, .string s.nm, .int .i64 s.ver, .bool s.gone, .int .i64 s.image, .int .i64 s.want, .int .i64 s.down, .int .i64 s.over, .int .i64 s.next, .int .i64 s.per, .int .i64 s.least, .int .i64 s.most, .int .i64 s.load, .int .i64 s.cool, .int .i64 n.live, .int .i64 n.ready, .int .i64 n.old, .int .i64 n.failed, .int .i64 n.ending, .slice al L.length cl, .int .i64 lv] := ⟨_, rfl⟩
  have hz3 : w.heap.size + 1 + 1 + 1 = wa.heap.size := by rw [HZ.out]
  rw [← hwb, ← hG]
  have HG := hid hG
  have HBb := hid (blw_trans HB.out hbb)
  have HXb := hid (HX.out.later hbb)
  have HFb := hid (HF.out.later hbb)
  have HRb := hid (HR.out.later hbb)
  have hzb := HZb.out
  clear hwb hG hbb hmid yz HX HF HR HB
  have yz := HXb.out.lt
  have y17 := HXb.out.get 17 _ rfl
  have tz := HSb.out.lt
  have t4 := HSb.out.get 4 _ rfl
  have t6 := HSb.out.get 6 _ rfl
  rw [HZ.out]
  clear hz3 HZ
  by_cases q1 : n.live < s.want
  · have HN : Hid (R = (0, [], false)) := by show R = _; rw [HE.out, if_pos q1]
    clear HE
    have hth := RY.own_there HRb.out
    have hrt : World.rangeAt (wb.setCells (w.heap.size + 2) 0 [.string ByteArray.empty, .int .i64 0, .int .i64 0, .int .i64 0, .int .i64 0, .bool false, .slice none 0 0, .bool false]) (w.heap.size + 2) 0 [.string ByteArray.empty, .int .i64 0, .int .i64 0, .int .i64 0, .int .i64 0, .bool false, .slice none 0 0, .bool false] := World.rangeAt_setCells_same _ _ _ _ hth
    go_wp2_with (refine wpList_store_mid rfl 47 _ _ rfl (w.heap.size + 2) 0 #[.string ByteArray.empty, .int .i64 0, .int .i64 0, .int .i64 0, .int .i64 0, .bool false, .slice none 0 0, .bool false] rfl rfl hth (by kernel_rfl) (by simp [Value.oneCell']) ?_)
    refine bodyPost_ret (v := .tuple #[.agg #[.string ByteArray.empty, .int .i64 0, .int .i64 0, .int .i64 0, .int .i64 0, .bool false, .slice none 0 0, .bool false], .bool false]) (by simp [results, Tryz.results67, asAddr, run_loadVar_mid (P := Tryz.prog) _ _ _ 47 [.string ByteArray.empty, .int .i64 0, .int .i64 0, .int .i64 0, .int .i64 0, .bool false, .slice none 0 0, .bool false] _ hrt Tryz.underlying47 rfl (by kernel_rfl)]) rfl ?_
    rw [HN.out]
    exact ⟨⟨none, 0, rfl, owns_nil _ _ _ _⟩, setCells_below HBb.out (by omega) _ _⟩
  by_cases q2 : n.live < s.want + s.over
  · have HN : Hid (R = (1, [], true)) := by show R = _; rw [HE.out, if_neg q1, if_pos q2]
    clear HE
    have hth := RY.own_there HRb.out
    have hrt : World.rangeAt (wb.setCells (w.heap.size + 2) 0 [.string ByteArray.empty, .int .i64 0, .int .i64 1, .int .i64 0, .int .i64 0, .bool false, .slice none 0 0, .bool false]) (w.heap.size + 2) 0 [.string ByteArray.empty, .int .i64 0, .int .i64 1, .int .i64 0, .int .i64 0, .bool false, .slice none 0 0, .bool false] := World.rangeAt_setCells_same _ _ _ _ hth
    go_wp2_with (refine wpList_store_mid rfl 47 _ _ rfl (w.heap.size + 2) 0 #[.string ByteArray.empty, .int .i64 0, .int .i64 1, .int .i64 0, .int .i64 0, .bool false, .slice none 0 0, .bool false] rfl rfl hth (by kernel_rfl) (by simp [Value.oneCell']) ?_)
    refine bodyPost_ret (v := .tuple #[.agg #[.string ByteArray.empty, .int .i64 0, .int .i64 1, .int .i64 0, .int .i64 0, .bool false, .slice none 0 0, .bool false], .bool true]) (by simp [results, Tryz.results67, asAddr, run_loadVar_mid (P := Tryz.prog) _ _ _ 47 [.string ByteArray.empty, .int .i64 0, .int .i64 1, .int .i64 0, .int .i64 0, .bool false, .slice none 0 0, .bool false] _ hrt Tryz.underlying47 rfl (by kernel_rfl)]) rfl ?_
    rw [HN.out]
    exact ⟨⟨none, 0, rfl, owns_nil _ _ _ _⟩, setCells_below HBb.out (by omega) _ _⟩
  obtain ⟨M, hM⟩ : ∃ M, M = (L.filter fun c => leaves K c && mayGo K s c) := ⟨_, rfl⟩
  obtain ⟨E, hE⟩ : ∃ E, E = efE K s M := ⟨_, rfl⟩
  have HN : Hid (R = (0, E, decide (0 < E.length))) := by show R = _; rw [HE.out, if_neg q1, if_neg q2, ← hM, ← hE]
  have HM := hid hM
  have HEE := hid hE
  have HML : Hid (M.length ≤ 200) := by show _ ≤ _; rw [hM]; exact Nat.le_trans (List.length_filter_le _ _) hll
  have HMS : Hid (∀ c ∈ M, c.sized) := by intro c hc; rw [hM] at hc; exact HL.out.mem c (List.mem_filter.1 hc).1
  clear HE hM hE
  go_upto_region 6 with fail
  refine RY.region_put (VRq w.heap.size G M E) (VRq_mono w.heap.size G M E) 5 7 31 4 47 8 (w.heap.size + 2) (VRq_sc w.heap.size G M E) (by kernel_rfl) (by kernel_rfl) (by kernel_rfl) (by kernel_rfl) _ _ rfl rfl rfl rfl rfl (by decide) (by kernel_rfl) rfl (by kernel_rfl) HRb.out Tryz.infoAct ?_ ?_ ?_
  · rintro u W ⟨va, vc, rfl, h0⟩
    exact ⟨[_, _, _, _, _, _, _, _], rfl, rfl, by simp [Value.oneCell']⟩
  · intro i o ho hne a W hW hk hd
    have hBW : Below w.heap.size w W := hW.below HBb.out (by omega)
    have hsz : w.heap.size + 4 ≤ W.heap.size := by have := hW.size; omega
    have hXW := range_bx HXb.out hW (by omega)
    have hFW := range_bx HFb.out hW (by omega)
    have et2 : a.eval (.tmp 2) = .pointer (some ⟨w.heap.size, 0, none⟩) := (hk 2 (by kernel_rfl)).trans rfl
    have et3 : a.tmps[3]?.getD undef = .pointer (some ⟨w.heap.size + 1, 0, none⟩) := (RY.ev_tmp a 3).trans ((hk 3 (by kernel_rfl)).trans rfl)
    match i, ho with
    | 0, ho =>
      injection ho with ho; subst ho
      exact Or.inl ⟨_, W, exec_loadM 58 (.tmp 2) rfl w.heap.size 0 et2 _ _ hXW.at_ Tryz.underlying58 rfl Tryz.infoSgt, Below.refl _ _, HG.out.symm⟩
    | 1, ho =>
      injection ho with ho; subst ho
      exact Or.inl ⟨_, W, exec_loadM 58 (.tmp 2) rfl w.heap.size 0 et2 _ _ hXW.at_ Tryz.underlying58 rfl Tryz.infoSgt, Below.refl _ _, HG.out.symm⟩
    | 2, ho =>
      injection ho with ho; subst ho
      exact Or.inl ⟨_, W, by simp [execOp, go_sem, et3, (RY.ev_tmp a 2).trans et2], Below.refl _ _, rfl⟩
    | 3, ho =>
      injection ho with ho; subst ho
      have e0 : a.tmps[27]?.getD undef = _ := (RY.ev_tmp a 27).trans (hd 1 _ 27 rfl rfl ⟨⟨1, .data⟩, by simp, rfl, rfl⟩)
      have e1 : a.tmps[28]?.getD undef = _ := (RY.ev_tmp a 28).trans (hd 2 _ 28 rfl rfl ⟨⟨2, .data⟩, by simp, rfl, rfl⟩)
      refine Or.inr ⟨64, #[G, .func (.func 102) #[] #[.pointer (some ⟨w.heap.size + 1, 0, none⟩), .pointer (some ⟨w.heap.size, 0, none⟩)]], by simp [go_sem, e0, e1], ?_⟩
      rw [HG.out]
      refine (liveThatBoth K a0 a1 a2 c0 c1 c2 s n al cl L lv (w.heap.size + 1) w.heap.size (fun c => leaves K c && mayGo K s c) W (HL.out.later hBW) (by omega) (fun c W' hW' => bothLv K a0 a1 a2 c0 c1 c2 s n al cl L lv c (w.heap.size + 1) w.heap.size W' (HH.out.later (blw_trans hBW hW')) HAS.out HLN.out HS.out (hXW.later hW') ((hFW.later hW').lt) ((hFW.later hW').get 0 _ rfl))).mono ?_
      rintro e W' ⟨⟨v, rfl, ho⟩, hb⟩
      rw [← HM.out] at ho
      exact ⟨_, rfl, hb, owns_base ho hsz⟩
    | 4, ho =>
      injection ho with ho; subst ho
      have e0 : a.tmps[26]?.getD undef = _ := (RY.ev_tmp a 26).trans (hd 0 _ 26 rfl rfl ⟨⟨0, .data⟩, by simp, rfl, rfl⟩)
      have o1 := hd 3 _ 29 rfl rfl ⟨⟨3, .data⟩, by simp, rfl, rfl⟩
      obtain ⟨am, cm, e1', hCM⟩ := owns_Cps o1 (fun i hi => HMS.out _ (by have e : M.getD i Cp.none = M[i] := by simp [hi]
                                                                          rw [e]; exact List.getElem_mem _)) (by have := HML.out; unfold maxLen; omega)
      have e1 := (RY.ev_tmp a 29).trans e1'
      refine Or.inr ⟨66, #[G, .slice am M.length cm], by simp [go_sem, e0, e1], ?_⟩
      rw [HG.out]
      refine (endFirstI K a0 a1 a2 c0 c1 c2 s n al cl L lv M am cm W (HH.out.later hBW) HAS.out HLN.out HS.out hCM (by have := HML.out; omega)).mono ?_
      rintro e W' ⟨⟨va, vc, rfl, ho⟩, hb⟩
      rw [← HEE.out] at ho ⊢
      exact ⟨_, rfl, hb, va, vc, rfl, owns_base ho hsz⟩
    | 5, ho =>
      injection ho with ho; subst ho
      obtain ⟨va, vc, e0', h0⟩ := hd 4 _ 30 rfl rfl ⟨⟨4, .data⟩, by simp, rfl, rfl⟩
      have e0 := (RY.ev_tmp a 30).trans e0'
      exact Or.inl ⟨_, W, by simp [execOp, go_sem, e0], Below.refl _ _, va, vc, rfl, h0⟩
    | 6, ho =>
      injection ho with ho; subst ho
      obtain ⟨va, vc, e0', h0⟩ := hd 4 _ 30 rfl rfl ⟨⟨4, .data⟩, by simp, rfl, rfl⟩
      have e0 := (RY.ev_tmp a 30).trans e0'
      exact Or.inl ⟨_, W, by simp [execOp, go_sem, e0], Below.refl _ _, rfl⟩
    | 7, ho => exact absurd rfl hne
    | 8, ho =>
      injection ho with ho; subst ho
      have e0 : a.tmps[32]?.getD undef = _ := (RY.ev_tmp a 32).trans (hd 6 _ 32 rfl rfl ⟨⟨6, .data⟩, by simp, rfl, rfl⟩)
      exact Or.inl ⟨_, W, by simp [execOp, go_sem, e0], Below.refl _ _, rfl⟩
    | n + 9, ho => simp at ho
  intro W vs hW hvs hOw hrg
  obtain ⟨va, vc, e5, hro⟩ := hvs 5 _ 31 rfl rfl
  have e8 : vs 5 = .bool (decide (0 < E.length)) := hvs 8 _ 5 rfl rfl
  have hrt := hrg [.string ByteArray.empty, .int .i64 0, .int .i64 0, .int .i64 0, .int .i64 0, .bool false, (.slice va E.length vc), .bool false] e5
  have HB3 := hid (hW.below HBb.out (by omega))
  have HRO := hid hro
  simp only [RY.putAll, Act.put, List.setIfInBounds_toArray, List.set_cons_zero, List.set_cons_succ]
  rw [e8]
  clear hvs hrg e5 e8 hro hOw
  generalize vs 26 = z26
  generalize vs 27 = z27
  generalize vs 28 = z28
  generalize vs 29 = z29
  generalize vs 30 = z30
  generalize vs 31 = z31
  generalize vs 32 = z32
  go_wp2
  refine bodyPost_ret (v := .tuple #[.agg #[.string ByteArray.empty, .int .i64 0, .int .i64 0, .int .i64 0, .int .i64 0, .bool false, (.slice va E.length vc), .bool false], .bool (decide (0 < E.length))]) (by simp [results, Tryz.results67, asAddr, run_loadVar_mid (P := Tryz.prog) _ _ _ 47 [.string ByteArray.empty, .int .i64 0, .int .i64 0, .int .i64 0, .int .i64 0, .bool false, (.slice va E.length vc), .bool false] _ hrt Tryz.underlying47 rfl (by kernel_rfl)]) rfl ?_
  rw [HN.out]
  exact ⟨⟨va, vc, rfl, owns_base HRO.out (by omega)⟩, HB3.out⟩

end Go.Proofs.YtamhfnlogldpaaaGreat
