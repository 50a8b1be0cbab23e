/-
  The sea, by the program: a wish.
-/
import Derived.Test.YtclagbakddkjcaaGreatChF
namespace Go.Proofs.YtclagbakddkjcaaGreat
open Go.RowKit Go.Deep

def T1o (R : World) (g : Nat) (O : World → Prop) (s : Nat) (up : Nat → Bool) (_ : Nat → Value) (W : World) : Prop := BelX g R W ∧ (up s = false → W.heap[g]? = R.heap[g]?) ∧ (up s = true → O W)
theorem owns_belx2 {R W : World} {lo g : Nat} {e : TypeId} {size : Nat} {v : Value} {n : Nat} {xs : List Value} (h : R.ownsRow lo e size v n xs) (hx : BelX g R W) (hg : W.heap[g]? = R.heap[g]?) : W.ownsRow lo e size v n xs := by
  refine ⟨h.1, h.2.imp id ?_⟩
  rintro ⟨g', cap, cur, h1, h2, h3, h4⟩
  by_cases e : g' = g
  · subst e; exact ⟨g', cap, cur, h1, h2, hg.trans h3, h4⟩
  · exact ⟨g', cap, cur, h1, h2, (hx.block g' (lt_heap h3) e).trans h3, h4⟩
/-- Behind what turns the variable and its row of services. -/
theorem XG.svsY {lo px : Nat} {t : TypeId} {ex : List Value} {W W' : World} {now : Int} {sv : List Sv} {cp : List Cp} {bt : List Bt} {p0 p1 p2 : Option Addr} {n0 n1 n2 q0 q1 q2 : Nat} (h : XG lo px t ex W now sv cp bt p0 p1 p2 n0 n1 n2 q0 q1 q2) (hY : BelY px p0 W W') {sv' : List Sv} {p0' : Option Addr} {n0' q0' : Nat} (hb : W'.heap[px]? = some (.cells (.int .i64 now :: .slice p0' n0' q0' :: .slice p1 n1 q1 :: .slice p2 n2 q2 :: ex).toArray t (0, 0))) (ho : W'.ownsRow lo 41 13 (.slice p0' n0' q0') n0' (sv'.flatMap SvC)) (hl : sv'.length = n0') (hz : ∀ i, i < sv'.length → (sv'.getD i Sv.none).sized) (hm : n0' ≤ 1048576) : XG lo px t ex W' now sv' cp bt p0' p1 p2 n0' n1 n2 q0' q1 q2 :=
  ⟨h.nr, hb, ho, owns_bely h.o1 hY h.bx h.nr.2.1 (fun g e => (owns_typ h.o0 g e).2) t_cs, owns_bely h.o2 hY h.bx h.nr.2.2 (fun g e => (owns_typ h.o0 g e).2) t_bs, hl, h.l1, h.l2, hz, h.z1, h.z2, hm, h.m1, h.m2⟩
def V57 (px : Nat) (s : Sv) (sv : List Sv) (p0 : Option Addr) (q0 : Nat) (i : Nat) (u : Value) (_ : World) : Prop := match i with
  | 0 => u = .pointer (some ⟨px, 0, none⟩)
  | 1 => u = .pointer (some ⟨px, 0, none⟩)
  | 2 => u = .pointer (some ⟨px, 0, none⟩)
  | 3 => u = .pointer (some ⟨px, 0, none⟩)
  | 4 => u = .pointer (some ⟨px, 1, none⟩)
  | 5 => u = .slice p0 sv.length q0
  | 6 => u = .agg #[.string s.nm, .int .i64 s.ver, .bool s.gone, .int .i64 s.image, .int .i64 s.want, .int .i64 s.down, .int .i64 s.over, .int .i64 s.next, .int .i64 s.per, .int .i64 s.least, .int .i64 s.most, .int .i64 s.load, .int .i64 s.cool]
  | 7 => u = .tuple #[.int .i64 (posS sv s.nm : Nat), .bool (decide (posS sv s.nm < sv.length) && same (sv.getD (posS sv s.nm) Sv.none).nm s.nm)]
  | 8 => u = .tuple #[.int .i64 (posS sv s.nm : Nat), .bool (decide (posS sv s.nm < sv.length) && same (sv.getD (posS sv s.nm) Sv.none).nm s.nm)]
  | 9 => u = .int .i64 (posS sv s.nm : Nat)
  | 10 => u = .bool (decide (posS sv s.nm < sv.length) && same (sv.getD (posS sv s.nm) Sv.none).nm s.nm)
  | 11 => u = .int .i64 (posS sv s.nm : Nat)
  | 12 => u = .bool (decide (posS sv s.nm < sv.length) && same (sv.getD (posS sv s.nm) Sv.none).nm s.nm)
  | _ => True

def V57s (px g k : Nat) (s : Sv) (n0 q0 : Nat) : Nat → Value → Prop
  | 0, u => u = .pointer (some ⟨px, 0, none⟩)
  | 1, u => u = .pointer (some ⟨px, 0, none⟩)
  | 2, u => u = .pointer (some ⟨px, 0, none⟩)
  | 3, u => u = .pointer (some ⟨px, 0, none⟩)
  | 4, u => u = .pointer (some ⟨px, 1, none⟩)
  | 5, u => u = .slice (some ⟨g, 0, none⟩) n0 q0
  | 6, u => u = .int .i64 (k : Nat)
  | 7, u => u = .agg #[.string s.nm, .int .i64 s.ver, .bool s.gone, .int .i64 s.image, .int .i64 s.want, .int .i64 s.down, .int .i64 s.over, .int .i64 s.next, .int .i64 s.per, .int .i64 s.least, .int .i64 s.most, .int .i64 s.load, .int .i64 s.cool]
  | 8, u => u = .pointer (some ⟨g, k * 13, none⟩)
  | _, _ => True
def V57i (px _ps k : Nat) (s : Sv) (p0 : Option Addr) (n0 q0 : Nat) : Nat → Value → Prop
  | 0, u => u = .pointer (some ⟨px, 0, none⟩)
  | 1, u => u = .pointer (some ⟨px, 0, none⟩)
  | 2, u => u = .pointer (some ⟨px, 0, none⟩)
  | 3, u => u = .pointer (some ⟨px, 0, none⟩)
  | 4, u => u = .pointer (some ⟨px, 0, none⟩)
  | 5, u => u = .pointer (some ⟨px, 1, none⟩)
  | 6, u => u = .slice p0 n0 q0
  | 7, u => u = .int .i64 (k : Nat)
  | 8, u => u = .agg #[.string s.nm, .int .i64 s.ver, .bool s.gone, .int .i64 s.image, .int .i64 s.want, .int .i64 s.down, .int .i64 s.over, .int .i64 s.next, .int .i64 s.per, .int .i64 s.least, .int .i64 s.most, .int .i64 s.load, .int .i64 s.cool]
  | 11, u => u = .pointer (some ⟨px, 0, none⟩)
  | 12, u => u = .pointer (some ⟨px, 0, none⟩)
  | 13, u => u = .pointer (some ⟨px, 0, none⟩)
  | 14, u => u = .pointer (some ⟨px, 1, none⟩)
  | _, _ => True

set_option maxRecDepth 8000 in
set_option maxHeartbeats 16000000 in
theorem putI {lo px : Nat} {t : TypeId} {w0 : Sv} {R : World} {now : Int} {sv : List Sv} {cp : List Cp} {bt : List Bt} {p0 p1 p2 : Option Addr} {q0 q1 q2 : Nat} (h : XG lo px t (SvC w0) R now sv cp bt p0 p1 p2 sv.length cp.length bt.length q0 q1 q2) (hasc : ascSv sv = true) (hsz : w0.nm.size ≤ maxLen) (hlen : sv.length ≤ 100000) (hlo : lo ≤ R.heap.size) (hpl : lo ≤ px) :
    Calls Tryz.prog 57 #[.pointer (some ⟨px, 0, none⟩)] R fun e W' => e = .returned (.int .i64 (if sbOk ⟨now, wishOf sv w0 now, cp, bt⟩ then 0 else 2)) ∧ (∃ p0' n0' q0', XG lo px t (SvC w0) W' now (wishOf sv w0 now) cp bt p0' p1 p2 n0' cp.length bt.length q0' q1 q2) ∧ Below lo R W' := by
  obtain ⟨r, hr⟩ : ∃ r : Int, r = (if sbOk ⟨now, wishOf sv w0 now, cp, bt⟩ then 0 else 2) := ⟨_, rfl⟩
  rw [← hr]
  have HRE := hid hr
  have HXG := hid h
  have HLO := hid hlo
  have HPL := hid hpl
  have HSZ := hid hsz
  have HLN := hid hlen
  have hL := h.box
  have X0 := hL.get 0 _ rfl
  have X4 := hL.get 4 _ rfl
  have X5 := hL.get 5 _ rfl
  have X6 := hL.get 6 _ rfl
  have X7 := hL.get 7 _ rfl
  have X8 := hL.get 8 _ rfl
  have X9 := hL.get 9 _ rfl
  have X10 := hL.get 10 _ rfl
  have X11 := hL.get 11 _ rfl
  have X12 := hL.get 12 _ rfl
  have X13 := hL.get 13 _ rfl
  have X14 := hL.get 14 _ rfl
  have X15 := hL.get 15 _ rfl
  have X16 := hL.get 16 _ rfl
  have xz := lt_heap h.bx
  obtain ⟨ps, hps⟩ : ∃ ps, ps = R.heap.size := ⟨_, rfl⟩
  obtain ⟨s1, hs1⟩ : ∃ s1, s1 = wishV w0 now 1 := ⟨_, rfl⟩
  obtain ⟨Wa, hWa⟩ : ∃ Wa, Wa = R.alloc (.cells #[.string w0.nm, .int .i64 w0.ver, .bool w0.gone, .int .i64 w0.image, .int .i64 w0.want, .int .i64 w0.down, .int .i64 w0.over, .int .i64 w0.next, .int .i64 w0.per, .int .i64 w0.least, .int .i64 w0.most, .int .i64 w0.load, .int .i64 w0.cool] 41) := ⟨_, rfl⟩
  have ha1 : Wa.heap[ps]? = some (.cells #[.string w0.nm, .int .i64 w0.ver, .bool w0.gone, .int .i64 w0.image, .int .i64 w0.want, .int .i64 w0.down, .int .i64 w0.over, .int .i64 w0.next, .int .i64 w0.per, .int .i64 w0.least, .int .i64 w0.most, .int .i64 w0.load, .int .i64 w0.cool] 41 (0, 0)) := by rw [hWa, hps]; exact World.alloc_heap_new R _
  have hba : Below R.heap.size R Wa := by rw [hWa]; exact blw_alloc (Below.refl _ _) _
  obtain ⟨Wb, hWb⟩ : ∃ Wb, Wb = ((Wa.setCell ⟨ps, 1, none⟩ (.int .i64 now)).setCell ⟨ps, 7, none⟩ (.int .i64 1)).setCell ⟨ps, 12, none⟩ (.int .i64 0) := ⟨_, rfl⟩
  have hb1 : Wb.heap[ps]? = some (.cells #[.string s1.nm, .int .i64 s1.ver, .bool s1.gone, .int .i64 s1.image, .int .i64 s1.want, .int .i64 s1.down, .int .i64 s1.over, .int .i64 s1.next, .int .i64 s1.per, .int .i64 s1.least, .int .i64 s1.most, .int .i64 s1.load, .int .i64 s1.cool] 41 (0, 0)) := by
    rw [hWb, heap_setCell_same _ ps 12 _ _ _ (heap_setCell_same _ ps 7 _ _ _ (heap_setCell_same Wa ps 1 _ _ _ ha1)), hs1]; rfl
  have hbb : Below R.heap.size R Wb := by
    rw [hWb]
    exact ((hba.setCell (p := ⟨ps, 1, none⟩) (by show R.heap.size ≤ ps; omega) _).setCell (p := ⟨ps, 7, none⟩) (by show R.heap.size ≤ ps; omega) _).setCell (p := ⟨ps, 12, none⟩) (by show R.heap.size ≤ ps; omega) _
  have HPSb : Hid (Wb.heap[ps]? = some (.cells #[.string s1.nm, .int .i64 s1.ver, .bool s1.gone, .int .i64 s1.image, .int .i64 s1.want, .int .i64 s1.down, .int .i64 s1.over, .int .i64 s1.next, .int .i64 s1.per, .int .i64 s1.least, .int .i64 s1.most, .int .i64 s1.load, .int .i64 s1.cool] 41 (0, 0))) := hb1
  have HXb := hid (h.later hbb)
  have HBb : Hid (Below lo R Wb) := hbb.mono HLO.out
  have HLOb : Hid (lo ≤ Wb.heap.size) := Nat.le_trans HLO.out hbb.size
  have HPSG : Hid (∀ g, p0 = some ⟨g, 0, none⟩ → g < R.heap.size) := fun g e => (World.ownsRow.lt h.o0 g (by rw [e]; rfl)).2
  have HPXL : Hid (px < R.heap.size) := lt_heap h.bx
  have HPSL : Hid (R.heap.size ≤ ps) := by show _ ≤ _; omega
  have HS1 := hid hs1
  have pa := lt_heap ha1
  have pf : ∀ j, Wa.frozen? ⟨ps, j, none⟩ = false := fun j => by simp [World.frozen?, ha1]
  have A1 : Wa.cell? ⟨ps, 1, none⟩ = some (.int .i64 w0.ver) := by simp [World.cell?, ha1]
  have A7 : Wa.cell? ⟨ps, 7, none⟩ = some (.int .i64 w0.next) := by simp [World.cell?, ha1]
  have A12 : Wa.cell? ⟨ps, 12, none⟩ = some (.int .i64 w0.cool) := by simp [World.cell?, ha1]
  have XA0 : Wa.cell? ⟨px, 0, none⟩ = some (.int .i64 now) := (hba.cell (p := ⟨px, 0, none⟩) xz).trans X0
  have xza : px < Wa.heap.size := Nat.lt_of_lt_of_le xz hba.size
  have hpp : px ≠ ps := by omega
  clear h hlo hpl hr hsz hlen hL ha1 hba hb1 hbb hs1
  go_enter Tryz.func57, Tryz.ntmps57
  go_upto_region 2 with fail
  rw [← hWa, ← hps]
  clear hWa hps X0 X4 X5 X6 X7 X8 X9 X10 X11 X12 X13 X14 X15 X16 xz HXG
  go_upto_region 3 with fail
  rw [← hWb]
  clear hWb A1 A7 A12 XA0 xza pa pf hpp
  obtain ⟨s, hss⟩ : ∃ s, s = s1 := ⟨_, rfl⟩
  rw [← hss] at HPSb HS1
  have HNM : Hid (s.nm = w0.nm) := by show _ = _; rw [HS1.out]; rfl
  clear hss
  have HV := hid HXb.out.v
  have HM := hid HXb.out.m0
  have X1 := HXb.out.cell 1 _ rfl
  have HXL := lt_heap HXb.out.bx
  refine RY.region_past Wb (Below.refl _ _) (V57 px s sv p0 q0) (fun j u W W' _ h => h) (by kernel_rfl) (by kernel_rfl) (by kernel_rfl) (by kernel_rfl) ?_ ?_
  · intro i o ho a W hW hk hd
    have x1 := (hW.cell (p := ⟨px, 1, none⟩) HXL).trans X1
    have hps := (hW.block ps (lt_heap HPSb.out)).trans HPSb.out
    match i, ho with
    | 0, ho =>
      injection ho with ho; subst ho
      have e0 : a.tmps[0]?.getD undef = .pointer (some ⟨px, 0, none⟩) := (RY.ev_tmp a 0).trans ((hk 0 (by kernel_rfl)).trans rfl)
      exact Or.inl ⟨.pointer (some ⟨px, 0, none⟩), W, by simp [execOp, go_sem, e0], Below.refl _ _, rfl⟩
    | 1, ho =>
      injection ho with ho; subst ho
      have d0 := hd 0 _ 20 rfl rfl ⟨⟨0, .data⟩, by simp, rfl, rfl⟩
      have e0 : a.tmps[20]?.getD undef = .pointer (some ⟨px, 0, none⟩) := (RY.ev_tmp a 20).trans d0
      exact Or.inl ⟨.pointer (some ⟨px, 0, none⟩), W, by simp [execOp, go_sem, e0], Below.refl _ _, rfl⟩
    | 2, ho =>
      injection ho with ho; subst ho
      have d0 := hd 1 _ 21 rfl rfl ⟨⟨1, .data⟩, by simp, rfl, rfl⟩
      have e0 : a.tmps[21]?.getD undef = .pointer (some ⟨px, 0, none⟩) := (RY.ev_tmp a 21).trans d0
      exact Or.inl ⟨.pointer (some ⟨px, 0, none⟩), W, by simp [execOp, go_sem, e0], Below.refl _ _, rfl⟩
    | 3, ho =>
      injection ho with ho; subst ho
      have d0 := hd 2 _ 22 rfl rfl ⟨⟨2, .data⟩, by simp, rfl, rfl⟩
      have e0 : a.tmps[22]?.getD undef = .pointer (some ⟨px, 0, none⟩) := (RY.ev_tmp a 22).trans d0
      exact Or.inl ⟨.pointer (some ⟨px, 0, none⟩), W, by simp [execOp, go_sem, e0], Below.refl _ _, rfl⟩
    | 4, ho =>
      injection ho with ho; subst ho
      have d0 := hd 3 _ 23 rfl rfl ⟨⟨3, .data⟩, by simp, rfl, rfl⟩
      have e0 : a.tmps[23]?.getD undef = .pointer (some ⟨px, 0, none⟩) := (RY.ev_tmp a 23).trans d0
      exact Or.inl ⟨.pointer (some ⟨px, 1, none⟩), W, by simp [execOp, go_sem, e0], Below.refl _ _, rfl⟩
    | 5, ho =>
      injection ho with ho; subst ho
      have d0 := hd 4 _ 24 rfl rfl ⟨⟨4, .data⟩, by simp, rfl, rfl⟩
      have e0 : a.tmps[24]?.getD undef = .pointer (some ⟨px, 1, none⟩) := (RY.ev_tmp a 24).trans d0
      exact Or.inl ⟨.slice p0 sv.length q0, W, by simp [execOp, go_sem, e0, x1], Below.refl _ _, rfl⟩
    | 6, ho =>
      injection ho with ho; subst ho
      have e0 : a.tmps[3]?.getD undef = .pointer (some ⟨ps, 0, none⟩) := (RY.ev_tmp a 3).trans ((hk 3 (by kernel_rfl)).trans rfl)
      exact Or.inl ⟨_, W, exec_load_mid 41 _ rfl ps 0 ((hk 3 (by kernel_rfl)).trans rfl) [.string s.nm, .int .i64 s.ver, .bool s.gone, .int .i64 s.image, .int .i64 s.want, .int .i64 s.down, .int .i64 s.over, .int .i64 s.next, .int .i64 s.per, .int .i64 s.least, .int .i64 s.most, .int .i64 s.load, .int .i64 s.cool] _ (rng_of hps) Tryz.underlying41 rfl (by kernel_rfl), Below.refl _ _, rfl⟩
    | 7, ho =>
      injection ho with ho; subst ho
      have d0 := hd 5 _ 25 rfl rfl ⟨⟨5, .data⟩, by simp, rfl, rfl⟩
      have e0 : a.tmps[25]?.getD undef = .slice p0 sv.length q0 := (RY.ev_tmp a 25).trans d0
      have d1 := hd 6 _ 26 rfl rfl ⟨⟨6, .data⟩, by simp, rfl, rfl⟩
      have e1 : a.tmps[26]?.getD undef = .agg #[.string s.nm, .int .i64 s.ver, .bool s.gone, .int .i64 s.image, .int .i64 s.want, .int .i64 s.down, .int .i64 s.over, .int .i64 s.next, .int .i64 s.per, .int .i64 s.least, .int .i64 s.most, .int .i64 s.load, .int .i64 s.cool] := (RY.ev_tmp a 26).trans d1
      refine Or.inr ⟨83, #[.slice p0 sv.length q0, .agg #[.string s.nm, .int .i64 s.ver, .bool s.gone, .int .i64 s.image, .int .i64 s.want, .int .i64 s.down, .int .i64 s.over, .int .i64 s.next, .int .i64 s.per, .int .i64 s.least, .int .i64 s.most, .int .i64 s.load, .int .i64 s.cool], .func (.func 69) #[] #[]], by simp [go_sem, e0, e1], (binSv p0 q0 sv s.nm (.int .i64 s.ver) (.bool s.gone) (.int .i64 s.image) (.int .i64 s.want) (.int .i64 s.down) (.int .i64 s.over) (.int .i64 s.next) (.int .i64 s.per) (.int .i64 s.least) (.int .i64 s.most) (.int .i64 s.load) (.int .i64 s.cool) (posS sv s.nm) W (HV.out.later hW).s HM.out (posS_le sv s.nm) (posS_lt sv s.nm) (posS_ge hasc s.nm)).mono ?_⟩
      rintro e W' ⟨rfl, hb⟩
      rw [posS_hit]
      exact ⟨_, rfl, hb, rfl⟩
    | 8, ho =>
      injection ho with ho; subst ho
      have d0 := hd 7 _ 27 rfl rfl ⟨⟨7, .data⟩, by simp, rfl, rfl⟩
      have e0 : a.tmps[27]?.getD undef = .tuple #[.int .i64 (posS sv s.nm : Nat), .bool (decide (posS sv s.nm < sv.length) && same (sv.getD (posS sv s.nm) Sv.none).nm s.nm)] := (RY.ev_tmp a 27).trans d0
      exact Or.inl ⟨.tuple #[.int .i64 (posS sv s.nm : Nat), .bool (decide (posS sv s.nm < sv.length) && same (sv.getD (posS sv s.nm) Sv.none).nm s.nm)], W, by simp [execOp, go_sem, e0], Below.refl _ _, rfl⟩
    | 9, ho =>
      injection ho with ho; subst ho
      have d0 := hd 8 _ 19 rfl rfl ⟨⟨8, .data⟩, by simp, rfl, rfl⟩
      have e0 : a.tmps[19]?.getD undef = .tuple #[.int .i64 (posS sv s.nm : Nat), .bool (decide (posS sv s.nm < sv.length) && same (sv.getD (posS sv s.nm) Sv.none).nm s.nm)] := (RY.ev_tmp a 19).trans d0
      exact Or.inl ⟨.int .i64 (posS sv s.nm : Nat), W, by simp [execOp, go_sem, e0], Below.refl _ _, rfl⟩
    | 10, ho =>
      injection ho with ho; subst ho
      have d0 := hd 8 _ 19 rfl rfl ⟨⟨8, .data⟩, by simp, rfl, rfl⟩
      have e0 : a.tmps[19]?.getD undef = .tuple #[.int .i64 (posS sv s.nm : Nat), .bool (decide (posS sv s.nm < sv.length) && same (sv.getD (posS sv s.nm) Sv.none).nm s.nm)] := (RY.ev_tmp a 19).trans d0
      exact Or.inl ⟨.bool (decide (posS sv s.nm < sv.length) && same (sv.getD (posS sv s.nm) Sv.none).nm s.nm), W, by simp [execOp, go_sem, e0], Below.refl _ _, rfl⟩
    | 11, ho =>
      injection ho with ho; subst ho
      have d0 := hd 9 _ 28 rfl rfl ⟨⟨9, .data⟩, by simp, rfl, rfl⟩
      have e0 : a.tmps[28]?.getD undef = .int .i64 (posS sv s.nm : Nat) := (RY.ev_tmp a 28).trans d0
      exact Or.inl ⟨.int .i64 (posS sv s.nm : Nat), W, by simp [execOp, go_sem, e0], Below.refl _ _, rfl⟩
    | 12, ho =>
      injection ho with ho; subst ho
      have d0 := hd 10 _ 29 rfl rfl ⟨⟨10, .data⟩, by simp, rfl, rfl⟩
      have e0 : a.tmps[29]?.getD undef = .bool (decide (posS sv s.nm < sv.length) && same (sv.getD (posS sv s.nm) Sv.none).nm s.nm) := (RY.ev_tmp a 29).trans d0
      exact Or.inl ⟨.bool (decide (posS sv s.nm < sv.length) && same (sv.getD (posS sv s.nm) Sv.none).nm s.nm), W, by simp [execOp, go_sem, e0], Below.refl _ _, rfl⟩
    | n + 13, ho => simp at ho
  intro W3 vs hb hvs
  have e4 : vs 4 = _ := hvs 11 _ 4 rfl rfl
  have e5 : vs 5 = _ := hvs 12 _ 5 rfl rfl
  simp only [RY.putAll, Act.put, List.setIfInBounds_toArray, List.set_cons_zero, List.set_cons_succ]
  rw [e4, e5]
  generalize vs 19 = z19
  generalize vs 20 = z20
  generalize vs 21 = z21
  generalize vs 22 = z22
  generalize vs 23 = z23
  generalize vs 24 = z24
  generalize vs 25 = z25
  generalize vs 26 = z26
  generalize vs 27 = z27
  generalize vs 28 = z28
  generalize vs 29 = z29
  clear hvs e4 e5 X1 HXL
  have HX3 := hid (HXb.out.later hb)
  have HB3 : Hid (Below lo R W3) := HBb.out.trans (hb.mono HLOb.out)
  have HLO3 : Hid (lo ≤ W3.heap.size) := Nat.le_trans HLOb.out hb.size
  have HPS : Hid (W3.heap[ps]? = some (.cells #[.string s.nm, .int .i64 s.ver, .bool s.gone, .int .i64 s.image, .int .i64 s.want, .int .i64 s.down, .int .i64 s.over, .int .i64 s.next, .int .i64 s.per, .int .i64 s.least, .int .i64 s.most, .int .i64 s.load, .int .i64 s.cool] 41 (0, 0))) := (hb.block ps (lt_heap HPSb.out)).trans HPSb.out
  clear hb HXb HBb HLOb HPSb HV HM
  obtain ⟨k, hkk⟩ : ∃ k, k = posS sv s.nm := ⟨_, rfl⟩
  have HWO : Hid (wishOf sv w0 now = if decide (k < sv.length) && same (sv.getD k Sv.none).nm s.nm then sv.take k ++ [wishV w0 now (sv.getD k Sv.none).next] ++ sv.drop (k + 1) else sv.take k ++ [wishV w0 now 1] ++ sv.drop k) := by show _ = _; rw [hkk, HNM.out]; rfl
  have HKL : Hid (k ≤ sv.length) := by rw [hkk]; exact posS_le sv _
  have HSZD : Hid (∀ i, i < (wishOf sv w0 now).length → ((wishOf sv w0 now).getD i Sv.none).sized) := wish_sized HX3.out.z0 HSZ.out now
  have HTAIL : Hid (∀ W2 p0' n0' q0', XG lo px t (SvC w0) W2 now (wishOf sv w0 now) cp bt p0' p1 p2 n0' cp.length bt.length q0' q1 q2 → Below lo R W2 → lo ≤ W2.heap.size → Calls Tryz.prog 85 #[.pointer (some ⟨px, 0, none⟩)] W2 fun e W' => e = .returned (.int .i64 r) ∧ (∃ p0' n0' q0', XG lo px t (SvC w0) W' now (wishOf sv w0 now) cp bt p0' p1 p2 n0' cp.length bt.length q0' q1 q2) ∧ Below lo R W') := by
    intro W2 p0' n0' q0' hX hB hl
    refine (codeI hX).mono ?_
    rintro e W' ⟨rfl, hb⟩
    exact ⟨by rw [HRE.out], ⟨p0', n0', q0', hX.later hb⟩, hB.trans (hb.mono hl)⟩
  rw [← hkk]
  clear hkk HRE
  cases hf : (decide (k < sv.length) && same (sv.getD k Sv.none).nm s.nm)
  · have HWO2 : Hid (wishOf sv w0 now = sv.take k ++ [s] ++ sv.drop k) := by show _ = _; rw [HWO.out, hf, HS1.out]; rfl
    have HMM : Hid (sv.length + 1 ≤ 1048576) := by have := HLN.out; show _ ≤ _; omega
    have HRL : Hid ((wishOf sv w0 now).length = sv.length + 1) := by
      show _ = _
      have := HKL.out
      rw [HWO2.out, List.length_append, List.length_append, List.length_take, List.length_drop, List.length_singleton]; omega
    clear hf HWO HS1
    go_upto_region 7 with fail
    have X1 := HX3.out.cell 1 _ rfl
    have HXL := lt_heap HX3.out.bx
    have HPX := HX3.out.bx
    have HNE : 41 ≠ t := HX3.out.nr.1
    have HPG : Hid (∀ g, p0 = some ⟨g, 0, none⟩ → px ≠ g) := fun g e => by
      obtain ⟨cur, hc⟩ := (owns_typ HX3.out.o0 g e).2
      exact HX3.out.ne hc HX3.out.nr.1
    refine RY.region_TC (V57i px ps k s p0 sv.length q0) (TY W3 px p0 t (fun u => (.int .i64 now :: u :: .slice p1 cp.length q1 :: .slice p2 bt.length q2 :: SvC w0).toArray) lo 41 13 (sv.length + 1) ((sv.take k ++ [s] ++ sv.drop k).flatMap SvC) [.string s.nm, .int .i64 s.ver, .bool s.gone, .int .i64 s.image, .int .i64 s.want, .int .i64 s.down, .int .i64 s.over, .int .i64 s.next, .int .i64 s.per, .int .i64 s.least, .int .i64 s.most, .int .i64 s.load, .int .i64 s.cool] 9 10 15) (by kernel_rfl) (by kernel_rfl) (by kernel_rfl) (by kernel_rfl) ?_ ?_ ?_
    · intro vals
      exact ⟨BelY.of (Below.refl _ _).drew, fun _ => (Below.refl _ _).drew, fun h => (by cases h), fun _ => rfl, fun h => (by cases h), fun h => (by cases h)⟩
    · intro up vals i o ho hi hcl a W hk hd hT
      obtain ⟨hY, hBe, hO, hS0, hS1, hBb⟩ := hT
      match i, ho with
        | 0, ho =>
          injection ho with ho; subst ho
          have e0 : a.tmps[0]?.getD undef = .pointer (some ⟨px, 0, none⟩) := (RY.ev_tmp a 0).trans ((hk 0 (by kernel_rfl)).trans rfl)
          exact Or.inl ⟨.pointer (some ⟨px, 0, none⟩), W, by simp [execOp, go_sem, e0], rfl, rfl, ⟨hY, hBe, hO, hS0, hS1, hBb⟩⟩
        | 1, ho =>
          injection ho with ho; subst ho
          have e0 : a.tmps[0]?.getD undef = .pointer (some ⟨px, 0, none⟩) := (RY.ev_tmp a 0).trans ((hk 0 (by kernel_rfl)).trans rfl)
          exact Or.inl ⟨.pointer (some ⟨px, 0, none⟩), W, by simp [execOp, go_sem, e0], rfl, rfl, ⟨hY, hBe, hO, hS0, hS1, hBb⟩⟩
        | 2, ho =>
          injection ho with ho; subst ho
          have d0 := hd 1 _ 52 rfl rfl ⟨⟨1, .data⟩, by simp, rfl, rfl⟩
          have e0 : a.tmps[52]?.getD undef = .pointer (some ⟨px, 0, none⟩) := (RY.ev_tmp a 52).trans (d0.2.1.trans d0.2.2)
          exact Or.inl ⟨.pointer (some ⟨px, 0, none⟩), W, by simp [execOp, go_sem, e0], rfl, rfl, ⟨hY, hBe, hO, hS0, hS1, hBb⟩⟩
        | 3, ho =>
          injection ho with ho; subst ho
          have d0 := hd 2 _ 53 rfl rfl ⟨⟨2, .data⟩, by simp, rfl, rfl⟩
          have e0 : a.tmps[53]?.getD undef = .pointer (some ⟨px, 0, none⟩) := (RY.ev_tmp a 53).trans (d0.2.1.trans d0.2.2)
          exact Or.inl ⟨.pointer (some ⟨px, 0, none⟩), W, by simp [execOp, go_sem, e0], rfl, rfl, ⟨hY, hBe, hO, hS0, hS1, hBb⟩⟩
        | 4, ho =>
          injection ho with ho; subst ho
          have d0 := hd 3 _ 54 rfl rfl ⟨⟨3, .data⟩, by simp, rfl, rfl⟩
          have e0 : a.tmps[54]?.getD undef = .pointer (some ⟨px, 0, none⟩) := (RY.ev_tmp a 54).trans (d0.2.1.trans d0.2.2)
          exact Or.inl ⟨.pointer (some ⟨px, 0, none⟩), W, by simp [execOp, go_sem, e0], rfl, rfl, ⟨hY, hBe, hO, hS0, hS1, hBb⟩⟩
        | 5, ho =>
          injection ho with ho; subst ho
          have d0 := hd 4 _ 55 rfl rfl ⟨⟨4, .data⟩, by simp, rfl, rfl⟩
          have e0 : a.tmps[55]?.getD undef = .pointer (some ⟨px, 0, none⟩) := (RY.ev_tmp a 55).trans (d0.2.1.trans d0.2.2)
          exact Or.inl ⟨.pointer (some ⟨px, 1, none⟩), W, by simp [execOp, go_sem, e0], rfl, rfl, ⟨hY, hBe, hO, hS0, hS1, hBb⟩⟩
        | 6, ho =>
          injection ho with ho; subst ho
          have d0 := hd 5 _ 56 rfl rfl ⟨⟨5, .data⟩, by simp, rfl, rfl⟩
          have e0 : a.tmps[56]?.getD undef = .pointer (some ⟨px, 1, none⟩) := (RY.ev_tmp a 56).trans (d0.2.1.trans d0.2.2)
          have fc : up 10 = false := by
            cases e : up 10
            · rfl
            · exfalso
              have e := hcl 10 _ ⟨6, .data⟩ rfl (by simp) rfl e
              rw [hi] at e; cases e
          have hW := hBe fc
          have x1 := (hW.cell (p := ⟨px, 1, none⟩) HXL).trans X1
          exact Or.inl ⟨.slice p0 sv.length q0, W, by simp [execOp, go_sem, e0, x1], rfl, rfl, ⟨hY, hBe, hO, hS0, hS1, hBb⟩⟩
        | 7, ho =>
          injection ho with ho; subst ho
          have e0 : a.tmps[4]?.getD undef = .int .i64 (k : Nat) := (RY.ev_tmp a 4).trans ((hk 4 (by kernel_rfl)).trans rfl)
          exact Or.inl ⟨.int .i64 (k : Nat), W, by simp [execOp, go_sem, e0], rfl, rfl, ⟨hY, hBe, hO, hS0, hS1, hBb⟩⟩
        | 8, ho =>
          injection ho with ho; subst ho
          have e0 : a.tmps[3]?.getD undef = .pointer (some ⟨ps, 0, none⟩) := (RY.ev_tmp a 3).trans ((hk 3 (by kernel_rfl)).trans rfl)
          have fc : up 10 = false := by
            cases e : up 10
            · rfl
            · exfalso
              have e := hcl 10 _ ⟨9, .data⟩ rfl (by simp) rfl e
              have e := hcl 9 _ ⟨8, .data⟩ rfl (by simp) rfl e
              rw [hi] at e; cases e
          have hps := ((hBe fc).block ps (lt_heap HPS.out)).trans HPS.out
          exact Or.inl ⟨_, W, exec_load_mid 41 _ rfl ps 0 ((hk 3 (by kernel_rfl)).trans rfl) [.string s.nm, .int .i64 s.ver, .bool s.gone, .int .i64 s.image, .int .i64 s.want, .int .i64 s.down, .int .i64 s.over, .int .i64 s.next, .int .i64 s.per, .int .i64 s.least, .int .i64 s.most, .int .i64 s.load, .int .i64 s.cool] _ (rng_of hps) Tryz.underlying41 rfl (by kernel_rfl), rfl, rfl, ⟨hY, hBe, hO, hS0, hS1, hBb⟩⟩
        | 9, ho =>
          injection ho with ho; subst ho
          have d0 := hd 8 _ 59 rfl rfl ⟨⟨8, .data⟩, by simp, rfl, rfl⟩
          have e0 : a.tmps[59]?.getD undef = .agg #[.string s.nm, .int .i64 s.ver, .bool s.gone, .int .i64 s.image, .int .i64 s.want, .int .i64 s.down, .int .i64 s.over, .int .i64 s.next, .int .i64 s.per, .int .i64 s.least, .int .i64 s.most, .int .i64 s.load, .int .i64 s.cool] := (RY.ev_tmp a 59).trans (d0.2.1.trans d0.2.2)
          have fc : up 10 = false := by
            cases e : up 10
            · rfl
            · have := hcl 10 _ ⟨9, .data⟩ rfl (by simp) rfl e; rw [hi] at this; cases this
          have hW := hBe fc
          have hb9 : Below W.heap.size W (W.alloc (.cells #[.string s.nm, .int .i64 s.ver, .bool s.gone, .int .i64 s.image, .int .i64 s.want, .int .i64 s.down, .int .i64 s.over, .int .i64 s.next, .int .i64 s.per, .int .i64 s.least, .int .i64 s.most, .int .i64 s.load, .int .i64 s.cool] 41)) := blw_alloc (Below.refl _ _) _
          have f15 : up 15 = false := by
            cases e : up 15
            · rfl
            · have := hcl 15 _ ⟨10, .data⟩ rfl (by simp) rfl e; rw [fc] at this; cases this
          refine Or.inl ⟨.slice (some ⟨W.heap.size, 0, none⟩) 1 1, W.alloc (.cells #[.string s.nm, .int .i64 s.ver, .bool s.gone, .int .i64 s.image, .int .i64 s.want, .int .i64 s.down, .int .i64 s.over, .int .i64 s.next, .int .i64 s.per, .int .i64 s.least, .int .i64 s.most, .int .i64 s.load, .int .i64 s.cool] 41), by simp [execOp, go_sem, e0], rfl, trivial, BelY.of (blw_trans hW hb9), fun _ => blw_trans hW hb9, ?_, fun _ => (hb9.block px (Nat.lt_of_lt_of_le HXL hW.size)).trans (hW.block px HXL), ?_, fun _ _ => ⟨W.heap.size, rfl, hW.size, World.alloc_heap_new W _⟩⟩
          · show ((10 == 9) || up 10) = true → _
            rw [fc]; intro h; cases h
          · show ((15 == 9) || up 15) = true → _
            rw [f15]; intro h; cases h
        | 10, ho =>
          injection ho with ho; subst ho
          have d0 := hd 6 _ 57 rfl rfl ⟨⟨6, .data⟩, by simp, rfl, rfl⟩
          have e0 : a.tmps[57]?.getD undef = .slice p0 sv.length q0 := (RY.ev_tmp a 57).trans (d0.2.1.trans d0.2.2)
          have d1 := hd 7 _ 58 rfl rfl ⟨⟨7, .data⟩, by simp, rfl, rfl⟩
          have e1 : a.tmps[58]?.getD undef = .int .i64 (k : Nat) := (RY.ev_tmp a 58).trans (d1.2.1.trans d1.2.2)
          have d2 := hd 9 _ 60 rfl rfl ⟨⟨9, .data⟩, by simp, rfl, rfl⟩
          obtain ⟨gc, ev, hgr, hgc⟩ := hBb (hd 9 _ 60 rfl rfl ⟨⟨9, .data⟩, by simp, rfl, rfl⟩).1 hi
          have hW := hBe hi
          have e9 : a.tmps[60]?.getD undef = .slice (some ⟨gc, 0, none⟩) 1 1 := (RY.ev_tmp a 60).trans ((hd 9 _ 60 rfl rfl ⟨⟨9, .data⟩, by simp, rfl, rfl⟩).2.1.trans ev)
          have hne9 : ∀ g, p0 = some ⟨g, 0, none⟩ → g ≠ gc := fun g e => by have := (World.ownsRow.lt HX3.out.o0 g (by rw [e]; rfl)).2; omega
          refine Or.inr (Or.inr ⟨84, #[.slice p0 sv.length q0, .int .i64 (k : Nat), .slice (some ⟨gc, 0, none⟩) 1 1], by simp [go_sem, e0, e1, e9], rfl, (insOneS lo W p0 q0 sv (owns_on HX3.out.o0 hW) s gc hgc hne9 k HKL.out HMM.out (Nat.le_trans HLO3.out hW.size)).mono ?_⟩)
          rintro e W' ⟨g', q', rfl, ho, hb⟩
          have f15 : up 15 = false := by
            cases e : up 15
            · rfl
            · have := hcl 15 _ ⟨10, .data⟩ rfl (by simp) rfl e; rw [hi] at this; cases this
          refine ⟨_, rfl, trivial, BelY.call hW hb, fun h => (by cases h), fun _ => ⟨_, _, rfl, ho⟩, fun _ => (hb.block px (Nat.lt_of_lt_of_le HXL hW.size) HPG.out).trans (hW.block px HXL), ?_, fun _ h => (by cases h)⟩
          show ((15 == 10) || up 15) = true → _
          rw [f15]; intro h; cases h
        | 11, ho =>
          injection ho with ho; subst ho
          have d0 := hd 0 _ 51 rfl rfl ⟨⟨0, .data⟩, by simp, rfl, rfl⟩
          have e0 : a.tmps[51]?.getD undef = .pointer (some ⟨px, 0, none⟩) := (RY.ev_tmp a 51).trans (d0.2.1.trans d0.2.2)
          exact Or.inl ⟨.pointer (some ⟨px, 0, none⟩), W, by simp [execOp, go_sem, e0], rfl, rfl, ⟨hY, hBe, hO, hS0, hS1, hBb⟩⟩
        | 12, ho =>
          injection ho with ho; subst ho
          have d0 := hd 11 _ 62 rfl rfl ⟨⟨11, .data⟩, by simp, rfl, rfl⟩
          have e0 : a.tmps[62]?.getD undef = .pointer (some ⟨px, 0, none⟩) := (RY.ev_tmp a 62).trans (d0.2.1.trans d0.2.2)
          exact Or.inl ⟨.pointer (some ⟨px, 0, none⟩), W, by simp [execOp, go_sem, e0], rfl, rfl, ⟨hY, hBe, hO, hS0, hS1, hBb⟩⟩
        | 13, ho =>
          injection ho with ho; subst ho
          have d0 := hd 12 _ 63 rfl rfl ⟨⟨12, .data⟩, by simp, rfl, rfl⟩
          have e0 : a.tmps[63]?.getD undef = .pointer (some ⟨px, 0, none⟩) := (RY.ev_tmp a 63).trans (d0.2.1.trans d0.2.2)
          exact Or.inl ⟨.pointer (some ⟨px, 0, none⟩), W, by simp [execOp, go_sem, e0], rfl, rfl, ⟨hY, hBe, hO, hS0, hS1, hBb⟩⟩
        | 14, ho =>
          injection ho with ho; subst ho
          have d0 := hd 13 _ 64 rfl rfl ⟨⟨13, .data⟩, by simp, rfl, rfl⟩
          have e0 : a.tmps[64]?.getD undef = .pointer (some ⟨px, 0, none⟩) := (RY.ev_tmp a 64).trans (d0.2.1.trans d0.2.2)
          exact Or.inl ⟨.pointer (some ⟨px, 1, none⟩), W, by simp [execOp, go_sem, e0], rfl, rfl, ⟨hY, hBe, hO, hS0, hS1, hBb⟩⟩
        | 15, ho =>
          injection ho with ho; subst ho
          have d0 := hd 14 _ 65 rfl rfl ⟨⟨14, .data⟩, by simp, rfl, rfl⟩
          have e0 : a.tmps[65]?.getD undef = .pointer (some ⟨px, 1, none⟩) := (RY.ev_tmp a 65).trans (d0.2.1.trans d0.2.2)
          have d1 := hd 10 _ 61 rfl rfl ⟨⟨10, .data⟩, by simp, rfl, rfl⟩
          have dc := hd 10 _ 61 rfl rfl ⟨⟨10, .data⟩, by simp, rfl, rfl⟩
          obtain ⟨g9, q9, ev9, ho9⟩ := hO dc.1
          have e9 : a.tmps[61]?.getD undef = .slice g9 (sv.length + 1) q9 := (RY.ev_tmp a 61).trans (dc.2.1.trans ev9)
          have hp := (hS0 hi).trans HPX
          have fz : ∀ j, W.frozen? ⟨px, j, none⟩ = false := fun j => by simp [World.frozen?, hp]
          have y : W.cell? ⟨px, 1, none⟩ = some (.slice p0 sv.length q0) := by simp [World.cell?, hp]
          refine Or.inr (Or.inl ⟨W.setCell ⟨px, 1, none⟩ (.slice g9 (sv.length + 1) q9), by simp [execOp, go_sem, e0, e9, y, fz], rfl, hY.sc _ _, ?_, fun _ => ⟨g9, q9, ev9, owns_else ho9 hp HNE _ _⟩, fun h => (by cases h), fun _ => ?_, ?_⟩)
          · show ((10 == 15) || up 10) = false → _
            rw [dc.1]; intro h; cases h
          · show _ = some (Obj.cells ((fun u => (.int .i64 now :: u :: .slice p1 cp.length q1 :: .slice p2 bt.length q2 :: SvC w0).toArray) (vals 10)) _ _)
            rw [ev9, heap_setCell_same W px 1 _ _ _ hp]; rfl
          · show ((9 == 15) || up 9) = true → ((10 == 15) || up 10) = false → _
            rw [dc.1]; intro _ h; cases h
        | n + 16, ho => simp at ho
    · intro up vals vs W2 hall hv hT
      obtain ⟨hY, _, hO, _, hS1, _⟩ := hT
      obtain ⟨g9, q9, ev9, ho9⟩ := hO (hall 10 (by decide))
      have hpx := hS1 (hall 15 (by decide))
      rw [ev9] at hpx
      simp only [RY.putAll, Act.put, List.setIfInBounds_toArray, List.set_cons_zero, List.set_cons_succ]
      generalize vs 51 = z51
      generalize vs 52 = z52
      generalize vs 53 = z53
      generalize vs 54 = z54
      generalize vs 55 = z55
      generalize vs 56 = z56
      generalize vs 57 = z57
      generalize vs 58 = z58
      generalize vs 59 = z59
      generalize vs 60 = z60
      generalize vs 61 = z61
      generalize vs 62 = z62
      generalize vs 63 = z63
      generalize vs 64 = z64
      generalize vs 65 = z65
      have HX2 : Hid (XG lo px t (SvC w0) W2 now (wishOf sv w0 now) cp bt g9 p1 p2 (sv.length + 1) cp.length bt.length q9 q1 q2) := HX3.out.svsY hY hpx (by rw [HWO2.out]; exact ho9) HRL.out HSZD.out HMM.out
      have HB2 : Hid (Below lo R W2) := HB3.out.trans (hY.lo HPL.out (fun g e => (owns_typ HX3.out.o0 g e).1) HLO3.out)
      have HLO2 : Hid (lo ≤ W2.heap.size) := Nat.le_trans HLO3.out hY.size
      clear hY hO hS1 hpx ho9 ev9 hv hall X1 HXL HPX HNE
      have xz := lt_heap HX2.out.bx
      go_wp2_with fail
      refine (HTAIL.out W2 _ _ _ HX2.out HB2.out HLO2.out).mono ?_
      rintro e W9 ⟨rfl, hx3, hb3⟩
      have HX9 := hid hx3
      have HB9 := hid hb3
      clear hx3 hb3 xz
      go_wp2
      go_ret
      exact ⟨rfl, HX9.out, HB9.out⟩
  · obtain ⟨hlt, hsm⟩ := (Bool.and_eq_true_iff.1 hf)
    have hlt : k < sv.length := of_decide_eq_true hlt
    obtain ⟨x, hx⟩ : ∃ x, x = sv.getD k Sv.none := ⟨_, rfl⟩
    obtain ⟨s2, hs2⟩ : ∃ s2, s2 = wishV w0 now x.next := ⟨_, rfl⟩
    have HWO2 : Hid (wishOf sv w0 now = sv.set k s2) := by show _ = _; rw [HWO.out, hf, if_pos rfl, set_cut _ sv k hlt, hs2, hx]
    clear hf HWO hsm
    obtain ⟨g, cur, hpg, hgl, hgh, hcs, hcell⟩ := owns_blk HX3.out.o0 (by omega)
    subst hpg
    have z7 : W3.cell? ⟨g, k * 13 + 7, none⟩ = some (.int .i64 x.next) := hcell (k * 13 + 7) _ ((flat_at Sv.none SvC 13 SvC_len sv k 7 hlt (by omega)).trans (by rw [← hx]; rfl))
    obtain ⟨W4, hW4⟩ : ∃ W4, W4 = W3.setCell ⟨ps, 7, none⟩ (.int .i64 x.next) := ⟨_, rfl⟩
    have hgps : g ≠ ps := fun e => by
      have : g < R.heap.size := by
        have := HPSG.out g rfl
        omega
      have := HPSL.out
      omega
    have hpxps : px ≠ ps := by have := HPXL.out; have := HPSL.out; omega
    have HPS4 : Hid (W4.heap[ps]? = some (.cells #[.string s2.nm, .int .i64 s2.ver, .bool s2.gone, .int .i64 s2.image, .int .i64 s2.want, .int .i64 s2.down, .int .i64 s2.over, .int .i64 s2.next, .int .i64 s2.per, .int .i64 s2.least, .int .i64 s2.most, .int .i64 s2.load, .int .i64 s2.cool] 41 (0, 0))) := by
      show _ = _
      rw [hW4, heap_setCell_same W3 ps 7 _ _ _ HPS.out, hs2, HS1.out]; rfl
    have HX4 : Hid (XG lo px t (SvC w0) W4 now sv cp bt (some ⟨g, 0, none⟩) p1 p2 sv.length cp.length bt.length q0 q1 q2) := by
      have hX : BelX ps W3 W4 := by rw [hW4]; exact (BelX.refl ps W3).sc 7 _
      refine ⟨HX3.out.nr, (hX.block px (lt_heap HX3.out.bx) hpxps).trans HX3.out.bx, ?_, ?_, ?_, HX3.out.l0, HX3.out.l1, HX3.out.l2, HX3.out.z0, HX3.out.z1, HX3.out.z2, HX3.out.m0, HX3.out.m1, HX3.out.m2⟩
      · rw [hW4]; exact owns_apart HX3.out.o0 (fun g' e => by cases e; exact hgps) _ _
      · rw [hW4]; exact owns_else HX3.out.o1 HPS.out t_cs _ _
      · rw [hW4]; exact owns_else HX3.out.o2 HPS.out t_bs _ _
    have HB4 : Hid (Below lo R W4) := by show Below _ _ _; rw [hW4]; exact HB3.out.setCell (p := ⟨ps, 7, none⟩) (by show lo ≤ ps; have := HPSL.out; have := HLO.out; omega) _
    have HLO4 : Hid (lo ≤ W4.heap.size) := by show _ ≤ _; rw [hW4, sc_size]; exact HLO3.out
    have HH4 : Hid (W4.heap[g]? = some (.cells cur 41 (0, 0))) := by show _ = _; rw [hW4]; exact (Below.heap_setCell W3 ⟨ps, 7, none⟩ _ g hgps).trans hgh
    have HGL := hid hgl
    have HPXPS := hid hpxps
    have gz := lt_heap hgh
    have x1 := HX3.out.cell 1 _ rfl
    have xz := lt_heap HX3.out.bx
    have pz := lt_heap HPS.out
    have pf : ∀ j, W3.frozen? ⟨ps, j, none⟩ = false := fun j => by have := HPS.out; simp [World.frozen?, this]
    have p7 : W3.cell? ⟨ps, 7, none⟩ = some (.int .i64 s.next) := by have := HPS.out; simp [World.cell?, this]
    have hm0 : (0 : Int) ≤ (k : Int) := by omega
    have hm3 : (k : Int) < (sv.length : Int) := by omega
    clear hcell hx hgl hgh hcs hgps hs2
    go_upto_region 6 with fail
    rw [← hW4]
    clear hW4 z7 gz x1 xz pz pf p7 HX3 HB3 HLO3 HS1 HNM
    obtain ⟨s', hs'⟩ : ∃ s', s' = s2 := ⟨_, rfl⟩
    rw [← hs'] at HPS4 HWO2
    clear hs' HPS
    have X1 := HX4.out.cell 1 _ rfl
    have hpl := lt_heap HX4.out.bx
    have hgh := HH4.out
    have hne := HX4.out.ne hgh HX4.out.nr.1
    have HPGS : Hid (ps ≠ g) := fun e => by
      have := HPSG.out g rfl
      have := HPSL.out
      omega
    refine RY.region_TC (V57s px g k s' sv.length q0) (T1o W4 g (fun W => W.ownsRow lo 41 13 (.slice (some ⟨g, 0, none⟩) sv.length q0) sv.length ((sv.set k s').flatMap SvC)) 9) (by kernel_rfl) (by kernel_rfl) (by kernel_rfl) (by kernel_rfl) ?_ ?_ ?_
    · intro vals
      exact ⟨(BelX.refl g W4).drew, fun _ => rfl, fun h => by cases h⟩
    · intro up vals i o ho hi hcl a W hk hd hT
      obtain ⟨hX, hH0, hH1⟩ := hT
      have x1 := (hX.cell hpl hne 1).trans X1
      have hps := (hX.block ps (lt_heap HPS4.out) HPGS.out).trans HPS4.out
      match i, ho with
      | 0, ho =>
        injection ho with ho; subst ho
        have e0 : a.tmps[0]?.getD undef = .pointer (some ⟨px, 0, none⟩) := (RY.ev_tmp a 0).trans ((hk 0 (by kernel_rfl)).trans rfl)
        exact Or.inl ⟨.pointer (some ⟨px, 0, none⟩), W, by simp [execOp, go_sem, e0], rfl, rfl, hX, hH0, hH1⟩
      | 1, ho =>
        injection ho with ho; subst ho
        have d0 := hd 0 _ 42 rfl rfl ⟨⟨0, .data⟩, by simp, rfl, rfl⟩
        have e0 : a.tmps[42]?.getD undef = .pointer (some ⟨px, 0, none⟩) := (RY.ev_tmp a 42).trans (d0.2.1.trans d0.2.2)
        exact Or.inl ⟨.pointer (some ⟨px, 0, none⟩), W, by simp [execOp, go_sem, e0], rfl, rfl, hX, hH0, hH1⟩
      | 2, ho =>
        injection ho with ho; subst ho
        have d0 := hd 1 _ 43 rfl rfl ⟨⟨1, .data⟩, by simp, rfl, rfl⟩
        have e0 : a.tmps[43]?.getD undef = .pointer (some ⟨px, 0, none⟩) := (RY.ev_tmp a 43).trans (d0.2.1.trans d0.2.2)
        exact Or.inl ⟨.pointer (some ⟨px, 0, none⟩), W, by simp [execOp, go_sem, e0], rfl, rfl, hX, hH0, hH1⟩
      | 3, ho =>
        injection ho with ho; subst ho
        have d0 := hd 2 _ 44 rfl rfl ⟨⟨2, .data⟩, by simp, rfl, rfl⟩
        have e0 : a.tmps[44]?.getD undef = .pointer (some ⟨px, 0, none⟩) := (RY.ev_tmp a 44).trans (d0.2.1.trans d0.2.2)
        exact Or.inl ⟨.pointer (some ⟨px, 0, none⟩), W, by simp [execOp, go_sem, e0], rfl, rfl, hX, hH0, hH1⟩
      | 4, ho =>
        injection ho with ho; subst ho
        have d0 := hd 3 _ 45 rfl rfl ⟨⟨3, .data⟩, by simp, rfl, rfl⟩
        have e0 : a.tmps[45]?.getD undef = .pointer (some ⟨px, 0, none⟩) := (RY.ev_tmp a 45).trans (d0.2.1.trans d0.2.2)
        exact Or.inl ⟨.pointer (some ⟨px, 1, none⟩), W, by simp [execOp, go_sem, e0], rfl, rfl, hX, hH0, hH1⟩
      | 5, ho =>
        injection ho with ho; subst ho
        have d0 := hd 4 _ 46 rfl rfl ⟨⟨4, .data⟩, by simp, rfl, rfl⟩
        have e0 : a.tmps[46]?.getD undef = .pointer (some ⟨px, 1, none⟩) := (RY.ev_tmp a 46).trans (d0.2.1.trans d0.2.2)
        exact Or.inl ⟨.slice (some ⟨g, 0, none⟩) sv.length q0, W, by simp [execOp, go_sem, e0, x1], rfl, rfl, hX, hH0, hH1⟩
      | 6, ho =>
        injection ho with ho; subst ho
        have e0 : a.tmps[4]?.getD undef = .int .i64 (k : Nat) := (RY.ev_tmp a 4).trans ((hk 4 (by kernel_rfl)).trans rfl)
        exact Or.inl ⟨.int .i64 (k : Nat), W, by simp [execOp, go_sem, e0], rfl, rfl, hX, hH0, hH1⟩
      | 7, ho =>
        injection ho with ho; subst ho
        have e0 : a.tmps[3]?.getD undef = .pointer (some ⟨ps, 0, none⟩) := (RY.ev_tmp a 3).trans ((hk 3 (by kernel_rfl)).trans rfl)
        exact Or.inl ⟨_, W, exec_load_mid 41 _ rfl ps 0 ((hk 3 (by kernel_rfl)).trans rfl) [.string s'.nm, .int .i64 s'.ver, .bool s'.gone, .int .i64 s'.image, .int .i64 s'.want, .int .i64 s'.down, .int .i64 s'.over, .int .i64 s'.next, .int .i64 s'.per, .int .i64 s'.least, .int .i64 s'.most, .int .i64 s'.load, .int .i64 s'.cool] _ (rng_of hps) Tryz.underlying41 rfl (by kernel_rfl), rfl, rfl, hX, hH0, hH1⟩
      | 8, ho =>
        injection ho with ho; subst ho
        have d0 := hd 5 _ 47 rfl rfl ⟨⟨5, .data⟩, by simp, rfl, rfl⟩
        have e0 : a.tmps[47]?.getD undef = .slice (some ⟨g, 0, none⟩) sv.length q0 := (RY.ev_tmp a 47).trans (d0.2.1.trans d0.2.2)
        have d1 := hd 6 _ 48 rfl rfl ⟨⟨6, .data⟩, by simp, rfl, rfl⟩
        have e1 : a.tmps[48]?.getD undef = .int .i64 (k : Nat) := (RY.ev_tmp a 48).trans (d1.2.1.trans d1.2.2)
        exact Or.inl ⟨.pointer (some ⟨g, k * 13, none⟩), W, by simp [execOp, go_sem, e0, e1, hm0, hm3], rfl, rfl, hX, hH0, hH1⟩
      | 9, ho =>
        injection ho with ho; subst ho
        have d0 := hd 8 _ 50 rfl rfl ⟨⟨8, .data⟩, by simp, rfl, rfl⟩
        have e0 : a.tmps[50]?.getD undef = .pointer (some ⟨g, k * 13, none⟩) := (RY.ev_tmp a 50).trans (d0.2.1.trans d0.2.2)
        have d1 := hd 7 _ 49 rfl rfl ⟨⟨7, .data⟩, by simp, rfl, rfl⟩
        have e1 : a.tmps[49]?.getD undef = .agg #[.string s'.nm, .int .i64 s'.ver, .bool s'.gone, .int .i64 s'.image, .int .i64 s'.want, .int .i64 s'.down, .int .i64 s'.over, .int .i64 s'.next, .int .i64 s'.per, .int .i64 s'.least, .int .i64 s'.most, .int .i64 s'.load, .int .i64 s'.cool] := (RY.ev_tmp a 49).trans (d1.2.1.trans d1.2.2)
        have hg9 := (hH0 hi).trans hgh
        have ho9 := owns_belx2 HX4.out.o0 hX (hH0 hi)
        have hth : W.there g (k * 13) 13 := owns_there ho9 (k * 13) 13 (by have : (k + 1) * 13 ≤ sv.length * 13 := Nat.mul_le_mul_right 13 hlt; omega)
        have h8 := hd 8 _ 50 rfl rfl ⟨⟨8, .data⟩, by simp, rfl, rfl⟩
        have h7 := hd 7 _ 49 rfl rfl ⟨⟨7, .data⟩, by simp, rfl, rfl⟩
        refine Or.inr (Or.inl ⟨W.setCells g (k * 13) [.string s'.nm, .int .i64 s'.ver, .bool s'.gone, .int .i64 s'.image, .int .i64 s'.want, .int .i64 s'.down, .int .i64 s'.over, .int .i64 s'.next, .int .i64 s'.per, .int .i64 s'.least, .int .i64 s'.most, .int .i64 s'.load, .int .i64 s'.cool], ?_, rfl, hX.scs _ _, fun h => (by cases h), fun _ => ?_⟩)
        · have q1 : a.eval (.tmp 50) = .pointer (some ⟨g, k * 13, none⟩) := h8.2.1.trans h8.2.2
          have q2 : a.eval (.tmp 49) = .agg #[.string s'.nm, .int .i64 s'.ver, .bool s'.gone, .int .i64 s'.image, .int .i64 s'.want, .int .i64 s'.down, .int .i64 s'.over, .int .i64 s'.next, .int .i64 s'.per, .int .i64 s'.least, .int .i64 s'.most, .int .i64 s'.load, .int .i64 s'.cool] := h7.2.1.trans h7.2.2
          unfold execOp
          simp only [q1, q2, Instr.storeAt, Instr.sureAddr, Sem.run_bind, Sem.run_pure, Result.andThen_ok]
          rw [show (#[.string s'.nm, .int .i64 s'.ver, .bool s'.gone, .int .i64 s'.image, .int .i64 s'.want, .int .i64 s'.down, .int .i64 s'.over, .int .i64 s'.next, .int .i64 s'.per, .int .i64 s'.least, .int .i64 s'.most, .int .i64 s'.load, .int .i64 s'.cool] : Array Value) = [.string s'.nm, .int .i64 s'.ver, .bool s'.gone, .int .i64 s'.image, .int .i64 s'.want, .int .i64 s'.down, .int .i64 s'.over, .int .i64 s'.next, .int .i64 s'.per, .int .i64 s'.least, .int .i64 s'.most, .int .i64 s'.load, .int .i64 s'.cool].toArray from rfl, run_storeVar_mid W g (k * 13) 41 [.string s'.nm, .int .i64 s'.ver, .bool s'.gone, .int .i64 s'.image, .int .i64 s'.want, .int .i64 s'.down, .int .i64 s'.over, .int .i64 s'.next, .int .i64 s'.per, .int .i64 s'.least, .int .i64 s'.most, .int .i64 s'.load, .int .i64 s'.cool].toArray hth (by kernel_rfl) (by simp [Value.oneCell'])]
          rfl
        · have := owns_scs (SvC s') (k * 13) W _ ho9
          rw [flat_lset SvC 13 SvC_len sv k s' hlt] at this
          exact this
      | n + 10, ho => simp at ho
    · intro up vals vs W2 hall hv hT
      obtain ⟨hX, _, hH1⟩ := hT
      have ho := hH1 (hall 9 (by decide))
      simp only [RY.putAll, Act.put, List.setIfInBounds_toArray, List.set_cons_zero, List.set_cons_succ]
      generalize vs 42 = z42
      generalize vs 43 = z43
      generalize vs 44 = z44
      generalize vs 45 = z45
      generalize vs 46 = z46
      generalize vs 47 = z47
      generalize vs 48 = z48
      generalize vs 49 = z49
      generalize vs 50 = z50
      have HX2 : Hid (XG lo px t (SvC w0) W2 now (wishOf sv w0 now) cp bt (some ⟨g, 0, none⟩) p1 p2 sv.length cp.length bt.length q0 q1 q2) := HX4.out.svs hgh hX ((hX.block px hpl hne).trans HX4.out.bx) (by rw [HWO2.out]; exact ho) (by rw [HWO2.out, List.length_set]) HSZD.out HX4.out.m0
      have HB2 : Hid (Below lo R W2) := HB4.out.trans (hX.lo HGL.out HLO4.out)
      have HLO2 : Hid (lo ≤ W2.heap.size) := Nat.le_trans HLO4.out hX.size
      clear hX hH1 ho hv hall X1 hpl hne hgh
      have xz := lt_heap HX2.out.bx
      go_wp2_with fail
      refine (HTAIL.out W2 _ _ _ HX2.out HB2.out HLO2.out).mono ?_
      rintro e W9 ⟨rfl, hx3, hb3⟩
      have HX9 := hid hx3
      have HB9 := hid hb3
      clear hx3 hb3 xz
      go_wp2
      go_ret
      exact ⟨rfl, HX9.out, HB9.out⟩

end Go.Proofs.YtclagbakddkjcaaGreat
