/-
  The law of StewApply.
-/
import Derived.Test.YtpamkibnahhphaaGreatDoorLT
namespace Go.Proofs.YtpamkibnahhphaaGreatDoor
open Go.RowKit Go.Deep

theorem EnsIn.marks {S : Nat → Prop} {w w' : World} {B : Nat} {ms : List En} (h : EnsIn w B ms) (hm : Marks S w w') (hn : ¬ S B) : EnsIn w' B ms :=
  ⟨Nat.lt_of_lt_of_le h.lt hm.size, h.len, fun i hi => by have q := h.at_ i hi; exact ⟨(hm.cell h.lt hn _).trans q.c0, (hm.cell h.lt hn _).trans q.c1, q.sized⟩, hm.own _ _ _ h.own⟩
theorem Box4.marks {S : Nat → Prop} {w w' : World} {p : Nat} {v0 v1 v2 v3 : Value} (h : Box4 w p v0 v1 v2 v3) (hm : Marks S w w') (hn : ¬ S p) : Box4 w' p v0 v1 v2 v3 := by
  have e := fun o => hm.cell h.lt hn o
  exact ⟨Nat.lt_of_lt_of_le h.lt hm.size, (e _).trans h.x0, (e _).trans h.x1, (e _).trans h.x2, (e _).trans h.x3⟩
theorem BoxA.marks {S : Nat → Prop} {w w' : World} {p : Nat} {v0 v1 v2 v3 v4 v5 v6 v7 : Value} (h : BoxA w p v0 v1 v2 v3 v4 v5 v6 v7) (hm : Marks S w w') (hn : ¬ S p) : BoxA w' p v0 v1 v2 v3 v4 v5 v6 v7 := by
  have e := fun o => hm.cell h.lt hn o
  exact ⟨Nat.lt_of_lt_of_le h.lt hm.size, (e _).trans h.x0, (e _).trans h.x1, (e _).trans h.x2, (e _).trans h.x3, (e _).trans h.x4, (e _).trans h.x5, (e _).trans h.x6, (e _).trans h.x7⟩
theorem BkOwn.v' {W : World} {lo : Nat} {R : SBk} {g0 g1 g2 : Option Addr} {n0 n1 n2 f0 f1 f2 : Nat} (h : BkOwn W lo R (.slice g0 n0 f0) (.slice g1 n1 f1) (.slice g2 n2 f2)) : SBkV W g0 g1 g2 R := by
  obtain ⟨_, _, _, _, _, _, e0, e1, e2, hv⟩ := h.v
  injection e0 with e0 _ _
  injection e1 with e1 _ _
  injection e2 with e2 _ _
  subst e0 e1 e2
  exact hv

/-- A book's own rows, for marks. -/
theorem BkOwn.sk {W : World} {lo mg : Nat} {R : SBk} {s0 s1 s2 : Value} (h : BkOwn W lo R s0 s1 s2) (hg : OwnBlk W mg 36 4) : SBkSk W (fun b => lo ≤ b ∧ b ≠ mg ∧ b < W.heap.size) s0 s1 s2 R.svcs.length R.cps.length R.bts.length := by
  obtain ⟨cs, hc, _⟩ := hg
  have ne : ∀ {g : Nat} {cur : Array Value} {e : TypeId}, W.heap[g]? = some (.cells cur e (0, 0)) → e ≠ 36 → g ≠ mg := fun h1 h2 e => by
    rw [e, hc] at h1
    injection h1 with h1
    injection h1 with _ h1 _
    exact h2 h1.symm
  refine ⟨?_, ?_, ?_⟩
  · rcases h.o0.2 with ⟨hv, hn⟩ | ⟨g, cap, cur, hv, hlo, hh, hn, _, hs, _⟩
    · exact Or.inl ⟨hn, _, _, hv⟩
    · exact Or.inr ⟨g, cap, cur.size, hv, ⟨hlo, ne hh t_sk, lt_heap hh⟩, ⟨cur, hh, rfl⟩, by rw [hs]; exact Nat.mul_le_mul_right 13 hn, h.sm.1⟩
  · rcases h.o1.2 with ⟨hv, hn⟩ | ⟨g, cap, cur, hv, hlo, hh, hn, _, hs, _⟩
    · exact Or.inl ⟨hn, _, _, hv⟩
    · exact Or.inr ⟨g, cap, cur.size, hv, ⟨hlo, ne hh (fun e => t_kc e.symm), lt_heap hh⟩, ⟨cur, hh, rfl⟩, by rw [hs]; exact Nat.mul_le_mul_right 7 hn, h.sm.2.1⟩
  · rcases h.o2.2 with ⟨hv, hn⟩ | ⟨g, cap, cur, hv, hlo, hh, hn, _, hs, _⟩
    · exact Or.inl ⟨hn, _, _, hv⟩
    · exact Or.inr ⟨g, cap, cur.size, hv, ⟨hlo, ne hh t_bk, lt_heap hh⟩, ⟨cur, hh, rfl⟩, by rw [hs]; exact Nat.mul_le_mul_right 2 hn, h.sm.2.2⟩
theorem owns_marks {S : Nat → Prop} {W W' : World} {lo : Nat} {e : TypeId} {size n : Nat} {v : Value} {xs : List Value} (h : W.ownsRow lo e size v n xs) (hm : Marks S W W') (hS : ∀ b, lo ≤ b → ¬ S b) : W'.ownsRow lo e size v n xs := by
  refine ⟨h.1, h.2.imp id ?_⟩
  rintro ⟨g, cap, cur, h1, h2, h3, h4⟩
  exact ⟨g, cap, cur, h1, h2, (hm.block g (lt_heap h3) (hS g h2)).trans h3, h4⟩
theorem BkOwn.marks {S : Nat → Prop} {W W' : World} {lo : Nat} {R : SBk} {s0 s1 s2 : Value} (h : BkOwn W lo R s0 s1 s2) (hm : Marks S W W') (hS : ∀ b, lo ≤ b → ¬ S b) : BkOwn W' lo R s0 s1 s2 :=
  ⟨owns_marks h.o0 hm hS, owns_marks h.o1 hm hS, owns_marks h.o2 hm hS, h.z0, h.z1, h.z2, h.sm⟩

def VQ14 (K : SBk) (Xv Y : Value) (i : Nat) (u : Value) (W : World) : Prop :=
  match i with
  | 0 => u = Y
  | 1 => u = Xv
  | 2 => ∃ b0 b1 b2, u = .agg #[.int .i64 K.now, .slice (some ⟨b0, 0, none⟩) K.svcs.length K.svcs.length, .slice (some ⟨b1, 0, none⟩) K.cps.length K.cps.length, .slice (some ⟨b2, 0, none⟩) K.bts.length K.bts.length] ∧ SBkIn W b0 b1 b2 K
  | 3 => u = .bool true
  | _ => u = .bool false
theorem VQ14_mono (K : SBk) (Xv Y : Value) : ∀ j u W W', Below W.heap.size W W' → VQ14 K Xv Y j u W → VQ14 K Xv Y j u W' := by
  intro j u W W' hb h
  match j, h with
  | 0, h => exact h
  | 1, h => exact h
  | 2, h =>
    obtain ⟨b0, b1, b2, rfl, h2⟩ := h
    exact ⟨b0, b1, b2, rfl, h2.later hb⟩
  | 3, h => exact h
  | n + 4, h => exact h
def VQ16 (X : Ac) (Xv Y : Value) (i : Nat) (u : Value) (W : World) : Prop :=
  match i with
  | 0 => u = Y
  | 1 => u = Xv
  | 2 => ∃ b, u = .agg #[.string X.svc, .int .i64 X.seen, .int .i64 X.create, .int .i64 X.want, .int .i64 X.cool, .bool X.scale, .slice (some ⟨b, 0, none⟩) X.ends.length X.ends.length, .bool X.drop] ∧ EnsIn W b X.ends
  | 3 => u = .bool true
  | _ => u = .bool false
theorem VQ16_mono (X : Ac) (Xv Y : Value) : ∀ j u W W', Below W.heap.size W W' → VQ16 X Xv Y j u W → VQ16 X Xv Y j u W' := by
  intro j u W W' hb h
  match j, h with
  | 0, h => exact h
  | 1, h => exact h
  | 2, h =>
    obtain ⟨b, rfl, h2⟩ := h
    exact ⟨b, rfl, h2.later hb⟩
  | 3, h => exact h
  | n + 4, h => exact h
def VL31 (K : SBk) (X : Ac) (C : Int) (v0 v1 v2 ve : Value) : Nat → Value → Prop
  | 0, u => u = .agg #[.int .i64 K.now, v0, v1, v2]
  | 2, u => u = .agg #[.string X.svc, .int .i64 X.seen, .int .i64 X.create, .int .i64 X.want, .int .i64 X.cool, .bool X.scale, ve, .bool X.drop]
  | 7, u => u = .int .i64 C
  | 10, u => u = .int .i64 C
  | _, _ => True
def VL8 (K : SBk) (X : Ac) (C : Int) (v0 v1 v2 ve : Value) : Nat → Value → Prop
  | 0, u => u = .agg #[.int .i64 K.now, v0, v1, v2]
  | 2, u => u = .agg #[.string X.svc, .int .i64 X.seen, .int .i64 X.create, .int .i64 X.want, .int .i64 X.cool, .bool X.scale, ve, .bool X.drop]
  | 7, u => u = .int .i64 C
  | 10, u => u = .int .i64 C
  | _, _ => True

set_option maxRecDepth 8000 in
set_option maxHeartbeats 40000000 in
theorem lawStewApply (K : SBk) (X : Ac) (v0 v1 v2 ve : Value) (w : World) (h : SBkAt w v0 v1 v2 K) (ha : AcAt w ve X) (hI : ∀ W, Below w.heap.size w W → ∀ b0 b1 b2 be, SBkIn W b0 b1 b2 K → EnsIn W be X.ends → Calls Tryz.prog 9 #[.agg #[.int .i64 K.now, .slice (some ⟨b0, 0, none⟩) K.svcs.length K.svcs.length, .slice (some ⟨b1, 0, none⟩) K.cps.length K.cps.length, .slice (some ⟨b2, 0, none⟩) K.bts.length K.bts.length], .agg #[.string X.svc, .int .i64 X.seen, .int .i64 X.create, .int .i64 X.want, .int .i64 X.cool, .bool X.scale, .slice (some ⟨be, 0, none⟩) X.ends.length X.ends.length, .bool X.drop]] W fun e w' => (∃ s0 s1 s2, e = .returned (.tuple #[.agg #[.int .i64 (stewAp K X).now, s0, s1, s2], .int .i64 (stewApC K X)]) ∧ BkOwn w' W.heap.size (stewAp K X) s0 s1 s2) ∧ Below W.heap.size W w') :
    Calls Tryz.prog 3 #[.agg #[.int .i64 K.now, v0, v1, v2], .agg #[.string X.svc, .int .i64 X.seen, .int .i64 X.create, .int .i64 X.want, .int .i64 X.cool, .bool X.scale, ve, .bool X.drop]] w fun e w' => e = .returned (.bool true) ∧ Below w.heap.size w w' := by
  have HH := hid h
  have HAA := hid ha
  have hsz := ha.sized
  have HSF : Hid (∀ W b0 b1 b2 be, SBkIn W b0 b1 b2 K → EnsIn W be X.ends → Calls Tryz.prog 6 #[.agg #[.int .i64 K.now, .slice (some ⟨b0, 0, none⟩) K.svcs.length K.svcs.length, .slice (some ⟨b1, 0, none⟩) K.cps.length K.cps.length, .slice (some ⟨b2, 0, none⟩) K.bts.length K.bts.length], .agg #[.string X.svc, .int .i64 X.seen, .int .i64 X.create, .int .i64 X.want, .int .i64 X.cool, .bool X.scale, .slice (some ⟨be, 0, none⟩) X.ends.length X.ends.length, .bool X.drop]] W fun e w' => (∃ s0 s1 s2, e = .returned (.tuple #[.agg #[.int .i64 (stewAp K X).now, s0, s1, s2], .int .i64 (stewApC K X)]) ∧ BkOwn w' W.heap.size (stewAp K X) s0 s1 s2) ∧ Below W.heap.size W w') := fun W b0 b1 b2 be hk hk' => stewApplyS K X _ _ _ _ _ _ _ _ W hk.v hk'.v hsz
  have HIF := hid hI
  clear h ha hI hsz
  obtain ⟨R, hR⟩ : ∃ R, R = stewAp K X := ⟨_, rfl⟩
  obtain ⟨C, hC⟩ : ∃ C, C = stewApC K X := ⟨_, rfl⟩
  rw [← hR, ← hC] at HSF HIF
  clear hR hC
  obtain ⟨wa, hwa⟩ : ∃ wa, wa = (w.alloc (.cells #[.int .i64 K.now, v0, v1, v2] 26)).alloc (.cells #[.string X.svc, .int .i64 X.seen, .int .i64 X.create, .int .i64 X.want, .int .i64 X.cool, .bool X.scale, ve, .bool X.drop] 29) := ⟨_, rfl⟩
  have HBa : Hid (Below w.heap.size w wa) := by show Below _ _ _; rw [hwa]; exact blw_alloc (blw_alloc (Below.refl _ _) _) _
  have HXa : Hid (Box4 wa w.heap.size (.int .i64 K.now) v0 v1 v2) := by show Box4 _ _ _ _ _ _; rw [hwa]; exact (Box4.new' w _ _ _ _ _ _ rfl).past _
  have HYa : Hid (BoxA wa (w.heap.size + 1) (.string X.svc) (.int .i64 X.seen) (.int .i64 X.create) (.int .i64 X.want) (.int .i64 X.cool) (.bool X.scale) ve (.bool X.drop)) := by show BoxA _ _ _ _ _ _ _ _ _ _; rw [hwa]; exact BoxA.new' _ _ _ _ _ _ _ _ _ _ _ (by simp)
  go_enter Tryz.func3, Tryz.ntmps3
  go_upto_region 1 with fail
  rw [← hwa]
  clear hwa
  obtain ⟨xz, x0, x1, x2, x3⟩ := HXa.out
  go_wp2_with fail
  refine (szSB K v0 v1 v2 1048576 wa (by omega) (by omega) (HH.out.later HBa.out)).mono ?_
  rintro e wb ⟨⟨r, rfl, q, q', hr⟩, hb⟩
  have HR : Hid (0 ≤ r → K.small) := hr
  have HBb := hid (blw_trans HBa.out hb)
  have HXb := hid (HXa.out.later hb)
  have HYb := hid (HYa.out.later hb)
  clear hr hb xz x0 x1 x2 x3 HXa HBa HYa
  by_cases c0 : r < 0
  · go_wp2
    go_ret
    exact ⟨rfl, HBb.out⟩
  have HS : Hid K.small := HR.out (by omega)
  clear HR
  obtain ⟨yz, y0, y1, y2, y3, y4, y5, y6, y7⟩ := HYb.out
  go_wp2_with fail
  refine (szAc X ve r wb (by omega) (by omega) (HAA.out.later HBb.out)).mono ?_
  rintro e wc ⟨⟨r2, rfl, _, _, hr⟩, hb⟩
  have HR : Hid (0 ≤ r2 → X.small) := hr
  have HBc := hid (blw_trans HBb.out hb)
  have HXc := hid (HXb.out.later hb)
  have HYc := hid (HYb.out.later hb)
  clear hr hb yz y0 y1 y2 y3 y4 y5 y6 y7 HXb HBb HYb
  by_cases c1 : r2 < 0
  · go_wp2
    go_ret
    exact ⟨rfl, HBc.out⟩
  have HSA : Hid X.small := HR.out (by omega)
  clear HR
  go_upto_region 8 with fail
  refine RY.region_TC (VL8 K X C v0 v1 v2 ve) (LT wc K X R C) (by kernel_rfl) (by kernel_rfl) (by kernel_rfl) (by kernel_rfl) ?_ ?_ ?_
  · intro vals
    exact ⟨(Below.refl _ _).drew, fun h => (by cases h), fun h => (by cases h), fun h => (by cases h), fun h => (by cases h), fun h => (by cases h), fun h => (by cases h)⟩
  · intro up vals i o ho hi hcl a W hk hd hT
    have c54 : up 5 = true → up 4 = true := hcl 5 _ ⟨4, .data⟩ rfl (by simp) rfl
    have c65 : up 6 = true → up 5 = true := hcl 6 _ ⟨5, .data⟩ rfl (by simp) rfl
    have c64 : up 6 = true → up 4 = true := fun h => c54 (c65 h)
    have c98 : up 9 = true → up 8 = true := hcl 9 _ ⟨8, .data⟩ rfl (by simp) rfl
    have c96 : up 9 = true → up 6 = true := hcl 9 _ ⟨6, .data⟩ rfl (by simp) rfl
    have c94 : up 9 = true → up 4 = true := fun h => c64 (c96 h)
    have c41 : up 4 = true → up 1 = true := hcl 4 _ ⟨1, .data⟩ rfl (by simp) rfl
    have hB := blw_trans HBc.out hT.bel
    obtain ⟨xz, x0, x1, x2, x3⟩ := HXc.out.later hT.bel
    obtain ⟨yz, y0, y1, y2, y3, y4, y5, y6, y7⟩ := HYc.out.later hT.bel
    match i, ho with
    | 0, ho =>
      injection ho with ho; subst ho
      have e0 : a.eval (.tmp 2) = .pointer (some ⟨w.heap.size, 0, none⟩) := (hk 2 (by kernel_rfl)).trans rfl
      exact Or.inl ⟨_, W, by simp [execOp, go_sem, (RY.ev_tmp a 2).trans e0, x0, x1, x2, x3], rfl, rfl, hT.put 0 _ _ (Below.refl _ _) hi c54 c64 c98 c94 (by decide) (fun e => by cases e) (fun e => by cases e) (fun e => by cases e) (fun e => by cases e) (fun e => by cases e) (fun e => by cases e)⟩
    | 1, ho =>
      injection ho with ho; subst ho
      have d0 := hd 0 _ 28 rfl rfl ⟨⟨0, .data⟩, by simp, rfl, rfl⟩
      have e0 : a.tmps[28]?.getD undef = _ := (RY.ev_tmp a 28).trans (d0.2.1.trans d0.2.2)
      refine Or.inr (Or.inr ⟨7, #[.agg #[.int .i64 K.now, v0, v1, v2]], by simp [go_sem, e0], rfl, (toSB K v0 v1 v2 W HS.out (HH.out.later hB)).mono ?_⟩)
      rintro e W' ⟨⟨b0, b1, b2, rfl, hi', _⟩, hb⟩
      exact ⟨_, rfl, trivial, hT.put 1 _ _ hb hi c54 c64 c98 c94 (by decide) (fun _ => ⟨b0, b1, b2, rfl, hi'⟩) (fun e => by cases e) (fun e => by cases e) (fun e => by cases e) (fun e => by cases e) (fun e => by cases e)⟩
    | 2, ho =>
      injection ho with ho; subst ho
      have e0 : a.eval (.tmp 3) = .pointer (some ⟨w.heap.size + 1, 0, none⟩) := (hk 3 (by kernel_rfl)).trans rfl
      exact Or.inl ⟨_, W, by simp [execOp, go_sem, (RY.ev_tmp a 3).trans e0, y0, y1, y2, y3, y4, y5, y6, y7], rfl, rfl, hT.put 2 _ _ (Below.refl _ _) hi c54 c64 c98 c94 (by decide) (fun e => by cases e) (fun e => by cases e) (fun e => by cases e) (fun e => by cases e) (fun e => by cases e) (fun e => by cases e)⟩
    | 3, ho =>
      injection ho with ho; subst ho
      have d0 := hd 2 _ 30 rfl rfl ⟨⟨2, .data⟩, by simp, rfl, rfl⟩
      have e0 : a.tmps[30]?.getD undef = _ := (RY.ev_tmp a 30).trans (d0.2.1.trans d0.2.2)
      refine Or.inr (Or.inr ⟨8, #[.agg #[.string X.svc, .int .i64 X.seen, .int .i64 X.create, .int .i64 X.want, .int .i64 X.cool, .bool X.scale, ve, .bool X.drop]], by simp [go_sem, e0], rfl, (toAc X ve W HSA.out (HAA.out.later hB)).mono ?_⟩)
      rintro e W' ⟨⟨b, rfl, hi', _⟩, hb⟩
      exact ⟨_, rfl, trivial, hT.put 3 _ _ hb hi c54 c64 c98 c94 (by decide) (fun e => by cases e) (fun _ => ⟨b, rfl, hi'⟩) (fun e => by cases e) (fun e => by cases e) (fun e => by cases e) (fun e => by cases e)⟩
    | 4, ho =>
      injection ho with ho; subst ho
      have d0 := hd 1 _ 29 rfl rfl ⟨⟨1, .data⟩, by simp, rfl, rfl⟩
      have d1 := hd 3 _ 31 rfl rfl ⟨⟨3, .data⟩, by simp, rfl, rfl⟩
      obtain ⟨b0, b1, b2, q0, hk0⟩ := hT.t1 d0.1 hi
      obtain ⟨be, q1, hk1⟩ := hT.t3 d1.1 hi
      have e0 := (RY.ev_tmp a 29).trans (d0.2.1.trans q0)
      have e1 := (RY.ev_tmp a 31).trans (d1.2.1.trans q1)
      refine Or.inr (Or.inr ⟨6, #[.agg #[.int .i64 K.now, .slice (some ⟨b0, 0, none⟩) K.svcs.length K.svcs.length, .slice (some ⟨b1, 0, none⟩) K.cps.length K.cps.length, .slice (some ⟨b2, 0, none⟩) K.bts.length K.bts.length], .agg #[.string X.svc, .int .i64 X.seen, .int .i64 X.create, .int .i64 X.want, .int .i64 X.cool, .bool X.scale, .slice (some ⟨be, 0, none⟩) X.ends.length X.ends.length, .bool X.drop]], by simp [go_sem, e0, e1], rfl, (HSF.out W b0 b1 b2 be hk0 hk1).mono ?_⟩)
      rintro e W' ⟨⟨s0, s1, s2, rfl, ho'⟩, hb⟩
      exact ⟨_, rfl, trivial, hT.put 4 _ _ hb hi c54 c64 c98 c94 (by decide) (fun e => by cases e) (fun e => by cases e) (fun _ => ⟨s0, s1, s2, rfl, ho'.lo hT.bel.size⟩) (fun e => by cases e) (fun e => by cases e) (fun e => by cases e)⟩
    | 5, ho =>
      injection ho with ho; subst ho
      have d0 := hd 4 _ 32 rfl rfl ⟨⟨4, .data⟩, by simp, rfl, rfl⟩
      have e0 := (RY.ev_tmp a 32).trans d0.2.1
      exact Or.inl ⟨vals 4, W, by simp [execOp, go_sem, e0], rfl, trivial, hT.put 5 _ _ (Below.refl _ _) hi c54 c64 c98 c94 (by decide) (fun e => by cases e) (fun e => by cases e) (fun e => by cases e) (fun _ => rfl) (fun e => by cases e) (fun e => by cases e)⟩
    | 6, ho =>
      injection ho with ho; subst ho
      have d0 := hd 5 _ 27 rfl rfl ⟨⟨5, .data⟩, by simp, rfl, rfl⟩
      obtain ⟨s0, s1, s2, q, _⟩ := hT.t4 (c54 d0.1)
      have e0 := (RY.ev_tmp a 27).trans (d0.2.1.trans ((hT.t5 d0.1).trans q))
      exact Or.inl ⟨.agg #[.int .i64 R.now, s0, s1, s2], W, by simp [execOp, go_sem, e0], rfl, trivial, hT.put 6 _ _ (Below.refl _ _) hi c54 c64 c98 c94 (by decide) (fun e => by cases e) (fun e => by cases e) (fun e => by cases e) (fun e => by cases e) (fun _ => ⟨s0, s1, s2, q, rfl⟩) (fun e => by cases e)⟩
    | 7, ho =>
      injection ho with ho; subst ho
      have d0 := hd 5 _ 27 rfl rfl ⟨⟨5, .data⟩, by simp, rfl, rfl⟩
      obtain ⟨s0, s1, s2, q, _⟩ := hT.t4 (c54 d0.1)
      have e0 := (RY.ev_tmp a 27).trans (d0.2.1.trans ((hT.t5 d0.1).trans q))
      exact Or.inl ⟨.int .i64 C, W, by simp [execOp, go_sem, e0], rfl, rfl, hT.put 7 _ _ (Below.refl _ _) hi c54 c64 c98 c94 (by decide) (fun e => by cases e) (fun e => by cases e) (fun e => by cases e) (fun e => by cases e) (fun e => by cases e) (fun e => by cases e)⟩
    | 8, ho =>
      injection ho with ho; subst ho
      exact Or.inl ⟨.pointer (some ⟨W.heap.size, 0, none⟩), W.alloc (.cells #[.int .i64 0, .slice none 0 0, .slice none 0 0, .slice none 0 0] 36), by simp [execOp, go_sem], rfl, trivial, hT.put 8 _ _ (blw_alloc (Below.refl _ _) _) hi c54 c64 c98 c94 (by decide) (fun e => by cases e) (fun e => by cases e) (fun e => by cases e) (fun e => by cases e) (fun e => by cases e) (fun _ => ⟨W.heap.size, rfl, hT.bel.size, OwnBlk.alloc W _ _ 4 rfl⟩)⟩
    | 9, ho =>
      injection ho with ho; subst ho
      have d0 := hd 8 _ 6 rfl rfl ⟨⟨8, .data⟩, by simp, rfl, rfl⟩
      have d1 := hd 6 _ 33 rfl rfl ⟨⟨6, .data⟩, by simp, rfl, rfl⟩
      obtain ⟨p, q8, hp, ho8⟩ := hT.t8 d0.1
      obtain ⟨s0, s1, s2, q4, q6⟩ := hT.t6 d1.1
      have hpe := d0.2.1.trans q8
      have hve := d1.2.1.trans q6
      obtain ⟨t0, t1, t2, q4', hbo, _⟩ := hT.t4 (c64 d1.1)
      obtain ⟨rfl, rfl, rfl⟩ : s0 = t0 ∧ s1 = t1 ∧ s2 = t2 := by
        have := q4.symm.trans q4'
        simpa using this
      obtain ⟨_, _, _, _, _, _, z0, z1, z2, _⟩ := hbo.v
      refine Or.inr (Or.inl ⟨W.setCells p 0 [.int .i64 R.now, s0, s1, s2], ?_, rfl, hT.st (c64 d1.1) q4 q8 hp ho8⟩)
      unfold execOp
      have hth : W.there p 0 4 := RY.own_there ho8
      simp only [hpe, hve, Instr.storeAt, Instr.sureAddr, Sem.run_bind, Sem.run_pure, Result.andThen_ok]
      rw [show (#[.int .i64 R.now, s0, s1, s2] : Array Value) = [.int .i64 R.now, s0, s1, s2].toArray from rfl, run_storeVar_mid W p 0 36 [.int .i64 R.now, s0, s1, s2].toArray hth rfl (all_oneCell_toArray (by intro x hx; simp only [List.mem_cons, List.not_mem_nil, or_false] at hx; rcases hx with rfl | rfl | rfl | rfl <;> first | rfl | (rw [z0]; rfl) | (rw [z1]; rfl) | (rw [z2]; rfl)))]
      rfl
    | 10, ho =>
      injection ho with ho; subst ho
      have d0 := hd 7 _ 34 rfl rfl ⟨⟨7, .data⟩, by simp, rfl, rfl⟩
      have e0 : a.tmps[34]?.getD undef = _ := (RY.ev_tmp a 34).trans (d0.2.1.trans d0.2.2)
      exact Or.inl ⟨.int .i64 C, W, by simp [execOp, go_sem, e0], rfl, rfl, hT.put 10 _ _ (Below.refl _ _) hi c54 c64 c98 c94 (by decide) (fun e => by cases e) (fun e => by cases e) (fun e => by cases e) (fun e => by cases e) (fun e => by cases e) (fun e => by cases e)⟩
    | m + 11, ho => simp at ho
  intro up vals vs wd hall hvs hT
  obtain ⟨p, q8, hlp, hop⟩ := hT.t8 (hall 8 (by decide))
  obtain ⟨s0, s1, s2, q4, hbo, hbx⟩ := hT.t4 (hall 4 (by decide))
  have hbx := hbx (hall 9 (by decide)) p q8
  have ev8 := ((hvs 8 _ 6 rfl rfl).1).trans q8
  have ev10 : vs 7 = .int .i64 C := ((hvs 10 _ 7 rfl rfl).1).trans (hvs 10 _ 7 rfl rfl).2
  obtain ⟨a0, a1, a2, c0, c1, c2, rfl, rfl, rfl, hv⟩ := hbo.v
  simp only [RY.putAll, Act.put, List.setIfInBounds_toArray, List.set_cons_zero, List.set_cons_succ]
  rw [ev8, ev10]
  generalize vs 28 = s28
  generalize vs 29 = s29
  generalize vs 30 = s30
  generalize vs 31 = s31
  generalize vs 32 = s32
  generalize vs 27 = s27
  generalize vs 33 = s33
  generalize vs 34 = s34
  have HBd := hid (blw_trans HBc.out hT.bel)
  have HXd := hid (HXc.out.later hT.bel)
  have HYd := hid (HYc.out.later hT.bel)
  have HPd := hid hbx
  have HVd := hid hv
  clear hvs hT hall q8 q4 hbo hbx ev8 ev10 hlp hop hv HBc HXc HYc
  obtain ⟨xz, x0, x1, x2, x3⟩ := HXd.out
  go_wp2_with fail
  refine (toSB K v0 v1 v2 wd HS.out (HH.out.later HBd.out)).mono ?_
  rintro e we ⟨⟨p0, p1, p2, rfl, hi, hl0, hl1, hl2⟩, hb⟩
  have hu0 := hi.l0.lt
  have hu1 := hi.l1.lt
  have hu2 := hi.l2.lt
  obtain ⟨wf, hw⟩ : ∃ wf, wf = we.alloc (.cells #[.int .i64 K.now, .slice (some ⟨p0, 0, none⟩) K.svcs.length K.svcs.length, .slice (some ⟨p1, 0, none⟩) K.cps.length K.cps.length, .slice (some ⟨p2, 0, none⟩) K.bts.length K.bts.length] 36) := ⟨_, rfl⟩
  obtain ⟨mb, hmb⟩ : ∃ mb, mb = we.heap.size := ⟨_, rfl⟩
  have hbn : Below we.heap.size we wf := by rw [hw]; exact blw_alloc (Below.refl _ _) _
  have HZf : Hid (Box4 wf mb (.int .i64 K.now) (.slice (some ⟨p0, 0, none⟩) K.svcs.length K.svcs.length) (.slice (some ⟨p1, 0, none⟩) K.cps.length K.cps.length) (.slice (some ⟨p2, 0, none⟩) K.bts.length K.bts.length)) := by show Box4 _ _ _ _ _ _; rw [hw]; exact Box4.new' we _ _ _ _ _ _ hmb
  have HIf := hid (hi.later hbn)
  have HDf := hid (blw_trans hb hbn)
  have hdf : wd.heap.size ≤ wf.heap.size := HDf.out.size
  rw [← hmb] at hu0 hu1 hu2
  go_upto_region 10 with fail
  rw [← hw, ← hmb]
  clear hw hmb hbn hi hb xz x0 x1 x2 x3
  obtain ⟨yz, y0, y1, y2, y3, y4, y5, y6, y7⟩ := HYd.out.later HDf.out
  have hmf : mb < wf.heap.size := HZf.out.lt
  go_wp2_with fail
  refine (toAc X ve wf HSA.out (HAA.out.later (blw_trans HBd.out HDf.out))).mono ?_
  rintro e wg ⟨⟨qe, rfl, hie, hlq⟩, hb⟩
  have huq : qe < wg.heap.size := hie.lt
  obtain ⟨wh, hw⟩ : ∃ wh, wh = wg.alloc (.cells #[.string X.svc, .int .i64 X.seen, .int .i64 X.create, .int .i64 X.want, .int .i64 X.cool, .bool X.scale, .slice (some ⟨qe, 0, none⟩) X.ends.length X.ends.length, .bool X.drop] 42) := ⟨_, rfl⟩
  obtain ⟨ma, hma⟩ : ∃ ma, ma = wg.heap.size := ⟨_, rfl⟩
  have hbn : Below wg.heap.size wg wh := by rw [hw]; exact blw_alloc (Below.refl _ _) _
  have HUh : Hid (BoxA wh ma (.string X.svc) (.int .i64 X.seen) (.int .i64 X.create) (.int .i64 X.want) (.int .i64 X.cool) (.bool X.scale) (.slice (some ⟨qe, 0, none⟩) X.ends.length X.ends.length) (.bool X.drop)) := by show BoxA _ _ _ _ _ _ _ _ _ _; rw [hw]; exact BoxA.new' wg _ _ _ _ _ _ _ _ _ _ hma
  have hbf := blw_trans hb hbn
  have HEh := hid (hie.later hbn)
  have HZh := hid (HZf.out.later hbf)
  have HIh := hid (HIf.out.later hbf)
  have HDh := hid (blw_trans HDf.out hbf)
  have hfh : wf.heap.size ≤ wh.heap.size := hbf.size
  rw [← hma] at huq
  go_upto_region 11 with fail
  rw [← hw, ← hma]
  clear hw hma hbn hie hb hbf yz y0 y1 y2 y3 y4 y5 y6 y7 HZf HIf HDf
  have hmh : ma < wh.heap.size := HUh.out.lt
  obtain ⟨xz, x0, x1, x2, x3⟩ := HZh.out
  obtain ⟨yz, y0, y1, y2, y3, y4, y5, y6, y7⟩ := HUh.out
  go_wp2_with fail
  refine (HIF.out wh (blw_trans HBd.out HDh.out) p0 p1 p2 qe HIh.out HEh.out).mono ?_
  rintro e wi ⟨⟨t0, t1, t2, rfl, hbo⟩, hb⟩
  obtain ⟨g0, g1, g2, f0, f1, f2, rfl, rfl, rfl, hv⟩ := hbo.v
  obtain ⟨wj, hw⟩ : ∃ wj, wj = wi.alloc (.cells #[.int .i64 R.now, .slice g0 R.svcs.length f0, .slice g1 R.cps.length f1, .slice g2 R.bts.length f2] 36) := ⟨_, rfl⟩
  obtain ⟨mg, hmg⟩ : ∃ mg, mg = wi.heap.size := ⟨_, rfl⟩
  have hbn : Below wi.heap.size wi wj := by rw [hw]; exact blw_alloc (Below.refl _ _) _
  have HGj : Hid (Box4 wj mg (.int .i64 R.now) (.slice g0 R.svcs.length f0) (.slice g1 R.cps.length f1) (.slice g2 R.bts.length f2)) := by show Box4 _ _ _ _ _ _; rw [hw]; exact Box4.new' wi _ _ _ _ _ _ hmg
  have HNj : Hid (OwnBlk wj mg 36 4) := by show OwnBlk _ _ _ _; rw [hw, hmg]; exact OwnBlk.alloc wi _ _ 4 rfl
  have hgm : wh.heap.size ≤ mg := by rw [hmg]; exact hb.size
  have HOj := hid (hbo.later hbn)
  have hbf := blw_trans hb hbn
  have HUj := hid (HUh.out.later hbf)
  have HEj := hid (HEh.out.later hbf)
  have HZj := hid (HZh.out.later hbf)
  have HIj := hid (HIh.out.later hbf)
  have HDj := hid (blw_trans HDh.out hbf)
  have HQj := hid (hv.later hbn)
  go_upto_region 12 with fail
  rw [← hw, ← hmg]
  clear hw hmg hbn hb hbf hbo hv xz x0 x1 x2 x3 yz y0 y1 y2 y3 y4 y5 y6 y7 HUh HEh HZh HIh HDh
  obtain ⟨xz, x0, x1, x2, x3⟩ := HGj.out
  obtain ⟨yz, y0, y1, y2, y3⟩ := HPd.out.later HDj.out
  go_wp2_with fail
  refine (eqSBV R g0 g1 g2 a0 a1 a2 f0 f1 f2 c0 c1 c2 wj HQj.out (HVd.out.later HDj.out)).mono ?_
  rintro e wk ⟨rfl, hb⟩
  clear xz x0 x1 x2 x3 yz y0 y1 y2 y3
  have HGk := hid (HGj.out.later hb)
  have HNk := hid (HNj.out.later hb)
  have HOk := hid (HOj.out.later hb)
  have HQk := hid (HQj.out.later hb)
  have HUk := hid (HUj.out.later hb)
  have HEk := hid (HEj.out.later hb)
  have HZk := hid (HZj.out.later hb)
  have HIk := hid (HIj.out.later hb)
  have HDk := hid (blw_trans HDj.out hb)
  clear hb HGj HNj HOj HQj HUj HEj HZj HIj HDj
  go_upto_region 14 with fail
  refine RY.region_past wk (Below.refl _ _) (VQ14 K (.agg #[.int .i64 K.now, v0, v1, v2]) (.agg #[.int .i64 K.now, .slice (some ⟨p0, 0, none⟩) K.svcs.length K.svcs.length, .slice (some ⟨p1, 0, none⟩) K.cps.length K.cps.length, .slice (some ⟨p2, 0, none⟩) K.bts.length K.bts.length])) (VQ14_mono K (.agg #[.int .i64 K.now, v0, v1, v2]) (.agg #[.int .i64 K.now, .slice (some ⟨p0, 0, none⟩) K.svcs.length K.svcs.length, .slice (some ⟨p1, 0, none⟩) K.cps.length K.cps.length, .slice (some ⟨p2, 0, none⟩) K.bts.length K.bts.length])) (by kernel_rfl) (by kernel_rfl) (by kernel_rfl) (by kernel_rfl) ?_ ?_
  · intro i o ho a W hW hk hd
    have hD := blw_trans HDk.out hW
    have hB : Below w.heap.size w W := blw_trans HBd.out hD
    obtain ⟨xz, x0, x1, x2, x3⟩ := HZk.out.later hW
    obtain ⟨yz, y0, y1, y2, y3⟩ := HXd.out.later hD
    match i, ho with
    | 0, ho =>
      injection ho with ho; subst ho
      have e0 : a.eval (.tmp 8) = .pointer (some ⟨mb, 0, none⟩) := (hk 8 (by kernel_rfl)).trans rfl
      exact Or.inl ⟨_, W, by simp [execOp, go_sem, (RY.ev_tmp a 8).trans e0, x0, x1, x2, x3], Below.refl _ _, rfl⟩
    | 1, ho =>
      injection ho with ho; subst ho
      have e0 : a.eval (.tmp 2) = .pointer (some ⟨w.heap.size, 0, none⟩) := (hk 2 (by kernel_rfl)).trans rfl
      exact Or.inl ⟨_, W, by simp [execOp, go_sem, (RY.ev_tmp a 2).trans e0, y0, y1, y2, y3], Below.refl _ _, rfl⟩
    | 2, ho =>
      injection ho with ho; subst ho
      have e0 : a.tmps[55]?.getD undef = _ := (RY.ev_tmp a 55).trans (hd 1 _ 55 rfl rfl ⟨⟨1, .data⟩, by simp, rfl, rfl⟩)
      refine Or.inr ⟨7, #[.agg #[.int .i64 K.now, v0, v1, v2]], by simp [go_sem, e0], (toSB K v0 v1 v2 W HS.out (HH.out.later hB)).mono ?_⟩
      rintro e W' ⟨⟨b0, b1, b2, rfl, hi, _⟩, hb⟩
      exact ⟨_, rfl, hb, b0, b1, b2, rfl, hi⟩
    | 3, ho =>
      injection ho with ho; subst ho
      have e0 : a.tmps[54]?.getD undef = _ := (RY.ev_tmp a 54).trans (hd 0 _ 54 rfl rfl ⟨⟨0, .data⟩, by simp, rfl, rfl⟩)
      obtain ⟨b0, b1, b2, e1, hi⟩ := hd 2 _ 56 rfl rfl ⟨⟨2, .data⟩, by simp, rfl, rfl⟩
      have e1 := (RY.ev_tmp a 56).trans e1
      refine Or.inr ⟨10, #[.agg #[.int .i64 K.now, .slice (some ⟨p0, 0, none⟩) K.svcs.length K.svcs.length, .slice (some ⟨p1, 0, none⟩) K.cps.length K.cps.length, .slice (some ⟨p2, 0, none⟩) K.bts.length K.bts.length], .agg #[.int .i64 K.now, .slice (some ⟨b0, 0, none⟩) K.svcs.length K.svcs.length, .slice (some ⟨b1, 0, none⟩) K.cps.length K.cps.length, .slice (some ⟨b2, 0, none⟩) K.bts.length K.bts.length]], by simp [go_sem, e0, e1], (eqSBV K _ _ _ _ _ _ _ _ _ _ _ _ W (HIk.out.later hW).v hi.v).mono ?_⟩
      rintro e W' ⟨rfl, hb⟩
      exact ⟨_, rfl, hb, rfl⟩
    | 4, ho =>
      injection ho with ho; subst ho
      have e0 : a.tmps[57]?.getD undef = _ := (RY.ev_tmp a 57).trans (hd 3 _ 57 rfl rfl ⟨⟨3, .data⟩, by simp, rfl, rfl⟩)
      exact Or.inl ⟨.bool false, W, by simp [execOp, go_sem, e0], Below.refl _ _, rfl⟩
    | n + 5, ho => simp at ho
  intro wl vs hb hvs
  have el : vs 58 = .bool false := hvs 4 _ 58 rfl rfl
  simp only [RY.putAll, Act.put, List.setIfInBounds_toArray, List.set_cons_zero, List.set_cons_succ]
  rw [el]
  generalize vs 54 = s54
  generalize vs 55 = s55
  generalize vs 56 = s56
  generalize vs 57 = s57
  clear hvs el
  have HGl := hid (HGk.out.later hb)
  have HNl := hid (HNk.out.later hb)
  have HOl := hid (HOk.out.later hb)
  have HQl := hid (HQk.out.later hb)
  have HUl := hid (HUk.out.later hb)
  have HEl := hid (HEk.out.later hb)
  have HZl := hid (HZk.out.later hb)
  have HIl := hid (HIk.out.later hb)
  have HDl := hid (blw_trans HDk.out hb)
  clear hb HGk HNk HOk HQk HUk HEk HZk HIk HDk
  go_upto_region 16 with fail
  refine RY.region_past wl (Below.refl _ _) (VQ16 X (.agg #[.string X.svc, .int .i64 X.seen, .int .i64 X.create, .int .i64 X.want, .int .i64 X.cool, .bool X.scale, ve, .bool X.drop]) (.agg #[.string X.svc, .int .i64 X.seen, .int .i64 X.create, .int .i64 X.want, .int .i64 X.cool, .bool X.scale, .slice (some ⟨qe, 0, none⟩) X.ends.length X.ends.length, .bool X.drop])) (VQ16_mono X (.agg #[.string X.svc, .int .i64 X.seen, .int .i64 X.create, .int .i64 X.want, .int .i64 X.cool, .bool X.scale, ve, .bool X.drop]) (.agg #[.string X.svc, .int .i64 X.seen, .int .i64 X.create, .int .i64 X.want, .int .i64 X.cool, .bool X.scale, .slice (some ⟨qe, 0, none⟩) X.ends.length X.ends.length, .bool X.drop])) (by kernel_rfl) (by kernel_rfl) (by kernel_rfl) (by kernel_rfl) ?_ ?_
  · intro i o ho a W hW hk hd
    have hD := blw_trans HDl.out hW
    have hB : Below w.heap.size w W := blw_trans HBd.out hD
    obtain ⟨xz, x0, x1, x2, x3, x4, x5, x6, x7⟩ := HUl.out.later hW
    obtain ⟨yz, y0, y1, y2, y3, y4, y5, y6, y7⟩ := HYd.out.later hD
    match i, ho with
    | 0, ho =>
      injection ho with ho; subst ho
      have e0 : a.eval (.tmp 9) = .pointer (some ⟨ma, 0, none⟩) := (hk 9 (by kernel_rfl)).trans rfl
      exact Or.inl ⟨_, W, by simp [execOp, go_sem, (RY.ev_tmp a 9).trans e0, x0, x1, x2, x3, x4, x5, x6, x7], Below.refl _ _, rfl⟩
    | 1, ho =>
      injection ho with ho; subst ho
      have e0 : a.eval (.tmp 3) = .pointer (some ⟨w.heap.size + 1, 0, none⟩) := (hk 3 (by kernel_rfl)).trans rfl
      exact Or.inl ⟨_, W, by simp [execOp, go_sem, (RY.ev_tmp a 3).trans e0, y0, y1, y2, y3, y4, y5, y6, y7], Below.refl _ _, rfl⟩
    | 2, ho =>
      injection ho with ho; subst ho
      have e0 : a.tmps[60]?.getD undef = _ := (RY.ev_tmp a 60).trans (hd 1 _ 60 rfl rfl ⟨⟨1, .data⟩, by simp, rfl, rfl⟩)
      refine Or.inr ⟨8, #[.agg #[.string X.svc, .int .i64 X.seen, .int .i64 X.create, .int .i64 X.want, .int .i64 X.cool, .bool X.scale, ve, .bool X.drop]], by simp [go_sem, e0], (toAc X ve W HSA.out (HAA.out.later hB)).mono ?_⟩
      rintro e W' ⟨⟨b, rfl, hi, _⟩, hb⟩
      exact ⟨_, rfl, hb, b, rfl, hi⟩
    | 3, ho =>
      injection ho with ho; subst ho
      have e0 : a.tmps[59]?.getD undef = _ := (RY.ev_tmp a 59).trans (hd 0 _ 59 rfl rfl ⟨⟨0, .data⟩, by simp, rfl, rfl⟩)
      obtain ⟨b, e1, hi⟩ := hd 2 _ 61 rfl rfl ⟨⟨2, .data⟩, by simp, rfl, rfl⟩
      have e1 := (RY.ev_tmp a 61).trans e1
      refine Or.inr ⟨11, #[.agg #[.string X.svc, .int .i64 X.seen, .int .i64 X.create, .int .i64 X.want, .int .i64 X.cool, .bool X.scale, .slice (some ⟨qe, 0, none⟩) X.ends.length X.ends.length, .bool X.drop], .agg #[.string X.svc, .int .i64 X.seen, .int .i64 X.create, .int .i64 X.want, .int .i64 X.cool, .bool X.scale, .slice (some ⟨b, 0, none⟩) X.ends.length X.ends.length, .bool X.drop]], by simp [go_sem, e0, e1], (eqAc X qe b W (HEl.out.later hW) hi).mono ?_⟩
      rintro e W' ⟨rfl, hb⟩
      exact ⟨_, rfl, hb, rfl⟩
    | 4, ho =>
      injection ho with ho; subst ho
      have e0 : a.tmps[62]?.getD undef = _ := (RY.ev_tmp a 62).trans (hd 3 _ 62 rfl rfl ⟨⟨3, .data⟩, by simp, rfl, rfl⟩)
      exact Or.inl ⟨.bool false, W, by simp [execOp, go_sem, e0], Below.refl _ _, rfl⟩
    | n + 5, ho => simp at ho
  intro wm vs hb hvs
  have el : vs 63 = .bool false := hvs 4 _ 63 rfl rfl
  simp only [RY.putAll, Act.put, List.setIfInBounds_toArray, List.set_cons_zero, List.set_cons_succ]
  rw [el]
  generalize vs 59 = s59
  generalize vs 60 = s60
  generalize vs 61 = s61
  generalize vs 62 = s62
  clear hvs el
  have HGm := hid (HGl.out.later hb)
  have HNm := hid (HNl.out.later hb)
  have HOm := hid (HOl.out.later hb)
  have HQm := hid (HQl.out.later hb)
  have HUm := hid (HUl.out.later hb)
  have HEm := hid (HEl.out.later hb)
  have HZm := hid (HZl.out.later hb)
  have HIm := hid (HIl.out.later hb)
  have HDm := hid (blw_trans HDl.out hb)
  clear hb HGl HNl HOl HQl HUl HEl HZl HIl HDl
  have hsm := HS.out
  have hHD := HDm.out.size
  obtain ⟨xz, x0, x1, x2, x3⟩ := HZm.out
  go_wp2_with fail
  refine (markSB (fun b => b = p0 ∨ b = p1 ∨ b = p2) K.now _ _ _ K.svcs.length K.cps.length K.bts.length 1 wm (HIm.out.sk _ (Or.inl rfl) (Or.inr (Or.inl rfl)) (Or.inr (Or.inr rfl))) ?_ (by omega) (by omega) hsm.1 hsm.2.1 hsm.2.2).mono ?_
  · intro b hb
    rcases hb with rfl | rfl | rfl <;> omega
  rintro e wn ⟨rfl, hmk, _⟩
  have hns : ∀ b, mb ≤ b → ¬ (b = p0 ∨ b = p1 ∨ b = p2) := by
    intro b hb hc
    rcases hc with rfl | rfl | rfl <;> omega
  have HDn : Hid (Below wd.heap.size wd wn) := hmk.below (fun b hb => by rcases hb with rfl | rfl | rfl <;> omega) HDm.out
  have HGn := hid (HGm.out.marks hmk (hns _ (by omega)))
  have HNn := hid (hmk.own _ _ _ HNm.out)
  have HOn := hid (HOm.out.marks hmk (fun b hb => hns b (by omega)))
  have HUn := hid (HUm.out.marks hmk (hns _ (by omega)))
  have HEn := hid (HEm.out.marks hmk (hns _ (by omega)))
  obtain ⟨kk, hkk⟩ : ∃ kk : Nat, kk = 1 + K.svcs.length * 13 + K.cps.length * 7 + K.bts.length * 2 := ⟨_, rfl⟩
  have hkb : kk ≤ 1000000000 := by rw [hkk]; have := hsm.1; have := hsm.2.1; have := hsm.2.2; omega
  rw [← hkk]
  clear hkk hmk hns hsm hHD xz x0 x1 x2 x3 HDm HGm HNm HOm HQm HUm HEm HZm HIm
  obtain ⟨xz, x0, x1, x2, x3, x4, x5, x6, x7⟩ := HUn.out
  go_wp2_with fail
  refine (markAc X qe kk wn HEn.out (by omega)).mono ?_
  rintro e wo ⟨rfl, hmk⟩
  have HDo : Hid (Below wd.heap.size wd wo) := hmk.below (fun b hb => by rw [hb]; omega) HDn.out
  have HGo := hid (HGn.out.marks hmk (by show ¬ mg = qe; omega))
  have HNo := hid (hmk.own _ _ _ HNn.out)
  have HOo := hid (HOn.out.marks hmk (fun b hb => by show ¬ b = qe; omega))
  obtain ⟨k2, hk2⟩ : ∃ k2 : Nat, k2 = kk + X.ends.length * 2 := ⟨_, rfl⟩
  rw [← hk2]
  clear hk2 hkb hmk xz x0 x1 x2 x3 x4 x5 x6 x7 HDn HGn HNn HOn HUn HEn
  have hk0 : ¬ ((k2 : Int) < 0) := by omega
  obtain ⟨xz, x0, x1, x2, x3⟩ := HGo.out
  obtain ⟨yz, y0, y1, y2, y3⟩ := HPd.out.later HDo.out
  go_wp2_with fail
  refine (eqSBV R g0 g1 g2 a0 a1 a2 f0 f1 f2 c0 c1 c2 wo HOo.out.v' (HVd.out.later HDo.out)).mono ?_
  rintro e wp ⟨rfl, hb⟩
  clear xz x0 x1 x2 x3 yz y0 y1 y2 y3
  have HDp := hid (blw_trans HDo.out hb)
  have HGp := hid (HGo.out.later hb)
  have HNp := hid (HNo.out.later hb)
  have HOp := hid (HOo.out.later hb)
  clear hb HDo HGo HNo HOo
  have hsm := HOp.out.sm
  obtain ⟨xz, x0, x1, x2, x3⟩ := HGp.out
  go_wp2_with fail
  refine (markSB (fun b => wh.heap.size ≤ b ∧ b ≠ mg ∧ b < wp.heap.size) R.now _ _ _ R.svcs.length R.cps.length R.bts.length 1 wp (HOp.out.sk HNp.out) (fun b hb => hb.2.2) (by omega) (by omega) hsm.1 hsm.2.1 hsm.2.2).mono ?_
  rintro e wq ⟨rfl, hmk, hhd⟩
  have HDq : Hid (Below wd.heap.size wd wq) := hmk.below (fun b hb => by have := hb.1; omega) HDp.out
  have HGq := hid (HGp.out.marks hmk (fun h => h.2.1 rfl))
  have HHq := hid hhd
  have HSR := hid hsm
  obtain ⟨k3, hk3⟩ : ∃ k3 : Nat, k3 = 1 + R.svcs.length * 13 + R.cps.length * 7 + R.bts.length * 2 := ⟨_, rfl⟩
  have HK3 := hid hk3
  rw [← hk3]
  clear hk3 hmk hhd hsm xz x0 x1 x2 x3 HDp HGp HNp HOp hk0
  have hk0 : ¬ ((k3 : Int) < 0) := by omega
  obtain ⟨xz, x0, x1, x2, x3⟩ := HGq.out
  go_wp2_with fail
  refine (heldSB R.now _ _ _ R.svcs.length R.cps.length R.bts.length 1 wq HHq.out (by omega) (by omega) HSR.out.1 HSR.out.2.1 HSR.out.2.2).mono ?_
  rintro e wr ⟨rfl, hb⟩
  rw [← HK3.out]
  clear xz x0 x1 x2 x3
  have HDr := hid (blw_trans HDq.out hb)
  have HGr := hid (HGq.out.later hb)
  have HHr := hid (HHq.out.later hb)
  clear hb HDq HGq HHq
  have HBr := hid (blw_trans HBd.out HDr.out)
  have HXr := hid (HXd.out.later HDr.out)
  have HYr := hid (HYd.out.later HDr.out)
  go_upto_region 31 with fail
  refine RY.region_TC (VL31 K X C v0 v1 v2 ve) (LT wr K X R C) (by kernel_rfl) (by kernel_rfl) (by kernel_rfl) (by kernel_rfl) ?_ ?_ ?_
  · intro vals
    exact ⟨(Below.refl _ _).drew, fun h => (by cases h), fun h => (by cases h), fun h => (by cases h), fun h => (by cases h), fun h => (by cases h), fun h => (by cases h)⟩
  · intro up vals i o ho hi hcl a W hk hd hT
    have c54 : up 5 = true → up 4 = true := hcl 5 _ ⟨4, .data⟩ rfl (by simp) rfl
    have c65 : up 6 = true → up 5 = true := hcl 6 _ ⟨5, .data⟩ rfl (by simp) rfl
    have c64 : up 6 = true → up 4 = true := fun h => c54 (c65 h)
    have c98 : up 9 = true → up 8 = true := hcl 9 _ ⟨8, .data⟩ rfl (by simp) rfl
    have c96 : up 9 = true → up 6 = true := hcl 9 _ ⟨6, .data⟩ rfl (by simp) rfl
    have c94 : up 9 = true → up 4 = true := fun h => c64 (c96 h)
    have c41 : up 4 = true → up 1 = true := hcl 4 _ ⟨1, .data⟩ rfl (by simp) rfl
    have hB := blw_trans HBr.out hT.bel
    obtain ⟨xz, x0, x1, x2, x3⟩ := HXr.out.later hT.bel
    obtain ⟨yz, y0, y1, y2, y3, y4, y5, y6, y7⟩ := HYr.out.later hT.bel
    match i, ho with
    | 0, ho =>
      injection ho with ho; subst ho
      have e0 : a.eval (.tmp 2) = .pointer (some ⟨w.heap.size, 0, none⟩) := (hk 2 (by kernel_rfl)).trans rfl
      exact Or.inl ⟨_, W, by simp [execOp, go_sem, (RY.ev_tmp a 2).trans e0, x0, x1, x2, x3], rfl, rfl, hT.put 0 _ _ (Below.refl _ _) hi c54 c64 c98 c94 (by decide) (fun e => by cases e) (fun e => by cases e) (fun e => by cases e) (fun e => by cases e) (fun e => by cases e) (fun e => by cases e)⟩
    | 1, ho =>
      injection ho with ho; subst ho
      have d0 := hd 0 _ 95 rfl rfl ⟨⟨0, .data⟩, by simp, rfl, rfl⟩
      have e0 : a.tmps[95]?.getD undef = _ := (RY.ev_tmp a 95).trans (d0.2.1.trans d0.2.2)
      refine Or.inr (Or.inr ⟨7, #[.agg #[.int .i64 K.now, v0, v1, v2]], by simp [go_sem, e0], rfl, (toSB K v0 v1 v2 W HS.out (HH.out.later hB)).mono ?_⟩)
      rintro e W' ⟨⟨b0, b1, b2, rfl, hi', _⟩, hb⟩
      exact ⟨_, rfl, trivial, hT.put 1 _ _ hb hi c54 c64 c98 c94 (by decide) (fun _ => ⟨b0, b1, b2, rfl, hi'⟩) (fun e => by cases e) (fun e => by cases e) (fun e => by cases e) (fun e => by cases e) (fun e => by cases e)⟩
    | 2, ho =>
      injection ho with ho; subst ho
      have e0 : a.eval (.tmp 3) = .pointer (some ⟨w.heap.size + 1, 0, none⟩) := (hk 3 (by kernel_rfl)).trans rfl
      exact Or.inl ⟨_, W, by simp [execOp, go_sem, (RY.ev_tmp a 3).trans e0, y0, y1, y2, y3, y4, y5, y6, y7], rfl, rfl, hT.put 2 _ _ (Below.refl _ _) hi c54 c64 c98 c94 (by decide) (fun e => by cases e) (fun e => by cases e) (fun e => by cases e) (fun e => by cases e) (fun e => by cases e) (fun e => by cases e)⟩
    | 3, ho =>
      injection ho with ho; subst ho
      have d0 := hd 2 _ 97 rfl rfl ⟨⟨2, .data⟩, by simp, rfl, rfl⟩
      have e0 : a.tmps[97]?.getD undef = _ := (RY.ev_tmp a 97).trans (d0.2.1.trans d0.2.2)
      refine Or.inr (Or.inr ⟨8, #[.agg #[.string X.svc, .int .i64 X.seen, .int .i64 X.create, .int .i64 X.want, .int .i64 X.cool, .bool X.scale, ve, .bool X.drop]], by simp [go_sem, e0], rfl, (toAc X ve W HSA.out (HAA.out.later hB)).mono ?_⟩)
      rintro e W' ⟨⟨b, rfl, hi', _⟩, hb⟩
      exact ⟨_, rfl, trivial, hT.put 3 _ _ hb hi c54 c64 c98 c94 (by decide) (fun e => by cases e) (fun _ => ⟨b, rfl, hi'⟩) (fun e => by cases e) (fun e => by cases e) (fun e => by cases e) (fun e => by cases e)⟩
    | 4, ho =>
      injection ho with ho; subst ho
      have d0 := hd 1 _ 96 rfl rfl ⟨⟨1, .data⟩, by simp, rfl, rfl⟩
      have d1 := hd 3 _ 98 rfl rfl ⟨⟨3, .data⟩, by simp, rfl, rfl⟩
      obtain ⟨b0, b1, b2, q0, hk0⟩ := hT.t1 d0.1 hi
      obtain ⟨be, q1, hk1⟩ := hT.t3 d1.1 hi
      have e0 := (RY.ev_tmp a 96).trans (d0.2.1.trans q0)
      have e1 := (RY.ev_tmp a 98).trans (d1.2.1.trans q1)
      refine Or.inr (Or.inr ⟨9, #[.agg #[.int .i64 K.now, .slice (some ⟨b0, 0, none⟩) K.svcs.length K.svcs.length, .slice (some ⟨b1, 0, none⟩) K.cps.length K.cps.length, .slice (some ⟨b2, 0, none⟩) K.bts.length K.bts.length], .agg #[.string X.svc, .int .i64 X.seen, .int .i64 X.create, .int .i64 X.want, .int .i64 X.cool, .bool X.scale, .slice (some ⟨be, 0, none⟩) X.ends.length X.ends.length, .bool X.drop]], by simp [go_sem, e0, e1], rfl, (HIF.out W hB b0 b1 b2 be hk0 hk1).mono ?_⟩)
      rintro e W' ⟨⟨s0, s1, s2, rfl, ho'⟩, hb⟩
      exact ⟨_, rfl, trivial, hT.put 4 _ _ hb hi c54 c64 c98 c94 (by decide) (fun e => by cases e) (fun e => by cases e) (fun _ => ⟨s0, s1, s2, rfl, ho'.lo hT.bel.size⟩) (fun e => by cases e) (fun e => by cases e) (fun e => by cases e)⟩
    | 5, ho =>
      injection ho with ho; subst ho
      have d0 := hd 4 _ 99 rfl rfl ⟨⟨4, .data⟩, by simp, rfl, rfl⟩
      have e0 := (RY.ev_tmp a 99).trans d0.2.1
      exact Or.inl ⟨vals 4, W, by simp [execOp, go_sem, e0], rfl, trivial, hT.put 5 _ _ (Below.refl _ _) hi c54 c64 c98 c94 (by decide) (fun e => by cases e) (fun e => by cases e) (fun e => by cases e) (fun _ => rfl) (fun e => by cases e) (fun e => by cases e)⟩
    | 6, ho =>
      injection ho with ho; subst ho
      have d0 := hd 5 _ 94 rfl rfl ⟨⟨5, .data⟩, by simp, rfl, rfl⟩
      obtain ⟨s0, s1, s2, q, _⟩ := hT.t4 (c54 d0.1)
      have e0 := (RY.ev_tmp a 94).trans (d0.2.1.trans ((hT.t5 d0.1).trans q))
      exact Or.inl ⟨.agg #[.int .i64 R.now, s0, s1, s2], W, by simp [execOp, go_sem, e0], rfl, trivial, hT.put 6 _ _ (Below.refl _ _) hi c54 c64 c98 c94 (by decide) (fun e => by cases e) (fun e => by cases e) (fun e => by cases e) (fun e => by cases e) (fun _ => ⟨s0, s1, s2, q, rfl⟩) (fun e => by cases e)⟩
    | 7, ho =>
      injection ho with ho; subst ho
      have d0 := hd 5 _ 94 rfl rfl ⟨⟨5, .data⟩, by simp, rfl, rfl⟩
      obtain ⟨s0, s1, s2, q, _⟩ := hT.t4 (c54 d0.1)
      have e0 := (RY.ev_tmp a 94).trans (d0.2.1.trans ((hT.t5 d0.1).trans q))
      exact Or.inl ⟨.int .i64 C, W, by simp [execOp, go_sem, e0], rfl, rfl, hT.put 7 _ _ (Below.refl _ _) hi c54 c64 c98 c94 (by decide) (fun e => by cases e) (fun e => by cases e) (fun e => by cases e) (fun e => by cases e) (fun e => by cases e) (fun e => by cases e)⟩
    | 8, ho =>
      injection ho with ho; subst ho
      exact Or.inl ⟨.pointer (some ⟨W.heap.size, 0, none⟩), W.alloc (.cells #[.int .i64 0, .slice none 0 0, .slice none 0 0, .slice none 0 0] 36), by simp [execOp, go_sem], rfl, trivial, hT.put 8 _ _ (blw_alloc (Below.refl _ _) _) hi c54 c64 c98 c94 (by decide) (fun e => by cases e) (fun e => by cases e) (fun e => by cases e) (fun e => by cases e) (fun e => by cases e) (fun _ => ⟨W.heap.size, rfl, hT.bel.size, OwnBlk.alloc W _ _ 4 rfl⟩)⟩
    | 9, ho =>
      injection ho with ho; subst ho
      have d0 := hd 8 _ 15 rfl rfl ⟨⟨8, .data⟩, by simp, rfl, rfl⟩
      have d1 := hd 6 _ 100 rfl rfl ⟨⟨6, .data⟩, by simp, rfl, rfl⟩
      obtain ⟨p, q8, hp, ho8⟩ := hT.t8 d0.1
      obtain ⟨s0, s1, s2, q4, q6⟩ := hT.t6 d1.1
      have hpe := d0.2.1.trans q8
      have hve := d1.2.1.trans q6
      obtain ⟨t0, t1, t2, q4', hbo, _⟩ := hT.t4 (c64 d1.1)
      obtain ⟨rfl, rfl, rfl⟩ : s0 = t0 ∧ s1 = t1 ∧ s2 = t2 := by
        have := q4.symm.trans q4'
        simpa using this
      obtain ⟨_, _, _, _, _, _, z0, z1, z2, _⟩ := hbo.v
      refine Or.inr (Or.inl ⟨W.setCells p 0 [.int .i64 R.now, s0, s1, s2], ?_, rfl, hT.st (c64 d1.1) q4 q8 hp ho8⟩)
      unfold execOp
      have hth : W.there p 0 4 := RY.own_there ho8
      simp only [hpe, hve, Instr.storeAt, Instr.sureAddr, Sem.run_bind, Sem.run_pure, Result.andThen_ok]
      rw [show (#[.int .i64 R.now, s0, s1, s2] : Array Value) = [.int .i64 R.now, s0, s1, s2].toArray from rfl, run_storeVar_mid W p 0 36 [.int .i64 R.now, s0, s1, s2].toArray hth rfl (all_oneCell_toArray (by intro x hx; simp only [List.mem_cons, List.not_mem_nil, or_false] at hx; rcases hx with rfl | rfl | rfl | rfl <;> first | rfl | (rw [z0]; rfl) | (rw [z1]; rfl) | (rw [z2]; rfl)))]
      rfl
    | 10, ho =>
      injection ho with ho; subst ho
      have d0 := hd 7 _ 101 rfl rfl ⟨⟨7, .data⟩, by simp, rfl, rfl⟩
      have e0 : a.tmps[101]?.getD undef = _ := (RY.ev_tmp a 101).trans (d0.2.1.trans d0.2.2)
      exact Or.inl ⟨.int .i64 C, W, by simp [execOp, go_sem, e0], rfl, rfl, hT.put 10 _ _ (Below.refl _ _) hi c54 c64 c98 c94 (by decide) (fun e => by cases e) (fun e => by cases e) (fun e => by cases e) (fun e => by cases e) (fun e => by cases e) (fun e => by cases e)⟩
    | m + 11, ho => simp at ho
  intro up vals vs ws hall hvs hT
  obtain ⟨ph, q8, hlp, hop⟩ := hT.t8 (hall 8 (by decide))
  obtain ⟨s0, s1, s2, q4, hbo, hbx⟩ := hT.t4 (hall 4 (by decide))
  have hbx := hbx (hall 9 (by decide)) ph q8
  have ev8 := ((hvs 8 _ 15 rfl rfl).1).trans q8
  have ev10 : vs 16 = .int .i64 C := ((hvs 10 _ 16 rfl rfl).1).trans (hvs 10 _ 16 rfl rfl).2
  obtain ⟨b0, b1, b2, e0, e1, e2, rfl, rfl, rfl, hv⟩ := hbo.v
  simp only [RY.putAll, Act.put, List.setIfInBounds_toArray, List.set_cons_zero, List.set_cons_succ]
  rw [ev8, ev10]
  generalize vs 95 = s95
  generalize vs 96 = s96
  generalize vs 97 = s97
  generalize vs 98 = s98
  generalize vs 99 = s99
  generalize vs 94 = s94
  generalize vs 100 = s100
  generalize vs 101 = s101
  have hb := hT.bel
  have HPs := hid hbx
  have HVs := hid hv
  clear hvs hT hall q8 q4 hbo hbx ev8 ev10 hlp hop hv HBr HXr HYr
  have HDs := hid (blw_trans HDr.out hb)
  have HGs := hid (HGr.out.later hb)
  have HHs := hid (HHr.out.later hb)
  clear hb HDr HGr HHr
  obtain ⟨xz, x0, x1, x2, x3⟩ := HPs.out
  obtain ⟨yz, y0, y1, y2, y3⟩ := HPd.out.later HDs.out
  go_wp2_with fail
  refine (eqSBV R b0 b1 b2 a0 a1 a2 e0 e1 e2 c0 c1 c2 ws HVs.out (HVd.out.later HDs.out)).mono ?_
  rintro e wt ⟨rfl, hb⟩
  clear xz x0 x1 x2 x3 yz y0 y1 y2 y3
  have HDt := hid (blw_trans HDs.out hb)
  have HGt := hid (HGs.out.later hb)
  have HHt := hid (HHs.out.later hb)
  clear hb HDs HGs HHs
  obtain ⟨xz, x0, x1, x2, x3⟩ := HGt.out
  go_wp2_with fail
  refine (heldSB R.now _ _ _ R.svcs.length R.cps.length R.bts.length 1 wt HHt.out (by omega) (by omega) HSR.out.1 HSR.out.2.1 HSR.out.2.2).mono ?_
  rintro e wu ⟨rfl, hb⟩
  rw [← HK3.out]
  have HBu := hid (blw_trans HBd.out (blw_trans HDt.out hb))
  clear hb xz x0 x1 x2 x3
  go_wp2
  go_ret
  exact ⟨rfl, HBu.out⟩

end Go.Proofs.YtpamkibnahhphaaGreatDoor
