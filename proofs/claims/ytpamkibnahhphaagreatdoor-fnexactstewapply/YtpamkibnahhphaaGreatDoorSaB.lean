/-
  Stewards: StewApply, by the specification.
-/
import Derived.Test.YtpamkibnahhphaaGreatDoorSaA
import Derived.Test.YtpamkibnahhphaaGreatDoorStD
import Derived.Test.YtpamkibnahhphaaGreatDoorOwS
namespace Go.Proofs.YtpamkibnahhphaaGreatDoor
open Go.RowKit Go.Deep

def noK : SBk := ⟨0, [], [], []⟩
def stewAp (K : SBk) (X : Ac) : SBk := if sbOk K then applyK K X else noK
def stewApC (K : SBk) (X : Ac) : Int := if sbOk K then acCode K X else 1
theorem made_len (K : SBk) (X : Ac) : ∀ i, (madeTo K X i).length = K.cps.length + i
  | 0 => by show (endTo _ _ _ _).length = _; rw [endTo_len]; rfl
  | i + 1 => by rw [madeTo, ins_len, made_len K X i]; omega
theorem small_ok {K : SBk} (h : sbOk K = true) : K.svcs.length ≤ 8 ∧ K.cps.length ≤ 200 ∧ K.bts.length ≤ 6 := by
  simp only [sbOk, Bool.and_eq_true, decide_eq_true_eq] at h
  omega
theorem room_of {K : SBk} {X : Ac} (h : acCode K X = 0) : roomBad K X = false := by
  unfold acCode at h
  repeat' (split at h <;> first | cases h | skip)
  simp_all
theorem small_ap {K : SBk} (X : Ac) (h : sbOk K = true) : (applyK K X).small := by
  obtain ⟨h0, h1, h2⟩ := small_ok h
  unfold applyK
  by_cases e : acCode K X = 0
  · rw [if_pos e]
    have r := room_of e
    unfold roomBad at r
    simp only [Bool.or_eq_false_iff, decide_eq_false_iff_not] at r
    refine ⟨?_, ?_, by show K.bts.length ≤ _; omega⟩
    · show (acSvs K X).length ≤ _
      unfold acSvs
      split
      · rw [List.length_append, List.length_take, List.length_drop]; omega
      · rw [List.length_set]; omega
    · show (madeTo K X X.create.toNat).length ≤ _
      rw [made_len]; omega
  · rw [if_neg e]; exact ⟨by omega, by omega, by omega⟩
/-- A book in rows of one's own. -/
structure BkOwn (W : World) (lo : Nat) (R : SBk) (s0 s1 s2 : Value) : Prop where
  o0 : W.ownsRow lo 86 13 s0 R.svcs.length (R.svcs.flatMap SvC)
  o1 : W.ownsRow lo 90 7 s1 R.cps.length (R.cps.flatMap CpC)
  o2 : W.ownsRow lo 88 2 s2 R.bts.length (R.bts.flatMap BtC)
  z0 : ∀ i, i < R.svcs.length → (R.svcs.getD i Sv.none).sized
  z1 : ∀ i, i < R.cps.length → (R.cps.getD i Cp.none).sized
  z2 : ∀ i, i < R.bts.length → (R.bts.getD i Bt.none).sized
  sm : R.small
theorem BkOwn.later {W W' : World} {lo : Nat} {R : SBk} {s0 s1 s2 : Value} (h : BkOwn W lo R s0 s1 s2) (hb : Below W.heap.size W W') : BkOwn W' lo R s0 s1 s2 :=
  ⟨owns_on h.o0 hb, owns_on h.o1 hb, owns_on h.o2 hb, h.z0, h.z1, h.z2, h.sm⟩
theorem BkOwn.lo {W : World} {lo lo' : Nat} {R : SBk} {s0 s1 s2 : Value} (h : BkOwn W lo R s0 s1 s2) (hl : lo' ≤ lo) : BkOwn W lo' R s0 s1 s2 :=
  ⟨owns_lo h.o0 hl, owns_lo h.o1 hl, owns_lo h.o2 hl, h.z0, h.z1, h.z2, h.sm⟩
/-- A store into a book's variable. -/
theorem BkOwn.sc {W : World} {lo p : Nat} {R : SBk} {s0 s1 s2 : Value} {cs : Array Value} (h : BkOwn W lo R s0 s1 s2) (hp : W.heap[p]? = some (.cells cs 36 (0, 0))) (o : Nat) (x : Value) : BkOwn (W.setCell ⟨p, o, none⟩ x) lo R s0 s1 s2 :=
  ⟨owns_else h.o0 hp t_sk o x, owns_else h.o1 hp (fun e => t_kc e.symm) o x, owns_else h.o2 hp t_bk o x, h.z0, h.z1, h.z2, h.sm⟩
theorem BkOwn.v {W : World} {lo : Nat} {R : SBk} {s0 s1 s2 : Value} (h : BkOwn W lo R s0 s1 s2) : ∃ a0 a1 a2 c0 c1 c2, s0 = .slice a0 R.svcs.length c0 ∧ s1 = .slice a1 R.cps.length c1 ∧ s2 = .slice a2 R.bts.length c2 ∧ SBkV W a0 a1 a2 R := by
  obtain ⟨m0, m1, m2⟩ := h.sm
  obtain ⟨a0, c0, e0, v0⟩ := owns_Svs h.o0 h.z0 (by unfold maxLen; omega)
  obtain ⟨a1, c1, e1, v1⟩ := owns_Cps h.o1 h.z1 (by unfold maxLen; omega)
  obtain ⟨a2, c2, e2, v2⟩ := owns_Bts h.o2 h.z2 (by unfold maxLen; omega)
  exact ⟨a0, a1, a2, c0, c1, c2, e0, e1, e2, v0, v1, v2⟩
theorem noOwn (W : World) (lo : Nat) : BkOwn W lo noK (.slice none 0 0) (.slice none 0 0) (.slice none 0 0) :=
  ⟨⟨rfl, .inl ⟨rfl, rfl⟩⟩, ⟨rfl, .inl ⟨rfl, rfl⟩⟩, ⟨rfl, .inl ⟨rfl, rfl⟩⟩, fun i hi => absurd hi (Nat.not_lt_zero i), fun i hi => absurd hi (Nat.not_lt_zero i), fun i hi => absurd hi (Nat.not_lt_zero i), Nat.zero_le _, Nat.zero_le _, Nat.zero_le _⟩
theorem SBkV.z {w : World} {a0 a1 a2 : Option Addr} {K : SBk} (h : SBkV w a0 a1 a2 K) : (∀ i, i < K.svcs.length → (K.svcs.getD i Sv.none).sized) ∧ (∀ i, i < K.cps.length → (K.cps.getD i Cp.none).sized) ∧ (∀ i, i < K.bts.length → (K.bts.getD i Bt.none).sized) :=
  ⟨fun i hi => by obtain ⟨_, _, _, _, hf⟩ := h.s.at_ i hi; exact hf.sized, fun i hi => by obtain ⟨_, _, _, _, hf⟩ := h.c.at_ i hi; exact hf.sized, fun i hi => by obtain ⟨_, _, _, _, hf⟩ := h.b.at_ i hi; exact hf.sized⟩

set_option maxRecDepth 8000 in
set_option maxHeartbeats 40000000 in
theorem stewApplyS (K : SBk) (X : Ac) (a0 a1 a2 ae : Option Addr) (c0 c1 c2 ce : Nat) (w : World) (h : SBkV w a0 a1 a2 K) (he : EnsV w ae X.ends) (hsz : X.svc.size ≤ maxLen) :
    Calls Tryz.prog 6 #[.agg #[.int .i64 K.now, .slice a0 K.svcs.length c0, .slice a1 K.cps.length c1, .slice a2 K.bts.length c2], .agg #[.string X.svc, .int .i64 X.seen, .int .i64 X.create, .int .i64 X.want, .int .i64 X.cool, .bool X.scale, .slice ae X.ends.length ce, .bool X.drop]] w fun e w' =>
      (∃ s0 s1 s2, e = .returned (.tuple #[.agg #[.int .i64 (stewAp K X).now, s0, s1, s2], .int .i64 (stewApC K X)]) ∧ BkOwn w' w.heap.size (stewAp K X) s0 s1 s2) ∧ Below w.heap.size w w' := by
  have HH := hid h
  have HE := hid he
  have HSZ := hid hsz
  clear h he hsz
  obtain ⟨wa, hwa⟩ : ∃ wa, wa = ((w.alloc (.cells #[.int .i64 K.now, .slice a0 K.svcs.length c0, .slice a1 K.cps.length c1, .slice a2 K.bts.length c2] 36)).alloc (.cells #[.string X.svc, .int .i64 X.seen, .int .i64 X.create, .int .i64 X.want, .int .i64 X.cool, .bool X.scale, .slice ae X.ends.length ce, .bool X.drop] 42)).alloc (.cells #[.int .i64 0, .slice none 0 0, .slice none 0 0, .slice none 0 0] 36) := ⟨_, rfl⟩
  have HA : Hid (AI0 w wa (.int .i64 K.now) (.slice a0 K.svcs.length c0) (.slice a1 K.cps.length c1) (.slice a2 K.bts.length c2) (.string X.svc) (.int .i64 X.seen) (.int .i64 X.create) (.int .i64 X.want) (.int .i64 X.cool) (.bool X.scale) (.slice ae X.ends.length ce) (.bool X.drop)) := by
    show AI0 _ _ _ _ _ _ _ _ _ _ _ _ _ _
    rw [hwa]
    refine ⟨blw_alloc (blw_alloc (blw_alloc (Below.refl _ _) _) _) _, ((Box4.new' w _ _ _ _ _ _ rfl).past _).past _, (BoxA.new' _ _ _ _ _ _ _ _ _ _ _ (by simp)).past _, OwnBlk.alloc_at2 _ _ _ _ _ rfl (by simp)⟩
  obtain ⟨R, hR⟩ : ∃ R, R = stewAp K X := ⟨_, rfl⟩
  obtain ⟨C, hC⟩ : ∃ C, C = stewApC K X := ⟨_, rfl⟩
  have HR := hid hR
  have HC := hid hC
  rw [← hR, ← hC]
  clear hR hC
  go_enter Tryz.func6, Tryz.ntmps6
  go_upto_region 1 with fail
  rw [← hwa]
  clear hwa
  obtain ⟨yz, y0, y1, y2, y3⟩ := HA.out.bx
  go_wp2_with fail
  refine (stewValidS K a0 a1 a2 c0 c1 c2 wa (HH.out.later HA.out.below)).mono ?_
  rintro e w1 ⟨rfl, hb⟩
  have HA1 := hid (HA.out.later hb)
  clear yz y0 y1 y2 y3 hb HA
  cases hok : sbOk K
  · have HQ : Hid (R = noK ∧ C = 1) := by
      refine ⟨?_, ?_⟩
      · rw [HR.out, stewAp, hok]; rfl
      · rw [HC.out, stewApC, hok]; rfl
    clear HR HC hok
    have hfz := HA1.out.own.frozen
    have hz := HA1.out.own.lt
    obtain ⟨r0, k0⟩ := HA1.out.own.cell 0 (by omega)
    obtain ⟨r1, k1⟩ := HA1.out.own.cell 1 (by omega)
    obtain ⟨r2, k2⟩ := HA1.out.own.cell 2 (by omega)
    obtain ⟨r3, k3⟩ := HA1.out.own.cell 3 (by omega)
    go_wp2
    have p := fun i hi => puts_at 0 [.int .i64 0, .slice none 0 0, .slice none 0 0, .slice none 0 0] w1 0 HA1.out.own (by simp) i hi
    have t0 := p 0 (by simp)
    have t1 := p 1 (by simp)
    have t2 := p 2 (by simp)
    have t3 := p 3 (by simp)
    simp only [puts, Nat.add_zero, Nat.zero_add, Nat.reduceAdd, List.getElem?_cons_zero, List.getElem?_cons_succ] at t0 t1 t2 t3
    have hbl := puts_below (a := w) 0 (B := w.heap.size + 2) (by omega) [.int .i64 0, .slice none 0 0, .slice none 0 0, .slice none 0 0] w1 0 HA1.out.below
    refine bodyPost_ret (v := .tuple #[.agg #[.int .i64 0, .slice none 0 0, .slice none 0 0, .slice none 0 0], .int .i64 1]) (by simp [results, go_sem, t0, t1, t2, t3]) rfl ⟨?_, hbl⟩
    rw [HQ.out.1, HQ.out.2]
    exact ⟨_, _, _, rfl, noOwn _ _⟩
  · have HK := hid hok
    have HQ : Hid (R = applyK K X ∧ C = acCode K X) := by
      refine ⟨?_, ?_⟩
      · rw [HR.out, stewAp, hok]; rfl
      · rw [HC.out, stewApC, hok]; rfl
    clear HR HC hok
    obtain ⟨yz, y0, y1, y2, y3⟩ := HA1.out.bx
    obtain ⟨az, b0, b1, b2, b3, b4, b5, b6, b7⟩ := HA1.out.ax
    go_wp2_with fail
    refine (l15ApplyS K X a0 a1 a2 ae c0 c1 c2 ce w1 (HH.out.later HA1.out.below) (HE.out.later HA1.out.below) HK.out HSZ.out).mono ?_
    rintro e w2 ⟨⟨s0, s1, s2, d0, d1, d2, rfl, hV⟩, hb⟩
    have HA2 := hid (HA1.out.later hb)
    have HSM := hid (small_ap X HK.out)
    rw [← HQ.out.1] at HSM hV ⊢
    rw [← HQ.out.2]
    have HV2 := hid hV
    clear yz y0 y1 y2 y3 az b0 b1 b2 b3 b4 b5 b6 b7 hb HA1 hV
    obtain ⟨w3, hw3⟩ : ∃ w3, w3 = w2.alloc (.cells #[.int .i64 R.now, .slice s0 R.svcs.length d0, .slice s1 R.cps.length d1, .slice s2 R.bts.length d2] 36) := ⟨_, rfl⟩
    have hb3 : Below w2.heap.size w2 w3 := by rw [hw3]; exact blw_alloc (Below.refl _ _) _
    have HX3 : Hid (Box4 w3 w2.heap.size (.int .i64 R.now) (.slice s0 R.svcs.length d0) (.slice s1 R.cps.length d1) (.slice s2 R.bts.length d2)) := by show Box4 _ _ _ _ _ _; rw [hw3]; exact Box4.new' w2 _ _ _ _ _ _ rfl
    have HA3 := hid (HA2.out.later hb3)
    have HV3 := hid (HV2.out.later hb3)
    go_upto_region 4 with fail
    rw [← hw3]
    clear hw3 hb3 HA2 HV2
    obtain ⟨yz, y0, y1, y2, y3⟩ := HX3.out
    go_wp2_with fail
    refine (l12BookS R s0 s1 s2 d0 d1 d2 w3 HV3.out HSM.out).mono ?_
    rintro e w4 ⟨⟨t0, t1, t2, rfl, o0, o1, o2⟩, hb4⟩
    have HA4 := hid (HA3.out.later hb4)
    have hzz := HV3.out.z
    obtain ⟨g0, f0, rfl, v0⟩ := owns_Svs o0 hzz.1 HV3.out.s.len
    obtain ⟨g1, f1, rfl, v1⟩ := owns_Cps o1 hzz.2.1 HV3.out.c.len
    obtain ⟨g2, f2, rfl, v2⟩ := owns_Bts o2 hzz.2.2 HV3.out.b.len
    have HW : Hid (SBkV w4 g0 g1 g2 R) := ⟨v0, v1, v2⟩
    have HLT : Hid (w.heap.size + 3 ≤ w3.heap.size + 2) := by show _ ≤ _; have := HA3.out.own.lt; omega
    have HOO := hid (And.intro o0 (And.intro o1 o2))
    clear yz y0 y1 y2 y3 hb4 HA3 HX3 HV3 o0 o1 o2 v0 v1 v2 hzz
    have hfz := HA4.out.own.frozen
    have hz := HA4.out.own.lt
    obtain ⟨r0, k0⟩ := HA4.out.own.cell 0 (by omega)
    obtain ⟨r1, k1⟩ := HA4.out.own.cell 1 (by omega)
    obtain ⟨r2, k2⟩ := HA4.out.own.cell 2 (by omega)
    obtain ⟨r3, k3⟩ := HA4.out.own.cell 3 (by omega)
    go_wp2
    have p := fun i hi => puts_at 0 [.int .i64 R.now, .slice g0 R.svcs.length f0, .slice g1 R.cps.length f1, .slice g2 R.bts.length f2] w4 0 HA4.out.own (by simp) i hi
    have t0 := p 0 (by simp)
    have t1 := p 1 (by simp)
    have t2 := p 2 (by simp)
    have t3 := p 3 (by simp)
    simp only [puts, Nat.add_zero, Nat.zero_add, Nat.reduceAdd, List.getElem?_cons_zero, List.getElem?_cons_succ] at t0 t1 t2 t3
    have hbl := puts_below (a := w) 0 (B := w.heap.size + 2) (by omega) [.int .i64 R.now, .slice g0 R.svcs.length f0, .slice g1 R.cps.length f1, .slice g2 R.bts.length f2] w4 0 HA4.out.below
    refine bodyPost_ret (v := .tuple #[.agg #[.int .i64 R.now, .slice g0 R.svcs.length f0, .slice g1 R.cps.length f1, .slice g2 R.bts.length f2], .int .i64 C]) (by simp [results, go_sem, t0, t1, t2, t3]) rfl ⟨?_, hbl⟩
    refine ⟨_, _, _, rfl, ?_⟩
    have hlt : w.heap.size + 2 < w3.heap.size + 2 := by have := HLT.out; omega
    have x0 : (puts w4 (w.heap.size + 2) 0 0 [.int .i64 R.now, .slice g0 R.svcs.length f0, .slice g1 R.cps.length f1, .slice g2 R.bts.length f2]).ownsRow (w3.heap.size + 2) 86 13 (.slice g0 R.svcs.length f0) R.svcs.length (R.svcs.flatMap SvC) := by
      simp only [puts, Nat.add_zero, Nat.zero_add, Nat.reduceAdd]
      exact owns_sc (owns_sc (owns_sc (owns_sc HOO.out.1 hlt _ _) hlt _ _) hlt _ _) hlt _ _
    have x1 : (puts w4 (w.heap.size + 2) 0 0 [.int .i64 R.now, .slice g0 R.svcs.length f0, .slice g1 R.cps.length f1, .slice g2 R.bts.length f2]).ownsRow (w3.heap.size + 2) 90 7 (.slice g1 R.cps.length f1) R.cps.length (R.cps.flatMap CpC) := by
      simp only [puts, Nat.add_zero, Nat.zero_add, Nat.reduceAdd]
      exact owns_sc (owns_sc (owns_sc (owns_sc HOO.out.2.1 hlt _ _) hlt _ _) hlt _ _) hlt _ _
    have x2 : (puts w4 (w.heap.size + 2) 0 0 [.int .i64 R.now, .slice g0 R.svcs.length f0, .slice g1 R.cps.length f1, .slice g2 R.bts.length f2]).ownsRow (w3.heap.size + 2) 88 2 (.slice g2 R.bts.length f2) R.bts.length (R.bts.flatMap BtC) := by
      simp only [puts, Nat.add_zero, Nat.zero_add, Nat.reduceAdd]
      exact owns_sc (owns_sc (owns_sc (owns_sc HOO.out.2.2 hlt _ _) hlt _ _) hlt _ _) hlt _ _
    have zz := HW.out.z
    have hle : w.heap.size ≤ w3.heap.size + 2 := by have := HLT.out; omega
    exact ⟨owns_lo x0 hle, owns_lo x1 hle, owns_lo x2 hle, zz.1, zz.2.1, zz.2.2, HSM.out⟩

end Go.Proofs.YtpamkibnahhphaaGreatDoor
