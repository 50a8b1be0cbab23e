/-
  Stewards: what may be taken away, by the specification.
-/
import Derived.Test.YtamhfnlogldpaaaGreatStE
import Derived.Test.YtamhfnlogldpaaaGreatLet
namespace Go.Proofs.YtamhfnlogldpaaaGreat
open Go.RowKit Go.Deep

def mayEnd (K : SBk) (svc : ByteArray) (num : Int) : Bool :=
  if cpIx K.cps svc num < 0 then false
  else if (cpGet K.cps (cpIx K.cps svc num)).ending then false
  else if (cpGet K.cps (cpIx K.cps svc num)).state ≠ 3 then true
  else if (svGet K.svcs (svIx K.svcs svc)).gone then true
  else decide ((svGet K.svcs (svIx K.svcs svc)).want - (svGet K.svcs (svIx K.svcs svc)).down ≤ (countOf K svc).ready - 1)

/-- What the walks want of a book: what a book that is ok has, and what it has while its copies are turned. -/
structure Sane (K : SBk) : Prop where
  cps : K.cps.length ≤ 1048576
  svc : ∀ i, i < K.cps.length → 0 ≤ svIx K.svcs (K.cps.getD i Cp.none).svc
  num : ∀ i, i < K.svcs.length → 0 ≤ (K.svcs.getD i Sv.none).want ∧ (K.svcs.getD i Sv.none).want ≤ 10 ∧ 0 ≤ (K.svcs.getD i Sv.none).down ∧ (K.svcs.getD i Sv.none).down ≤ 10

theorem svIx_same (l : List Sv) {a b : ByteArray} (h : same a b = true) : svIx l a = svIx l b := by
  have e : a.toList = b.toList := by simpa [same] using h
  unfold svIx same
  rw [e]

theorem sane_ok {K : SBk} (h : sbOk K = true) : Sane K := by
  simp only [sbOk, Bool.and_eq_true, decide_eq_true_eq] at h
  obtain ⟨⟨⟨⟨⟨⟨_, _⟩, h2⟩, _⟩, hs⟩, _⟩, hc⟩ := h
  refine ⟨by omega, fun i hi => ?_, fun i hi => ?_⟩
  · have q := (allTo_iff _ _).1 hc i hi
    simp only [cpOk, Bool.and_eq_true, decide_eq_true_eq] at q
    exact q.1.1.1.1.1.1
  · have q := (allTo_iff _ _).1 hs i hi
    simp only [svOk, inB, Bool.and_eq_true, decide_eq_true_eq] at q
    omega

theorem count_le (K : SBk) (svc : ByteArray) : (countOf K svc).le K.cps.length := by
  unfold countOf
  split
  · exact cnTo_le _ _ _ _
  · exact ⟨⟨by simp [Cn.zero], by simp [Cn.zero]⟩, ⟨by simp [Cn.zero], by simp [Cn.zero]⟩, ⟨by simp [Cn.zero], by simp [Cn.zero]⟩, ⟨by simp [Cn.zero], by simp [Cn.zero]⟩, ⟨by simp [Cn.zero], by simp [Cn.zero]⟩⟩

theorem field_ready (a b c d e : Value) (W : World) : (Instr.field 56 (.agg #[a, b, c, d, e]) 1).run Tryz.prog W = .ok b W := by kernel_rfl


/-- What the operations of the region that takes the service yield. -/
def VSv (p : Nat) (sl bk : Value) (svc : ByteArray) (s : Int) (b o : Nat) (cs : Array Value) (i : Nat) (u : Value) : Prop :=
  match i with
  | 0 => u = .pointer (some ⟨p, 1, none⟩)
  | 1 => u = sl
  | 2 => u = bk
  | 3 => u = .string svc
  | 4 => u = .int .i64 s
  | 5 => u = .pointer (some ⟨b, o, none⟩)
  | _ => u = .agg cs

set_option maxHeartbeats 40000000 in
theorem l14MayEndS (K : SBk) (a0 a1 a2 : Option Addr) (c0 c1 c2 : Nat) (svc : ByteArray) (num : Int) (w : World) (h : SBkV w a0 a1 a2 K) (hs : Sane K) :
    Calls Tryz.prog 82 #[.agg #[.int .i64 K.now, .slice a0 K.svcs.length c0, .slice a1 K.cps.length c1, .slice a2 K.bts.length c2], .string svc, .int .i64 num] w fun e w' => e = .returned (.bool (mayEnd K svc num)) ∧ Below w.heap.size w w' := by
  have HH : Hid (SBkV w a0 a1 a2 K ∧ Sane K) := ⟨h, hs⟩
  have hl := h.s.len
  unfold maxLen at hl
  have hc := hs.cps
  clear h hs
  obtain ⟨R, hR⟩ : ∃ R, R = mayEnd K svc num := ⟨_, rfl⟩
  have HR := hid hR
  rw [← hR]
  clear hR
  obtain ⟨wa, hwa⟩ : ∃ wa, wa = w.alloc (.cells #[.int .i64 K.now, .slice a0 K.svcs.length c0, .slice a1 K.cps.length c1, .slice a2 K.bts.length c2] 34) := ⟨_, rfl⟩
  have HB : Hid (Below w.heap.size w wa) := by show Below _ _ _; rw [hwa]; exact blw_alloc (Below.refl _ _) _
  have HX : Hid (Box4 wa w.heap.size (.int .i64 K.now) (.slice a0 K.svcs.length c0) (.slice a1 K.cps.length c1) (.slice a2 K.bts.length c2)) := by show Box4 _ _ _ _ _ _; rw [hwa]; exact Box4.new' w _ _ _ _ _ _ rfl
  go_enter Tryz.func82, Tryz.ntmps82
  go_upto_region 1 with fail
  rw [← hwa]
  clear hwa
  obtain ⟨yz, y0, y1, y2, y3⟩ := HX.out
  go_wp2_with fail
  refine (l12CopyIx K a0 a1 a2 c0 c1 c2 svc num wa (HH.out.1.later HB.out)).mono ?_
  rintro e w1 ⟨rfl, hb⟩
  have HB1 : Hid (Below w.heap.size w w1) := blw_trans HB.out hb
  have HX1 := hid (HX.out.later hb)
  clear yz y0 y1 y2 y3 HX HB hb
  obtain ⟨yz, y0, y1, y2, y3⟩ := HX1.out
  rcases firstTo_cases (fun i => same (K.cps.getD i Cp.none).svc svc && ((K.cps.getD i Cp.none).num == num)) K.cps.length with ⟨he, _⟩ | ⟨k, hk, he, hsame, _⟩
  · have he' : cpIx K.cps svc num = -1 := he
    have HF : Hid (R = false) := by show R = false; rw [HR.out, mayEnd, he']; rfl
    rw [he']
    clear he he' HR
    go_wp2
    go_ret
    exact ⟨Pl.ret_bool HF.out.symm, HB1.out⟩
  · have he' : cpIx K.cps svc num = k := he
    have hsv : 0 ≤ svIx K.svcs svc := by
      have q := HH.out.2.svc k hk
      have hs2 : same (K.cps.getD k Cp.none).svc svc = true := by
        simp only [Bool.and_eq_true] at hsame; exact hsame.1
      rw [svIx_same _ hs2] at q
      exact q
    obtain ⟨b1, off1, ha1, hbl1, hf1⟩ := (HH.out.1.later HB1.out).c.at_ k hk
    subst ha1
    obtain ⟨c, hc'⟩ : ∃ c, c = K.cps.getD k Cp.none := ⟨_, rfl⟩
    rw [← hc'] at hf1
    have e4 := hf1.c4
    have e5 := hf1.c5
    have HE4 : Hid (b1 < w1.heap.size ∧ w1.cell? ⟨b1, off1 + k * 7 + 4, none⟩ = some (.int .i64 c.state)) := ⟨hbl1, e4⟩
    have HD : Hid (R = if c.ending then false else if c.state ≠ 3 then true else if (svGet K.svcs (svIx K.svcs svc)).gone then true else decide ((svGet K.svcs (svIx K.svcs svc)).want - (svGet K.svcs (svIx K.svcs svc)).down ≤ (countOf K svc).ready - 1)) := by
      show R = _
      rw [HR.out, mayEnd, he', if_neg (by omega), show cpGet K.cps (k : Int) = c by rw [hc']; rfl]
    rw [he']
    clear he he' HR hsame hc' hf1
    have hm0 : (0 : Int) ≤ (k : Int) := by omega
    have hm3 : (k : Int) < (K.cps.length : Int) := by omega
    rcases (Bool.eq_false_or_eq_true c.ending) with g1 | g1
    · have HF : Hid (R = false) := by show R = false; rw [HD.out, g1]; rfl
      rw [g1] at e5
      clear HD
      go_wp2
      go_ret
      exact ⟨Pl.ret_bool HF.out.symm, HB1.out⟩
    have HD2 : Hid (R = if c.state ≠ 3 then true else if (svGet K.svcs (svIx K.svcs svc)).gone then true else decide ((svGet K.svcs (svIx K.svcs svc)).want - (svGet K.svcs (svIx K.svcs svc)).down ≤ (countOf K svc).ready - 1)) := by show R = _; rw [HD.out, g1]; rfl
    rw [g1] at e5
    clear HD
    obtain ⟨s, hs, he⟩ : ∃ s : Nat, s < K.svcs.length ∧ svIx K.svcs svc = s := by
      rcases firstTo_cases (fun i => same (K.svcs.getD i Sv.none).nm svc) K.svcs.length with ⟨he, _⟩ | ⟨k, hk, he, _, _⟩
      · have : svIx K.svcs svc = -1 := he
        omega
      · exact ⟨k, hk, he⟩
    obtain ⟨b, off, ha, hbl, hf⟩ := (HH.out.1.later HB1.out).s.at_ s hs
    subst ha
    obtain ⟨m, hm⟩ : ∃ m, m = K.svcs.getD s Sv.none := ⟨_, rfl⟩
    have hq := HH.out.2.num s hs
    rw [← hm] at hf hq
    rw [he, show svGet K.svcs (s : Int) = m by rw [hm]; rfl] at HD2
    have HRG : Hid (w1.rangeAt b (off + s * 13) [.string m.nm, .int .i64 m.ver, .bool m.gone, .int .i64 m.image, .int .i64 m.want, .int .i64 m.down, .int .i64 m.over, .int .i64 m.next, .int .i64 m.per, .int .i64 m.least, .int .i64 m.most, .int .i64 m.load, .int .i64 m.cool]) := by
      intro j v hv
      match j, hv with

      | 0, hv => injection hv with hv; subst hv; exact hf.c0
      | 1, hv => injection hv with hv; subst hv; exact hf.c1
      | 2, hv => injection hv with hv; subst hv; exact hf.c2
      | 3, hv => injection hv with hv; subst hv; exact hf.c3
      | 4, hv => injection hv with hv; subst hv; exact hf.c4
      | 5, hv => injection hv with hv; subst hv; exact hf.c5
      | 6, hv => injection hv with hv; subst hv; exact hf.c6
      | 7, hv => injection hv with hv; subst hv; exact hf.c7
      | 8, hv => injection hv with hv; subst hv; exact hf.c8
      | 9, hv => injection hv with hv; subst hv; exact hf.c9
      | 10, hv => injection hv with hv; subst hv; exact hf.c10
      | 11, hv => injection hv with hv; subst hv; exact hf.c11
      | 12, hv => injection hv with hv; subst hv; exact hf.c12
      | n + 13, hv => simp at hv
    have HIX : Hid (svIx K.svcs svc = s) := he
    have hs0 : (0 : Int) ≤ (s : Int) := by omega
    have hs3 : (s : Int) < (K.svcs.length : Int) := by omega
    clear hf hm he
    go_wp2_with fail
    refine RY.region_let w1 (Below.refl _ _) (VSv w.heap.size (.slice (some ⟨b, off, none⟩) K.svcs.length c0) (.agg #[.int .i64 K.now, .slice (some ⟨b, off, none⟩) K.svcs.length c0, .slice (some ⟨b1, off1, none⟩) K.cps.length c1, .slice a2 K.bts.length c2]) svc s b (off + s * 13) #[.string m.nm, .int .i64 m.ver, .bool m.gone, .int .i64 m.image, .int .i64 m.want, .int .i64 m.down, .int .i64 m.over, .int .i64 m.next, .int .i64 m.per, .int .i64 m.least, .int .i64 m.most, .int .i64 m.load, .int .i64 m.cool]) 7 6 8 8 29 50 13 [.string m.nm, .int .i64 m.ver, .bool m.gone, .int .i64 m.image, .int .i64 m.want, .int .i64 m.down, .int .i64 m.over, .int .i64 m.next, .int .i64 m.per, .int .i64 m.least, .int .i64 m.most, .int .i64 m.load, .int .i64 m.cool] [.string ByteArray.empty, .int .i64 0, .bool false, .int .i64 0, .int .i64 0, .int .i64 0, .int .i64 0, .int .i64 0, .int .i64 0, .int .i64 0, .int .i64 0, .int .i64 0, .int .i64 0] (by kernel_rfl) (by kernel_rfl) (by kernel_rfl) (by kernel_rfl) _ _ _ rfl rfl rfl rfl rfl rfl rfl (by decide) (by decide) (by decide) (by kernel_rfl) (by kernel_rfl) rfl ?_ rfl ?_ (by kernel_rfl) (fun u hu => hu) ?_ ?_
    · intro a W
      kernel_rfl
    · intro x hx
      simp only [List.mem_cons, List.not_mem_nil, or_false] at hx
      rcases hx with rfl | rfl | rfl | rfl | rfl | rfl | rfl | rfl | rfl | rfl | rfl | rfl | rfl <;> rfl
    · intro i o ho nA nS a W hW hk hd
      have x1 : a.eval (.tmp 1) = .string svc := (hk 1 (by kernel_rfl)).trans rfl
      have x3 : a.eval (.tmp 3) = .pointer (some ⟨w.heap.size, 0, none⟩) := (hk 3 (by kernel_rfl)).trans rfl
      obtain ⟨yz', y0', y1', y2', y3'⟩ := HX1.out.later hW
      match i, ho with
      | 0, ho =>
        injection ho with ho; subst ho
        exact Or.inl ⟨_, W, by simp [execOp, go_sem, (RY.ev_tmp a 3).trans x3], Below.refl _ _, rfl⟩
      | 1, ho =>
        injection ho with ho; subst ho
        have e0 : a.tmps[23]?.getD undef = _ := (RY.ev_tmp a 23).trans (hd 0 _ 23 rfl rfl (by decide) ⟨⟨0, .data⟩, by simp, rfl, rfl⟩)
        exact Or.inl ⟨_, W, by simp [execOp, go_sem, e0, y1'], Below.refl _ _, rfl⟩
      | 2, ho =>
        injection ho with ho; subst ho
        exact Or.inl ⟨_, W, by simp [execOp, go_sem, (RY.ev_tmp a 3).trans x3, y0', y1', y2', y3'], Below.refl _ _, rfl⟩
      | 3, ho =>
        injection ho with ho; subst ho
        exact Or.inl ⟨_, W, by simp [execOp, go_sem, (RY.ev_tmp a 1).trans x1], Below.refl _ _, rfl⟩
      | 4, ho =>
        injection ho with ho; subst ho
        have e0 : a.tmps[25]?.getD undef = _ := (RY.ev_tmp a 25).trans (hd 2 _ 25 rfl rfl (by decide) ⟨⟨2, .data⟩, by simp, rfl, rfl⟩)
        have e1 : a.tmps[26]?.getD undef = _ := (RY.ev_tmp a 26).trans (hd 3 _ 26 rfl rfl (by decide) ⟨⟨3, .data⟩, by simp, rfl, rfl⟩)
        refine Or.inr ⟨78, #[.agg #[.int .i64 K.now, .slice (some ⟨b, off, none⟩) K.svcs.length c0, .slice (some ⟨b1, off1, none⟩) K.cps.length c1, .slice a2 K.bts.length c2], .string svc], by simp [go_sem, e0, e1], (l12ServiceIx K (some ⟨b, off, none⟩) (some ⟨b1, off1, none⟩) a2 c0 c1 c2 svc W (HH.out.1.later (blw_trans HB1.out hW))).mono ?_⟩
        rintro e W' ⟨rfl, hb⟩
        exact ⟨_, rfl, hb, by rw [HIX.out]; rfl⟩
      | 5, ho =>
        injection ho with ho; subst ho
        have e0 : a.tmps[24]?.getD undef = _ := (RY.ev_tmp a 24).trans (hd 1 _ 24 rfl rfl (by decide) ⟨⟨1, .data⟩, by simp, rfl, rfl⟩)
        have e1 : a.tmps[27]?.getD undef = _ := (RY.ev_tmp a 27).trans (hd 4 _ 27 rfl rfl (by decide) ⟨⟨4, .data⟩, by simp, rfl, rfl⟩)
        exact Or.inl ⟨.pointer (some ⟨b, off + s * 13, none⟩), W, by simp [execOp, go_sem, e0, e1, hs0, hs3], Below.refl _ _, rfl⟩
      | 6, ho =>
        injection ho with ho; subst ho
        have e0 : a.eval (.tmp 28) = .pointer (some ⟨b, off + s * 13, none⟩) := hd 5 _ 28 rfl rfl (by decide) ⟨⟨5, .data⟩, by simp, rfl, rfl⟩
        exact Or.inl ⟨_, W, exec_load_mid 50 _ rfl b (off + s * 13) e0 _ _ (rangeAt_later HRG.out hbl hW) Tryz.underlying50 rfl (by kernel_rfl), Below.refl _ _, rfl⟩
      | 7, ho => exact absurd rfl nA
      | 8, ho => exact absurd rfl nS
      | n + 9, ho => simp at ho
    · intro w2 vs p hW hvs hp hpv hpo hpr
      simp only [RY.putAll, Act.put, List.setIfInBounds_toArray, List.set_cons_zero, List.set_cons_succ]
      rw [hp]
      generalize vs 23 = s23
      generalize vs 24 = s24
      generalize vs 25 = s25
      generalize vs 26 = s26
      generalize vs 27 = s27
      generalize vs 28 = s28
      generalize vs 29 = s29
      clear hvs hp
      have z2 : w2.cell? ⟨p, 2, none⟩ = some (.bool m.gone) := by simpa using hpr 2 _ rfl
      have z4 : w2.cell? ⟨p, 4, none⟩ = some (.int .i64 m.want) := by simpa using hpr 4 _ rfl
      have z5 : w2.cell? ⟨p, 5, none⟩ = some (.int .i64 m.down) := by simpa using hpr 5 _ rfl
      have pz := hpo.lt
      have HB2 := hid (blw_trans HB1.out hW)
      have HX2 := hid (HX1.out.later hW)
      have e4' := (hW.cell (p := ⟨b1, off1 + k * 7 + 4, none⟩) hbl1).trans e4
      have hbl1' : b1 < w2.heap.size := Nat.lt_of_lt_of_le hbl1 hW.size
      clear yz y0 y1 y2 y3 e4 e5 hbl hbl1 hpr hpo HX1 HB1 hW HE4 HRG
      obtain ⟨yz, y0, y1, y2, y3⟩ := HX2.out
      by_cases hst : c.state = 3
      · rcases (Bool.eq_false_or_eq_true m.gone) with g2 | g2
        · have HF : Hid (R = true) := by show R = true; rw [HD2.out, if_neg (by simp [hst]), g2]; rfl
          rw [g2] at z2
          clear HD2
          go_wp2
          go_ret
          exact ⟨Pl.ret_bool HF.out.symm, HB2.out⟩
        · have HF : Hid (R = decide (m.want - m.down ≤ (countOf K svc).ready - 1)) := by show R = _; rw [HD2.out, if_neg (by simp [hst]), g2]; rfl
          rw [g2] at z2
          clear HD2
          obtain ⟨q1, q2, q3, q4⟩ := hq
          have hn := (count_le K svc).2.1
          obtain ⟨n, hnn⟩ : ∃ n, n = countOf K svc := ⟨_, rfl⟩
          have HC : Hid (∀ px : Pst w2, Calls Tryz.prog 51 #[.agg #[.int .i64 K.now, .slice (some ⟨b, off, none⟩) K.svcs.length c0, .slice (some ⟨b1, off1, none⟩) K.cps.length c1, .slice a2 K.bts.length c2], .string svc] px.W fun e w' => e = .returned (.agg #[.int .i64 n.live, .int .i64 n.ready, .int .i64 n.old, .int .i64 n.failed, .int .i64 n.ending]) ∧ Below px.W.heap.size px.W w') := by
            intro px
            rw [hnn]
            exact l13CountS K (some ⟨b, off, none⟩) (some ⟨b1, off1, none⟩) a2 c0 c1 c2 svc px.W (HH.out.1.later (blw_trans HB2.out px.ok)) HH.out.2.cps
          rw [← hnn] at hn HF
          obtain ⟨n1, n2⟩ := hn
          have hfs : ∀ W : World, (Instr.field 56 (.agg #[.int .i64 n.live, .int .i64 n.ready, .int .i64 n.old, .int .i64 n.failed, .int .i64 n.ending]) 1).run Tryz.prog W = .ok (.int .i64 n.ready) W := fun W => field_ready _ _ _ _ _ W
          have hNE := pst_some w2
          have hyz : ∀ px : Pst w2, w.heap.size < px.W.heap.size := fun px => px.size yz
          have hpz : ∀ px : Pst w2, p < px.W.heap.size := fun px => px.size pz
          have Y0 : ∀ px : Pst w2, px.W.cell? ⟨w.heap.size, 0, none⟩ = some (.int .i64 K.now) := fun px => px.cell y0 yz
          have Y1 : ∀ px : Pst w2, px.W.cell? ⟨w.heap.size, 1, none⟩ = some (.slice (some ⟨b, off, none⟩) K.svcs.length c0) := fun px => px.cell y1 yz
          have Y2 : ∀ px : Pst w2, px.W.cell? ⟨w.heap.size, 2, none⟩ = some (.slice (some ⟨b1, off1, none⟩) K.cps.length c1) := fun px => px.cell y2 yz
          have Y3 : ∀ px : Pst w2, px.W.cell? ⟨w.heap.size, 3, none⟩ = some (.slice a2 K.bts.length c2) := fun px => px.cell y3 yz
          have Z4 : ∀ px : Pst w2, px.W.cell? ⟨p, 4, none⟩ = some (.int .i64 m.want) := fun px => px.cell z4 pz
          have Z5 : ∀ px : Pst w2, px.W.cell? ⟨p, 5, none⟩ = some (.int .i64 m.down) := fun px => px.cell z5 pz
          clear hnn
          go_wp2_with fail
          clear yz y0 y1 y2 y3 z2 z4 z5 e4' hbl1' pz
          refine region_class w2 (Below.refl _ _) (by kernel_rfl) (by kernel_rfl) ?_
          repeat (first
            | go_big_quiet_skip
            | (go_big_quiet_want; go_big_quiet_op; first | go_big_quiet_on | (apply Exists.intro; refine ⟨fun px => ?_, ?_⟩; (focus ((go_at_call 51; refine (HC.out px).mono ?_; rintro e w' ⟨he, hb⟩; exact ⟨he, ⟨w', blw_trans px.ok hb⟩, rfl⟩))); go_big_quiet_on)))
          refine wpQuiet_nil ?_
          intro _ hw'
          obtain ⟨x6, hw''⟩ := hw'
          subst hw''
          go_wp2
          go_ret
          exact ⟨Pl.ret_bool HF.out.symm, blw_trans HB2.out x6.ok⟩
      · have HF : Hid (R = true) := by show R = true; rw [HD2.out, if_pos hst]
        have hst' : (c.state == 3) = false := by simpa using hst
        have hst2 : (c.state != 3) = true := by simpa using hst
        clear HD2
        go_wp2
        go_ret
        exact ⟨Pl.ret_bool HF.out.symm, HB2.out⟩

end Go.Proofs.YtamhfnlogldpaaaGreat
