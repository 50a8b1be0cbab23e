/-
  Stewards: what may be taken away, by the program.
-/
import Derived.Test.YtamhfnlogldpaaaGreatOrdT
import Derived.Test.YtamhfnlogldpaaaGreatStD
import Derived.Test.YtamhfnlogldpaaaGreatStF
import Derived.Test.YtamhfnlogldpaaaGreatPgG
import Derived.Test.YtamhfnlogldpaaaGreatPut
namespace Go.Proofs.YtamhfnlogldpaaaGreat
open Go.RowKit Go.Deep

set_option maxRecDepth 8000 in
set_option maxHeartbeats 40000000 in
theorem stewValidV (K : SBk) (a0 a1 a2 : Option Addr) (c0 c1 c2 : Nat) (w : World) (h : SBkV w a0 a1 a2 K) :
    Calls Tryz.prog 22 #[.agg #[.int .i64 K.now, .slice a0 K.svcs.length c0, .slice a1 K.cps.length c1, .slice a2 K.bts.length c2]] w fun e w' => e = .returned (.bool (sbOk K)) ∧ Below w.heap.size w w' := by
  have HH := hid h
  clear h
  obtain ⟨R, hR⟩ : ∃ R, R = sbOk K := ⟨_, rfl⟩
  have HR := hid hR
  rw [← hR]
  clear hR
  obtain ⟨wa, hwa⟩ : ∃ wa, wa = w.alloc (.cells #[.int .i64 K.now, .slice a0 K.svcs.length c0, .slice a1 K.cps.length c1, .slice a2 K.bts.length c2] 34) := ⟨_, rfl⟩
  have HB : Hid (Below w.heap.size w wa) := by show Below _ _ _; rw [hwa]; exact blw_alloc (Below.refl _ _) _
  have HX : Hid (Box4 wa w.heap.size (.int .i64 K.now) (.slice a0 K.svcs.length c0) (.slice a1 K.cps.length c1) (.slice a2 K.bts.length c2)) := by show Box4 _ _ _ _ _ _; rw [hwa]; exact Box4.new' w _ _ _ _ _ _ rfl
  go_enter Tryz.func22, Tryz.ntmps22
  go_upto_region 1 with fail
  rw [← hwa]
  clear hwa
  obtain ⟨wb, hwb⟩ : ∃ wb, wb = wa.alloc (.cells #[.func (.func 58) #[] #[], .func (.func 59) #[] #[], .func (.func 60) #[] #[], .func (.func 61) #[] #[]] 44) := ⟨_, rfl⟩
  obtain ⟨E, hE⟩ : ∃ E, E = wa.heap.size := ⟨_, rfl⟩
  have hab : Below wa.heap.size wa wb := by rw [hwb]; exact blw_alloc (Below.refl _ _) _
  have HBb := hid (blw_trans HB.out hab)
  have HXb := hid (HX.out.later hab)
  have HFb : Hid (Box4 wb E (.func (.func 58) #[] #[]) (.func (.func 59) #[] #[]) (.func (.func 60) #[] #[]) (.func (.func 61) #[] #[])) := by show Box4 _ _ _ _ _ _; rw [hwb, hE]; exact Box4.new' wa _ _ _ _ _ _ rfl
  clear hab
  go_wp2
  rw [← hwb, ← hE]
  clear hwb hE
  go_loopw [7] (fun i wr => ∃ q : Nat, q ≤ 4 ∧ i = .int .i64 q ∧ allTo (chk K) q = true ∧ Below wb.heap.size wb wr) (fun i _ => 4 - (intOf i).toNat)
  case atStart => exact ⟨0, Nat.zero_le _, rfl, rfl, Below.refl _ _⟩
  case round =>
    obtain ⟨q, hq, rfl, ha, hW⟩ := hrel
    have HQ := hid ha
    have HB2 := hid (blw_trans HBb.out hW)
    have HX2 := hid (HXb.out.later hW)
    have HF2 := hid (HFb.out.later hW)
    have HWW := hid hW
    clear ha hW
    have hq5 : q = 0 ∨ q = 1 ∨ q = 2 ∨ q = 3 ∨ q = 4 := by omega
    clear hq
    rcases hq5 with rfl | rfl | rfl | rfl | rfl
    · obtain ⟨yz, y0, y1, y2, y3⟩ := HX2.out
      obtain ⟨zz, z0, z1, z2, z3⟩ := HF2.out
      have HE : Hid (∀ b, chk K 0 = b → (b = false → R = false) ∧ (b = true → allTo (chk K) (0 + 1) = true)) := by
        intro b hb
        refine ⟨fun e => ?_, fun e => allTo_step HQ.out (hb.trans e)⟩
        rw [HR.out, sbOk_eq]
        exact allTo_false (k := 0) (hb.trans e) _ (by omega)
      go_wp2_with fail
      refine (nowI K _ _ _ wr).mono ?_
      rintro e w3 ⟨rfl, hb3⟩
      have HB3 := hid (blw_trans HB2.out hb3)
      have HW3 := hid (blw_trans HWW.out hb3)
      obtain ⟨r, hr⟩ : ∃ r, chk K 0 = r := ⟨_, rfl⟩
      have HG := hid (HE.out r hr)
      have hr' := hr
      simp only [chk] at hr'
      rw [hr']
      clear hb3 hr hr' HE yz y0 y1 y2 y3 zz z0 z1 z2 z3
      cases r
      · have HG1 := hid (HG.out.1 rfl)
        clear HG
        go_wp2
        go_ret
        exact ⟨Pl.ret_bool HG1.out.symm, HB3.out⟩
      · have HG1 := hid (HG.out.2 rfl)
        clear HG
        go_wp2
        go_roundw
        case rel => exact ⟨0 + 1, by omega, by go_num, HG1.out, HW3.out⟩
        case measure => simp [intOf]
    · obtain ⟨yz, y0, y1, y2, y3⟩ := HX2.out
      obtain ⟨zz, z0, z1, z2, z3⟩ := HF2.out
      have HE : Hid (∀ b, chk K 1 = b → (b = false → R = false) ∧ (b = true → allTo (chk K) (1 + 1) = true)) := by
        intro b hb
        refine ⟨fun e => ?_, fun e => allTo_step HQ.out (hb.trans e)⟩
        rw [HR.out, sbOk_eq]
        exact allTo_false (k := 1) (hb.trans e) _ (by omega)
      go_wp2_with fail
      refine (servicesI K a0 a1 a2 c0 c1 c2 wr (HH.out.later HB2.out)).mono ?_
      rintro e w3 ⟨rfl, hb3⟩
      have HB3 := hid (blw_trans HB2.out hb3)
      have HW3 := hid (blw_trans HWW.out hb3)
      obtain ⟨r, hr⟩ : ∃ r, chk K 1 = r := ⟨_, rfl⟩
      have HG := hid (HE.out r hr)
      have hr' := hr
      simp only [chk] at hr'
      rw [hr']
      clear hb3 hr hr' HE yz y0 y1 y2 y3 zz z0 z1 z2 z3
      cases r
      · have HG1 := hid (HG.out.1 rfl)
        clear HG
        go_wp2
        go_ret
        exact ⟨Pl.ret_bool HG1.out.symm, HB3.out⟩
      · have HG1 := hid (HG.out.2 rfl)
        clear HG
        go_wp2
        go_roundw
        case rel => exact ⟨1 + 1, by omega, by go_num, HG1.out, HW3.out⟩
        case measure => simp [intOf]
    · obtain ⟨yz, y0, y1, y2, y3⟩ := HX2.out
      obtain ⟨zz, z0, z1, z2, z3⟩ := HF2.out
      have HE : Hid (∀ b, chk K 2 = b → (b = false → R = false) ∧ (b = true → allTo (chk K) (2 + 1) = true)) := by
        intro b hb
        refine ⟨fun e => ?_, fun e => allTo_step HQ.out (hb.trans e)⟩
        rw [HR.out, sbOk_eq]
        exact allTo_false (k := 2) (hb.trans e) _ (by omega)
      go_wp2_with fail
      refine (berthsI K a0 a1 a2 c0 c1 c2 wr (HH.out.later HB2.out)).mono ?_
      rintro e w3 ⟨rfl, hb3⟩
      have HB3 := hid (blw_trans HB2.out hb3)
      have HW3 := hid (blw_trans HWW.out hb3)
      obtain ⟨r, hr⟩ : ∃ r, chk K 2 = r := ⟨_, rfl⟩
      have HG := hid (HE.out r hr)
      have hr' := hr
      simp only [chk] at hr'
      rw [hr']
      clear hb3 hr hr' HE yz y0 y1 y2 y3 zz z0 z1 z2 z3
      cases r
      · have HG1 := hid (HG.out.1 rfl)
        clear HG
        go_wp2
        go_ret
        exact ⟨Pl.ret_bool HG1.out.symm, HB3.out⟩
      · have HG1 := hid (HG.out.2 rfl)
        clear HG
        go_wp2
        go_roundw
        case rel => exact ⟨2 + 1, by omega, by go_num, HG1.out, HW3.out⟩
        case measure => simp [intOf]
    · obtain ⟨yz, y0, y1, y2, y3⟩ := HX2.out
      obtain ⟨zz, z0, z1, z2, z3⟩ := HF2.out
      have HAP : Hid (Apart K ∧ ∀ i, i < K.svcs.length → 1 ≤ (K.svcs.getD i Sv.none).next ∧ (K.svcs.getD i Sv.none).next ≤ 1000000) := by
        have h1 := (allTo_iff _ _).1 HQ.out 1 (by omega)
        have h2 := (allTo_iff _ _).1 HQ.out 2 (by omega)
        simp only [chk, Bool.and_eq_true] at h1 h2
        exact ⟨apart_of h1.1.2 h2.1.2, next_of h1.2⟩
      have HE : Hid (∀ b, chk K 3 = b → (b = false → R = false) ∧ (b = true → allTo (chk K) (3 + 1) = true)) := by
        intro b hb
        refine ⟨fun e => ?_, fun e => allTo_step HQ.out (hb.trans e)⟩
        rw [HR.out, sbOk_eq]
        exact allTo_false (k := 3) (hb.trans e) _ (by omega)
      go_wp2_with fail
      refine (copiesI K a0 a1 a2 c0 c1 c2 wr (HH.out.later HB2.out) HAP.out.1 HAP.out.2).mono ?_
      rintro e w3 ⟨rfl, hb3⟩
      have HB3 := hid (blw_trans HB2.out hb3)
      have HW3 := hid (blw_trans HWW.out hb3)
      obtain ⟨r, hr⟩ : ∃ r, chk K 3 = r := ⟨_, rfl⟩
      have HG := hid (HE.out r hr)
      have hr' := hr
      simp only [chk] at hr'
      rw [hr']
      clear hb3 hr hr' HE yz y0 y1 y2 y3 zz z0 z1 z2 z3
      cases r
      · have HG1 := hid (HG.out.1 rfl)
        clear HG
        go_wp2
        go_ret
        exact ⟨Pl.ret_bool HG1.out.symm, HB3.out⟩
      · have HG1 := hid (HG.out.2 rfl)
        clear HG
        go_wp2
        go_roundw
        case rel => exact ⟨3 + 1, by omega, by go_num, HG1.out, HW3.out⟩
        case measure => simp [intOf]
    · have HF : Hid (R = true) := by show R = true; rw [HR.out, sbOk_eq]; exact HQ.out
      go_wp2
      go_ret
      exact ⟨Pl.ret_bool HF.out.symm, HB2.out⟩

theorem stewValidI (K : SBk) (b0 b1 b2 : Nat) (w : World) (h : SBkIn w b0 b1 b2 K) :
    Calls Tryz.prog 22 #[.agg #[.int .i64 K.now, .slice (some ⟨b0, 0, none⟩) K.svcs.length K.svcs.length, .slice (some ⟨b1, 0, none⟩) K.cps.length K.cps.length, .slice (some ⟨b2, 0, none⟩) K.bts.length K.bts.length]] w fun e w' => e = .returned (.bool (sbOk K)) ∧ Below w.heap.size w w' :=
  stewValidV K _ _ _ _ _ _ w h.v

end Go.Proofs.YtamhfnlogldpaaaGreat

namespace Go.Proofs.YtamhfnlogldpaaaGreat
open Go.RowKit Go.Deep

def stewCount (K : SBk) (svc : ByteArray) : Cn := if sbOk K then countOf K svc else Cn.zero
def stewMayEnd (K : SBk) (svc : ByteArray) (num : Int) : Bool := sbOk K && mayEnd K svc num

end Go.Proofs.YtamhfnlogldpaaaGreat

namespace Go.Proofs.YtamhfnlogldpaaaGreat
open Go.RowKit Go.Deep

theorem chk_all {K : SBk} (h : sbOk K = true) : Apart K ∧ ascCp K.cps = true ∧ K.cps.length ≤ 200 ∧ ∀ i, i < K.cps.length → 1 ≤ (K.cps.getD i Cp.none).num := by
  rw [sbOk_eq, allTo_iff] at h
  have h1 := h 1 (by omega)
  have h2 := h 2 (by omega)
  have h3 := h 3 (by omega)
  simp only [chk, Bool.and_eq_true, decide_eq_true_eq] at h1 h2 h3
  refine ⟨apart_of h1.1.2 h2.1.2, h3.1.2, h3.1.1, fun i hi => ?_⟩
  have := (allTo_iff _ _).1 h3.2 i hi
  simp only [cpOk, inB, Bool.and_eq_true, decide_eq_true_eq] at this
  omega

def VCt (B : Nat) (K : SBk) (a0 a1 a2 : Option Addr) (c0 c1 c2 : Nat) (b off k : Nat) (s : Sv) (n : Cn) (i : Nat) (u : Value) (_ : World) : Prop :=
  match i with
  | 0 => u = .agg #[.int .i64 K.now, .slice a0 K.svcs.length c0, .slice a1 K.cps.length c1, .slice a2 K.bts.length c2]
  | 1 => u = .pointer (some ⟨B, 1, none⟩)
  | 2 => u = .slice a0 K.svcs.length c0
  | 3 => u = .int .i64 (k : Nat)
  | 4 => u = .pointer (some ⟨b, off + k * 13, none⟩)
  | 5 => u = .agg #[.string s.nm, .int .i64 s.ver, .bool s.gone, .int .i64 s.image, .int .i64 s.want, .int .i64 s.down, .int .i64 s.over, .int .i64 s.next, .int .i64 s.per, .int .i64 s.least, .int .i64 s.most, .int .i64 s.load, .int .i64 s.cool]
  | 6 => u = .agg #[.int .i64 n.live, .int .i64 n.ready, .int .i64 n.old, .int .i64 n.failed, .int .i64 n.ending]
  | _ => True
theorem VCt_mono (B : Nat) (K : SBk) (a0 a1 a2 : Option Addr) (c0 c1 c2 : Nat) (b off k : Nat) (s : Sv) (n : Cn) : ∀ j u W W', Below W.heap.size W W' → VCt B K a0 a1 a2 c0 c1 c2 b off k s n j u W → VCt B K a0 a1 a2 c0 c1 c2 b off k s n j u W' := fun _ _ _ _ _ h => h
theorem Tryz.infoCt : (Tryz.prog.info? 56).map (·.size) = some 5 := by kernel_rfl

end Go.Proofs.YtamhfnlogldpaaaGreat

namespace Go.Proofs.YtamhfnlogldpaaaGreat
open Go.RowKit Go.Deep

/-- The place of a copy, or the one that it would get. -/
def placeAt (l : List Cp) (svc : ByteArray) (num : Int) : Nat := l.findIdx fun x => !decide (cpCmp x.svc x.num svc num < 0)
theorem placeAt_le (l : List Cp) (svc : ByteArray) (num : Int) : placeAt l svc num ≤ l.length := List.findIdx_le_length
theorem placeAt_lt (l : List Cp) (svc : ByteArray) (num : Int) : ∀ i, i < placeAt l svc num → cpCmp (l.getD i Cp.none).svc (l.getD i Cp.none).num svc num < 0 := by
  intro i hi
  have hl : i < l.length := Nat.lt_of_lt_of_le hi (placeAt_le l svc num)
  have := List.not_of_lt_findIdx hi
  have e : l.getD i Cp.none = l[i] := by simp [hl]
  rw [e]
  simpa using this
theorem placeAt_ge {l : List Cp} (h : ascCp l = true) (svc : ByteArray) (num : Int) : ∀ i, placeAt l svc num ≤ i → i < l.length → 0 ≤ cpCmp (l.getD i Cp.none).svc (l.getD i Cp.none).num svc num := by
  intro i hi hl
  have hp : placeAt l svc num < l.length := by omega
  have h0 : 0 ≤ cpCmp (l.getD (placeAt l svc num) Cp.none).svc (l.getD (placeAt l svc num) Cp.none).num svc num := by
    have := List.findIdx_getElem (w := hp)
    have e : l.getD (placeAt l svc num) Cp.none = l[placeAt l svc num] := by simp [hp]
    rw [e]
    have q : (!decide (cpCmp l[placeAt l svc num].svc l[placeAt l svc num].num svc num < 0)) = true := this
    simp at q
    omega
  exact row_ge (lex_lin kc_lin num_lin) ((ascCp_iff l).1 h) (t := (svc.toList, num)) h0 i hi hl
theorem cmp_zero (x : Cp) (svc : ByteArray) (num : Int) : cpCmp x.svc x.num svc num = 0 ↔ (same x.svc svc && (x.num == num)) = true := by
  have := (lex_lin kc_lin num_lin).z (x.svc.toList, x.num) (svc.toList, num)
  refine Iff.trans this ?_
  simp [same]
theorem cpIx_place {l : List Cp} (h : ascCp l = true) (svc : ByteArray) (num : Int) :
    (decide (placeAt l svc num < l.length) && decide (cpCmp (l.getD (placeAt l svc num) Cp.none).svc (l.getD (placeAt l svc num) Cp.none).num svc num = 0)) = decide (0 ≤ cpIx l svc num) ∧ (0 ≤ cpIx l svc num → cpIx l svc num = (placeAt l svc num : Int) ∧ placeAt l svc num < l.length) := by
  have hno : ∀ i, cpCmp (l.getD i Cp.none).svc (l.getD i Cp.none).num svc num ≠ 0 → (same (l.getD i Cp.none).svc svc && ((l.getD i Cp.none).num == num)) = false := fun i hi => by
    rw [Bool.eq_false_iff]
    exact fun q => hi ((cmp_zero _ _ _).2 q)
  obtain ⟨p, hp⟩ : ∃ p, p = placeAt l svc num := ⟨_, rfl⟩
  have hlt := placeAt_lt l svc num
  have hge := placeAt_ge h svc num
  rw [← hp] at hlt hge ⊢
  by_cases h1 : p < l.length
  · by_cases h2 : cpCmp (l.getD p Cp.none).svc (l.getD p Cp.none).num svc num = 0
    · have e : cpIx l svc num = p := firstTo_hit h1 ((cmp_zero _ _ _).1 h2) fun i hi => hno i (by have := hlt i hi; omega)
      rw [e]
      exact ⟨by rw [decide_eq_true h1, decide_eq_true h2, decide_eq_true (show (0 : Int) ≤ (p : Int) by omega)]; rfl, fun _ => ⟨rfl, h1⟩⟩
    · have e : cpIx l svc num = -1 := firstTo_none fun i hi => by
        refine hno i fun q => ?_
        rcases Nat.lt_trichotomy i p with r | r | r
        · have := hlt i r; omega
        · subst r; exact h2 q
        · have k := row_lt (lex_lin kc_lin num_lin) ((ascCp_iff l).1 h) p i r hi
          have q' := ((lex_lin kc_lin num_lin).z ((l.getD i Cp.none).svc.toList, (l.getD i Cp.none).num) (svc.toList, num)).1 q
          have g : 0 ≤ lex kc numCmp ((l.getD p Cp.none).svc.toList, (l.getD p Cp.none).num) (svc.toList, num) := hge p (Nat.le_refl _) h1
          have k' : lex kc numCmp ((l.getD p Cp.none).svc.toList, (l.getD p Cp.none).num) ((l.getD i Cp.none).svc.toList, (l.getD i Cp.none).num) < 0 := k
          rw [q'] at k'
          omega
      rw [e]
      exact ⟨by rw [decide_eq_false h2, Bool.and_false]; rfl, fun q => absurd q (by decide)⟩
  · have e : cpIx l svc num = -1 := firstTo_none fun i hi => hno i (by have := hlt i (by omega); omega)
    rw [e]
    exact ⟨by rw [decide_eq_false h1, Bool.false_and]; rfl, fun q => absurd q (by decide)⟩

/-- The place of a service, 0 where there is none. -/
def svAt (l : List Sv) (nm : ByteArray) : Int := if 0 ≤ svIx l nm then svIx l nm else 0

/-- Whether nothing hangs on a copy. -/
def idle (s : Sv) (c : Cp) : Bool := c.state != 3 || s.gone
/-- Which rule holds for it. -/
def ruleV (b : Bool) : Value := if b then .iface 154 (.agg #[]) else .iface 155 (.agg #[])

set_option maxRecDepth 8000 in
set_option maxHeartbeats 8000000 in
theorem ruleOfI (s : Sv) (c : Cp) (w : World) :
    Calls Tryz.prog 115 #[.agg #[.string s.nm, .int .i64 s.ver, .bool s.gone, .int .i64 s.image, .int .i64 s.want, .int .i64 s.down, .int .i64 s.over, .int .i64 s.next, .int .i64 s.per, .int .i64 s.least, .int .i64 s.most, .int .i64 s.load, .int .i64 s.cool], .agg #[.string c.svc, .int .i64 c.num, .int .i64 c.ver, .int .i64 c.image, .int .i64 c.state, .bool c.ending, .string c.berth]] w fun e w' => e = .returned (ruleV (idle s c)) ∧ Below w.heap.size w w' := by
  obtain ⟨wa, hwa⟩ : ∃ wa, wa = (w.alloc (.cells #[.string s.nm, .int .i64 s.ver, .bool s.gone, .int .i64 s.image, .int .i64 s.want, .int .i64 s.down, .int .i64 s.over, .int .i64 s.next, .int .i64 s.per, .int .i64 s.least, .int .i64 s.most, .int .i64 s.load, .int .i64 s.cool] 50)).alloc (.cells #[.string c.svc, .int .i64 c.num, .int .i64 c.ver, .int .i64 c.image, .int .i64 c.state, .bool c.ending, .string c.berth] 84) := ⟨_, rfl⟩
  have HB : Hid (Below w.heap.size w wa) := by show Below _ _ _; rw [hwa]; exact blw_alloc (blw_alloc (Below.refl _ _) _) _
  have HX : Hid (w.heap.size + 1 < wa.heap.size ∧ wa.cell? ⟨w.heap.size + 1, 4, none⟩ = some (.int .i64 c.state) ∧ wa.cell? ⟨w.heap.size, 2, none⟩ = some (.bool s.gone)) := by
    show _ ∧ _
    rw [hwa]
    exact ⟨by simp, (Box7.new' _ _ _ _ _ _ _ _ _ _ (by simp)).x4, ((Box13.new' _ _ _ _ _ _ _ _ _ _ _ _ _ _ _ _ rfl).past _).x2⟩
  obtain ⟨R, hR⟩ : ∃ R, R = ruleV (idle s c) := ⟨_, rfl⟩
  have HR := hid hR
  rw [← hR]
  clear hR
  go_enter Tryz.func115, Tryz.ntmps115
  go_upto_region 1 with fail
  rw [← hwa]
  clear hwa
  obtain ⟨yz, y4, g2⟩ := HX.out
  have yz' : w.heap.size < wa.heap.size := by omega
  by_cases k : c.state = 3
  · cases hg : s.gone
    · have HE : Hid (R = .iface 155 (.agg #[])) := by show R = _; rw [HR.out]; simp [ruleV, idle, k, hg]
      rw [k] at y4
      rw [hg] at g2
      clear HR k hg
      go_wp2
      go_ret
      exact ⟨by rw [HE.out]; rfl, HB.out⟩
    · have HE : Hid (R = .iface 154 (.agg #[])) := by show R = _; rw [HR.out]; simp [ruleV, idle, hg]
      rw [k] at y4
      rw [hg] at g2
      clear HR k hg
      go_wp2
      go_ret
      exact ⟨by rw [HE.out]; rfl, HB.out⟩
  · have HE : Hid (R = .iface 154 (.agg #[])) := by show R = _; rw [HR.out]; simp [ruleV, idle, k]
    have k1 : (c.state == 3) = false := by simp [k]
    have k2 : (c.state != 3) = true := by simp [k]
    go_wp2
    go_ret
    exact ⟨by rw [HE.out]; rfl, HB.out⟩

set_option maxHeartbeats 8000000 in
theorem idleLetsI (b : Array Value) (s : Array Value) (w : World) :
    Calls Tryz.prog 131 #[.agg #[], .agg b, .agg s] w fun e w' => e = .returned (.bool true) ∧ Below w.heap.size w w' := by
  go_enter Tryz.func131, Tryz.ntmps131
  go_wp2
  go_ret
  exact ⟨rfl, blw_alloc (blw_alloc (blw_alloc (Below.refl _ _) _) _) _⟩

/-- Whether enough others are ready. -/
def spared (K : SBk) (s : Sv) : Bool := decide (s.want - s.down ≤ (cnL K.cps s.image (rowCp K.cps s.nm)).ready - 1)
theorem row_len {l : List Cp} (svc : ByteArray) : (rowCp l svc).length ≤ l.length := by
  have := runCp_le l svc (placeCp l svc) (placeCp_le l svc)
  simp only [rowCp, List.length_range']
  omega

set_option maxRecDepth 8000 in
set_option maxHeartbeats 8000000 in
theorem servingLetsI (K : SBk) (a0 a1 a2 : Option Addr) (c0 c1 c2 : Nat) (s : Sv) (w : World) (h : SBkV w a0 a1 a2 K) (hasc : ascCp K.cps = true) (hlen : K.cps.length ≤ 200) (hs : 0 ≤ s.want ∧ s.want ≤ 10 ∧ 0 ≤ s.down ∧ s.down ≤ 10) :
    Calls Tryz.prog 132 #[.agg #[], .agg #[.int .i64 K.now, .slice a0 K.svcs.length c0, .slice a1 K.cps.length c1, .slice a2 K.bts.length c2], .agg #[.string s.nm, .int .i64 s.ver, .bool s.gone, .int .i64 s.image, .int .i64 s.want, .int .i64 s.down, .int .i64 s.over, .int .i64 s.next, .int .i64 s.per, .int .i64 s.least, .int .i64 s.most, .int .i64 s.load, .int .i64 s.cool]] w fun e w' => e = .returned (.bool (spared K s)) ∧ Below w.heap.size w w' := by
  have HH := hid h
  have HA := hid hasc
  have HL := hid hlen
  obtain ⟨s1, s2, s3, s4⟩ := hs
  clear h hasc hlen
  obtain ⟨R, hR⟩ : ∃ R, R = spared K s := ⟨_, rfl⟩
  have HR := hid hR
  rw [← hR]
  clear hR
  obtain ⟨wa, hwa⟩ : ∃ wa, wa = ((w.alloc (.cells #[] 155)).alloc (.cells #[.int .i64 K.now, .slice a0 K.svcs.length c0, .slice a1 K.cps.length c1, .slice a2 K.bts.length c2] 34)).alloc (.cells #[.string s.nm, .int .i64 s.ver, .bool s.gone, .int .i64 s.image, .int .i64 s.want, .int .i64 s.down, .int .i64 s.over, .int .i64 s.next, .int .i64 s.per, .int .i64 s.least, .int .i64 s.most, .int .i64 s.load, .int .i64 s.cool] 50) := ⟨_, rfl⟩
  have HB : Hid (Below w.heap.size w wa) := by show Below _ _ _; rw [hwa]; exact blw_alloc (blw_alloc (blw_alloc (Below.refl _ _) _) _) _
  have HX : Hid (Box4 wa (w.heap.size + 1) (.int .i64 K.now) (.slice a0 K.svcs.length c0) (.slice a1 K.cps.length c1) (.slice a2 K.bts.length c2)) := by show Box4 _ _ _ _ _ _; rw [hwa]; exact (Box4.new' _ _ _ _ _ _ _ (by simp)).past _
  have HS : Hid (Box13 wa (w.heap.size + 2) (.string s.nm) (.int .i64 s.ver) (.bool s.gone) (.int .i64 s.image) (.int .i64 s.want) (.int .i64 s.down) (.int .i64 s.over) (.int .i64 s.next) (.int .i64 s.per) (.int .i64 s.least) (.int .i64 s.most) (.int .i64 s.load) (.int .i64 s.cool)) := by show Box13 _ _ _ _ _ _ _ _ _ _ _ _ _ _ _; rw [hwa]; exact Box13.new' _ _ _ _ _ _ _ _ _ _ _ _ _ _ _ _ (by simp)
  go_enter Tryz.func132, Tryz.ntmps132
  go_upto_region 1 with fail
  rw [← hwa]
  clear hwa
  obtain ⟨yz, y0, y1, y2, y3⟩ := HX.out
  obtain ⟨zz, z0, z1, z2, z3, z4, z5, z6, z7, z8, z9, z10, z11, z12⟩ := HS.out
  go_wp2_with fail
  refine (countedI K a0 a1 a2 c0 c1 c2 s wa (HH.out.later HB.out) HA.out HL.out).mono ?_
  rintro e w1 ⟨rfl, hb1⟩
  have HB1 := hid (blw_trans HB.out hb1)
  have HS1 := hid (HS.out.later hb1)
  clear yz y0 y1 y2 y3 zz z0 z1 z2 z3 z4 z5 z6 z7 z8 z9 z10 z11 z12 hb1
  obtain ⟨zz, z0, z1, z2, z3, z4, z5, z6, z7, z8, z9, z10, z11, z12⟩ := HS1.out
  obtain ⟨n, hn⟩ : ∃ n, n = cnL K.cps s.image (rowCp K.cps s.nm) := ⟨_, rfl⟩
  have HE : Hid (R = decide (s.want - s.down ≤ n.ready - 1)) := by show R = _; rw [HR.out, hn]; rfl
  have hle := cnL_le K.cps s.image (rowCp K.cps s.nm)
  rw [← hn] at hle ⊢
  have hrl : (rowCp K.cps s.nm).length ≤ 200 := Nat.le_trans (row_len _) HL.out
  obtain ⟨_, ⟨r1, r2⟩, _, _, _⟩ := hle
  have r3 : n.ready ≤ 200 := by omega
  clear hn r2 HR hrl
  have hf := fun W => field_ready (.int .i64 n.live) (.int .i64 n.ready) (.int .i64 n.old) (.int .i64 n.failed) (.int .i64 n.ending) W
  go_wp2
  go_ret
  exact ⟨Pl.ret_bool HE.out.symm, HB1.out⟩

theorem methIdle (w : World) : (method 273 154 (.agg #[]) "loop.example/wharfdesk/impl.lets").run Tryz.prog w = .ok (131, .agg #[]) w := by kernel_rfl
theorem methServing (w : World) : (method 273 155 (.agg #[]) "loop.example/wharfdesk/impl.lets").run Tryz.prog w = .ok (132, .agg #[]) w := by kernel_rfl

/-- Whether a copy of a service may be taken away. -/
def mayGo (K : SBk) (s : Sv) (c : Cp) : Bool := !c.ending && (idle s c || spared K s)

set_option maxRecDepth 8000 in
set_option maxHeartbeats 8000000 in
theorem mayGoI (K : SBk) (a0 a1 a2 : Option Addr) (c0 c1 c2 : Nat) (s : Sv) (c : Cp) (w : World) (h : SBkV w a0 a1 a2 K) (hasc : ascCp K.cps = true) (hlen : K.cps.length ≤ 200) (hs : 0 ≤ s.want ∧ s.want ≤ 10 ∧ 0 ≤ s.down ∧ s.down ≤ 10) :
    Calls Tryz.prog 112 #[.agg #[.int .i64 K.now, .slice a0 K.svcs.length c0, .slice a1 K.cps.length c1, .slice a2 K.bts.length c2], .agg #[.string s.nm, .int .i64 s.ver, .bool s.gone, .int .i64 s.image, .int .i64 s.want, .int .i64 s.down, .int .i64 s.over, .int .i64 s.next, .int .i64 s.per, .int .i64 s.least, .int .i64 s.most, .int .i64 s.load, .int .i64 s.cool], .agg #[.string c.svc, .int .i64 c.num, .int .i64 c.ver, .int .i64 c.image, .int .i64 c.state, .bool c.ending, .string c.berth]] w fun e w' => e = .returned (.bool (mayGo K s c)) ∧ Below w.heap.size w w' := by
  have HH := hid h
  have HA := hid hasc
  have HL := hid hlen
  have HS0 := hid hs
  clear h hasc hlen hs
  obtain ⟨R, hR⟩ : ∃ R, R = mayGo K s c := ⟨_, rfl⟩
  have HR := hid hR
  rw [← hR]
  clear hR
  obtain ⟨wa, hwa⟩ : ∃ wa, wa = ((w.alloc (.cells #[.int .i64 K.now, .slice a0 K.svcs.length c0, .slice a1 K.cps.length c1, .slice a2 K.bts.length c2] 34)).alloc (.cells #[.string s.nm, .int .i64 s.ver, .bool s.gone, .int .i64 s.image, .int .i64 s.want, .int .i64 s.down, .int .i64 s.over, .int .i64 s.next, .int .i64 s.per, .int .i64 s.least, .int .i64 s.most, .int .i64 s.load, .int .i64 s.cool] 50)).alloc (.cells #[.string c.svc, .int .i64 c.num, .int .i64 c.ver, .int .i64 c.image, .int .i64 c.state, .bool c.ending, .string c.berth] 84) := ⟨_, rfl⟩
  have HB : Hid (Below w.heap.size w wa) := by show Below _ _ _; rw [hwa]; exact blw_alloc (blw_alloc (blw_alloc (Below.refl _ _) _) _) _
  have HX : Hid (Box4 wa w.heap.size (.int .i64 K.now) (.slice a0 K.svcs.length c0) (.slice a1 K.cps.length c1) (.slice a2 K.bts.length c2)) := by show Box4 _ _ _ _ _ _; rw [hwa]; exact ((Box4.new' _ _ _ _ _ _ _ rfl).past _).past _
  have HS : Hid (Box13 wa (w.heap.size + 1) (.string s.nm) (.int .i64 s.ver) (.bool s.gone) (.int .i64 s.image) (.int .i64 s.want) (.int .i64 s.down) (.int .i64 s.over) (.int .i64 s.next) (.int .i64 s.per) (.int .i64 s.least) (.int .i64 s.most) (.int .i64 s.load) (.int .i64 s.cool)) := by show Box13 _ _ _ _ _ _ _ _ _ _ _ _ _ _ _; rw [hwa]; exact (Box13.new' _ _ _ _ _ _ _ _ _ _ _ _ _ _ _ _ (by simp)).past _
  have HC : Hid (Box7 wa (w.heap.size + 2) (.string c.svc) (.int .i64 c.num) (.int .i64 c.ver) (.int .i64 c.image) (.int .i64 c.state) (.bool c.ending) (.string c.berth)) := by show Box7 _ _ _ _ _ _ _ _ _; rw [hwa]; exact Box7.new' _ _ _ _ _ _ _ _ _ _ (by simp)
  go_enter Tryz.func112, Tryz.ntmps112
  go_upto_region 1 with fail
  rw [← hwa]
  clear hwa
  obtain ⟨yz, y0, y1, y2, y3⟩ := HX.out
  obtain ⟨sz, s0, s1, s2, s3, s4, s5, s6, s7, s8, s9, s10, s11, s12⟩ := HS.out
  obtain ⟨cz, cc0, cc1, cc2, cc3, cc4, cc5, cc6⟩ := HC.out
  have hNE := pst_some wa
  have YZ : ∀ px : Pst wa, w.heap.size < px.W.heap.size := fun px => px.size yz
  have Y0 : ∀ px : Pst wa, px.W.cell? ⟨w.heap.size, 0, none⟩ = some (.int .i64 K.now) := fun px => px.cell y0 yz
  have Y1 : ∀ px : Pst wa, px.W.cell? ⟨w.heap.size, 1, none⟩ = some (.slice a0 K.svcs.length c0) := fun px => px.cell y1 yz
  have Y2 : ∀ px : Pst wa, px.W.cell? ⟨w.heap.size, 2, none⟩ = some (.slice a1 K.cps.length c1) := fun px => px.cell y2 yz
  have Y3 : ∀ px : Pst wa, px.W.cell? ⟨w.heap.size, 3, none⟩ = some (.slice a2 K.bts.length c2) := fun px => px.cell y3 yz
  have SZ : ∀ px : Pst wa, w.heap.size + 1 < px.W.heap.size := fun px => px.size sz
  have S0 : ∀ px : Pst wa, px.W.cell? ⟨w.heap.size + 1, 0, none⟩ = some (.string s.nm) := fun px => px.cell s0 sz
  have S1 : ∀ px : Pst wa, px.W.cell? ⟨w.heap.size + 1, 1, none⟩ = some (.int .i64 s.ver) := fun px => px.cell s1 sz
  have S2 : ∀ px : Pst wa, px.W.cell? ⟨w.heap.size + 1, 2, none⟩ = some (.bool s.gone) := fun px => px.cell s2 sz
  have S3 : ∀ px : Pst wa, px.W.cell? ⟨w.heap.size + 1, 3, none⟩ = some (.int .i64 s.image) := fun px => px.cell s3 sz
  have S4 : ∀ px : Pst wa, px.W.cell? ⟨w.heap.size + 1, 4, none⟩ = some (.int .i64 s.want) := fun px => px.cell s4 sz
  have S5 : ∀ px : Pst wa, px.W.cell? ⟨w.heap.size + 1, 5, none⟩ = some (.int .i64 s.down) := fun px => px.cell s5 sz
  have S6 : ∀ px : Pst wa, px.W.cell? ⟨w.heap.size + 1, 6, none⟩ = some (.int .i64 s.over) := fun px => px.cell s6 sz
  have S7 : ∀ px : Pst wa, px.W.cell? ⟨w.heap.size + 1, 7, none⟩ = some (.int .i64 s.next) := fun px => px.cell s7 sz
  have S8 : ∀ px : Pst wa, px.W.cell? ⟨w.heap.size + 1, 8, none⟩ = some (.int .i64 s.per) := fun px => px.cell s8 sz
  have S9 : ∀ px : Pst wa, px.W.cell? ⟨w.heap.size + 1, 9, none⟩ = some (.int .i64 s.least) := fun px => px.cell s9 sz
  have S10 : ∀ px : Pst wa, px.W.cell? ⟨w.heap.size + 1, 10, none⟩ = some (.int .i64 s.most) := fun px => px.cell s10 sz
  have S11 : ∀ px : Pst wa, px.W.cell? ⟨w.heap.size + 1, 11, none⟩ = some (.int .i64 s.load) := fun px => px.cell s11 sz
  have S12 : ∀ px : Pst wa, px.W.cell? ⟨w.heap.size + 1, 12, none⟩ = some (.int .i64 s.cool) := fun px => px.cell s12 sz
  have CCZ : ∀ px : Pst wa, w.heap.size + 2 < px.W.heap.size := fun px => px.size cz
  have CC0 : ∀ px : Pst wa, px.W.cell? ⟨w.heap.size + 2, 0, none⟩ = some (.string c.svc) := fun px => px.cell cc0 cz
  have CC1 : ∀ px : Pst wa, px.W.cell? ⟨w.heap.size + 2, 1, none⟩ = some (.int .i64 c.num) := fun px => px.cell cc1 cz
  have CC2 : ∀ px : Pst wa, px.W.cell? ⟨w.heap.size + 2, 2, none⟩ = some (.int .i64 c.ver) := fun px => px.cell cc2 cz
  have CC3 : ∀ px : Pst wa, px.W.cell? ⟨w.heap.size + 2, 3, none⟩ = some (.int .i64 c.image) := fun px => px.cell cc3 cz
  have CC4 : ∀ px : Pst wa, px.W.cell? ⟨w.heap.size + 2, 4, none⟩ = some (.int .i64 c.state) := fun px => px.cell cc4 cz
  have CC5 : ∀ px : Pst wa, px.W.cell? ⟨w.heap.size + 2, 5, none⟩ = some (.bool c.ending) := fun px => px.cell cc5 cz
  have CC6 : ∀ px : Pst wa, px.W.cell? ⟨w.heap.size + 2, 6, none⟩ = some (.string c.berth) := fun px => px.cell cc6 cz
  have HV : Hid (∀ px : Pst wa, SBkV px.W a0 a1 a2 K) := fun px => HH.out.later (blw_trans HB.out px.ok)
  clear yz y0 y1 y2 y3 sz s0 s1 s2 s3 s4 s5 s6 s7 s8 s9 s10 s11 s12 cz cc0 cc1 cc2 cc3 cc4 cc5 cc6
  cases he : c.ending
  · cases hi : idle s c
    · have HE : Hid (R = spared K s) := by show R = _; rw [HR.out]; simp [mayGo, he, hi]
      have HRU : Hid (∀ W, Calls Tryz.prog 115 #[.agg #[.string s.nm, .int .i64 s.ver, .bool s.gone, .int .i64 s.image, .int .i64 s.want, .int .i64 s.down, .int .i64 s.over, .int .i64 s.next, .int .i64 s.per, .int .i64 s.least, .int .i64 s.most, .int .i64 s.load, .int .i64 s.cool], .agg #[.string c.svc, .int .i64 c.num, .int .i64 c.ver, .int .i64 c.image, .int .i64 c.state, .bool c.ending, .string c.berth]] W fun e w' => e = .returned (.iface 155 (.agg #[])) ∧ Below W.heap.size W w') := fun W => by have := ruleOfI s c W; rw [hi] at this; exact this
      have HM := methServing
      rw [he] at CC5
      rw [he] at HRU
      clear hi HR he
      refine region_class wa (Below.refl _ _) (by kernel_rfl) (by kernel_rfl) ?_
      repeat (first
        | go_big_quiet_skip
        | (go_big_quiet_want; go_big_quiet_op; first | go_big_quiet_on | (apply Exists.intro; refine ⟨fun px => ?_, ?_⟩; (focus (first | (go_at_call 115; refine (HRU.out _).mono ?_; rintro e w' ⟨he, hb⟩; exact ⟨he, ⟨w', blw_trans px.ok hb⟩, rfl⟩) | (go_at_call 132; refine (servingLetsI K a0 a1 a2 c0 c1 c2 s _ (HV.out px) HA.out HL.out HS0.out).mono ?_; rintro e w' ⟨he, hb⟩; exact ⟨he, ⟨w', blw_trans px.ok hb⟩, rfl⟩))); go_big_quiet_on)))
      refine wpQuiet_nil ?_
      intro _ hw'
      obtain ⟨x6, hw''⟩ := hw'
      subst hw''
      go_wp2
      go_ret
      exact ⟨Pl.ret_bool HE.out.symm, blw_trans HB.out x6.ok⟩
    · have HE : Hid (R = true) := by show R = _; rw [HR.out]; simp [mayGo, he, hi]
      have HRU : Hid (∀ W, Calls Tryz.prog 115 #[.agg #[.string s.nm, .int .i64 s.ver, .bool s.gone, .int .i64 s.image, .int .i64 s.want, .int .i64 s.down, .int .i64 s.over, .int .i64 s.next, .int .i64 s.per, .int .i64 s.least, .int .i64 s.most, .int .i64 s.load, .int .i64 s.cool], .agg #[.string c.svc, .int .i64 c.num, .int .i64 c.ver, .int .i64 c.image, .int .i64 c.state, .bool c.ending, .string c.berth]] W fun e w' => e = .returned (.iface 154 (.agg #[])) ∧ Below W.heap.size W w') := fun W => by have := ruleOfI s c W; rw [hi] at this; exact this
      have HM := methIdle
      rw [he] at CC5
      rw [he] at HRU
      clear hi HR he
      refine region_class wa (Below.refl _ _) (by kernel_rfl) (by kernel_rfl) ?_
      repeat (first
        | go_big_quiet_skip
        | (go_big_quiet_want; go_big_quiet_op; first | go_big_quiet_on | (apply Exists.intro; refine ⟨fun px => ?_, ?_⟩; (focus (first | (go_at_call 115; refine (HRU.out _).mono ?_; rintro e w' ⟨he, hb⟩; exact ⟨he, ⟨w', blw_trans px.ok hb⟩, rfl⟩) | (go_at_call 131; refine (idleLetsI _ _ _).mono ?_; rintro e w' ⟨he, hb⟩; exact ⟨he, ⟨w', blw_trans px.ok hb⟩, rfl⟩))); go_big_quiet_on)))
      refine wpQuiet_nil ?_
      intro _ hw'
      obtain ⟨x6, hw''⟩ := hw'
      subst hw''
      go_wp2
      go_ret
      exact ⟨Pl.ret_bool HE.out.symm, blw_trans HB.out x6.ok⟩
  · have HE : Hid (R = false) := by show R = _; rw [HR.out]; simp [mayGo, he]
    rw [he] at CC5
    clear HR he
    refine region_class wa (Below.refl _ _) (by kernel_rfl) (by kernel_rfl) ?_
    repeat (first
      | go_big_quiet_skip
      | (go_big_quiet_want; go_big_quiet_op; first | go_big_quiet_on | (apply Exists.intro; refine ⟨fun px => ?_, ?_⟩; (focus (fail)); go_big_quiet_on)))
    refine wpQuiet_nil ?_
    intro _ hw'
    obtain ⟨x6, hw''⟩ := hw'
    subst hw''
    go_wp2
    go_ret
    exact ⟨Pl.ret_bool HE.out.symm, blw_trans HB.out x6.ok⟩

theorem mayEnd_go {K : SBk} (ha : ascCp K.cps = true) (hn : ∀ i, i < K.cps.length → 1 ≤ (K.cps.getD i Cp.none).num) {svc : ByteArray} {num : Int} {k : Nat} (hix : svIx K.svcs svc = (k : Int)) (hnm : (K.svcs.getD k Sv.none).nm = svc) (hc : 0 ≤ cpIx K.cps svc num) :
    mayEnd K svc num = mayGo K (K.svcs.getD k Sv.none) (K.cps.getD (placeAt K.cps svc num) Cp.none) := by
  have hp := ((cpIx_place ha svc num).2 hc).1
  have e1 : cpGet K.cps (cpIx K.cps svc num) = K.cps.getD (placeAt K.cps svc num) Cp.none := by rw [hp]; unfold cpGet; rw [Int.toNat_natCast]
  have e2 : svGet K.svcs (svIx K.svcs svc) = K.svcs.getD k Sv.none := by rw [hix]; unfold svGet; rw [Int.toNat_natCast]
  have e3 : countOf K svc = cnL K.cps (K.svcs.getD k Sv.none).image (rowCp K.cps (K.svcs.getD k Sv.none).nm) := by
    unfold countOf
    rw [if_pos (by rw [hix]; omega), e2, hnm]
    exact cnTo_row ha hn _
  unfold mayEnd
  rw [e1, e2, e3, if_neg (by omega)]
  unfold mayGo idle spared
  obtain ⟨c, hc'⟩ : ∃ c, c = K.cps.getD (placeAt K.cps svc num) Cp.none := ⟨_, rfl⟩
  obtain ⟨s, hs'⟩ : ∃ s, s = K.svcs.getD k Sv.none := ⟨_, rfl⟩
  rw [← hc', ← hs']
  cases c.ending
  · by_cases q : c.state = 3
    · cases s.gone <;> simp [q]
    · simp [q]
  · simp

end Go.Proofs.YtamhfnlogldpaaaGreat
