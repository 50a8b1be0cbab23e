/-
  Stewards: the first of some copies to end, by the specification.
-/
import Derived.StillTailTactics
import Derived.Test.YtamhfnlogldpaaaGreatStS
import Derived.Test.YtamhfnlogldpaaaGreatLet
import Derived.Test.YtamhfnlogldpaaaGreatStR
namespace Go.Proofs.YtamhfnlogldpaaaGreat
open Go.RowKit Go.Deep

/-- A copy is to end sooner than another one. -/
def sooner (K : SBk) (x y : Cp) (im : Int) : Bool :=
  if ((x.state != 3) != (y.state != 3)) then (x.state != 3)
  else if ((x.image != im) != (y.image != im)) then (x.image != im)
  else if (drains K x != drains K y) then drains K x
  else decide (y.num < x.num)

set_option maxRecDepth 8000 in
set_option maxHeartbeats 8000000 in
theorem l16SoonerS (K : SBk) (a0 a1 a2 : Option Addr) (c0 c1 c2 : Nat) (x y : Cp) (im : Int) (w : World) (h : SBkV w a0 a1 a2 K) :
    Calls Tryz.prog 104 #[.agg #[.int .i64 K.now, .slice a0 K.svcs.length c0, .slice a1 K.cps.length c1, .slice a2 K.bts.length c2], .agg #[.string x.svc, .int .i64 x.num, .int .i64 x.ver, .int .i64 x.image, .int .i64 x.state, .bool x.ending, .string x.berth], .agg #[.string y.svc, .int .i64 y.num, .int .i64 y.ver, .int .i64 y.image, .int .i64 y.state, .bool y.ending, .string y.berth], .int .i64 im] w fun e w' => e = .returned (.bool (sooner K x y im)) ∧ Below w.heap.size w w' := by
  have HH : Hid (SBkV w a0 a1 a2 K) := h
  clear h
  obtain ⟨R, hR⟩ : ∃ R, R = sooner K x y im := ⟨_, rfl⟩
  have HR := hid hR
  rw [← hR]
  clear hR
  obtain ⟨wa, hwa⟩ : ∃ wa, wa = ((w.alloc (.cells #[.int .i64 K.now, .slice a0 K.svcs.length c0, .slice a1 K.cps.length c1, .slice a2 K.bts.length c2] 34)).alloc (.cells #[.string x.svc, .int .i64 x.num, .int .i64 x.ver, .int .i64 x.image, .int .i64 x.state, .bool x.ending, .string x.berth] 84)).alloc (.cells #[.string y.svc, .int .i64 y.num, .int .i64 y.ver, .int .i64 y.image, .int .i64 y.state, .bool y.ending, .string y.berth] 84) := ⟨_, rfl⟩
  obtain ⟨p0, hp0⟩ : ∃ p0, p0 = w.heap.size := ⟨_, rfl⟩
  have HB : Hid (Below w.heap.size w wa) := by show Below _ _ _; rw [hwa]; exact blw_alloc (blw_alloc (blw_alloc (Below.refl _ _) _) _) _
  have HX : Hid (Box4 wa w.heap.size (.int .i64 K.now) (.slice a0 K.svcs.length c0) (.slice a1 K.cps.length c1) (.slice a2 K.bts.length c2)) := by show Box4 _ _ _ _ _ _; rw [hwa]; exact ((Box4.new' w _ _ _ _ _ _ rfl).past _).past _
  have HY : Hid (Box7 wa (w.heap.size + 1) (.string x.svc) (.int .i64 x.num) (.int .i64 x.ver) (.int .i64 x.image) (.int .i64 x.state) (.bool x.ending) (.string x.berth)) := by show Box7 _ _ _ _ _ _ _ _ _; rw [hwa]; exact (Box7.new' _ _ _ _ _ _ _ _ _ _ (by simp)).past _
  have HZ : Hid (Box7 wa (w.heap.size + 2) (.string y.svc) (.int .i64 y.num) (.int .i64 y.ver) (.int .i64 y.image) (.int .i64 y.state) (.bool y.ending) (.string y.berth)) := by show Box7 _ _ _ _ _ _ _ _ _; rw [hwa]; exact Box7.new' _ _ _ _ _ _ _ _ _ _ (by simp)
  go_enter Tryz.func104, Tryz.ntmps104
  go_upto_region 1 with fail
  rw [← hwa]
  clear hwa hp0
  obtain ⟨yz, y0, y1, y2, y3⟩ := HX.out
  obtain ⟨xz, x0, x1, x2, x3, x4, x5, x6⟩ := HY.out
  obtain ⟨zz, z0, z1, z2, z3, z4, z5, z6⟩ := HZ.out
  cases gs : ((x.state != 3) != (y.state != 3))
  case true =>
    have gs' : (!((x.state != 3) == (y.state != 3))) = true := gs
    have HF : Hid (R = (x.state != 3)) := by show R = _; rw [HR.out, sooner, if_pos gs]
    clear HR
    go_wp2
    go_ret
    exact ⟨Pl.ret_bool HF.out.symm, HB.out⟩
  case false =>
    have gs' : (!((x.state != 3) == (y.state != 3))) = false := gs
    have HF : Hid (R = if ((x.image != im) != (y.image != im)) then (x.image != im) else if (drains K x != drains K y) then drains K x else decide (y.num < x.num)) := by show R = _; rw [HR.out, sooner, if_neg (by rw [gs]; decide)]
    clear HR
    cases gi : ((x.image != im) != (y.image != im))
    case true =>
      have gi' : (!((x.image != im) == (y.image != im))) = true := gi
      have HF2 : Hid (R = (x.image != im)) := by show R = _; rw [HF.out, if_pos gi]
      clear HF
      go_wp2
      go_ret
      exact ⟨Pl.ret_bool HF2.out.symm, HB.out⟩
    case false =>
      have gi' : (!((x.image != im) == (y.image != im))) = false := gi
      have HF2 : Hid (R = if (drains K x != drains K y) then drains K x else decide (y.num < x.num)) := by show R = _; rw [HF.out, if_neg (by rw [gi]; decide)]
      clear HF
      go_upto_region 5 with fail
      clear gs gi gs' gi'
      have HK : Hid (∀ px : Pst wa, SBkV px.W a0 a1 a2 K) := fun px => (HH.out.later HB.out).later px.ok
      have hNE := pst_some wa
      have YZ : ∀ px : Pst wa, w.heap.size < px.W.heap.size := fun px => px.size yz
      have Y0 : ∀ px : Pst wa, px.W.cell? ⟨w.heap.size, 0, none⟩ = some (.int .i64 K.now) := fun px => px.cell y0 yz
      have Y1 : ∀ px : Pst wa, px.W.cell? ⟨w.heap.size, 1, none⟩ = some (.slice a0 K.svcs.length c0) := fun px => px.cell y1 yz
      have Y2 : ∀ px : Pst wa, px.W.cell? ⟨w.heap.size, 2, none⟩ = some (.slice a1 K.cps.length c1) := fun px => px.cell y2 yz
      have Y3 : ∀ px : Pst wa, px.W.cell? ⟨w.heap.size, 3, none⟩ = some (.slice a2 K.bts.length c2) := fun px => px.cell y3 yz
      have XZ : ∀ px : Pst wa, (w.heap.size + 1) < px.W.heap.size := fun px => px.size xz
      have X0 : ∀ px : Pst wa, px.W.cell? ⟨(w.heap.size + 1), 0, none⟩ = some (.string x.svc) := fun px => px.cell x0 xz
      have X1 : ∀ px : Pst wa, px.W.cell? ⟨(w.heap.size + 1), 1, none⟩ = some (.int .i64 x.num) := fun px => px.cell x1 xz
      have X2 : ∀ px : Pst wa, px.W.cell? ⟨(w.heap.size + 1), 2, none⟩ = some (.int .i64 x.ver) := fun px => px.cell x2 xz
      have X3 : ∀ px : Pst wa, px.W.cell? ⟨(w.heap.size + 1), 3, none⟩ = some (.int .i64 x.image) := fun px => px.cell x3 xz
      have X4 : ∀ px : Pst wa, px.W.cell? ⟨(w.heap.size + 1), 4, none⟩ = some (.int .i64 x.state) := fun px => px.cell x4 xz
      have X5 : ∀ px : Pst wa, px.W.cell? ⟨(w.heap.size + 1), 5, none⟩ = some (.bool x.ending) := fun px => px.cell x5 xz
      have X6 : ∀ px : Pst wa, px.W.cell? ⟨(w.heap.size + 1), 6, none⟩ = some (.string x.berth) := fun px => px.cell x6 xz
      have ZZ : ∀ px : Pst wa, (w.heap.size + 2) < px.W.heap.size := fun px => px.size zz
      have Z0 : ∀ px : Pst wa, px.W.cell? ⟨(w.heap.size + 2), 0, none⟩ = some (.string y.svc) := fun px => px.cell z0 zz
      have Z1 : ∀ px : Pst wa, px.W.cell? ⟨(w.heap.size + 2), 1, none⟩ = some (.int .i64 y.num) := fun px => px.cell z1 zz
      have Z2 : ∀ px : Pst wa, px.W.cell? ⟨(w.heap.size + 2), 2, none⟩ = some (.int .i64 y.ver) := fun px => px.cell z2 zz
      have Z3 : ∀ px : Pst wa, px.W.cell? ⟨(w.heap.size + 2), 3, none⟩ = some (.int .i64 y.image) := fun px => px.cell z3 zz
      have Z4 : ∀ px : Pst wa, px.W.cell? ⟨(w.heap.size + 2), 4, none⟩ = some (.int .i64 y.state) := fun px => px.cell z4 zz
      have Z5 : ∀ px : Pst wa, px.W.cell? ⟨(w.heap.size + 2), 5, none⟩ = some (.bool y.ending) := fun px => px.cell z5 zz
      have Z6 : ∀ px : Pst wa, px.W.cell? ⟨(w.heap.size + 2), 6, none⟩ = some (.string y.berth) := fun px => px.cell z6 zz
      clear y0 y1 y2 y3 x0 x1 x2 x3 x4 x5 x6 z0 z1 z2 z3 z4 z5 z6
      refine region_class wa (Below.refl _ _) (by kernel_rfl) (by kernel_rfl) ?_
      repeat (first
        | go_big_quiet_skip
        | (go_big_quiet_want; go_big_quiet_op; first | go_big_quiet_on | (apply Exists.intro; refine ⟨fun px => ?_, ?_⟩; (focus ((go_at_call 80; refine (l16DrainsS K a0 a1 a2 c0 c1 c2 _ px.W (HK.out px)).mono ?_; rintro e w' ⟨he, hb⟩; exact ⟨he, ⟨w', blw_trans px.ok hb⟩, rfl⟩))); go_big_quiet_on)))
      refine wpQuiet_nil ?_
      intro _ hw'
      obtain ⟨x6, hw''⟩ := hw'
      subst hw''
      have HB6 : Hid (Below w.heap.size w x6.W) := blw_trans HB.out x6.ok
      have y0 := Y0 x6
      have y1 := Y1 x6
      have y2 := Y2 x6
      have y3 := Y3 x6
      have yz' := YZ x6
      have xz' := XZ x6
      have zz' := ZZ x6
      have x0 := X0 x6
      have x1 := X1 x6
      have x2 := X2 x6
      have x3 := X3 x6
      have x4 := X4 x6
      have x5 := X5 x6
      have x6' := X6 x6
      have z1 := Z1 x6
      have HV := hid (HK.out x6)
      clear Y0 Y1 Y2 Y3 YZ X0 X1 X2 X3 X4 X5 X6 XZ Z0 Z1 Z2 Z3 Z4 Z5 Z6 ZZ HK hNE
      cases gx : drains K x <;> cases gy : drains K y
      · -- false false
        have HG : Hid (R = decide (y.num < x.num)) := by show R = _; rw [HF2.out, gx, gy]; rfl
        clear HF2 gx gy
        go_wp2
        go_ret
        exact ⟨Pl.ret_bool HG.out.symm, HB6.out⟩
      · -- false true
        have HG : Hid (R = false) := by show R = _; rw [HF2.out, gx, gy]; rfl
        clear HF2 gy
        go_wp2_with fail
        refine (l16DrainsS K a0 a1 a2 c0 c1 c2 x x6.W HV.out).mono ?_
        rintro e w3 ⟨rfl, hb⟩
        rw [gx]
        have HB7 := hid (blw_trans HB6.out hb)
        clear hb gx
        go_wp2
        go_ret
        exact ⟨Pl.ret_bool HG.out.symm, HB7.out⟩
      · -- true false
        have HG : Hid (R = true) := by show R = _; rw [HF2.out, gx, gy]; rfl
        clear HF2 gy
        go_wp2_with fail
        refine (l16DrainsS K a0 a1 a2 c0 c1 c2 x x6.W HV.out).mono ?_
        rintro e w3 ⟨rfl, hb⟩
        rw [gx]
        have HB7 := hid (blw_trans HB6.out hb)
        clear hb gx
        go_wp2
        go_ret
        exact ⟨Pl.ret_bool HG.out.symm, HB7.out⟩
      · -- true true
        have HG : Hid (R = decide (y.num < x.num)) := by show R = _; rw [HF2.out, gx, gy]; rfl
        clear HF2 gx gy
        go_wp2
        go_ret
        exact ⟨Pl.ret_bool HG.out.symm, HB6.out⟩

end Go.Proofs.YtamhfnlogldpaaaGreat

namespace Go.Proofs.YtamhfnlogldpaaaGreat
open Go.RowKit Go.Deep

theorem region_tl {P : Program} {id : Nat} {Q : Exit → Act → World → Prop} {a : Act} {w : World} {l : List Oper} (n : Nat) (hm : P.follows .mixedOrders = true) (hB : Region.lexTailB .any l.toArray n = true)
    (h : ∀ W, W = w.drew → wpStill P l.toArray W (fun a' => wpList P l.toArray Q (l.drop n) a' W) (l.take n) a) : (Code.region id l.toArray true).wp P Q a w :=
  wp_region_still_tail n hm hB (h _ rfl)

/-- The first to end of the first j + 1 of some copies. -/
def bestTo (K : SBk) (im : Int) (L : List Nat) : Nat → Cp
  | 0 => K.cps.getD (L.getD 0 0) Cp.none
  | j + 1 => if sooner K (K.cps.getD (L.getD (j + 1) 0) Cp.none) (bestTo K im L j) im then K.cps.getD (L.getD (j + 1) 0) Cp.none else bestTo K im L j
def firstOf (K : SBk) (im : Int) (L : List Nat) : List En := if L.length = 0 then [] else [endOf (bestTo K im L (L.length - 1))]

set_option maxRecDepth 8000 in
set_option maxHeartbeats 16000000 in
theorem l16FirstS (K : SBk) (a0 a1 a2 : Option Addr) (c0 c1 c2 : Nat) (s : Sv) (L : List Nat) (al : Option Addr) (cl lo : Nat) (w : World) (h : SBkV w a0 a1 a2 K) (hL : w.ownsRow lo 3 1 (.slice al L.length cl) L.length (nums L)) (hz : ∀ z ∈ L, z < K.cps.length) (hc : L.length ≤ 1048576) :
    Calls Tryz.prog 81 #[.agg #[.int .i64 K.now, .slice a0 K.svcs.length c0, .slice a1 K.cps.length c1, .slice a2 K.bts.length c2], .agg #[.string s.nm, .int .i64 s.ver, .bool s.gone, .int .i64 s.image, .int .i64 s.want, .int .i64 s.down, .int .i64 s.over, .int .i64 s.next, .int .i64 s.per, .int .i64 s.least, .int .i64 s.most, .int .i64 s.load, .int .i64 s.cool], .slice al L.length cl] w fun e w' => (∃ v, e = .returned v ∧ w'.ownsRow w.heap.size 114 2 v (firstOf K s.image L).length ((firstOf K s.image L).flatMap EnC)) ∧ Below w.heap.size w w' := by
  have HH : Hid (SBkV w a0 a1 a2 K) := h
  have HL := hid hL
  have HZ := hid hz
  clear h hL hz
  obtain ⟨wa, hwa⟩ : ∃ wa, wa = (w.alloc (.cells #[.int .i64 K.now, .slice a0 K.svcs.length c0, .slice a1 K.cps.length c1, .slice a2 K.bts.length c2] 34)).alloc (.cells #[.string s.nm, .int .i64 s.ver, .bool s.gone, .int .i64 s.image, .int .i64 s.want, .int .i64 s.down, .int .i64 s.over, .int .i64 s.next, .int .i64 s.per, .int .i64 s.least, .int .i64 s.most, .int .i64 s.load, .int .i64 s.cool] 50) := ⟨_, rfl⟩
  have HB : Hid (Below w.heap.size w wa) := by show Below _ _ _; rw [hwa]; exact blw_alloc (blw_alloc (Below.refl _ _) _) _
  have HX : Hid (Box4 wa w.heap.size (.int .i64 K.now) (.slice a0 K.svcs.length c0) (.slice a1 K.cps.length c1) (.slice a2 K.bts.length c2)) := by show Box4 _ _ _ _ _ _; rw [hwa]; exact (Box4.new' w _ _ _ _ _ _ rfl).past _
  have HY : Hid (Box13 wa (w.heap.size + 1) (.string s.nm) (.int .i64 s.ver) (.bool s.gone) (.int .i64 s.image) (.int .i64 s.want) (.int .i64 s.down) (.int .i64 s.over) (.int .i64 s.next) (.int .i64 s.per) (.int .i64 s.least) (.int .i64 s.most) (.int .i64 s.load) (.int .i64 s.cool)) := by show Box13 _ _ _ _ _ _ _ _ _ _ _ _ _ _ _ ; rw [hwa]; exact Box13.new' _ _ _ _ _ _ _ _ _ _ _ _ _ _ _ _  (by simp)
  go_enter Tryz.func81, Tryz.ntmps81
  go_upto_region 1 with fail
  rw [← hwa]
  have hs1 : w.heap.size + 1 < wa.heap.size := HY.out.lt
  clear hwa
  by_cases hl0 : L.length = 0
  · have HE : Hid (firstOf K s.image L = []) := by show _ = _; rw [firstOf, if_pos hl0]
    have hq : ((L.length : Int) == 0) = true := by simp; exact List.length_eq_zero_iff.1 hl0
    clear hl0
    go_wp2
    go_ret
    rw [HE.out]
    exact ⟨⟨_, rfl, owns_base (World.ownsRow_made wa #[] 0 (Nat.le_refl _) (by decide) rfl) (by omega)⟩, blw_alloc HB.out _⟩
  · have HE : Hid (firstOf K s.image L = [endOf (bestTo K s.image L (L.length - 1))]) := by show _ = _; rw [firstOf, if_neg hl0]
    have hq : ((L.length : Int) == 0) = false := by simp; exact fun e => hl0 (by rw [e]; rfl)
    have hl1 : 0 < L.length := by omega
    obtain ⟨g, hav, hgl, _, hg0⟩ := own_get HL.out hl1
    have HG : Hid (∀ j, j < L.length → w.cell? ⟨g, j, none⟩ = some (.int .i64 ((L.getD j 0 : Nat) : Int))) := fun j hj => by
      obtain ⟨g', hav', _, _, q⟩ := own_get HL.out hj
      rw [hav] at hav'
      injection hav' with hav'
      injection hav' with hav' _ _
      subst hav'
      exact q
    subst hav
    have hg0 := (HB.out.cell (p := ⟨g, 0, none⟩) hgl).trans hg0
    obtain ⟨z, hzz⟩ : ∃ z, z = L.getD 0 0 := ⟨_, rfl⟩
    have hzl : z < K.cps.length := by rw [hzz]; exact HZ.out _ (getD_in hl1)
    rw [← hzz] at hg0
    obtain ⟨b1, off1, ha1, hbl1, hf1⟩ := HH.out.c.at_ z hzl
    have hf1 := hf1.later HB.out hbl1
    subst ha1
    obtain ⟨y, hy⟩ : ∃ y, y = K.cps.getD z Cp.none := ⟨_, rfl⟩
    rw [← hy] at hf1
    have HY0 : Hid (bestTo K s.image L 0 = y) := by show _ = _; rw [bestTo, ← hzz, ← hy]
    obtain ⟨e0, e1, e2, e3, e4, e5, e6, _⟩ := hf1
    have hb2 : b1 < wa.heap.size := by omega
    have hg2 : g < wa.heap.size := by omega
    obtain ⟨yz, y0, y1, y2, y3⟩ := HX.out
    have hm3 : (0 : Int) < (L.length : Int) := by omega
    have hm4 : (0 : Int) ≤ (z : Int) := by omega
    have hm5 : (z : Int) < (K.cps.length : Int) := by omega
    clear hy hzz hl0
    go_wp2_with fail
    go_region
    obtain ⟨w3, hw3⟩ : ∃ w3, w3 = (wa.alloc (.cells #[.string y.svc, .int .i64 y.num, .int .i64 y.ver, .int .i64 y.image, .int .i64 y.state, .bool y.ending, .string y.berth] 84)).drew := ⟨_, rfl⟩
    obtain ⟨p7, hp7⟩ : ∃ p7, p7 = wa.heap.size := ⟨_, rfl⟩
    have hb3 : Below wa.heap.size wa w3 := by rw [hw3]; exact Below.drew (blw_alloc (Below.refl _ _) _)
    have HC3 : Hid (Box7 w3 p7 (.string y.svc) (.int .i64 y.num) (.int .i64 y.ver) (.int .i64 y.image) (.int .i64 y.state) (.bool y.ending) (.string y.berth)) := by show Box7 _ _ _ _ _ _ _ _ _; rw [hw3]; exact (Box7.new' wa _ _ _ _ _ _ _ _ _ hp7).later (Below.drew (Below.refl _ _))
    have HO3 : Hid (OwnBlk w3 p7 84 7) := by show OwnBlk _ _ _ _; rw [hw3, hp7]; exact (OwnBlk.alloc_at2 _ _ _ _ _ rfl rfl).later (Below.drew (Below.refl _ _))
    have HX3 := hid (HX.out.later hb3)
    have HY3 := hid (HY.out.later hb3)
    have HB3 := hid (blw_trans HB.out hb3)
    have hs3 : wa.heap.size ≤ w3.heap.size := hb3.size
    have hsp : w.heap.size + 1 < p7 := by omega
    rw [← hw3, ← hp7]
    clear hw3 hp7 hb3 HX HY HB yz y0 y1 y2 y3 e0 e1 e2 e3 e4 e5 e6 hg0 hm4 hm5 hm3 hq hb2 hg2
    go_wp2
    go_loopw [8] (fun i wr => ∃ (k j : Nat), k = j + 1 ∧ k ≤ L.length ∧ i = .int .i64 k ∧ Box7 wr p7 (.string (bestTo K s.image L j).svc) (.int .i64 (bestTo K s.image L j).num) (.int .i64 (bestTo K s.image L j).ver) (.int .i64 (bestTo K s.image L j).image) (.int .i64 (bestTo K s.image L j).state) (.bool (bestTo K s.image L j).ending) (.string (bestTo K s.image L j).berth) ∧ OwnBlk wr p7 84 7 ∧ BelX p7 w3 wr) (fun i _ => L.length - (intOf i).toNat)
    case atStart => exact ⟨1, 0, rfl, hl1, rfl, by rw [HY0.out]; exact HC3.out, HO3.out, BelX.refl _ _⟩
    case round =>
      obtain ⟨k, j, hkj, hk, rfl, hC, hO, hW⟩ := hrel
      have HKJ := hid hkj
      have HO := hid hO
      have HW := hid hW
      have HBr : Hid (Below w.heap.size w wr) := hW.below HB3.out (by omega)
      have HXr := hid (HX3.out.bx hW (by omega))
      have HYr := hid (HY3.out.bx hW (by omega))
      obtain ⟨bb, hbb⟩ : ∃ bb, bb = bestTo K s.image L j := ⟨_, rfl⟩
      rw [← hbb] at hC
      have HC := hid hC
      have HBB := hid hbb
      clear hkj hO hW hC hbb HC3 HO3 HY0
      by_cases hlt : k < L.length
      · have hgc := (HBr.out.cell (p := ⟨g, k, none⟩) hgl).trans (HG.out k hlt)
        obtain ⟨z1, hzz⟩ : ∃ z1, z1 = L.getD k 0 := ⟨_, rfl⟩
        have hzl1 : z1 < K.cps.length := by rw [hzz]; exact HZ.out _ (getD_in hlt)
        rw [← hzz] at hgc
        obtain ⟨b2, off2, ha2, hbl2, hf2⟩ := HH.out.c.at_ z1 hzl1
        injection ha2 with ha2
        injection ha2 with q1 q2 _
        subst q1 q2
        have hf2 := hf2.later HBr.out hbl2
        obtain ⟨x, hx⟩ : ∃ x, x = K.cps.getD z1 Cp.none := ⟨_, rfl⟩
        rw [← hx] at hf2
        have HS : Hid (bestTo K s.image L (j + 1) = if sooner K x bb s.image then x else bb) := by show _ = _; rw [bestTo, ← HKJ.out, ← hzz, ← hx, ← HBB.out]
        have hxs := hid hf2.sized
        obtain ⟨e0, e1, e2, e3, e4, e5, e6, _⟩ := hf2
        obtain ⟨yz, y0, y1, y2, y3⟩ := HXr.out
        obtain ⟨sz, s0, s1, s2, s3, _, _, _, _, _, _, _, _, _⟩ := HYr.out
        obtain ⟨kz, k0, k1, k2, k3, k4, k5, k6⟩ := HC.out
        have hs4 : w.heap.size ≤ wr.heap.size := HBr.out.size
        have hb2 : b1 < wr.heap.size := by omega
        have hg2 : g < wr.heap.size := by omega
        clear hx hzz HBB
        have hm0 : (0 : Int) ≤ (k : Int) := by omega
        have hm3 : (k : Int) < (L.length : Int) := by omega
        have hm4 : (0 : Int) ≤ (z1 : Int) := by omega
        have hm5 : (z1 : Int) < (K.cps.length : Int) := by omega
        go_upto_region 7 with fail
        have HK : Hid (∀ px : Pst wr, SBkV px.W a0 (some ⟨b1, off1, none⟩) a2 K) := fun px => (HH.out.later HBr.out).later px.ok
        have hNE := pst_some wr
        have YZ : ∀ px : Pst wr, w.heap.size < px.W.heap.size := fun px => px.size yz
        have SZ : ∀ px : Pst wr, w.heap.size + 1 < px.W.heap.size := fun px => px.size sz
        have KZ : ∀ px : Pst wr, p7 < px.W.heap.size := fun px => px.size kz
        have S3 : ∀ px : Pst wr, px.W.cell? ⟨w.heap.size + 1, 3, none⟩ = some (.int .i64 s.image) := fun px => px.cell s3 sz
        have G0 : ∀ px : Pst wr, px.W.cell? ⟨g, k, none⟩ = some (.int .i64 (z1 : Nat)) := fun px => px.cell hgc hg2
        have Y0 : ∀ px : Pst wr, px.W.cell? ⟨w.heap.size, 0, none⟩ = some (.int .i64 K.now) := fun px => px.cell y0 yz
        have Y1 : ∀ px : Pst wr, px.W.cell? ⟨w.heap.size, 1, none⟩ = some (.slice a0 K.svcs.length c0) := fun px => px.cell y1 yz
        have Y2 : ∀ px : Pst wr, px.W.cell? ⟨w.heap.size, 2, none⟩ = some (.slice (some ⟨b1, off1, none⟩) K.cps.length c1) := fun px => px.cell y2 yz
        have Y3 : ∀ px : Pst wr, px.W.cell? ⟨w.heap.size, 3, none⟩ = some (.slice a2 K.bts.length c2) := fun px => px.cell y3 yz
        have E0 : ∀ px : Pst wr, px.W.cell? ⟨b1, off1 + z1 * 7, none⟩ = some (.string x.svc) := fun px => px.cell e0 hb2
        have E1 : ∀ px : Pst wr, px.W.cell? ⟨b1, off1 + z1 * 7 + 1, none⟩ = some (.int .i64 x.num) := fun px => px.cell e1 hb2
        have E2 : ∀ px : Pst wr, px.W.cell? ⟨b1, off1 + z1 * 7 + 2, none⟩ = some (.int .i64 x.ver) := fun px => px.cell e2 hb2
        have E3 : ∀ px : Pst wr, px.W.cell? ⟨b1, off1 + z1 * 7 + 3, none⟩ = some (.int .i64 x.image) := fun px => px.cell e3 hb2
        have E4 : ∀ px : Pst wr, px.W.cell? ⟨b1, off1 + z1 * 7 + 4, none⟩ = some (.int .i64 x.state) := fun px => px.cell e4 hb2
        have E5 : ∀ px : Pst wr, px.W.cell? ⟨b1, off1 + z1 * 7 + 5, none⟩ = some (.bool x.ending) := fun px => px.cell e5 hb2
        have E6 : ∀ px : Pst wr, px.W.cell? ⟨b1, off1 + z1 * 7 + 6, none⟩ = some (.string x.berth) := fun px => px.cell e6 hb2
        have K0 : ∀ px : Pst wr, px.W.cell? ⟨p7, 0, none⟩ = some (.string bb.svc) := fun px => px.cell k0 kz
        have K1 : ∀ px : Pst wr, px.W.cell? ⟨p7, 1, none⟩ = some (.int .i64 bb.num) := fun px => px.cell k1 kz
        have K2 : ∀ px : Pst wr, px.W.cell? ⟨p7, 2, none⟩ = some (.int .i64 bb.ver) := fun px => px.cell k2 kz
        have K3 : ∀ px : Pst wr, px.W.cell? ⟨p7, 3, none⟩ = some (.int .i64 bb.image) := fun px => px.cell k3 kz
        have K4 : ∀ px : Pst wr, px.W.cell? ⟨p7, 4, none⟩ = some (.int .i64 bb.state) := fun px => px.cell k4 kz
        have K5 : ∀ px : Pst wr, px.W.cell? ⟨p7, 5, none⟩ = some (.bool bb.ending) := fun px => px.cell k5 kz
        have K6 : ∀ px : Pst wr, px.W.cell? ⟨p7, 6, none⟩ = some (.string bb.berth) := fun px => px.cell k6 kz
        clear s0 s1 s2 s3 y0 y1 y2 y3 e0 e1 e2 e3 e4 e5 e6 k0 k1 k2 k3 k4 k5 k6 hgc
        refine region_class wr (Below.refl _ _) (by kernel_rfl) (by kernel_rfl) ?_
        repeat (first
          | go_big_quiet_skip
          | (go_big_quiet_want; go_big_quiet_op; first | go_big_quiet_on | (apply Exists.intro; refine ⟨fun px => ?_, ?_⟩; (focus ((go_at_call 104; refine (l16SoonerS K a0 (some ⟨b1, off1, none⟩) a2 c0 c1 c2 x bb s.image px.W (HK.out px)).mono ?_; rintro e w' ⟨he, hb⟩; exact ⟨he, ⟨w', blw_trans px.ok hb⟩, rfl⟩))); go_big_quiet_on)))
        refine wpQuiet_nil ?_
        intro _ hw'
        obtain ⟨x6, hw''⟩ := hw'
        subst hw''
        have HW6 := hid (HW.out.on x6.ok)
        have HO6 := hid (HO.out.later x6.ok)
        have HC6 := hid (HC.out.later x6.ok)
        cases gm : sooner K x bb s.image
        · have HN : Hid (bestTo K s.image L (j + 1) = bb) := by show _ = _; rw [HS.out, gm]; rfl
          clear HS gm S3 G0 Y0 Y1 Y2 Y3 E0 E1 E2 E3 E4 E5 E6 K0 K1 K2 K3 K4 K5 K6 YZ SZ KZ HK hNE
          go_wp2
          go_roundw
          case rel => exact ⟨k + 1, j + 1, by rw [HKJ.out], by omega, by go_num, by rw [HN.out]; exact HC6.out, HO6.out, HW6.out⟩
          case measure => simp [intOf]; omega
        · have HN : Hid (bestTo K s.image L (j + 1) = x) := by show _ = _; rw [HS.out, gm]; rfl
          have y0 := Y0 x6
          have y1 := Y1 x6
          have y2 := Y2 x6
          have y3 := Y3 x6
          have g6 := G0 x6
          have yz6 := YZ x6
          have e0 := E0 x6
          have e1 := E1 x6
          have e2 := E2 x6
          have e3 := E3 x6
          have e4 := E4 x6
          have e5 := E5 x6
          have e6 := E6 x6
          have k0 := K0 x6
          have k1 := K1 x6
          have k2 := K2 x6
          have k3 := K3 x6
          have k4 := K4 x6
          have k5 := K5 x6
          have k6 := K6 x6
          have kz6 := KZ x6
          have hfz := HO6.out.frozen
          have HWx : Hid (Below w.heap.size w x6.W) := blw_trans HBr.out x6.ok
          clear HS gm S3 G0 Y0 Y1 Y2 Y3 E0 E1 E2 E3 E4 E5 E6 K0 K1 K2 K3 K4 K5 K6 YZ SZ KZ HK hNE
          obtain ⟨wx, hwx⟩ : ∃ wx, wx = x6.W := ⟨_, rfl⟩
          rw [← hwx] at HWx HW6 HO6 HC6 y0 y1 y2 y3 g6 yz6 e0 e1 e2 e3 e4 e5 e6 k0 k1 k2 k3 k4 k5 k6 kz6 hfz ⊢
          clear hwx x6
          go_upto_region 8 with fail
          refine region_tl 8 (by kernel_rfl) (by kernel_rfl) ?_
          intro W hW
          have hbd : Below wx.heap.size wx W := by rw [hW]; exact Below.drew (Below.refl _ _)
          simp only [List.take_succ_cons, List.take_zero, List.drop_succ_cons, List.drop_zero]
          have hb7 : b1 < wx.heap.size := by have := HWx.out.size; omega
          have hg7 : g < wx.heap.size := by have := HWx.out.size; omega
          have y2' := (hbd.cell (p := ⟨w.heap.size, 2, none⟩) yz6).trans y2
          have g6' := (hbd.cell (p := ⟨g, k, none⟩) hg7).trans g6
          have e0' := (hbd.cell (p := ⟨b1, off1 + z1 * 7, none⟩) hb7).trans e0
          have e1' := (hbd.cell (p := ⟨b1, off1 + z1 * 7 + 1, none⟩) hb7).trans e1
          have e2' := (hbd.cell (p := ⟨b1, off1 + z1 * 7 + 2, none⟩) hb7).trans e2
          have e3' := (hbd.cell (p := ⟨b1, off1 + z1 * 7 + 3, none⟩) hb7).trans e3
          have e4' := (hbd.cell (p := ⟨b1, off1 + z1 * 7 + 4, none⟩) hb7).trans e4
          have e5' := (hbd.cell (p := ⟨b1, off1 + z1 * 7 + 5, none⟩) hb7).trans e5
          have e6' := (hbd.cell (p := ⟨b1, off1 + z1 * 7 + 6, none⟩) hb7).trans e6
          have kz7 : p7 < W.heap.size := Nat.lt_of_lt_of_le kz6 hbd.size
          have HO6' := hid (HO6.out.later hbd)
          have HW6' := hid (HW6.out.on hbd)
          clear hW hbd y0 y1 y2 y3 g6 e0 e1 e2 e3 e4 e5 e6 k0 k1 k2 k3 k4 k5 k6 kz6 yz6 hfz HO6 HW6 HC6 HWx hb7 hg7
          still_step
          still_step
          still_step
          still_step
          still_step
          still_step
          still_step
          still_step
          refine wpStill_nil ?_
          refine wpList_store_mid rfl 84 _ _ rfl p7 0 #[.string x.svc, .int .i64 x.num, .int .i64 x.ver, .int .i64 x.image, .int .i64 x.state, .bool x.ending, .string x.berth] rfl rfl (RY.own_there HO6'.out) (by kernel_rfl) (by simp [Value.oneCell']) ?_
          obtain ⟨w5, hw5⟩ : ∃ w5, w5 = puts W p7 0 0 [.string x.svc, .int .i64 x.num, .int .i64 x.ver, .int .i64 x.image, .int .i64 x.state, .bool x.ending, .string x.berth] := ⟨_, rfl⟩
          have hcs := own_put_cp HO6'.out 0 (by omega) x hxs.out
          have HC7 : Hid (Box7 w5 p7 (.string x.svc) (.int .i64 x.num) (.int .i64 x.ver) (.int .i64 x.image) (.int .i64 x.state) (.bool x.ending) (.string x.berth)) := by
            show Box7 _ _ _ _ _ _ _ _ _
            rw [hw5]
            exact ⟨by rw [puts_size]; exact kz7, hcs.c0, hcs.c1, hcs.c2, hcs.c3, hcs.c4, hcs.c5, hcs.c6⟩
          have HO7 : Hid (OwnBlk w5 p7 84 7) := by show OwnBlk _ _ _ _; rw [hw5]; exact (((((((HO6'.out.setCell _ _).setCell _ _).setCell _ _).setCell _ _).setCell _ _).setCell _ _).setCell _ _)
          have HW7 : Hid (BelX p7 w3 w5) := by show BelX _ _ _; rw [hw5]; exact (((((((HW6'.out.sc _ _).sc _ _).sc _ _).sc _ _).sc _ _).sc _ _).sc _ _)
          have hse : W.setCells p7 0 (#[.string x.svc, .int .i64 x.num, .int .i64 x.ver, .int .i64 x.image, .int .i64 x.state, .bool x.ending, .string x.berth] : Array Value).toList = w5 := by rw [hw5]; rfl
          rw [hse]
          clear hse hw5 hcs y2' g6' e0' e1' e2' e3' e4' e5' e6' kz7 HO6' HW6'
          go_wp2
          go_roundw
          case rel => exact ⟨k + 1, j + 1, by rw [HKJ.out], by omega, by go_num, by rw [HN.out]; exact HC7.out, HO7.out, HW7.out⟩
          case measure => simp [intOf]; omega
      · have hke : k = L.length := by omega
        have HE2 : Hid (firstOf K s.image L = [endOf bb]) := by show _ = _; rw [HE.out, ← hke, HKJ.out, HBB.out]; simp
        obtain ⟨kz, k0, k1, k2, k3, k4, k5, k6⟩ := HC.out
        clear HE HBB
        subst hke
        go_wp2
        go_ret
        rw [HE2.out]
        refine ⟨⟨_, rfl, ?_⟩, blw_alloc HBr.out _⟩
        exact ⟨by simp [EnC], .inr ⟨wr.heap.size, 1, #[.int .i64 bb.num, .int .i64 bb.ver], rfl, HBr.out.size, heap_alloc_new wr _, Nat.le_refl _, by decide, rfl, by simp [EnC, endOf]⟩⟩

end Go.Proofs.YtamhfnlogldpaaaGreat
