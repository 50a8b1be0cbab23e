/-
  Stewards: which of two copies ends first, by the program.
-/
import Derived.Test.YtamhfnlogldpaaaGreatPsA
namespace Go.Proofs.YtamhfnlogldpaaaGreat
open Go.RowKit Go.Deep

/-- The three rules by which one ends ahead of another. -/
def rule3 (K : SBk) (s : Sv) (j : Nat) (c : Cp) : Bool := match j with
  | 0 => c.state != 3
  | 1 => c.image != s.image
  | _ => leaves K c
def sgn (b : Bool) : Int := if b then -1 else 1
def cmpE (K : SBk) (s : Sv) (x y : Cp) : Int :=
  if rule3 K s 0 x != rule3 K s 0 y then sgn (rule3 K s 0 x)
  else if rule3 K s 1 x != rule3 K s 1 y then sgn (rule3 K s 1 x)
  else if rule3 K s 2 x != rule3 K s 2 y then sgn (rule3 K s 2 x)
  else numCmp y.num x.num
theorem cmpE_at {K : SBk} {s : Sv} {x y : Cp} (k : Nat) (hk : k < 3) (h : ∀ j, j < k → rule3 K s j x = rule3 K s j y) (hn : rule3 K s k x ≠ rule3 K s k y) : cmpE K s x y = sgn (rule3 K s k x) := by
  unfold cmpE
  match k, hk with
  | 0, _ => rw [if_pos (by simpa using hn)]
  | 1, _ => rw [if_neg (by simp [h 0 (by omega)]), if_pos (by simpa using hn)]
  | 2, _ => rw [if_neg (by simp [h 0 (by omega)]), if_neg (by simp [h 1 (by omega)]), if_pos (by simpa using hn)]
theorem cmpE_end {K : SBk} {s : Sv} {x y : Cp} (h : ∀ j, j < 3 → rule3 K s j x = rule3 K s j y) : cmpE K s x y = numCmp y.num x.num := by
  unfold cmpE
  rw [if_neg (by simp [h 0 (by omega)]), if_neg (by simp [h 1 (by omega)]), if_neg (by simp [h 2 (by omega)])]

set_option maxRecDepth 8000 in
set_option maxHeartbeats 16000000 in
theorem compareI (K : SBk) (a0 a1 a2 : Option Addr) (c0 c1 c2 : Nat) (s : Sv) (n : Cn) (al : Option Addr) (cl : Nat) (L : List Cp) (lv : Int) (x y : Cp) (w : World) (h : SBkV w a0 a1 a2 K) :
    Calls Tryz.prog 100 #[.agg #[.int .i64 K.now, .slice a0 K.svcs.length c0, .slice a1 K.cps.length c1, .slice a2 K.bts.length c2, .string s.nm, .int .i64 s.ver, .bool s.gone, .int .i64 s.image, .int .i64 s.want, .int .i64 s.down, .int .i64 s.over, .int .i64 s.next, .int .i64 s.per, .int .i64 s.least, .int .i64 s.most, .int .i64 s.load, .int .i64 s.cool, .int .i64 n.live, .int .i64 n.ready, .int .i64 n.old, .int .i64 n.failed, .int .i64 n.ending, .slice al L.length cl, .int .i64 lv], .agg #[.string x.svc, .int .i64 x.num, .int .i64 x.ver, .int .i64 x.image, .int .i64 x.state, .bool x.ending, .string x.berth], .agg #[.string y.svc, .int .i64 y.num, .int .i64 y.ver, .int .i64 y.image, .int .i64 y.state, .bool y.ending, .string y.berth]] w fun e w' => e = .returned (.int .i64 (cmpE K s x y)) ∧ Below w.heap.size w w' := by
  have HH := hid h
  clear h
  obtain ⟨R, hR⟩ : ∃ R, R = cmpE K s x y := ⟨_, rfl⟩
  have HR := hid hR
  rw [← hR]
  clear hR
  obtain ⟨wa, hwa⟩ : ∃ wa, wa = ((w.alloc (.cells #[.int .i64 K.now, .slice a0 K.svcs.length c0, .slice a1 K.cps.length c1, .slice a2 K.bts.length c2, .string s.nm, .int .i64 s.ver, .bool s.gone, .int .i64 s.image, .int .i64 s.want, .int .i64 s.down, .int .i64 s.over, .int .i64 s.next, .int .i64 s.per, .int .i64 s.least, .int .i64 s.most, .int .i64 s.load, .int .i64 s.cool, .int .i64 n.live, .int .i64 n.ready, .int .i64 n.old, .int .i64 n.failed, .int .i64 n.ending, .slice al L.length cl, .int .i64 lv] 58)).alloc (.cells #[.string x.svc, .int .i64 x.num, .int .i64 x.ver, .int .i64 x.image, .int .i64 x.state, .bool x.ending, .string x.berth] 84)).alloc (.cells #[.string y.svc, .int .i64 y.num, .int .i64 y.ver, .int .i64 y.image, .int .i64 y.state, .bool y.ending, .string y.berth] 84) := ⟨_, rfl⟩
  have HB : Hid (Below w.heap.size w wa) := by show Below _ _ _; rw [hwa]; exact blw_alloc (blw_alloc (blw_alloc (Below.refl _ _) _) _) _
  have HX : Hid (LBox wa w.heap.size [.int .i64 K.now, .slice a0 K.svcs.length c0, .slice a1 K.cps.length c1, .slice a2 K.bts.length c2, .string s.nm, .int .i64 s.ver, .bool s.gone, .int .i64 s.image, .int .i64 s.want, .int .i64 s.down, .int .i64 s.over, .int .i64 s.next, .int .i64 s.per, .int .i64 s.least, .int .i64 s.most, .int .i64 s.load, .int .i64 s.cool, .int .i64 n.live, .int .i64 n.ready, .int .i64 n.old, .int .i64 n.failed, .int .i64 n.ending, .slice al L.length cl, .int .i64 lv]) := by show LBox _ _ _; rw [hwa]; exact ((LBox.new w _ _ _ rfl).past _).past _
  have HC : Hid (LBox wa (w.heap.size + 1) [.string x.svc, .int .i64 x.num, .int .i64 x.ver, .int .i64 x.image, .int .i64 x.state, .bool x.ending, .string x.berth]) := by show LBox _ _ _; rw [hwa]; exact (LBox.new _ _ _ _ (by simp)).past _
  have HD : Hid (LBox wa (w.heap.size + 2) [.string y.svc, .int .i64 y.num, .int .i64 y.ver, .int .i64 y.image, .int .i64 y.state, .bool y.ending, .string y.berth]) := by show LBox _ _ _; rw [hwa]; exact LBox.new _ _ _ _ (by simp)
  go_enter Tryz.func100, Tryz.ntmps100
  go_upto_region 1 with fail
  rw [← hwa]
  clear hwa
  have yz := HX.out.lt
  have hrg := HX.out.at_
  obtain ⟨wb, hwb⟩ : ∃ wb, wb = wa.alloc (.cells #[.func (.func 111) #[] #[], .func (.func 68) #[.agg #[.int .i64 K.now, .slice a0 K.svcs.length c0, .slice a1 K.cps.length c1, .slice a2 K.bts.length c2, .string s.nm, .int .i64 s.ver, .bool s.gone, .int .i64 s.image, .int .i64 s.want, .int .i64 s.down, .int .i64 s.over, .int .i64 s.next, .int .i64 s.per, .int .i64 s.least, .int .i64 s.most, .int .i64 s.load, .int .i64 s.cool, .int .i64 n.live, .int .i64 n.ready, .int .i64 n.old, .int .i64 n.failed, .int .i64 n.ending, .slice al L.length cl, .int .i64 lv]] #[], .func (.func 65) #[.agg #[.int .i64 K.now, .slice a0 K.svcs.length c0, .slice a1 K.cps.length c1, .slice a2 K.bts.length c2, .string s.nm, .int .i64 s.ver, .bool s.gone, .int .i64 s.image, .int .i64 s.want, .int .i64 s.down, .int .i64 s.over, .int .i64 s.next, .int .i64 s.per, .int .i64 s.least, .int .i64 s.most, .int .i64 s.load, .int .i64 s.cool, .int .i64 n.live, .int .i64 n.ready, .int .i64 n.old, .int .i64 n.failed, .int .i64 n.ending, .slice al L.length cl, .int .i64 lv]] #[]] 103) := ⟨_, rfl⟩
  have HBb : Hid (Below wa.heap.size wa wb) := by show Below _ _ _; rw [hwb]; exact blw_alloc (Below.refl _ _) _
  obtain ⟨qf, hqf⟩ : ∃ qf, qf = wa.heap.size := ⟨_, rfl⟩
  have HFB : Hid (LBox wb qf [.func (.func 111) #[] #[], .func (.func 68) #[.agg #[.int .i64 K.now, .slice a0 K.svcs.length c0, .slice a1 K.cps.length c1, .slice a2 K.bts.length c2, .string s.nm, .int .i64 s.ver, .bool s.gone, .int .i64 s.image, .int .i64 s.want, .int .i64 s.down, .int .i64 s.over, .int .i64 s.next, .int .i64 s.per, .int .i64 s.least, .int .i64 s.most, .int .i64 s.load, .int .i64 s.cool, .int .i64 n.live, .int .i64 n.ready, .int .i64 n.old, .int .i64 n.failed, .int .i64 n.ending, .slice al L.length cl, .int .i64 lv]] #[], .func (.func 65) #[.agg #[.int .i64 K.now, .slice a0 K.svcs.length c0, .slice a1 K.cps.length c1, .slice a2 K.bts.length c2, .string s.nm, .int .i64 s.ver, .bool s.gone, .int .i64 s.image, .int .i64 s.want, .int .i64 s.down, .int .i64 s.over, .int .i64 s.next, .int .i64 s.per, .int .i64 s.least, .int .i64 s.most, .int .i64 s.load, .int .i64 s.cool, .int .i64 n.live, .int .i64 n.ready, .int .i64 n.old, .int .i64 n.failed, .int .i64 n.ending, .slice al L.length cl, .int .i64 lv]] #[]]) := by show LBox _ _ _; rw [hwb]; exact LBox.new _ _ _ _ hqf
  go_wp2_with (refine wpList_load_mid rfl 58 _ rfl w.heap.size 0 rfl [.int .i64 K.now, .slice a0 K.svcs.length c0, .slice a1 K.cps.length c1, .slice a2 K.bts.length c2, .string s.nm, .int .i64 s.ver, .bool s.gone, .int .i64 s.image, .int .i64 s.want, .int .i64 s.down, .int .i64 s.over, .int .i64 s.next, .int .i64 s.per, .int .i64 s.least, .int .i64 s.most, .int .i64 s.load, .int .i64 s.cool, .int .i64 n.live, .int .i64 n.ready, .int .i64 n.old, .int .i64 n.failed, .int .i64 n.ending, .slice al L.length cl, .int .i64 lv] _ hrg Tryz.underlying58 rfl (by kernel_rfl) ?_)
  obtain ⟨G, hG⟩ : ∃ G : Value, G = .agg #[.int .i64 K.now, .slice a0 K.svcs.length c0, .slice a1 K.cps.length c1, .slice a2 K.bts.length c2, .string s.nm, .int .i64 s.ver, .bool s.gone, .int .i64 s.image, .int .i64 s.want, .int .i64 s.down, .int .i64 s.over, .int .i64 s.next, .int .i64 s.per, .int .i64 s.least, .int .i64 s.most, .int .i64 s.load, .int .i64 s.cool, .int .i64 n.live, .int .i64 n.ready, .int .i64 n.old, .int .i64 n.failed, .int .i64 n.ending, .slice al L.length cl, .int .i64 lv] := ⟨_, rfl⟩
  rw [← hwb, ← hqf, ← hG]
  rw [← hG] at HFB
  have HG := hid hG
  clear hwb hqf yz hrg hG
  go_loopw [15] (fun i wr => ∃ k : Nat, k ≤ 3 ∧ i = .int .i64 k ∧ Below wb.heap.size wb wr ∧ ∀ j, j < k → rule3 K s j x = rule3 K s j y) (fun i _ => 3 - (intOf i).toNat)
  case atStart => exact ⟨0, by omega, rfl, Below.refl _ _, fun j hj => absurd hj (Nat.not_lt_zero j)⟩
  case round =>
    obtain ⟨k, hk, rfl, hW, hall⟩ := hrel
    have HA := hid hall
    have HW := hid hW
    have HB1 := hid (blw_trans HB.out (blw_trans HBb.out HW.out))
    have HC1 := hid (HC.out.later (blw_trans HBb.out HW.out))
    have HD1 := hid (HD.out.later (blw_trans HBb.out HW.out))
    have HF1 := hid (HFB.out.later HW.out)
    clear hall hW
    have cz := HC1.out.lt
    have d0 := HC1.out.get 0 _ rfl
    have d1 := HC1.out.get 1 _ rfl
    have d2 := HC1.out.get 2 _ rfl
    have d3 := HC1.out.get 3 _ rfl
    have d4 := HC1.out.get 4 _ rfl
    have d5 := HC1.out.get 5 _ rfl
    have d6 := HC1.out.get 6 _ rfl
    have ez := HD1.out.lt
    have e0 := HD1.out.get 0 _ rfl
    have e1 := HD1.out.get 1 _ rfl
    have e2 := HD1.out.get 2 _ rfl
    have e3 := HD1.out.get 3 _ rfl
    have e4 := HD1.out.get 4 _ rfl
    have e5 := HD1.out.get 5 _ rfl
    have e6 := HD1.out.get 6 _ rfl
    have fz := HF1.out.lt
    have f0 := HF1.out.get 0 _ rfl
    have f1 := HF1.out.get 1 _ rfl
    have f2 := HF1.out.get 2 _ rfl
    by_cases hlt : k < 3
    · match k, hlt with

      | 0, _ =>
        clear hk hlt
        go_upto_region 4 with fail
        have hNE := pst_some wr
        have CZ : ∀ px : Pst wr, w.heap.size + 1 < px.W.heap.size := fun px => px.size cz
        have EZ : ∀ px : Pst wr, w.heap.size + 2 < px.W.heap.size := fun px => px.size ez
        have D0 : ∀ px : Pst wr, px.W.cell? ⟨w.heap.size + 1, 0, none⟩ = some (.string x.svc) := fun px => px.cell d0 cz
        have D1 : ∀ px : Pst wr, px.W.cell? ⟨w.heap.size + 1, 1, none⟩ = some (.int .i64 x.num) := fun px => px.cell d1 cz
        have D2 : ∀ px : Pst wr, px.W.cell? ⟨w.heap.size + 1, 2, none⟩ = some (.int .i64 x.ver) := fun px => px.cell d2 cz
        have D3 : ∀ px : Pst wr, px.W.cell? ⟨w.heap.size + 1, 3, none⟩ = some (.int .i64 x.image) := fun px => px.cell d3 cz
        have D4 : ∀ px : Pst wr, px.W.cell? ⟨w.heap.size + 1, 4, none⟩ = some (.int .i64 x.state) := fun px => px.cell d4 cz
        have D5 : ∀ px : Pst wr, px.W.cell? ⟨w.heap.size + 1, 5, none⟩ = some (.bool x.ending) := fun px => px.cell d5 cz
        have D6 : ∀ px : Pst wr, px.W.cell? ⟨w.heap.size + 1, 6, none⟩ = some (.string x.berth) := fun px => px.cell d6 cz
        have E0 : ∀ px : Pst wr, px.W.cell? ⟨w.heap.size + 2, 0, none⟩ = some (.string y.svc) := fun px => px.cell e0 ez
        have E1 : ∀ px : Pst wr, px.W.cell? ⟨w.heap.size + 2, 1, none⟩ = some (.int .i64 y.num) := fun px => px.cell e1 ez
        have E2 : ∀ px : Pst wr, px.W.cell? ⟨w.heap.size + 2, 2, none⟩ = some (.int .i64 y.ver) := fun px => px.cell e2 ez
        have E3 : ∀ px : Pst wr, px.W.cell? ⟨w.heap.size + 2, 3, none⟩ = some (.int .i64 y.image) := fun px => px.cell e3 ez
        have E4 : ∀ px : Pst wr, px.W.cell? ⟨w.heap.size + 2, 4, none⟩ = some (.int .i64 y.state) := fun px => px.cell e4 ez
        have E5 : ∀ px : Pst wr, px.W.cell? ⟨w.heap.size + 2, 5, none⟩ = some (.bool y.ending) := fun px => px.cell e5 ez
        have E6 : ∀ px : Pst wr, px.W.cell? ⟨w.heap.size + 2, 6, none⟩ = some (.string y.berth) := fun px => px.cell e6 ez
        have HV : Hid (∀ px : Pst wr, SBkV px.W a0 a1 a2 K) := fun px => HH.out.later (blw_trans HB1.out px.ok)
        have HP : Hid (∀ c W, SBkV W a0 a1 a2 K → Calls Tryz.prog 111 #[.agg #[.string c.svc, .int .i64 c.num, .int .i64 c.ver, .int .i64 c.image, .int .i64 c.state, .bool c.ending, .string c.berth]] W fun e w' => e = .returned (.bool (rule3 K s 0 c)) ∧ Below W.heap.size W w') := fun c W _ => by exact notReadyI c W
        refine region_class wr (Below.refl _ _) (by kernel_rfl) (by kernel_rfl) ?_
        repeat (first
          | go_big_quiet_skip
          | (go_big_quiet_want; go_big_quiet_op; first | go_big_quiet_on | (apply Exists.intro; refine ⟨fun px => ?_, ?_⟩; (focus (refine (HP.out _ _ (HV.out px)).mono ?_; rintro e w' ⟨he, hb⟩; exact ⟨he, ⟨w', blw_trans px.ok hb⟩, rfl⟩)); go_big_quiet_on)))
        refine wpQuiet_nil ?_
        intro _ hw'
        obtain ⟨x6, hw''⟩ := hw'
        subst hw''
        cases hp1 : rule3 K s 0 x
        · cases hp2 : rule3 K s 0 y
          · have HN : Hid (∀ j, j < 0 + 1 → rule3 K s j x = rule3 K s j y) := by
              intro j hj
              by_cases e : j = 0
              · subst e; rw [hp1, hp2]
              · exact HA.out j (by omega)
            have HBx := hid (blw_trans HW.out x6.ok)
            clear HA HR
            go_wp2
            exact ⟨⟨0 + 1, by omega, rfl, HBx.out, HN.out⟩, by decide⟩
          · have HE : Hid (R = 1) := by
              show R = _
              rw [HR.out, cmpE_at 0 (by omega) HA.out (by rw [hp1, hp2]; decide), hp1]
              rfl
            have HBx := hid (blw_trans HB1.out x6.ok)
            have HVx := hid (HV.out x6)
            have cz' := CZ x6
            have D0' := D0 x6
            have D1' := D1 x6
            have D2' := D2 x6
            have D3' := D3 x6
            have D4' := D4 x6
            have D5' := D5 x6
            have D6' := D6 x6
            clear HR HA CZ EZ D0 E0 D1 E1 D2 E2 D3 E3 D4 E4 D5 E5 D6 E6 HV
            go_wp2_with fail
            refine (HP.out x _ HVx.out).mono ?_
            rintro e w3 ⟨rfl, hb3⟩
            have HB3 := hid (blw_trans HBx.out hb3)
            clear hb3 cz' D0' D1' D2' D3' D4' D5' D6'
            go_wp2
            go_ret
            exact ⟨by rw [HE.out]; rfl, HB3.out⟩
        · cases hp2 : rule3 K s 0 y
          · have HE : Hid (R = -1) := by
              show R = _
              rw [HR.out, cmpE_at 0 (by omega) HA.out (by rw [hp1, hp2]; decide), hp1]
              rfl
            have HBx := hid (blw_trans HB1.out x6.ok)
            have HVx := hid (HV.out x6)
            have cz' := CZ x6
            have D0' := D0 x6
            have D1' := D1 x6
            have D2' := D2 x6
            have D3' := D3 x6
            have D4' := D4 x6
            have D5' := D5 x6
            have D6' := D6 x6
            clear HR HA CZ EZ D0 E0 D1 E1 D2 E2 D3 E3 D4 E4 D5 E5 D6 E6 HV
            go_wp2_with fail
            refine (HP.out x _ HVx.out).mono ?_
            rintro e w3 ⟨rfl, hb3⟩
            have HB3 := hid (blw_trans HBx.out hb3)
            clear hb3 cz' D0' D1' D2' D3' D4' D5' D6'
            go_wp2
            go_ret
            exact ⟨by rw [HE.out]; rfl, HB3.out⟩
          · have HN : Hid (∀ j, j < 0 + 1 → rule3 K s j x = rule3 K s j y) := by
              intro j hj
              by_cases e : j = 0
              · subst e; rw [hp1, hp2]
              · exact HA.out j (by omega)
            have HBx := hid (blw_trans HW.out x6.ok)
            clear HA HR
            go_wp2
            exact ⟨⟨0 + 1, by omega, rfl, HBx.out, HN.out⟩, by decide⟩
      | 1, _ =>
        clear hk hlt
        go_upto_region 4 with fail
        have hNE := pst_some wr
        have CZ : ∀ px : Pst wr, w.heap.size + 1 < px.W.heap.size := fun px => px.size cz
        have EZ : ∀ px : Pst wr, w.heap.size + 2 < px.W.heap.size := fun px => px.size ez
        have D0 : ∀ px : Pst wr, px.W.cell? ⟨w.heap.size + 1, 0, none⟩ = some (.string x.svc) := fun px => px.cell d0 cz
        have D1 : ∀ px : Pst wr, px.W.cell? ⟨w.heap.size + 1, 1, none⟩ = some (.int .i64 x.num) := fun px => px.cell d1 cz
        have D2 : ∀ px : Pst wr, px.W.cell? ⟨w.heap.size + 1, 2, none⟩ = some (.int .i64 x.ver) := fun px => px.cell d2 cz
        have D3 : ∀ px : Pst wr, px.W.cell? ⟨w.heap.size + 1, 3, none⟩ = some (.int .i64 x.image) := fun px => px.cell d3 cz
        have D4 : ∀ px : Pst wr, px.W.cell? ⟨w.heap.size + 1, 4, none⟩ = some (.int .i64 x.state) := fun px => px.cell d4 cz
        have D5 : ∀ px : Pst wr, px.W.cell? ⟨w.heap.size + 1, 5, none⟩ = some (.bool x.ending) := fun px => px.cell d5 cz
        have D6 : ∀ px : Pst wr, px.W.cell? ⟨w.heap.size + 1, 6, none⟩ = some (.string x.berth) := fun px => px.cell d6 cz
        have E0 : ∀ px : Pst wr, px.W.cell? ⟨w.heap.size + 2, 0, none⟩ = some (.string y.svc) := fun px => px.cell e0 ez
        have E1 : ∀ px : Pst wr, px.W.cell? ⟨w.heap.size + 2, 1, none⟩ = some (.int .i64 y.num) := fun px => px.cell e1 ez
        have E2 : ∀ px : Pst wr, px.W.cell? ⟨w.heap.size + 2, 2, none⟩ = some (.int .i64 y.ver) := fun px => px.cell e2 ez
        have E3 : ∀ px : Pst wr, px.W.cell? ⟨w.heap.size + 2, 3, none⟩ = some (.int .i64 y.image) := fun px => px.cell e3 ez
        have E4 : ∀ px : Pst wr, px.W.cell? ⟨w.heap.size + 2, 4, none⟩ = some (.int .i64 y.state) := fun px => px.cell e4 ez
        have E5 : ∀ px : Pst wr, px.W.cell? ⟨w.heap.size + 2, 5, none⟩ = some (.bool y.ending) := fun px => px.cell e5 ez
        have E6 : ∀ px : Pst wr, px.W.cell? ⟨w.heap.size + 2, 6, none⟩ = some (.string y.berth) := fun px => px.cell e6 ez
        have HV : Hid (∀ px : Pst wr, SBkV px.W a0 a1 a2 K) := fun px => HH.out.later (blw_trans HB1.out px.ok)
        have HP : Hid (∀ c W, SBkV W a0 a1 a2 K → Calls Tryz.prog 68 #[G, .agg #[.string c.svc, .int .i64 c.num, .int .i64 c.ver, .int .i64 c.image, .int .i64 c.state, .bool c.ending, .string c.berth]] W fun e w' => e = .returned (.bool (rule3 K s 1 c)) ∧ Below W.heap.size W w') := fun c W _ => by rw [HG.out]; exact isOldI K a0 a1 a2 c0 c1 c2 s n al cl L lv c W
        refine region_class wr (Below.refl _ _) (by kernel_rfl) (by kernel_rfl) ?_
        repeat (first
          | go_big_quiet_skip
          | (go_big_quiet_want; go_big_quiet_op; first | go_big_quiet_on | (apply Exists.intro; refine ⟨fun px => ?_, ?_⟩; (focus (refine (HP.out _ _ (HV.out px)).mono ?_; rintro e w' ⟨he, hb⟩; exact ⟨he, ⟨w', blw_trans px.ok hb⟩, rfl⟩)); go_big_quiet_on)))
        refine wpQuiet_nil ?_
        intro _ hw'
        obtain ⟨x6, hw''⟩ := hw'
        subst hw''
        cases hp1 : rule3 K s 1 x
        · cases hp2 : rule3 K s 1 y
          · have HN : Hid (∀ j, j < 1 + 1 → rule3 K s j x = rule3 K s j y) := by
              intro j hj
              by_cases e : j = 1
              · subst e; rw [hp1, hp2]
              · exact HA.out j (by omega)
            have HBx := hid (blw_trans HW.out x6.ok)
            clear HA HR
            go_wp2
            exact ⟨⟨1 + 1, by omega, rfl, HBx.out, HN.out⟩, by decide⟩
          · have HE : Hid (R = 1) := by
              show R = _
              rw [HR.out, cmpE_at 1 (by omega) HA.out (by rw [hp1, hp2]; decide), hp1]
              rfl
            have HBx := hid (blw_trans HB1.out x6.ok)
            have HVx := hid (HV.out x6)
            have cz' := CZ x6
            have D0' := D0 x6
            have D1' := D1 x6
            have D2' := D2 x6
            have D3' := D3 x6
            have D4' := D4 x6
            have D5' := D5 x6
            have D6' := D6 x6
            clear HR HA CZ EZ D0 E0 D1 E1 D2 E2 D3 E3 D4 E4 D5 E5 D6 E6 HV
            go_wp2_with fail
            refine (HP.out x _ HVx.out).mono ?_
            rintro e w3 ⟨rfl, hb3⟩
            have HB3 := hid (blw_trans HBx.out hb3)
            clear hb3 cz' D0' D1' D2' D3' D4' D5' D6'
            go_wp2
            go_ret
            exact ⟨by rw [HE.out]; rfl, HB3.out⟩
        · cases hp2 : rule3 K s 1 y
          · have HE : Hid (R = -1) := by
              show R = _
              rw [HR.out, cmpE_at 1 (by omega) HA.out (by rw [hp1, hp2]; decide), hp1]
              rfl
            have HBx := hid (blw_trans HB1.out x6.ok)
            have HVx := hid (HV.out x6)
            have cz' := CZ x6
            have D0' := D0 x6
            have D1' := D1 x6
            have D2' := D2 x6
            have D3' := D3 x6
            have D4' := D4 x6
            have D5' := D5 x6
            have D6' := D6 x6
            clear HR HA CZ EZ D0 E0 D1 E1 D2 E2 D3 E3 D4 E4 D5 E5 D6 E6 HV
            go_wp2_with fail
            refine (HP.out x _ HVx.out).mono ?_
            rintro e w3 ⟨rfl, hb3⟩
            have HB3 := hid (blw_trans HBx.out hb3)
            clear hb3 cz' D0' D1' D2' D3' D4' D5' D6'
            go_wp2
            go_ret
            exact ⟨by rw [HE.out]; rfl, HB3.out⟩
          · have HN : Hid (∀ j, j < 1 + 1 → rule3 K s j x = rule3 K s j y) := by
              intro j hj
              by_cases e : j = 1
              · subst e; rw [hp1, hp2]
              · exact HA.out j (by omega)
            have HBx := hid (blw_trans HW.out x6.ok)
            clear HA HR
            go_wp2
            exact ⟨⟨1 + 1, by omega, rfl, HBx.out, HN.out⟩, by decide⟩
      | 2, _ =>
        clear hk hlt
        go_upto_region 4 with fail
        have hNE := pst_some wr
        have CZ : ∀ px : Pst wr, w.heap.size + 1 < px.W.heap.size := fun px => px.size cz
        have EZ : ∀ px : Pst wr, w.heap.size + 2 < px.W.heap.size := fun px => px.size ez
        have D0 : ∀ px : Pst wr, px.W.cell? ⟨w.heap.size + 1, 0, none⟩ = some (.string x.svc) := fun px => px.cell d0 cz
        have D1 : ∀ px : Pst wr, px.W.cell? ⟨w.heap.size + 1, 1, none⟩ = some (.int .i64 x.num) := fun px => px.cell d1 cz
        have D2 : ∀ px : Pst wr, px.W.cell? ⟨w.heap.size + 1, 2, none⟩ = some (.int .i64 x.ver) := fun px => px.cell d2 cz
        have D3 : ∀ px : Pst wr, px.W.cell? ⟨w.heap.size + 1, 3, none⟩ = some (.int .i64 x.image) := fun px => px.cell d3 cz
        have D4 : ∀ px : Pst wr, px.W.cell? ⟨w.heap.size + 1, 4, none⟩ = some (.int .i64 x.state) := fun px => px.cell d4 cz
        have D5 : ∀ px : Pst wr, px.W.cell? ⟨w.heap.size + 1, 5, none⟩ = some (.bool x.ending) := fun px => px.cell d5 cz
        have D6 : ∀ px : Pst wr, px.W.cell? ⟨w.heap.size + 1, 6, none⟩ = some (.string x.berth) := fun px => px.cell d6 cz
        have E0 : ∀ px : Pst wr, px.W.cell? ⟨w.heap.size + 2, 0, none⟩ = some (.string y.svc) := fun px => px.cell e0 ez
        have E1 : ∀ px : Pst wr, px.W.cell? ⟨w.heap.size + 2, 1, none⟩ = some (.int .i64 y.num) := fun px => px.cell e1 ez
        have E2 : ∀ px : Pst wr, px.W.cell? ⟨w.heap.size + 2, 2, none⟩ = some (.int .i64 y.ver) := fun px => px.cell e2 ez
        have E3 : ∀ px : Pst wr, px.W.cell? ⟨w.heap.size + 2, 3, none⟩ = some (.int .i64 y.image) := fun px => px.cell e3 ez
        have E4 : ∀ px : Pst wr, px.W.cell? ⟨w.heap.size + 2, 4, none⟩ = some (.int .i64 y.state) := fun px => px.cell e4 ez
        have E5 : ∀ px : Pst wr, px.W.cell? ⟨w.heap.size + 2, 5, none⟩ = some (.bool y.ending) := fun px => px.cell e5 ez
        have E6 : ∀ px : Pst wr, px.W.cell? ⟨w.heap.size + 2, 6, none⟩ = some (.string y.berth) := fun px => px.cell e6 ez
        have HV : Hid (∀ px : Pst wr, SBkV px.W a0 a1 a2 K) := fun px => HH.out.later (blw_trans HB1.out px.ok)
        have HP : Hid (∀ c W, SBkV W a0 a1 a2 K → Calls Tryz.prog 65 #[G, .agg #[.string c.svc, .int .i64 c.num, .int .i64 c.ver, .int .i64 c.image, .int .i64 c.state, .bool c.ending, .string c.berth]] W fun e w' => e = .returned (.bool (rule3 K s 2 c)) ∧ Below W.heap.size W w') := fun c W hW => by rw [HG.out]; exact mustLeaveI K a0 a1 a2 c0 c1 c2 s n al cl L lv c W hW
        refine region_class wr (Below.refl _ _) (by kernel_rfl) (by kernel_rfl) ?_
        repeat (first
          | go_big_quiet_skip
          | (go_big_quiet_want; go_big_quiet_op; first | go_big_quiet_on | (apply Exists.intro; refine ⟨fun px => ?_, ?_⟩; (focus (refine (HP.out _ _ (HV.out px)).mono ?_; rintro e w' ⟨he, hb⟩; exact ⟨he, ⟨w', blw_trans px.ok hb⟩, rfl⟩)); go_big_quiet_on)))
        refine wpQuiet_nil ?_
        intro _ hw'
        obtain ⟨x6, hw''⟩ := hw'
        subst hw''
        cases hp1 : rule3 K s 2 x
        · cases hp2 : rule3 K s 2 y
          · have HN : Hid (∀ j, j < 2 + 1 → rule3 K s j x = rule3 K s j y) := by
              intro j hj
              by_cases e : j = 2
              · subst e; rw [hp1, hp2]
              · exact HA.out j (by omega)
            have HBx := hid (blw_trans HW.out x6.ok)
            clear HA HR
            go_wp2
            exact ⟨⟨2 + 1, by omega, rfl, HBx.out, HN.out⟩, by decide⟩
          · have HE : Hid (R = 1) := by
              show R = _
              rw [HR.out, cmpE_at 2 (by omega) HA.out (by rw [hp1, hp2]; decide), hp1]
              rfl
            have HBx := hid (blw_trans HB1.out x6.ok)
            have HVx := hid (HV.out x6)
            have cz' := CZ x6
            have D0' := D0 x6
            have D1' := D1 x6
            have D2' := D2 x6
            have D3' := D3 x6
            have D4' := D4 x6
            have D5' := D5 x6
            have D6' := D6 x6
            clear HR HA CZ EZ D0 E0 D1 E1 D2 E2 D3 E3 D4 E4 D5 E5 D6 E6 HV
            go_wp2_with fail
            refine (HP.out x _ HVx.out).mono ?_
            rintro e w3 ⟨rfl, hb3⟩
            have HB3 := hid (blw_trans HBx.out hb3)
            clear hb3 cz' D0' D1' D2' D3' D4' D5' D6'
            go_wp2
            go_ret
            exact ⟨by rw [HE.out]; rfl, HB3.out⟩
        · cases hp2 : rule3 K s 2 y
          · have HE : Hid (R = -1) := by
              show R = _
              rw [HR.out, cmpE_at 2 (by omega) HA.out (by rw [hp1, hp2]; decide), hp1]
              rfl
            have HBx := hid (blw_trans HB1.out x6.ok)
            have HVx := hid (HV.out x6)
            have cz' := CZ x6
            have D0' := D0 x6
            have D1' := D1 x6
            have D2' := D2 x6
            have D3' := D3 x6
            have D4' := D4 x6
            have D5' := D5 x6
            have D6' := D6 x6
            clear HR HA CZ EZ D0 E0 D1 E1 D2 E2 D3 E3 D4 E4 D5 E5 D6 E6 HV
            go_wp2_with fail
            refine (HP.out x _ HVx.out).mono ?_
            rintro e w3 ⟨rfl, hb3⟩
            have HB3 := hid (blw_trans HBx.out hb3)
            clear hb3 cz' D0' D1' D2' D3' D4' D5' D6'
            go_wp2
            go_ret
            exact ⟨by rw [HE.out]; rfl, HB3.out⟩
          · have HN : Hid (∀ j, j < 2 + 1 → rule3 K s j x = rule3 K s j y) := by
              intro j hj
              by_cases e : j = 2
              · subst e; rw [hp1, hp2]
              · exact HA.out j (by omega)
            have HBx := hid (blw_trans HW.out x6.ok)
            clear HA HR
            go_wp2
            exact ⟨⟨2 + 1, by omega, rfl, HBx.out, HN.out⟩, by decide⟩
    · obtain rfl : k = 3 := by omega
      have HE : Hid (R = numCmp y.num x.num) := by show R = _; rw [HR.out]; exact cmpE_end HA.out
      clear HR HA
      go_wp2_with fail
      refine (cmpI y.num x.num wr).mono ?_
      rintro e w3 ⟨rfl, rfl⟩
      go_wp2
      go_ret
      exact ⟨by rw [HE.out]; rfl, HB1.out⟩

end Go.Proofs.YtamhfnlogldpaaaGreat
