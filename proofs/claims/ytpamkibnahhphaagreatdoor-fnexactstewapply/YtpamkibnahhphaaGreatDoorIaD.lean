/-
  Stewards: an act that is being done: ending, by the program.
-/
import Derived.Test.YtpamkibnahhphaaGreatDoorIaC
namespace Go.Proofs.YtpamkibnahhphaaGreatDoor
open Go.RowKit Go.Deep

/-- The copies behind the first i places that are ended. -/
def endsTo (cp : List Cp) (v : Int) (es : List Nat) : Nat → List Cp
  | 0 => cp
  | i + 1 => setEnd (endsTo cp v es i) (es.getD i 0) v
theorem endsTo_len (cp : List Cp) (v : Int) (es : List Nat) : ∀ i, (endsTo cp v es i).length = cp.length
  | 0 => rfl
  | i + 1 => by rw [endsTo, setEnd_len, endsTo_len cp v es i]
theorem endsTo_like (cp : List Cp) (v : Int) (es : List Nat) (j : Nat) : ∀ i, likeCp ((endsTo cp v es i).getD j Cp.none) (cp.getD j Cp.none)
  | 0 => ⟨rfl, rfl, rfl, rfl, rfl⟩
  | i + 1 => (setEnd_like _ _ _ _).trans (endsTo_like cp v es j i)
theorem ascCp_like {a b : List Cp} (h : ∀ j, likeCp (a.getD j Cp.none) (b.getD j Cp.none)) (hl : a.length = b.length) : ascCp a = ascCp b := by
  unfold ascCp
  rw [hl]
  refine allTo_congr fun i _ => ?_
  rw [(h i).1, (h i).2.1, (h (i + 1)).1, (h (i + 1)).2.1]
theorem endsTo_asc {cp : List Cp} (h : ascCp cp = true) (v : Int) (es : List Nat) (i : Nat) : ascCp (endsTo cp v es i) = true :=
  (ascCp_like (fun j => endsTo_like cp v es j i) (endsTo_len cp v es i)).trans h
/-- Whether the copy at the i-th place may end, behind the ends ahead of it. -/
def mayTo (now : Int) (sv : List Sv) (cp : List Cp) (bt : List Bt) (k : Nat) (es : List Nat) (i : Nat) : Bool :=
  mayGo ⟨now, sv, endsTo cp now es i, bt⟩ (sv.getD k Sv.none) ((endsTo cp now es i).getD (es.getD i 0) Cp.none)
theorem setEnd_two (l : List Cp) (x : Nat) (v : Int) : (l.set x { l.getD x Cp.none with ending := true }).set x { l.getD x Cp.none with ending := true, ver := v } = setEnd l x v := by
  rw [List.set_set]; rfl

set_option maxRecDepth 8000 in
set_option maxHeartbeats 40000000 in
theorem endI {lo p : Nat} {W : World} {X : Ac} {ae : Value} {now : Int} {sv : List Sv} {cp : List Cp} {bt : List Bt} {k : Nat} {es : List Nat} {p1 p2 pe : Option Addr} {g : Nat} {n0 n1 n2 ne q0 q1 q2 qe : Nat} (h : Wk lo p W X ae now sv cp bt k es (some ⟨g, 0, none⟩) p1 p2 pe n0 n1 n2 ne q0 q1 q2 qe) (hk : k < n0) (hasc : ascCp cp = true) (hlen : n1 ≤ 200) (s : Sv) (hsv : s = sv.getD k Sv.none) (hs : 0 ≤ s.want ∧ s.want ≤ 10 ∧ 0 ≤ s.down ∧ s.down ≤ 10) (hes : ∀ i, i < es.length → es.getD i 0 < cp.length) :
    Calls Tryz.prog 65 #[.pointer (some ⟨p, 0, none⟩)] W fun e W' => (if allTo (mayTo now sv cp bt k es) es.length then e = .returned (.tuple #[]) ∧ Wk lo p W' X ae now sv (endsTo cp now es es.length) bt k es (some ⟨g, 0, none⟩) p1 p2 pe n0 n1 n2 ne q0 q1 q2 qe else e = stopE 5) ∧ Below lo W W' := by
  have HW := hid h
  have HK := hid hk
  have HA := hid hasc
  have HL := hid hlen
  have HSV := hid hsv
  have HS0 := hid hs
  have HES := hid hes
  have HCL := hid h.l1
  have HEL := hid h.le
  have hme := h.me
  have hm1 := h.m1
  clear h hk hasc hlen hsv hs hes
  obtain ⟨R, hR⟩ : ∃ R, R = allTo (mayTo now sv cp bt k es) es.length := ⟨_, rfl⟩
  have HR := hid hR
  rw [← hR]
  clear hR
  have c13 : W.cell? ⟨p, 13, none⟩ = some (.slice pe ne qe) := HW.out.cell 13
  have hz := HW.out.lt
  go_enter Tryz.func65, Tryz.ntmps65
  go_wp2
  clear c13 hz
  go_loopw [10] (fun i wr => ∃ q : Nat, q ≤ ne ∧ i = .int .i64 q ∧ Wk lo p wr X ae now sv (endsTo cp now es q) bt k es (some ⟨g, 0, none⟩) p1 p2 pe n0 n1 n2 ne q0 q1 q2 qe ∧ allTo (mayTo now sv cp bt k es) q = true ∧ Below lo W wr) (fun i _ => ne - (intOf i).toNat)
  case atStart => exact ⟨0, Nat.zero_le _, rfl, HW.out, rfl, Below.refl _ _⟩
  case round =>
    obtain ⟨q, hq, rfl, hW, hall, hB⟩ := hrel
    have HWr := hid hW
    have HAL := hid hall
    have HBr := hid hB
    clear hW hall hB HW
    by_cases hlt : q < ne
    · obtain ⟨x, hx⟩ : ∃ x, x = es.getD q 0 := ⟨_, rfl⟩
      have HX := hid hx
      have hxl : x < n1 := by have := HES.out q (by rw [HEL.out]; exact hlt); rw [← hx, HCL.out] at this; exact this
      clear hx
      obtain ⟨ge, curE, epe, hge, hgeb, _, hce⟩ := owns_blk HWr.out.oe (by omega)
      subst epe
      have e0 : wr.cell? ⟨ge, q, none⟩ = some (.int .i64 (x : Int)) := hce q _ (by
        rw [HX.out, List.getElem?_map]
        have hq' : q < es.length := by rw [HEL.out]; exact hlt
        simp [hq'])
      have hgz := lt_block hgeb
      have hz := HWr.out.lt
      obtain ⟨g1, cur1, eg1, hlo1, hgl1, hgb1, hcs1, hcc⟩ := HWr.out.cpAt (i := x) (by rw [HWr.out.l1]; exact hxl)
      subst eg1
      obtain ⟨g', cur0, eg, hlo0, hgl, hgb, hcs, hsc⟩ := HWr.out.svAt (i := k) (by rw [HWr.out.l0]; exact HK.out)
      injection eg with eg
      injection eg with eg _ _
      subst eg
      rw [← HSV.out] at hsc
      obtain ⟨c, hc⟩ : ∃ c, c = (endsTo cp now es q).getD x Cp.none := ⟨_, rfl⟩
      rw [← hc] at hcc
      have HC := hid hc
      clear hc hce hgeb hge
      have HM : Hid (mayTo now sv cp bt k es q = mayGo ⟨now, sv, endsTo cp now es q, bt⟩ s c) := by show mayTo _ _ _ _ _ _ _ = _; unfold mayTo; rw [← HX.out, ← HC.out, ← HSV.out]
      have q0' : (0 : Int) ≤ (q : Int) := by omega
      have q1' : (q : Int) < (ne : Int) := by omega
      have x0' : (0 : Int) ≤ (x : Int) := by omega
      have x1' : (x : Int) < (n1 : Int) := by omega
      have c10 : wr.cell? ⟨p, 10, none⟩ = some (.slice (some ⟨g1, 0, none⟩) n1 q1) := HWr.out.cell 10
      go_upto_region 4 with fail
      clear e0 hgz c10
      have hNE := pst_some wr
      have hZ : ∀ px : Pst wr, p < px.W.heap.size := fun px => px.size hz
      have C8 : ∀ px : Pst wr, px.W.cell? ⟨p, 8, none⟩ = some (.int .i64 now) := fun px => px.cell ((HWr.out).cell 8) hz
      have C9 : ∀ px : Pst wr, px.W.cell? ⟨p, 9, none⟩ = some (.slice (some ⟨g, 0, none⟩) n0 q0) := fun px => px.cell ((HWr.out).cell 9) hz
      have C10 : ∀ px : Pst wr, px.W.cell? ⟨p, 10, none⟩ = some (.slice (some ⟨g1, 0, none⟩) n1 q1) := fun px => px.cell ((HWr.out).cell 10) hz
      have C11 : ∀ px : Pst wr, px.W.cell? ⟨p, 11, none⟩ = some (.slice p2 n2 q2) := fun px => px.cell ((HWr.out).cell 11) hz
      have hG : ∀ px : Pst wr, g < px.W.heap.size := fun px => px.size hgl
      have hG1 : ∀ px : Pst wr, g1 < px.W.heap.size := fun px => px.size hgl1
      have S0 : ∀ px : Pst wr, px.W.cell? ⟨g, k * 13, none⟩ = some (.string s.nm) := fun px => px.cell (hsc 0 _ rfl) hgl
      have S1 : ∀ px : Pst wr, px.W.cell? ⟨g, k * 13 + 1, none⟩ = some (.int .i64 s.ver) := fun px => px.cell (hsc 1 _ rfl) hgl
      have S2 : ∀ px : Pst wr, px.W.cell? ⟨g, k * 13 + 2, none⟩ = some (.bool s.gone) := fun px => px.cell (hsc 2 _ rfl) hgl
      have S3 : ∀ px : Pst wr, px.W.cell? ⟨g, k * 13 + 3, none⟩ = some (.int .i64 s.image) := fun px => px.cell (hsc 3 _ rfl) hgl
      have S4 : ∀ px : Pst wr, px.W.cell? ⟨g, k * 13 + 4, none⟩ = some (.int .i64 s.want) := fun px => px.cell (hsc 4 _ rfl) hgl
      have S5 : ∀ px : Pst wr, px.W.cell? ⟨g, k * 13 + 5, none⟩ = some (.int .i64 s.down) := fun px => px.cell (hsc 5 _ rfl) hgl
      have S6 : ∀ px : Pst wr, px.W.cell? ⟨g, k * 13 + 6, none⟩ = some (.int .i64 s.over) := fun px => px.cell (hsc 6 _ rfl) hgl
      have S7 : ∀ px : Pst wr, px.W.cell? ⟨g, k * 13 + 7, none⟩ = some (.int .i64 s.next) := fun px => px.cell (hsc 7 _ rfl) hgl
      have S8 : ∀ px : Pst wr, px.W.cell? ⟨g, k * 13 + 8, none⟩ = some (.int .i64 s.per) := fun px => px.cell (hsc 8 _ rfl) hgl
      have S9 : ∀ px : Pst wr, px.W.cell? ⟨g, k * 13 + 9, none⟩ = some (.int .i64 s.least) := fun px => px.cell (hsc 9 _ rfl) hgl
      have S10 : ∀ px : Pst wr, px.W.cell? ⟨g, k * 13 + 10, none⟩ = some (.int .i64 s.most) := fun px => px.cell (hsc 10 _ rfl) hgl
      have S11 : ∀ px : Pst wr, px.W.cell? ⟨g, k * 13 + 11, none⟩ = some (.int .i64 s.load) := fun px => px.cell (hsc 11 _ rfl) hgl
      have S12 : ∀ px : Pst wr, px.W.cell? ⟨g, k * 13 + 12, none⟩ = some (.int .i64 s.cool) := fun px => px.cell (hsc 12 _ rfl) hgl
      have D0 : ∀ px : Pst wr, px.W.cell? ⟨g1, x * 7, none⟩ = some (.string c.svc) := fun px => px.cell (hcc 0 _ rfl) hgl1
      have D1 : ∀ px : Pst wr, px.W.cell? ⟨g1, x * 7 + 1, none⟩ = some (.int .i64 c.num) := fun px => px.cell (hcc 1 _ rfl) hgl1
      have D2 : ∀ px : Pst wr, px.W.cell? ⟨g1, x * 7 + 2, none⟩ = some (.int .i64 c.ver) := fun px => px.cell (hcc 2 _ rfl) hgl1
      have D3 : ∀ px : Pst wr, px.W.cell? ⟨g1, x * 7 + 3, none⟩ = some (.int .i64 c.image) := fun px => px.cell (hcc 3 _ rfl) hgl1
      have D4 : ∀ px : Pst wr, px.W.cell? ⟨g1, x * 7 + 4, none⟩ = some (.int .i64 c.state) := fun px => px.cell (hcc 4 _ rfl) hgl1
      have D5 : ∀ px : Pst wr, px.W.cell? ⟨g1, x * 7 + 5, none⟩ = some (.bool c.ending) := fun px => px.cell (hcc 5 _ rfl) hgl1
      have D6 : ∀ px : Pst wr, px.W.cell? ⟨g1, x * 7 + 6, none⟩ = some (.string c.berth) := fun px => px.cell (hcc 6 _ rfl) hgl1
      clear hz hsc hcc hgl hgl1 hcs hcs1
      cases hm : mayGo ⟨now, sv, endsTo cp now es q, bt⟩ s c
      · have HE : Hid (¬ R = true) := by show ¬ _; rw [HR.out, allTo_false (k := q) (HM.out.trans hm) _ (by rw [HEL.out]; exact hlt)]; decide
        refine region_qcut wr (Below.refl _ _) 13 (by kernel_rfl) (by kernel_rfl) (by kernel_rfl) (by kernel_rfl) (by kernel_rfl) (by kernel_rfl) ?_
        simp only [List.take_succ_cons, List.take_zero, List.drop_succ_cons, List.drop_zero]
        repeat (first
          | go_big_quiet_skip
          | (go_big_quiet_want; go_big_quiet_op; first | go_big_quiet_on | (apply Exists.intro; refine ⟨fun px => ?_, ?_⟩; (focus (first | (go_at_call 96; refine (serviceI (HWr.out.later px.ok) HK.out).mono ?_; rintro e w' ⟨he, hb⟩; exact ⟨he, ⟨w', blw_trans px.ok hb⟩, rfl⟩) | (go_at_call 98; refine ((HWr.out.later px.ok).mayGo s c (endsTo_asc HA.out now es q) HL.out HS0.out).mono ?_; rintro e w' ⟨he, hb⟩; exact ⟨he, ⟨w', blw_trans px.ok hb⟩, rfl⟩))); go_big_quiet_on)))
        refine wpQuiet_nil ?_
        intro _ hw'
        obtain ⟨x6, hw''⟩ := hw'
        subst hw''
        go_wp2_with fail
        refine (stopYes _ _).mono ?_
        rintro e w2 ⟨rfl, rfl⟩
        go_wp2
        exact ⟨rfl, by first | rfl | (rw [if_neg HE.out]; rfl), blw_two HBr.out (blw_less x6.ok HWr.out.lo)⟩
      · have HAL2 : Hid (allTo (mayTo now sv cp bt k es) (q + 1) = true) := allTo_step HAL.out (HM.out.trans hm)
        refine region_qcut wr (Below.refl _ _) 13 (by kernel_rfl) (by kernel_rfl) (by kernel_rfl) (by kernel_rfl) (by kernel_rfl) (by kernel_rfl) ?_
        simp only [List.take_succ_cons, List.take_zero, List.drop_succ_cons, List.drop_zero]
        repeat (first
          | go_big_quiet_skip
          | (go_big_quiet_want; go_big_quiet_op; first | go_big_quiet_on | (apply Exists.intro; refine ⟨fun px => ?_, ?_⟩; (focus (first | (go_at_call 96; refine (serviceI (HWr.out.later px.ok) HK.out).mono ?_; rintro e w' ⟨he, hb⟩; exact ⟨he, ⟨w', blw_trans px.ok hb⟩, rfl⟩) | (go_at_call 98; refine ((HWr.out.later px.ok).mayGo s c (endsTo_asc HA.out now es q) HL.out HS0.out).mono ?_; rintro e w' ⟨he, hb⟩; exact ⟨he, ⟨w', blw_trans px.ok hb⟩, rfl⟩))); go_big_quiet_on)))
        refine wpQuiet_nil ?_
        intro _ hw'
        obtain ⟨x6, hw''⟩ := hw'
        subst hw''
        go_wp2_with fail
        refine (stopNo _ _).mono ?_
        rintro e w2 ⟨rfl, rfl⟩
        obtain ⟨w2, hw2⟩ : ∃ w2, w2 = x6.W := ⟨_, rfl⟩
        have HW2 := hid (HWr.out.later x6.ok)
        have HB2 := hid (blw_two HBr.out (blw_less x6.ok HWr.out.lo))
        rw [← hw2] at HW2 HB2
        go_upto_region 5 with fail
        rw [← hw2]
        clear hw2 hm S0 S1 S2 S3 S4 S5 S6 S7 S8 S9 S10 S11 S12 D0 D1 D2 D3 D4 D5 D6 C8 C9 C10 C11 hG hG1 hNE hZ HWr HBr HAL HM
        have hz := HW2.out.lt
        obtain ⟨g', cur2, eg, hlo2, hgl, hgb2, hcs, hsc⟩ := HW2.out.cpAt (i := x) (by rw [HW2.out.l1]; exact hxl)
        injection eg with eg
        injection eg with eg _ _
        subst eg
        rw [← HC.out] at hsc
        have d8 : w2.cell? ⟨p, 8, none⟩ = some (.int .i64 now) := HW2.out.cell 8
        have s2 : w2.cell? ⟨g1, x * 7 + 2, none⟩ = some (.int .i64 c.ver) := hsc 2 _ rfl
        have s5 : w2.cell? ⟨g1, x * 7 + 5, none⟩ = some (.bool c.ending) := hsc 5 _ rfl
        have f2 := frozen_block hgb2 (x * 7 + 2)
        have f5 := frozen_block hgb2 (x * 7 + 5)
        have hxc : x < (endsTo cp now es q).length := by rw [HW2.out.l1]; exact hxl
        have hcz : c.sized := by rw [HC.out]; exact HW2.out.z1 x hxc
        have u1 := HW2.out.setCp hgb2 x 5 hxc (by omega) (.bool true) { c with ending := true } (by rw [← HC.out]; rfl) hcz
        have hxc2 : x < ((endsTo cp now es q).set x { c with ending := true }).length := by rw [List.length_set]; exact hxc
        have u2 := u1.setCp (set_block hgb2 _ _) x 2 hxc2 (by omega) (.int .i64 now) { c with ending := true, ver := now } (by rw [getD_set_at Cp.none hxc]; rfl) hcz
        have e3 : ((endsTo cp now es q).set x { c with ending := true }).set x { c with ending := true, ver := now } = endsTo cp now es (q + 1) := by rw [endsTo, ← HX.out, HC.out]; exact setEnd_two _ x now
        rw [e3] at u2
        have HU := hid u2
        have HB3 := hid (blw_sc (blw_sc HB2.out hlo2 (x * 7 + 5) (.bool true)) hlo2 (x * 7 + 2) (.int .i64 now))
        clear u1 u2 hsc hcs hcz hxc hxc2 e3
        go_wp2
        go_roundw
        case rel => exact ⟨q + 1, by omega, by go_num, HU.out, HAL2.out, HB3.out⟩
        case measure => simp [intOf]; omega
    · obtain rfl : q = ne := by omega
      have HE : Hid (R = true) := by show R = _; rw [HR.out, HEL.out]; exact HAL.out
      go_wp2
      first | go_end0 | refine bodyPost_ret (results_none rfl _ _ _) rfl ?_
      first
        | exact ⟨⟨rfl, by rw [HEL.out]; exact HWr.out⟩, HBr.out⟩
        | exact ⟨by rw [if_pos HE.out]; exact ⟨rfl, by rw [HEL.out]; exact HWr.out⟩, HBr.out⟩

end Go.Proofs.YtpamkibnahhphaaGreatDoor
