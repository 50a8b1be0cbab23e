/-
  Stewards: what an act is about, by the program.
-/
import Derived.Test.YtpamkibnahhphaaGreatDoorIaC
namespace Go.Proofs.YtpamkibnahhphaaGreatDoor
open Go.RowKit Go.Deep

/-- Why an act is not done. -/
def refV (c : Int) : Value := .iface 64 (.agg #[.int .i64 c])
/-- The places of the copies that are to end. -/
def esTo (K : SBk) (X : Ac) (q : Nat) : List Nat := (List.range q).map fun i => placeAt K.cps X.svc (endN X i)
theorem esTo_succ (K : SBk) (X : Ac) (q : Nat) : esTo K X (q + 1) = esTo K X q ++ [placeAt K.cps X.svc (endN X q)] := by
  unfold esTo; rw [List.range_succ, List.map_append]; rfl
theorem esTo_len (K : SBk) (X : Ac) (q : Nat) : (esTo K X q).length = q := by simp [esTo]
def upVer (s : Sv) (v : Int) : Sv := { s with ver := v }
def woCode (K : SBk) (X : Ac) : Int :=
  if svIx K.svcs X.svc < 0 then 3 else if allTo (fndAt K X) X.ends.length = false then 3
  else if (((acS K X).ver == X.seen) && allTo (verAt K X) X.ends.length) = false then 4 else 0
theorem and_allTo (b : Bool) (p : Nat → Bool) (q : Nat) : (b && allTo p (q + 1)) = ((b && allTo p q) && p q) := by
  rw [allTo]; cases b <;> simp

def VWo (lo : Nat) (K : SBk) (b0 b1 b2 c0 c1 c2 : Nat) (X : Ac) (ae : Option Addr) (ce k : Nat) (v8 : Value) : Nat → Value → World → Prop
  | 0, u, _ => u = .agg #[.string X.svc, .int .i64 X.seen, .int .i64 X.create, .int .i64 X.want, .int .i64 X.cool, .bool X.scale, .slice ae X.ends.length ce, .bool X.drop]
  | 1, u, _ => u = .agg #[.int .i64 K.now, .slice (some ⟨b0, 0, none⟩) K.svcs.length c0, .slice (some ⟨b1, 0, none⟩) K.cps.length c1, .slice (some ⟨b2, 0, none⟩) K.bts.length c2]
  | 2, u, W => ∃ s0 s1 s2, u = .agg #[.int .i64 K.now, s0, s1, s2] ∧ BkOwn W lo K s0 s1 s2
  | 3, u, _ => u = .int .i64 (k : Nat)
  | 4, u, _ => u = v8
  | 5, u, W => ∃ s0 s1 s2, u = .agg #[.string X.svc, .int .i64 X.seen, .int .i64 X.create, .int .i64 X.want, .int .i64 X.cool, .bool X.scale, .slice ae X.ends.length ce, .bool X.drop, .int .i64 K.now, s0, s1, s2, .int .i64 (k : Nat), v8] ∧ BkOwn W lo K s0 s1 s2
  | 6, u, W => ∃ p s0 s1 s2, u = .pointer (some ⟨p, 0, none⟩) ∧ lo ≤ p ∧ W.heap[p]? = some (.cells #[.string X.svc, .int .i64 X.seen, .int .i64 X.create, .int .i64 X.want, .int .i64 X.cool, .bool X.scale, .slice ae X.ends.length ce, .bool X.drop, .int .i64 K.now, s0, s1, s2, .int .i64 (k : Nat), v8] 115 (0, 0)) ∧ BkOwn W lo K s0 s1 s2
  | 7, u, W => ∃ p s0 s1 s2, u = .pointer (some ⟨p, 0, none⟩) ∧ lo ≤ p ∧ W.heap[p]? = some (.cells #[.string X.svc, .int .i64 X.seen, .int .i64 X.create, .int .i64 X.want, .int .i64 X.cool, .bool X.scale, .slice ae X.ends.length ce, .bool X.drop, .int .i64 K.now, s0, s1, s2, .int .i64 (k : Nat), v8] 115 (0, 0)) ∧ BkOwn W lo K s0 s1 s2
  | _, _, _ => True
theorem VWo_mono (lo : Nat) (K : SBk) (b0 b1 b2 c0 c1 c2 : Nat) (X : Ac) (ae : Option Addr) (ce k : Nat) (v8 : Value) : ∀ j u W W', Below W.heap.size W W' → VWo lo K b0 b1 b2 c0 c1 c2 X ae ce k v8 j u W → VWo lo K b0 b1 b2 c0 c1 c2 X ae ce k v8 j u W' := by
  intro j u W W' hb h
  match j, h with
  | 0, h => exact h
  | 1, h => exact h
  | 2, ⟨s0, s1, s2, e, h⟩ => exact ⟨s0, s1, s2, e, h.later hb⟩
  | 3, h => exact h
  | 4, h => exact h
  | 5, ⟨s0, s1, s2, e, h⟩ => exact ⟨s0, s1, s2, e, h.later hb⟩
  | 6, ⟨p, s0, s1, s2, e, hp, hx, h⟩ => exact ⟨p, s0, s1, s2, e, hp, (hb.block p (lt_heap hx)).trans hx, h.later hb⟩
  | 7, ⟨p, s0, s1, s2, e, hp, hx, h⟩ => exact ⟨p, s0, s1, s2, e, hp, (hb.block p (lt_heap hx)).trans hx, h.later hb⟩
  | n + 8, _ => trivial
theorem Tryz.infInt : (Tryz.prog.info? 3).map (fun i => (i.zero, i.size, i.bytes)) = some (some (.int .i64 0), 1, 8) := by kernel_rfl
theorem Tryz.undInts : Tryz.prog.underlying 113 = some (.slice 3) := by kernel_rfl

set_option maxRecDepth 8000 in
set_option maxHeartbeats 40000000 in
theorem workOfI (K : SBk) (b0 b1 b2 c0 c1 c2 : Nat) (X : Ac) (ae : Option Addr) (ce : Nat) (w : World) (h : SBkV w (some ⟨b0, 0, none⟩) (some ⟨b1, 0, none⟩) (some ⟨b2, 0, none⟩) K) (hE : EnsV w ae X.ends) (hv : sbOk K = true) (hsz : X.svc.size ≤ maxLen) (hl : X.ends.length ≤ 200) :
    Calls Tryz.prog 64 #[.agg #[.int .i64 K.now, .slice (some ⟨b0, 0, none⟩) K.svcs.length c0, .slice (some ⟨b1, 0, none⟩) K.cps.length c1, .slice (some ⟨b2, 0, none⟩) K.bts.length c2], .agg #[.string X.svc, .int .i64 X.seen, .int .i64 X.create, .int .i64 X.want, .int .i64 X.cool, .bool X.scale, .slice ae X.ends.length ce, .bool X.drop]] w fun e w' =>
      ((woCode K X ≠ 0 ∧ e = .returned (.tuple #[.pointer none, refV (woCode K X)])) ∨ (woCode K X = 0 ∧ ∃ k p g p1 p2 pe q0 q1 q2 qe, e = .returned (.tuple #[.pointer (some ⟨p, 0, none⟩), .nilIface]) ∧ svIx K.svcs X.svc = ((k : Nat) : Int) ∧ k < K.svcs.length ∧
        Wk w.heap.size p w' X (.slice ae X.ends.length ce) (K.now + 1) (K.svcs.set k (upVer (K.svcs.getD k Sv.none) (K.now + 1))) K.cps K.bts k (esTo K X X.ends.length) (some ⟨g, 0, none⟩) p1 p2 pe K.svcs.length K.cps.length K.bts.length X.ends.length q0 q1 q2 qe)) ∧ Below w.heap.size w w' := by
  have HH := hid h
  have HEN := hid hE
  have HV := hid hv
  have HSZ := hid hsz
  have HSM : Hid K.small := by
    obtain ⟨h0, h1, h2⟩ := small_ok hv
    exact ⟨by omega, by omega, by omega⟩
  have hl0 := h.s.len
  have hl1 := h.c.len
  unfold maxLen at hl0 hl1
  have hnow : 0 ≤ K.now ∧ K.now ≤ 1000000 := by
    have := hv
    simp only [sbOk, inB, Bool.and_eq_true, decide_eq_true_eq] at this
    omega
  obtain ⟨hn0, hn1⟩ := hnow
  clear h hE hv hsz
  obtain ⟨R, hR⟩ : ∃ R, R = woCode K X := ⟨_, rfl⟩
  have HR := hid hR
  rw [← hR]
  clear hR
  obtain ⟨wa, hwa⟩ : ∃ wa, wa = (w.alloc (.cells #[.int .i64 K.now, .slice (some ⟨b0, 0, none⟩) K.svcs.length c0, .slice (some ⟨b1, 0, none⟩) K.cps.length c1, .slice (some ⟨b2, 0, none⟩) K.bts.length c2] 36)).alloc (.cells #[.string X.svc, .int .i64 X.seen, .int .i64 X.create, .int .i64 X.want, .int .i64 X.cool, .bool X.scale, .slice ae X.ends.length ce, .bool X.drop] 42) := ⟨_, rfl⟩
  have HB : Hid (Below w.heap.size w wa) := by show Below _ _ _; rw [hwa]; exact blw_alloc (blw_alloc (Below.refl _ _) _) _
  have HX : Hid (Box4 wa w.heap.size (.int .i64 K.now) (.slice (some ⟨b0, 0, none⟩) K.svcs.length c0) (.slice (some ⟨b1, 0, none⟩) K.cps.length c1) (.slice (some ⟨b2, 0, none⟩) K.bts.length c2)) := by show Box4 _ _ _ _ _ _; rw [hwa]; exact (Box4.new' _ _ _ _ _ _ _ rfl).past _
  have HY : Hid (BoxA wa (w.heap.size + 1) (.string X.svc) (.int .i64 X.seen) (.int .i64 X.create) (.int .i64 X.want) (.int .i64 X.cool) (.bool X.scale) (.slice ae X.ends.length ce) (.bool X.drop)) := by show BoxA _ _ _ _ _ _ _ _ _ _; rw [hwa]; exact BoxA.new' _ _ _ _ _ _ _ _ _ _ _ (by simp)
  go_enter Tryz.func64, Tryz.ntmps64
  go_upto_region 1 with fail
  rw [← hwa]
  clear hwa
  obtain ⟨yz, y0, y1, y2, y3⟩ := HX.out
  obtain ⟨xz, x0, x1, x2, x3, x4, x5, x6, x7⟩ := HY.out
  go_wp2_with fail
  refine (servicePlaceI K _ _ _ c0 c1 c2 X.svc wa (HH.out.later HB.out) (chk_all HV.out).1 HSZ.out).mono ?_
  rintro e w1 ⟨rfl, hb1⟩
  have HB1 := hid (blw_trans HB.out hb1)
  have HX1 := hid (HX.out.later hb1)
  have HY1 := hid (HY.out.later hb1)
  clear yz y0 y1 y2 y3 xz x0 x1 x2 x3 x4 x5 x6 x7 hb1 HX HY HB
  by_cases hix0 : 0 ≤ svIx K.svcs X.svc
  case neg =>
    have hat : svAt K.svcs X.svc = 0 := by unfold svAt; rw [if_neg hix0]
    rw [hat, decide_eq_false hix0]
    have HE : Hid (R = 3) := by show R = _; rw [HR.out]; unfold woCode; rw [if_pos (by omega)]
    clear hat hix0
    go_wp2
    go_ret2
    exact ⟨Or.inl ⟨by rw [HE.out]; decide, by rw [HE.out]; rfl⟩, HB1.out⟩
  obtain ⟨k, hk, hix, hnm⟩ : ∃ k : Nat, k < K.svcs.length ∧ svIx K.svcs X.svc = k ∧ (K.svcs.getD k Sv.none).nm = X.svc := by
    rcases firstTo_cases (fun i => same (K.svcs.getD i Sv.none).nm X.svc) K.svcs.length with ⟨e, _⟩ | ⟨k, hk, e, hp, _⟩
    · exact absurd hix0 (by unfold svIx; rw [e]; decide)
    · exact ⟨k, hk, e, (same_iff _ _).1 hp⟩
  have hat : svAt K.svcs X.svc = (k : Int) := by unfold svAt; rw [hix, if_pos (by omega)]
  rw [hat, decide_eq_true hix0]
  obtain ⟨s, hs⟩ : ∃ s, s = K.svcs.getD k Sv.none := ⟨_, rfl⟩
  have hacs : acS K X = s := by unfold acS svGet; rw [hix, Int.toNat_natCast, hs]
  have HR1 : Hid (R = if allTo (fndAt K X) X.ends.length = false then 3 else if ((s.ver == X.seen) && allTo (verAt K X) X.ends.length) = false then 4 else 0) := by
    show R = _; rw [HR.out]; unfold woCode; rw [if_neg (by omega), hacs]
  have HK := hid hk
  have HIX := hid hix
  have HS := hid hs
  obtain ⟨b, off, ha, hbl, hf⟩ := (HH.out.later HB1.out).s.at_ k hk
  injection ha with ha
  injection ha with ha1 ha2 _
  subst ha1 ha2
  rw [← hs, Nat.zero_add] at hf
  have s1 := hf.c1
  clear hat hix0 hix hnm hk hs hacs hf HR
  obtain ⟨yz, y0, y1, y2, y3⟩ := HX1.out
  obtain ⟨xz, x0, x1, x2, x3, x4, x5, x6, x7⟩ := HY1.out
  have hk0 : (0 : Int) ≤ (k : Int) := by omega
  have hk3 : (k : Int) < (K.svcs.length : Int) := by have := HK.out; omega
  go_upto_region 5 with fail
  have hNE := pst_some w1
  have YZ : ∀ px : Pst w1, w.heap.size < px.W.heap.size := fun px => px.size yz
  have XZ : ∀ px : Pst w1, w.heap.size + 1 < px.W.heap.size := fun px => px.size xz
  have Y1 : ∀ px : Pst w1, px.W.cell? ⟨w.heap.size, 1, none⟩ = some (.slice (some ⟨b0, 0, none⟩) K.svcs.length c0) := fun px => px.cell y1 yz
  have X1 : ∀ px : Pst w1, px.W.cell? ⟨w.heap.size + 1, 1, none⟩ = some (.int .i64 X.seen) := fun px => px.cell x1 xz
  have BZ : ∀ px : Pst w1, b0 < px.W.heap.size := fun px => px.size hbl
  have S1 : ∀ px : Pst w1, px.W.cell? ⟨b0, k * 13 + 1, none⟩ = some (.int .i64 s.ver) := fun px => px.cell s1 hbl
  clear yz y0 y1 y2 y3 xz x0 x1 x2 x3 x4 x5 x6 x7 s1 hbl
  refine region_class w1 (Below.refl _ _) (by kernel_rfl) (by kernel_rfl) ?_
  repeat (first
    | go_big_quiet_skip
    | (go_big_quiet_want; go_big_quiet_op; first | go_big_quiet_on | (apply Exists.intro; refine ⟨fun px => ?_, ?_⟩; (focus (fail)); go_big_quiet_on)))
  refine wpQuiet_nil ?_
  intro _ hw'
  obtain ⟨x6, hw''⟩ := hw'
  subst hw''
  have HB2 := hid (blw_trans HB1.out x6.ok)
  have HX2 := hid (HX1.out.later x6.ok)
  have HY2 := hid (HY1.out.later x6.ok)
  obtain ⟨w2, hw2⟩ : ∃ w2, w2 = x6.W := ⟨_, rfl⟩
  rw [← hw2] at HB2 HX2 HY2 ⊢
  clear hw2 hNE YZ XZ Y1 X1 BZ S1 HB1 HX1 HY1 x6
  obtain ⟨ss, hss⟩ : ∃ ss, ss = (s.ver == X.seen) := ⟨_, rfl⟩
  rw [← hss] at HR1 ⊢
  clear hss
  obtain ⟨xz, x0, x1, x2, x3, x4, x5, x6, x7⟩ := HY2.out
  go_wp2
  clear xz x0 x1 x2 x3 x4 x5 x6 x7
  go_loopw [8, 9, 38] (fun v b i wr => ∃ q : Nat, q ≤ X.ends.length ∧ i = .int .i64 q ∧ b = .bool (ss && allTo (verAt K X) q) ∧ wr.ownsRow w2.heap.size 3 1 v q ((esTo K X q).map fun i => .int .i64 ((i : Nat) : Int)) ∧ allTo (fndAt K X) q = true ∧ Below w2.heap.size w2 wr) (fun _ _ i _ => X.ends.length - (intOf i).toNat)
  case atStart => exact ⟨0, Nat.zero_le _, rfl, by simp [allTo], World.ownsRow_nil _ _ _ _, rfl, Below.refl _ _⟩
  case round =>
    obtain ⟨q, hq, rfl, rfl, hoq, hfq, hBq⟩ := hrel
    have HOq := hid hoq
    have HFq := hid hfq
    have HBq := hid hBq
    clear hoq hfq hBq
    by_cases hlt : q < X.ends.length
    · obtain ⟨en, hen⟩ : ∃ en, en = X.ends.getD q En.none := ⟨_, rfl⟩
      obtain ⟨be, offe, hae, hbe, hei⟩ := (HEN.out.later (blw_trans HB2.out HBq.out)).at_ q hlt
      rw [← hen] at hei
      have HEQ := hid hen
      clear hen
      obtain ⟨e0, e1, _⟩ := hei
      subst hae
      have q0' : (0 : Int) ≤ (q : Int) := by omega
      have q1' : (q : Int) < (X.ends.length : Int) := by omega
      obtain ⟨w3, hw3⟩ : ∃ w3, w3 = wr.alloc (.cells #[.int .i64 en.num, .int .i64 en.seen] 96) := ⟨_, rfl⟩
      have HB3 : Hid (Below wr.heap.size wr w3) := by show Below _ _ _; rw [hw3]; exact blw_alloc (Below.refl _ _) _
      have HV3 : Hid (wr.heap.size < w3.heap.size ∧ w3.cell? ⟨wr.heap.size, 0, none⟩ = some (.int .i64 en.num) ∧ w3.cell? ⟨wr.heap.size, 1, none⟩ = some (.int .i64 en.seen)) := by
        show _ ∧ _
        rw [hw3]
        exact ⟨by simp, World.cell?_alloc_at _ _ _ _ rfl, World.cell?_alloc_at _ _ _ _ rfl⟩
      go_upto_region 9 with fail
      rw [← hw3]
      clear hw3 e0 e1 hbe
      have HBw3 := hid (blw_trans HBq.out HB3.out)
      obtain ⟨yz, y0, y1, y2, y3⟩ := HX2.out.later HBw3.out
      obtain ⟨xz, x0, x1, x2, x3, x4, x5, x6, x7⟩ := HY2.out.later HBw3.out
      obtain ⟨vz, v0, v1⟩ := HV3.out
      go_wp2_with fail
      refine (copyPlaceI K _ _ _ c0 c1 c2 X.svc en.num w3 (HH.out.later (blw_trans HB2.out HBw3.out)).c (chk_all HV.out).2.1 (by have := (chk_all HV.out).2.2.1; omega)).mono ?_
      rintro e w4 ⟨rfl, hb4⟩
      have HBw4 := hid (blw_trans HBw3.out hb4)
      have HBr4 := hid (blw_trans HB3.out hb4)
      have HV4 : Hid (wr.heap.size < w4.heap.size ∧ w4.cell? ⟨wr.heap.size, 0, none⟩ = some (.int .i64 en.num) ∧ w4.cell? ⟨wr.heap.size, 1, none⟩ = some (.int .i64 en.seen)) := ⟨Nat.lt_of_lt_of_le vz hb4.size, (hb4.cell (p := ⟨wr.heap.size, 0, none⟩) vz).trans v0, (hb4.cell (p := ⟨wr.heap.size, 1, none⟩) vz).trans v1⟩
      clear yz y0 y1 y2 y3 xz x0 x1 x2 x3 x4 x5 x6 x7 vz v0 v1 hb4 HV3 HB3 HBw3
      have hfd : fndAt K X q = decide (0 ≤ cpIx K.cps X.svc en.num) := by unfold fndAt endN; rw [← HEQ.out]
      by_cases hc0 : 0 ≤ cpIx K.cps X.svc en.num
      case neg =>
        rw [decide_eq_false hc0] at hfd ⊢
        have HE : Hid (R = 3) := by show R = _; rw [HR1.out, if_pos (allTo_false (k := q) hfd _ hlt)]
        clear hc0 hfd
        go_wp2
        go_ret2
        exact ⟨Or.inl ⟨by rw [HE.out]; decide, by rw [HE.out]; rfl⟩, blw_trans HB2.out (blw_less HBw4.out (Nat.le_refl _))⟩
      rw [decide_eq_true hc0] at hfd ⊢
      have HF1 : Hid (allTo (fndAt K X) (q + 1) = true) := allTo_step HFq.out hfd
      obtain ⟨hpe, hpl⟩ := (cpIx_place (chk_all HV.out).2.1 X.svc en.num).2 hc0
      obtain ⟨at_, hat⟩ : ∃ at_, at_ = placeAt K.cps X.svc en.num := ⟨_, rfl⟩
      rw [← hat] at hpl hpe ⊢
      obtain ⟨c, hc⟩ : ∃ c, c = K.cps.getD at_ Cp.none := ⟨_, rfl⟩
      have HES : Hid (esTo K X (q + 1) = esTo K X q ++ [at_]) := by
        show _ = _
        rw [esTo_succ, hat]
        unfold endN
        rw [← HEQ.out]
      have HVR : Hid (verAt K X q = (c.ver == en.seen)) := by
        show _ = _
        unfold verAt endN endS cpGet
        rw [← HEQ.out, hpe, Int.toNat_natCast, hc]
      have HPL := hid hpl
      have HC := hid hc
      clear hc0 hfd hpe hat hc hpl
      obtain ⟨i1, hi1, ei1⟩ := Option.map_eq_some_iff.1 Tryz.infInt
      simp only [Prod.mk.injEq] at ei1
      obtain ⟨hz1, hs1, hy1⟩ := ei1
      obtain ⟨va, vcap, hva⟩ := owns_is HOq.out
      subst hva
      go_wp2_with (at_builtin; refine wpList_append_own _ rfl _ _ 113 rfl w2.heap.size 3 i1 (.int .i64 0) 1 8 Tryz.undInts hi1 hz1 hs1 hy1 rfl (by decide) (.slice va q vcap) q ((esTo K X q).map fun i => .int .i64 ((i : Nat) : Int)) rfl ?ha0 ⟨w4.heap.size, 0, none⟩ 1 1 [.int .i64 (at_ : Int)] rfl ?ha1 ?ha2 ?ha3 ?ha4 ?ha5 ?ha6 ?_)
      case ha0 => exact owns_on HOq.out (blw_trans HBr4.out (blw_alloc (Below.refl _ _) _))
      case ha1 => rfl
      case ha2 =>
        intro j u hj
        match j, hj with
        | 0, hj => simp at hj; subst hj; simp [Addr.add]
        | n + 1, hj => simp at hj
      case ha3 => intro u hu; simp at hu; subst hu; rfl
      case ha4 => unfold maxLen; omega
      case ha5 => omega
      case ha6 => have := HBw4.out.size; simp; omega
      intro v5 w5 ho5 hg5 _
      have hbt : Below w2.heap.size w2 (w4.alloc (.cells #[.int .i64 (at_ : Int)] 3)) := blw_trans HBw4.out (blw_alloc (Below.refl _ _) _)
      have HB5 : Hid (Below w2.heap.size w2 w5) := by
        refine Below.grown hbt hg5 hbt.size (fun x hx => ?_)
        exact (World.ownsRow.lt HOq.out x hx).1
      have HO5 : Hid (w5.ownsRow w2.heap.size 3 1 v5 (q + 1) ((esTo K X (q + 1)).map fun i => .int .i64 ((i : Nat) : Int))) := by
        show World.ownsRow _ _ _ _ _ _ _
        rw [HES.out, List.map_append]
        exact ho5
      obtain ⟨vz, v0, v1⟩ := HV4.out
      have HV5 : Hid (wr.heap.size < w5.heap.size ∧ w5.cell? ⟨wr.heap.size, 1, none⟩ = some (.int .i64 en.seen)) := by
        have hw : wr.heap.size < (w4.alloc (.cells #[.int .i64 (at_ : Int)] 3)).heap.size := by simp; omega
        refine ⟨Nat.lt_of_lt_of_le hw hg5.size, ?_⟩
        have hx : (w4.alloc (.cells #[.int .i64 (at_ : Int)] 3)).cell? ⟨wr.heap.size, 1, none⟩ = some (.int .i64 en.seen) := (World.cell?_alloc_past _ _ _ vz).trans v1
        refine hg5.cell hx ?_
        intro e
        have := (World.ownsRow.lt HOq.out _ e.symm).2
        simp at this
      clear ho5 hg5 hbt vz v0 v1 HV4 HBw4 HBr4 hz1 hs1 hy1 hi1 HOq
      obtain ⟨d5, f5, hd5⟩ := owns_is HO5.out
      subst hd5
      go_upto_region 13 with fail
      obtain ⟨yz, y0, y1, y2, y3⟩ := HX2.out.later HB5.out
      obtain ⟨vz, v1⟩ := HV5.out
      obtain ⟨b, off, ha, hbl, hf⟩ := (HH.out.later (blw_trans HB2.out HB5.out)).c.at_ at_ HPL.out
      injection ha with ha
      injection ha with ha1 ha2 _
      subst ha1 ha2
      rw [← HC.out, Nat.zero_add] at hf
      have s2 := hf.c2
      have hNE := pst_some w5
      have YZ : ∀ px : Pst w5, w.heap.size < px.W.heap.size := fun px => px.size yz
      have Y2 : ∀ px : Pst w5, px.W.cell? ⟨w.heap.size, 2, none⟩ = some (.slice (some ⟨b1, 0, none⟩) K.cps.length c1) := fun px => px.cell y2 yz
      have VZ : ∀ px : Pst w5, wr.heap.size < px.W.heap.size := fun px => px.size vz
      have V1 : ∀ px : Pst w5, px.W.cell? ⟨wr.heap.size, 1, none⟩ = some (.int .i64 en.seen) := fun px => px.cell v1 vz
      have BZ : ∀ px : Pst w5, b1 < px.W.heap.size := fun px => px.size hbl
      have S2 : ∀ px : Pst w5, px.W.cell? ⟨b1, at_ * 7 + 2, none⟩ = some (.int .i64 c.ver) := fun px => px.cell s2 hbl
      have a0' : (0 : Int) ≤ (at_ : Int) := by omega
      have a1' : (at_ : Int) < (K.cps.length : Int) := by have := HPL.out; omega
      have HAN := hid (and_allTo ss (verAt K X) q)
      obtain ⟨bs, hbs⟩ : ∃ bs, bs = (ss && allTo (verAt K X) q) := ⟨_, rfl⟩
      rw [← hbs] at HAN ⊢
      clear hbs yz y0 y1 y2 y3 vz v1 s2 hbl hf
      cases bs
      · have HA2 : Hid ((ss && allTo (verAt K X) (q + 1)) = false) := by show _ = _; rw [HAN.out]; rfl
        refine region_class w5 (Below.refl _ _) (by kernel_rfl) (by kernel_rfl) ?_
        repeat (first
          | go_big_quiet_skip
          | (go_big_quiet_want; go_big_quiet_op; first | go_big_quiet_on | (apply Exists.intro; refine ⟨fun px => ?_, ?_⟩; (focus (fail)); go_big_quiet_on)))
        refine wpQuiet_nil ?_
        intro _ hw'
        obtain ⟨x6, hw''⟩ := hw'
        subst hw''
        go_wp2
        go_roundw
        case rel => exact ⟨q + 1, by omega, by go_num, by rw [HA2.out], owns_on HO5.out x6.ok, HF1.out, blw_two HB5.out (blw_less x6.ok HB5.out.size)⟩
        case measure => simp [intOf]; omega
      · obtain ⟨vb, hvb⟩ : ∃ vb, vb = (c.ver == en.seen) := ⟨_, rfl⟩
        have HA2 : Hid ((ss && allTo (verAt K X) (q + 1)) = vb) := by show _ = _; rw [HAN.out, HVR.out, hvb]; rfl
        have hvb' : (c.ver == en.seen) = vb := hvb.symm
        clear hvb
        refine region_class w5 (Below.refl _ _) (by kernel_rfl) (by kernel_rfl) ?_
        repeat (first
          | go_big_quiet_skip
          | (go_big_quiet_want; go_big_quiet_op; first | go_big_quiet_on | (apply Exists.intro; refine ⟨fun px => ?_, ?_⟩; (focus (fail)); go_big_quiet_on)))
        refine wpQuiet_nil ?_
        intro _ hw'
        obtain ⟨x6, hw''⟩ := hw'
        subst hw''
        go_wp2
        go_roundw
        case rel => exact ⟨q + 1, by omega, by go_num, by rw [HA2.out], owns_on HO5.out x6.ok, HF1.out, blw_two HB5.out (blw_less x6.ok HB5.out.size)⟩
        case measure => simp [intOf]; omega
    · obtain rfl : q = X.ends.length := by omega
      obtain ⟨va, vcap, hva⟩ := owns_is HOq.out
      subst hva
      obtain ⟨bs, hbs⟩ : ∃ bs, bs = (ss && allTo (verAt K X) X.ends.length) := ⟨_, rfl⟩
      have HR3 : Hid (R = if bs = false then 4 else 0) := by show R = _; rw [HR1.out, hbs, if_neg (by rw [HFq.out]; decide)]
      rw [← hbs]
      clear hbs HR1
      cases bs
      · have HE : Hid (R = 4) := by show R = _; rw [HR3.out]; rfl
        go_wp2
        go_ret2
        exact ⟨Or.inl ⟨by rw [HE.out]; decide, by rw [HE.out]; rfl⟩, blw_trans HB2.out HBq.out⟩
      have HE : Hid (R = 0) := by show R = _; rw [HR3.out]; rfl
      clear HR3
      go_upto_region 17 with fail
      have HXr := hid (HX2.out.later HBq.out)
      have HYr := hid (HY2.out.later HBq.out)
      have HBr := hid (blw_trans HB2.out HBq.out)
      refine RY.region_past wr (Below.refl _ _) (VWo w.heap.size K b0 b1 b2 c0 c1 c2 X ae ce k (.slice va X.ends.length vcap)) (VWo_mono _ K b0 b1 b2 c0 c1 c2 X ae ce k _) (by kernel_rfl) (by kernel_rfl) (by kernel_rfl) (by kernel_rfl) ?_ ?_
      · intro i o ho a W hW hk hd
        obtain ⟨yz, y0, y1, y2, y3⟩ := HXr.out.later hW
        obtain ⟨xz, x0, x1, x2, x3, x4, x5, x6, x7⟩ := HYr.out.later hW
        have et2 : a.tmps[2]?.getD undef = .pointer (some ⟨w.heap.size, 0, none⟩) := (RY.ev_tmp a 2).trans ((hk 2 (by kernel_rfl)).trans rfl)
        have et3 : a.tmps[3]?.getD undef = .pointer (some ⟨w.heap.size + 1, 0, none⟩) := (RY.ev_tmp a 3).trans ((hk 3 (by kernel_rfl)).trans rfl)
        have et6 : a.tmps[6]?.getD undef = .int .i64 (k : Nat) := (RY.ev_tmp a 6).trans ((hk 6 (by kernel_rfl)).trans rfl)
        have et8 : a.tmps[8]?.getD undef = .slice va X.ends.length vcap := (RY.ev_tmp a 8).trans ((hk 8 (by kernel_rfl)).trans rfl)
        match i, ho with
        | 0, ho =>
          injection ho with ho; subst ho
          exact Or.inl ⟨_, W, by simp [execOp, go_sem, et3, x0, x1, x2, x3, x4, x5, x6, x7], Below.refl _ _, rfl⟩
        | 1, ho =>
          injection ho with ho; subst ho
          exact Or.inl ⟨_, W, by simp [execOp, go_sem, et2, y0, y1, y2, y3], Below.refl _ _, rfl⟩
        | 2, ho =>
          injection ho with ho; subst ho
          have e0 : a.tmps[77]?.getD undef = _ := (RY.ev_tmp a 77).trans (hd 1 _ 77 rfl rfl ⟨⟨1, .data⟩, by simp, rfl, rfl⟩)
          refine Or.inr ⟨29, #[.agg #[.int .i64 K.now, .slice (some ⟨b0, 0, none⟩) K.svcs.length c0, .slice (some ⟨b1, 0, none⟩) K.cps.length c1, .slice (some ⟨b2, 0, none⟩) K.bts.length c2]], by simp [go_sem, e0], (copyBookI K b0 b1 b2 c0 c1 c2 W (HH.out.later (blw_trans HBr.out hW)) HSM.out).mono ?_⟩
          rintro e W' ⟨⟨s0, s1, s2, rfl, ho⟩, hb⟩
          exact ⟨_, rfl, hb, s0, s1, s2, rfl, ho.lo (by have := HBr.out.size; have := hW.size; omega)⟩
        | 3, ho =>
          injection ho with ho; subst ho
          exact Or.inl ⟨_, W, by simp [execOp, go_sem, et6], Below.refl _ _, rfl⟩
        | 4, ho =>
          injection ho with ho; subst ho
          exact Or.inl ⟨_, W, by simp [execOp, go_sem, et8], Below.refl _ _, rfl⟩
        | 5, ho =>
          injection ho with ho; subst ho
          have e0 : a.tmps[76]?.getD undef = _ := (RY.ev_tmp a 76).trans (hd 0 _ 76 rfl rfl ⟨⟨0, .data⟩, by simp, rfl, rfl⟩)
          obtain ⟨s0, s1, s2, e1, hbo⟩ := hd 2 _ 78 rfl rfl ⟨⟨2, .data⟩, by simp, rfl, rfl⟩
          have e1 := (RY.ev_tmp a 78).trans e1
          have e2 : a.tmps[79]?.getD undef = _ := (RY.ev_tmp a 79).trans (hd 3 _ 79 rfl rfl ⟨⟨3, .data⟩, by simp, rfl, rfl⟩)
          have e3 : a.tmps[80]?.getD undef = _ := (RY.ev_tmp a 80).trans (hd 4 _ 80 rfl rfl ⟨⟨4, .data⟩, by simp, rfl, rfl⟩)
          exact Or.inl ⟨.agg #[.string X.svc, .int .i64 X.seen, .int .i64 X.create, .int .i64 X.want, .int .i64 X.cool, .bool X.scale, .slice ae X.ends.length ce, .bool X.drop, .int .i64 K.now, s0, s1, s2, .int .i64 (k : Nat), (.slice va X.ends.length vcap)], W, by simp [execOp, go_sem, e0, e1, e2, e3], Below.refl _ _, s0, s1, s2, rfl, hbo⟩
        | 6, ho =>
          injection ho with ho; subst ho
          obtain ⟨s0, s1, s2, e1, hbo⟩ := hd 5 _ 81 rfl rfl ⟨⟨5, .data⟩, by simp, rfl, rfl⟩
          have e1 := (RY.ev_tmp a 81).trans e1
          exact Or.inl ⟨.pointer (some ⟨W.heap.size, 0, none⟩), W.alloc (.cells #[.string X.svc, .int .i64 X.seen, .int .i64 X.create, .int .i64 X.want, .int .i64 X.cool, .bool X.scale, .slice ae X.ends.length ce, .bool X.drop, .int .i64 K.now, s0, s1, s2, .int .i64 (k : Nat), (.slice va X.ends.length vcap)] 115), by simp [execOp, go_sem, e1], blw_alloc (Below.refl _ _) _, W.heap.size, s0, s1, s2, rfl, by have := HBr.out.size; have := hW.size; omega, heap_alloc_new W _, hbo.later (blw_alloc (Below.refl _ _) _)⟩
        | 7, ho =>
          injection ho with ho; subst ho
          obtain ⟨p, s0, s1, s2, e1, hp, hx, hbo⟩ := hd 6 _ 82 rfl rfl ⟨⟨6, .data⟩, by simp, rfl, rfl⟩
          have e1 := (RY.ev_tmp a 82).trans e1
          exact Or.inl ⟨.pointer (some ⟨p, 0, none⟩), W, by simp [execOp, go_sem, e1], Below.refl _ _, p, s0, s1, s2, rfl, hp, hx, hbo⟩
        | n + 8, ho => simp at ho
      intro w6 vs hb hvs
      obtain ⟨p, s0, s1, s2, e14, hp, hx, hbo⟩ := hvs 7 _ 14 rfl rfl
      simp only [RY.putAll, Act.put, List.setIfInBounds_toArray, List.set_cons_zero, List.set_cons_succ]
      rw [e14]
      generalize vs 76 = s76
      generalize vs 77 = s77
      generalize vs 78 = s78
      generalize vs 79 = s79
      generalize vs 80 = s80
      generalize vs 81 = s81
      generalize vs 82 = s82
      clear hvs e14 vs
      obtain ⟨a0', a1', a2', d0', d1', d2', rfl, rfl, rfl, _⟩ := hbo.v
      have hsm := hbo.sm
      have HW6 : Hid (Wk w.heap.size p w6 X (.slice ae X.ends.length ce) K.now K.svcs K.cps K.bts k (esTo K X X.ends.length) a0' a1' a2' va K.svcs.length K.cps.length K.bts.length X.ends.length d0' d1' d2' vcap) :=
        ⟨hx, hp, hbo.o0, hbo.o1, hbo.o2, owns_lo (owns_on HOq.out hb) HB2.out.size, rfl, rfl, rfl, esTo_len K X _, hbo.z0, hbo.z1, hbo.z2, hsm.1, hsm.2.1, hsm.2.2, by omega⟩
      have HB6 := hid (blw_trans HBr.out hb)
      clear hx hp hbo hsm hb HOq HXr HYr
      have c8 : w6.cell? ⟨p, 8, none⟩ = some (.int .i64 K.now) := HW6.out.cell 8
      have f8 := HW6.out.thaw 8
      have hz := HW6.out.lt
      have hwr : IntKind.i64.wrap (K.now + 1) = K.now + 1 := wrapI _ (by omega) (by omega)
      obtain ⟨w7, hw7⟩ : ∃ w7, w7 = w6.setCell ⟨p, 8, none⟩ (.int .i64 (K.now + 1)) := ⟨_, rfl⟩
      have HW7 : Hid (Wk w.heap.size p w7 X (.slice ae X.ends.length ce) (K.now + 1) K.svcs K.cps K.bts k (esTo K X X.ends.length) a0' a1' a2' va K.svcs.length K.cps.length K.bts.length X.ends.length d0' d1' d2' vcap) := by rw [hw7]; exact HW6.out.setNow _
      have HB7 : Hid (Below w.heap.size w w7) := by show Below _ _ _; rw [hw7]; exact blw_sc HB6.out HW6.out.lp _ _
      go_upto_region 19 with fail
      rw [← hw7]
      clear hw7 c8 f8 hz HW6 HB6
      obtain ⟨g, cur, eg, hlo, hgl, hgb, hcs, hsc⟩ := HW7.out.svAt (i := k) HK.out
      subst eg
      have hz := HW7.out.lt
      have c8 : w7.cell? ⟨p, 8, none⟩ = some (.int .i64 (K.now + 1)) := HW7.out.cell 8
      have hNE := pst_some w7
      have PZ : ∀ px : Pst w7, p < px.W.heap.size := fun px => px.size hz
      have C8 : ∀ px : Pst w7, px.W.cell? ⟨p, 8, none⟩ = some (.int .i64 (K.now + 1)) := fun px => px.cell c8 hz
      clear c8
      refine region_qcut w7 (Below.refl _ _) 9 (by kernel_rfl) (by kernel_rfl) (by kernel_rfl) (by kernel_rfl) (by kernel_rfl) (by kernel_rfl) ?_
      simp only [List.take_succ_cons, List.take_zero, List.drop_succ_cons, List.drop_zero]
      repeat (first
        | go_big_quiet_skip
        | (go_big_quiet_want; go_big_quiet_op; first | go_big_quiet_on | (apply Exists.intro; refine ⟨fun px => ?_, ?_⟩; (focus ((go_at_call 96; refine (serviceI (HW7.out.later px.ok) HK.out).mono ?_; rintro e w' ⟨he, hb⟩; exact ⟨he, ⟨w', blw_trans px.ok hb⟩, rfl⟩))); go_big_quiet_on)))
      refine wpQuiet_nil ?_
      intro _ hw'
      obtain ⟨x6, hw''⟩ := hw'
      subst hw''
      obtain ⟨w8, hw8⟩ : ∃ w8, w8 = x6.W := ⟨_, rfl⟩
      have HW8 := hid (HW7.out.later x6.ok)
      have HB8 := hid (blw_trans HB7.out x6.ok)
      rw [← hw8] at HW8 HB8 ⊢
      clear hw8 hNE PZ C8 HW7 HB7 x6 hz hgl hgb hcs hsc
      obtain ⟨g', cur8, eg, hlo8, hgl, hgb, hcs, hsc⟩ := HW8.out.svAt (i := k) HK.out
      injection eg with eg
      injection eg with eg _ _
      subst eg
      have n1 : w8.cell? ⟨g, k * 13 + 1, none⟩ = some (.int .i64 s.ver) := by rw [HS.out]; exact hsc 1 _ rfl
      have f1 := frozen_block hgb (k * 13 + 1)
      have hss : (K.svcs.getD k Sv.none).sized := HW8.out.z0 k HK.out
      have HU := hid (HW8.out.setSv hgb k 1 HK.out (by omega) (.int .i64 (K.now + 1)) (upVer (K.svcs.getD k Sv.none) (K.now + 1)) rfl hss)
      have HB9 := hid (blw_sc HB8.out hlo8 (k * 13 + 1) (.int .i64 (K.now + 1)))
      clear hsc hcs hss
      go_wp2
      go_ret2
      exact ⟨Or.inr ⟨HE.out, k, p, rfl, HIX.out, HK.out, g, a1', a2', va, d0', d1', d2', vcap, HU.out⟩, HB9.out⟩

end Go.Proofs.YtpamkibnahhphaaGreatDoor
