/-
  The sea, by the program: what waits starts.
-/
import Derived.Test.YtclagbakddkjcaaGreatSaE
namespace Go.Proofs.YtclagbakddkjcaaGreat
open Go.RowKit Go.Deep

def V82 (px pb g k n q1 : Nat) (nm : ByteArray) : Nat → Value → Prop
  | 0, u => u = .pointer (some ⟨px, 0, none⟩)
  | 1, u => u = .pointer (some ⟨px, 0, none⟩)
  | 2, u => u = .pointer (some ⟨px, 0, none⟩)
  | 3, u => u = .pointer (some ⟨px, 0, none⟩)
  | 4, u => u = .pointer (some ⟨px, 2, none⟩)
  | 5, u => u = .slice (some ⟨g, 0, none⟩) n q1
  | 6, u => u = .int .i64 (k : Nat)
  | 7, u => u = .pointer (some ⟨pb, 0, none⟩)
  | 8, u => u = .string nm
  | 9, u => u = .pointer (some ⟨g, k * 7, none⟩)
  | 10, u => u = .pointer (some ⟨g, k * 7 + 6, none⟩)
  | _, _ => True

set_option maxRecDepth 8000 in
set_option maxHeartbeats 16000000 in
theorem startI {lo px : Nat} {t : TypeId} {ex : List Value} {R : World} {now : Int} {sv : List Sv} {M0 : List Cp} {bt : List Bt} {p0 p1 p2 : Option Addr} {n0 n n2 q0 q1 q2 : Nat} (K : SBk) (hKs : K.svcs = sv) (hKb : K.bts = bt) (h : XG lo px t ex R now sv M0 bt p0 p1 p2 n0 n n2 q0 q1 q2) (hlo : lo ≤ R.heap.size)
    (hnm : ∀ i, i < bt.length → (bt.getD i Bt.none).nm.toList ≠ []) (hwt : ∀ i, i < M0.length → (M0.getD i Cp.none).state = 1 → (M0.getD i Cp.none).berth.toList = []) :
    Calls Tryz.prog 82 #[.pointer (some ⟨px, 0, none⟩)] R fun e W' => e = .returned (.tuple #[]) ∧ XG lo px t ex W' now sv (stT K now M0 n) bt p0 p1 p2 n0 n n2 q0 q1 q2 ∧ Below lo R W' := by
  have HXG := hid h
  have HLO := hid hlo
  have HNM := hid hnm
  have HWT := hid hwt
  have HKS := hid (And.intro hKs hKb)
  have X0 := h.cell 0 _ rfl
  have X1 := h.cell 1 _ rfl
  have X2 := h.cell 2 _ rfl
  have X3 := h.cell 3 _ rfl
  have xz := lt_heap h.bx
  have HPXL := hid xz
  have HL2 : Hid (bt.length = n2) := h.l2
  have HL1 : Hid (M0.length = n) := h.l1
  have HGL1 : Hid (∀ g, p1 = some ⟨g, 0, none⟩ → lo ≤ g ∧ g < R.heap.size) := fun g e => ⟨(owns_typ h.o1 g e).1, (World.ownsRow.lt h.o1 g (by rw [e]; rfl)).2⟩
  have hm2 := h.m2
  clear h hlo hnm hwt hKs hKb
  go_enter Tryz.func82, Tryz.ntmps82
  go_wp2_with fail
  have hcl : Calls Tryz.prog 99 #[.slice p2 n2 q2] R fun e w' => (∃ v, e = .returned v ∧ w'.ownsRow R.heap.size 79 2 v bt.length (bt.flatMap BtC)) ∧ Below R.heap.size R w' := by
    have := cloneI lo p2 q2 bt R (by rw [HL2.out]; exact HXG.out.o2) (by rw [HL2.out]; exact hm2)
    rw [HL2.out] at this ⊢
    exact this
  refine hcl.mono ?_
  rintro e W1 ⟨⟨v1, rfl, ho1⟩, hb1⟩
  obtain ⟨a1, c1, hv1⟩ := owns_is ho1
  subst hv1
  have HO1 := hid ho1
  have HB1 := hid hb1
  clear hcl ho1 hb1
  go_wp2_with fail
  refine (delFnB 100 #[] (fun args W => by kernel_rfl) (fun b => b.drain) bt R.heap.size a1 c1 W1 HO1.out HXG.out.z2 (by rw [HL2.out]; exact hm2) (fun x W _ => del100 x W)).mono ?_
  rintro e W2 ⟨⟨rfl, ho2⟩, hO2⟩
  have HO2 : Hid (W2.ownsRow R.heap.size 79 2 (.slice a1 (openB bt).length c1) (openB bt).length ((openB bt).flatMap BtC)) := ho2
  have HB2 : Hid (Below R.heap.size R W2) := HB1.out.trans (hO2.lo (fun g e => (owns_typ HO1.out g e).1) HB1.out.size)
  clear ho2 hO2 HO1 X0 X1 X2 X3 xz
  have HX2 := hid (HXG.out.later HB2.out)
  have X0 := HX2.out.cell 0 _ rfl
  have X1 := HX2.out.cell 1 _ rfl
  have X2 := HX2.out.cell 2 _ rfl
  have X3 := HX2.out.cell 3 _ rfl
  have xz := lt_heap HX2.out.bx
  go_wp2_with fail
  have hst : Calls Tryz.prog 101 #[.agg #[.int .i64 now, .slice p0 n0 q0, .slice p1 n q1, .slice p2 n2 q2]] W2 fun e w' => (∃ mb, e = .returned (.map (some mb)) ∧ W2.heap.size ≤ mb ∧ MpAt w' mb (fun nm => standTo M0 nm n)) ∧ Below W2.heap.size W2 w' := by
    have := standingI ⟨now, sv, M0, bt⟩ p0 p1 p2 q0 q1 q2 W2 HX2.out.v
    rw [show (SBk.mk now sv M0 bt).svcs.length = n0 from HX2.out.l0, show (SBk.mk now sv M0 bt).cps.length = n from HX2.out.l1, show (SBk.mk now sv M0 bt).bts.length = n2 from HX2.out.l2] at this
    exact this
  refine hst.mono ?_
  rintro e W3 ⟨⟨mb, rfl, hmb, hM3⟩, hb3⟩
  clear hst X0 X1 X2 X3 xz
  obtain ⟨pm, hpm⟩ : ∃ pm, pm = W3.heap.size := ⟨_, rfl⟩
  obtain ⟨W4, hW4⟩ : ∃ W4, W4 = W3.alloc (.cells #[.map (some mb)] 149) := ⟨_, rfl⟩
  have hb4 : Below W3.heap.size W3 W4 := by rw [hW4]; exact blw_alloc (Below.refl _ _) _
  have hb34 := blw_trans hb3 hb4
  have HX4 := hid (HX2.out.later hb34)
  have HM4 := hid (hM3.later hb4)
  have HO4 := hid (owns_on HO2.out hb34)
  have HP4 : Hid (W4.heap[pm]? = some (.cells #[.map (some mb)] 149 (0, 0))) := by show _ = _; rw [hW4, hpm]; exact World.alloc_heap_new W3 _
  have HB4 : Hid (Below lo R W4) := (HB2.out.trans (hb34.mono HB2.out.size)).mono HLO.out
  have HMB : Hid (R.heap.size ≤ mb ∧ R.heap.size ≤ pm ∧ mb ≠ pm) := by
    have h1 := HB2.out.size
    have h2 := hb3.size
    have h3 := hM3.lt
    exact ⟨by omega, by omega, by omega⟩
  clear hb3 hM3 hb4 hb34 HX2 HO2 hmb HB2 HB1
  go_upto_region 2 with fail
  rw [← hW4, ← hpm]
  clear hW4 hpm
  have X2 := HX4.out.cell 2 _ rfl
  have xz := lt_heap HX4.out.bx
  go_wp2
  clear X2 xz
  obtain ⟨vo, hvo⟩ : ∃ vo, vo = Value.slice a1 (openB bt).length c1 := ⟨_, rfl⟩
  rw [← hvo] at HO4
  have HVO := hid hvo
  clear hvo
  go_loopw [31] (fun j wr => ∃ i : Nat, i ≤ n ∧ j = .int .i64 i ∧ XG lo px t ex wr now sv (stT K now M0 i) bt p0 p1 p2 n0 n n2 q0 q1 q2 ∧ (∃ f, MpAt wr mb f ∧ ∀ nm : ByteArray, nm.toList ≠ [] → f nm = standTo (stT K now M0 i) nm n) ∧ wr.ownsRow R.heap.size 79 2 vo (openB bt).length ((openB bt).flatMap BtC) ∧ wr.heap[pm]? = some (.cells #[.map (some mb)] 149 (0, 0)) ∧ Below lo R wr) (fun j _ => n - (intOf j).toNat)
  case atStart => exact ⟨0, Nat.zero_le _, rfl, HX4.out, ⟨_, HM4.out, fun nm _ => rfl⟩, HO4.out, HP4.out, HB4.out⟩
  case round =>
    obtain ⟨i, hi, rfl, hX, ⟨f, hM, hf⟩, hO, hP, hB⟩ := hrel
    have HX := hid hX
    have HM := hid hM
    have HF := hid hf
    have HO := hid hO
    have HP := hid hP
    have HB := hid hB
    clear hX hM hf hO hP hB
    have hm1 := HX.out.m1
    by_cases hlt : i < n
    · obtain ⟨M, hMM⟩ : ∃ M, M = stT K now M0 i := ⟨_, rfl⟩
      have HNX : Hid (stT K now M0 (i + 1) = tickS K now M i) := by show _ = _; rw [stT, hMM]
      have HML : Hid (M.length = n) := by show _ = _; rw [hMM, stT_len]; exact HL1.out
      have HMI : Hid (M.getD i Cp.none = M0.getD i Cp.none) := by show _ = _; rw [hMM]; exact stT_at K now M0 i i (Nat.le_refl _)
      rw [← hMM] at HX HF
      have HMQ := hid hMM
      clear hMM
      obtain ⟨g, cur, hpg, hgl, hgh, hcs, hcell⟩ := owns_blk HX.out.o1 (Nat.lt_of_le_of_lt (Nat.zero_le _) hlt)
      subst hpg
      obtain ⟨x, hx⟩ : ∃ x, x = M.getD i Cp.none := ⟨_, rfl⟩
      have cell := fun j (hj : j < 7) u (hu : (CpC x)[j]? = some u) => hcell (i * 7 + j) u ((flat_at Cp.none CpC 7 CpC_len M i j (by rw [HML.out]; exact hlt) hj).trans (by rw [← hx]; exact hu))
      have z0 : wr.cell? ⟨g, i * 7, none⟩ = some (.string x.svc) := cell 0 (by omega) _ rfl
      have z1 := cell 1 (by omega) _ rfl
      have z2 := cell 2 (by omega) _ rfl
      have z3 := cell 3 (by omega) _ rfl
      have z4 := cell 4 (by omega) _ rfl
      have z5 := cell 5 (by omega) _ rfl
      have z6 := cell 6 (by omega) _ rfl
      have gz := lt_heap hgh
      have HXE := hid hx
      have HGL := hid hgl
      have hm0 : (0 : Int) ≤ (i : Int) := by omega
      have hm3 : (i : Int) < (n : Int) := by omega
      clear hcell cell hx hgl hcs hgh
      obtain ⟨w1, hw1⟩ : ∃ w1, w1 = wr.alloc (.cells #[.string x.svc, .int .i64 x.num, .int .i64 x.ver, .int .i64 x.image, .int .i64 x.state, .bool x.ending, .string x.berth] 81) := ⟨_, rfl⟩
      have hb1 : Below wr.heap.size wr w1 := by rw [hw1]; exact blw_alloc (Below.refl _ _) _
      obtain ⟨pc, hpc⟩ : ∃ pc, pc = wr.heap.size := ⟨_, rfl⟩
      have hC1 : LBox w1 pc [.string x.svc, .int .i64 x.num, .int .i64 x.ver, .int .i64 x.image, .int .i64 x.state, .bool x.ending, .string x.berth] := by rw [hw1]; exact LBox.new _ _ _ _ hpc
      have f4 := hC1.get 4 _ rfl
      have fz := hC1.lt
      have HX1 := hid (HX.out.later hb1)
      have HM1 := hid (HM.out.later hb1)
      have HO1 := hid (owns_on HO.out hb1)
      have HP1 : Hid (w1.heap[pm]? = some (.cells #[.map (some mb)] 149 (0, 0))) := (hb1.block pm (lt_heap HP.out)).trans HP.out
      have HB1 : Hid (Below lo R w1) := HB.out.trans (hb1.mono (Nat.le_trans HLO.out HB.out.size))
      clear hb1 hC1
      go_upto_region 6 with fail
      rw [← hw1, ← hpc]
      clear hw1 hpc z0 z1 z2 z3 z4 z5 z6 gz HX HM HO HP HB
      by_cases hst : x.state = 1
      · rw [hst] at f4
        have hbe : x.berth.toList = [] := by
          rw [HXE.out, HMI.out]
          exact HWT.out i (by rw [HL1.out]; exact hlt) (by rw [← HMI.out, ← HXE.out]; exact hst)
        have HBE := hid hbe
        have HVQ := HVO.out
        obtain ⟨a2, c2, hBV⟩ : ∃ a c, vo = .slice a (openB bt).length c ∧ BtsV w1 a (openB bt) := by
          refine owns_Bts HO1.out (fun j hj => ?_) ?_
          · exact getD_all _ (p := Bt.sized) _ (fun y hy => all_getD _ (p := Bt.sized) _ HX1.out.z2 y (List.mem_filter.1 hy).1) j hj
          · have : (openB bt).length ≤ bt.length := List.length_filter_le _ _
            have := HL2.out
            unfold maxLen
            omega
        obtain ⟨hvv, hBV⟩ := hBV
        rw [HVQ] at hvv
        injection hvv with hva _ hvc
        subst hva hvc
        have HBV := hid hBV
        clear hBV
        have hol : (openB bt).length ≤ 1048576 := by
          have : (openB bt).length ≤ bt.length := List.length_filter_le _ _
          have := HL2.out
          omega
        have hpmc : w1.cell? ⟨pm, 0, none⟩ = some (.map (some mb)) := by have := HP1.out; simp [World.cell?, this]
        have HPMC := hid hpmc
        have HST := hid hst
        clear hpmc HVQ hbe hst
        go_wp2_with fail
        refine (firstBI (.pointer (some ⟨pm, 0, none⟩)) (fewer f) (openB bt) a1 c1 w1 HBV.out hol (fun x y W hx hy hb => fewerI f x y pm mb W ((hb.cell (p := ⟨pm, 0, none⟩) (lt_heap HP1.out)).trans HPMC.out) (Nat.lt_of_lt_of_le (lt_heap HP1.out) hb.size) (HM1.out.later hb) hx hy)).mono ?_
        rintro e w2 ⟨⟨b, hbb, rfl⟩, hb2⟩
        have HLE : Hid (leastOf ⟨K.now, K.svcs, M, K.bts⟩ = b.nm) := by
          show _ = _
          have e1 := leastOf_best (K := ⟨K.now, K.svcs, M, K.bts⟩) (f := f) (by intro j hj; rw [show (SBk.mk K.now K.svcs M K.bts).bts = bt from HKS.out.2] at hj ⊢; exact HNM.out j hj) (fun nm hn => by rw [show (SBk.mk K.now K.svcs M K.bts).cps = M from rfl, HML.out]; exact HF.out nm hn)
          rw [e1, show (SBk.mk K.now K.svcs M K.bts).bts = bt from HKS.out.2, hbb]
        have HBB := hid hbb
        clear hbb
        obtain ⟨w3, hw3⟩ : ∃ w3, w3 = w2.alloc (.cells #[.string b.nm, .bool b.drain] 79) := ⟨_, rfl⟩
        have hb3 : Below w2.heap.size w2 w3 := by rw [hw3]; exact blw_alloc (Below.refl _ _) _
        have hb23 := blw_trans hb2 hb3
        obtain ⟨pb, hpb⟩ : ∃ pb, pb = w2.heap.size := ⟨_, rfl⟩
        have hC3 : LBox w3 pb [.string b.nm, .bool b.drain] := by rw [hw3]; exact LBox.new _ _ _ _ hpb
        have HX3 := hid (HX1.out.later hb23)
        have HM3 := hid (HM1.out.later hb23)
        have HO3 := hid (owns_on HO1.out hb23)
        have HP3 : Hid (w3.heap[pm]? = some (.cells #[.map (some mb)] 149 (0, 0))) := (hb23.block pm (lt_heap HP1.out)).trans HP1.out
        have HB3 : Hid (Below lo R w3) := HB1.out.trans (hb23.mono (Nat.le_trans HLO.out HB1.out.size))
        have HPB : Hid (R.heap.size ≤ pb ∧ pb ≠ mb) := by
          have h1 := HB1.out.size
          have h2 := hb2.size
          have h3 := (HM1.out.later hb2).lt
          exact ⟨by omega, by omega⟩
        have HC3 := hid hC3
        clear hb2 hb3 hb23 hC3 HX1 HM1 HO1 HP1 HB1 HBV f4 fz
        go_upto_region 8 with fail
        rw [← hw3, ← hpb]
        clear hw3 hpb
        by_cases hop : openB bt = []
        · have hd0 : decide (0 < (openB bt).length) = false := by rw [hop]; rfl
          have HSTOP : Hid (stT K now M0 n = M) := by
            show _ = _
            have e1 := stT_stop (K := K) (by rw [HKS.out.2]; exact hop) now M0 i (n - i)
            rw [show i + (n - i) = n by omega] at e1
            rw [e1, HMQ.out]
          rw [hd0]
          clear hop hd0
          go_wp2
          first | go_end0 | refine bodyPost_ret (results_none rfl _ _ _) rfl ?_
          exact ⟨rfl, by rw [HSTOP.out]; exact HX3.out, HB3.out⟩
        · have hpos : 0 < (openB bt).length := List.length_pos_iff.2 hop
          have hd0 : decide (0 < (openB bt).length) = true := decide_eq_true hpos
          have hmem : b ∈ openB bt := by rw [HBB.out]; exact bestB_mem _ _ _ hpos (Nat.le_refl _)
          have HBN : Hid (b.nm.toList ≠ [] ∧ b.nm.size ≤ maxLen) := by
            have hmb := (List.mem_filter.1 hmem).1
            exact ⟨all_getD Bt.none (p := fun y => y.nm.toList ≠ []) _ HNM.out b hmb, all_getD Bt.none (p := Bt.sized) _ HX3.out.z2 b hmb⟩
          rw [hd0]
          have HTS : Hid (stT K now M0 (i + 1) = M.set i ⟨x.svc, x.num, now, x.image, 2, x.ending, b.nm⟩) := by
            show _ = _
            rw [HNX.out, tickS, HLE.out, ← HXE.out]
            have : (x.state == 1) = true := by rw [HST.out]; rfl
            rw [this, show b.nm.toList.isEmpty = false from by rw [List.isEmpty_eq_false_iff]; exact HBN.out.1]
            rfl
          clear hop hd0 hmem HBB hpos
          have hfb : f b.nm = standTo M b.nm n := HF.out b.nm HBN.out.1
          have hsl := standTo_le M b.nm n
          have hwr : IntKind.i64.wrap (f b.nm + 1) = f b.nm + 1 := by rw [hfb]; simp [IntKind.wrap, IntKind.bits, IntKind.signed]; omega
          have hlk := mp_look HM3.out b.nm HBN.out.2
          obtain ⟨w4, hup, hM4, hX4⟩ := mp_put HM3.out b.nm HBN.out.2 (f b.nm + 1)
          have HM4 := hid hM4
          have HXm : Hid (BelX mb w3 w4) := hX4
          have pz := lt_heap HP3.out
          have pcell : w3.cell? ⟨pm, 0, none⟩ = some (.map (some mb)) := by have := HP3.out; simp [World.cell?, this]
          have bz := HC3.out.lt
          have bcell := HC3.out.get 0 _ rfl
          clear hM4 hX4 hfb hsl
          have hpxmb : px ≠ mb := by have := HPXL.out; have := HMB.out.1; omega
          have HX4 : Hid (XG lo px t ex w4 now sv M bt p0 (some ⟨g, 0, none⟩) p2 n0 n n2 q0 q1 q2) := by
            have hne : ∀ {e : TypeId} {s m c : Nat} {p : Option Addr} {xs : List Value}, w3.ownsRow lo e s (.slice p m c) m xs → w4.ownsRow lo e s (.slice p m c) m xs := by
              intro e s m c p xs ho
              refine ⟨ho.1, ho.2.imp id ?_⟩
              rintro ⟨g', cap, cu, e1, e2, e3, e4⟩
              refine ⟨g', cap, cu, e1, e2, (HXm.out.block g' (lt_heap e3) (fun q => ?_)).trans e3, e4⟩
              subst q
              obtain ⟨es, cc, q1, _⟩ := HM3.out
              rw [q1] at e3
              cases e3
            exact ⟨HX3.out.nr, (HXm.out.block px (lt_heap HX3.out.bx) hpxmb).trans HX3.out.bx, hne HX3.out.o0, hne HX3.out.o1, hne HX3.out.o2, HX3.out.l0, HX3.out.l1, HX3.out.l2, HX3.out.z0, HX3.out.z1, HX3.out.z2, HX3.out.m0, HX3.out.m1, HX3.out.m2⟩
          have HO4' : Hid (w4.ownsRow R.heap.size 79 2 vo (openB bt).length ((openB bt).flatMap BtC)) := by
            refine ⟨HO3.out.1, HO3.out.2.imp id ?_⟩
            rintro ⟨g', cap, cu, e1, e2, e3, e4⟩
            refine ⟨g', cap, cu, e1, e2, (HXm.out.block g' (lt_heap e3) (fun q => ?_)).trans e3, e4⟩
            subst q
            obtain ⟨es, cc, q1, _⟩ := HM3.out
            rw [q1] at e3
            cases e3
          have HP4' : Hid (w4.heap[pm]? = some (.cells #[.map (some mb)] 149 (0, 0))) := (HXm.out.block pm pz (fun q => HMB.out.2.2 q.symm)).trans HP3.out
          have HC4 : Hid (LBox w4 pb [.string b.nm, .bool b.drain]) := ⟨Nat.lt_of_lt_of_le bz HXm.out.size, fun j u hu => (World.cell?_of_block (w := w3) (HXm.out.block pb bz HPB.out.2)).trans (HC3.out.at_ j u hu)⟩
          have HB4' : Hid (Below lo R w4) := HB3.out.trans (HXm.out.lo (Nat.le_trans HLO.out HMB.out.1) (Nat.le_trans HLO.out HB3.out.size))
          clear hpxmb
          go_upto_region 10 with fail
          clear hlk hup hwr pz pcell bz bcell HX3 HM3 HO3 HP3 HC3 HB3
          have X2 := HX4.out.cell 2 _ rfl
          have XB := HC4.out.get 0 _ rfl
          have hpl := lt_heap HX4.out.bx
          have hpbl := HC4.out.lt
          obtain ⟨g', cur, e', _, hgh, _, hcell⟩ := owns_blk HX4.out.o1 (Nat.lt_of_le_of_lt (Nat.zero_le _) hlt)
          cases e'
          have hne := HX4.out.ne hgh HX4.out.nr.2.1
          have HGR : Hid (g < R.heap.size) := (HGL1.out g rfl).2
          have hbg : pb ≠ g := by have := HPB.out.1; have := HGR.out; omega
          have C6 : cur[i * 7 + 6]? = some (.string x.berth) := by
            have := hcell (i * 7 + 6) (.string x.berth) ((flat_at Cp.none CpC 7 CpC_len M i 6 (by rw [HML.out]; exact hlt) (by omega)).trans (by rw [← HXE.out]; rfl))
            simpa [World.cell?, hgh] using this
          obtain ⟨k, hkk⟩ : ∃ k, k = i := ⟨_, rfl⟩
          obtain ⟨nm, hnmm⟩ : ∃ nm, nm = b.nm := ⟨_, rfl⟩
          rw [← hnmm] at XB
          rw [← hkk] at C6 hm0 hm3 ⊢
          refine RY.region_TC (V82 px pb g k n q1 nm) (T1 w4 g 81 cur (cur.setIfInBounds (k * 7 + 6) (.string nm)) 11) (by kernel_rfl) (by kernel_rfl) (by kernel_rfl) (by kernel_rfl) ?_ ?_ ?_
          · intro vals
            exact ⟨(BelX.refl g w4).drew, hgh⟩
          · intro up vals i' o ho hi hcl a W hk hd hT
            obtain ⟨hX, hH⟩ := hT
            have x2 := (hX.cell hpl hne 2).trans X2
            have xb := (hX.cell hpbl hbg 0).trans XB
            match i', ho with
            | 0, ho =>
              injection ho with ho; subst ho
              have e0 : a.tmps[0]?.getD undef = .pointer (some ⟨px, 0, none⟩) := (RY.ev_tmp a 0).trans ((hk 0 (by kernel_rfl)).trans rfl)
              exact Or.inl ⟨.pointer (some ⟨px, 0, none⟩), W, by simp [execOp, go_sem, e0], rfl, rfl, hX, hH⟩
            | 1, ho =>
              injection ho with ho; subst ho
              have d0 := hd 0 _ 52 rfl rfl ⟨⟨0, .data⟩, by simp, rfl, rfl⟩
              have e0 : a.tmps[52]?.getD undef = .pointer (some ⟨px, 0, none⟩) := (RY.ev_tmp a 52).trans (d0.2.1.trans d0.2.2)
              exact Or.inl ⟨.pointer (some ⟨px, 0, none⟩), W, by simp [execOp, go_sem, e0], rfl, rfl, hX, hH⟩
            | 2, ho =>
              injection ho with ho; subst ho
              have d0 := hd 1 _ 53 rfl rfl ⟨⟨1, .data⟩, by simp, rfl, rfl⟩
              have e0 : a.tmps[53]?.getD undef = .pointer (some ⟨px, 0, none⟩) := (RY.ev_tmp a 53).trans (d0.2.1.trans d0.2.2)
              exact Or.inl ⟨.pointer (some ⟨px, 0, none⟩), W, by simp [execOp, go_sem, e0], rfl, rfl, hX, hH⟩
            | 3, ho =>
              injection ho with ho; subst ho
              have d0 := hd 2 _ 54 rfl rfl ⟨⟨2, .data⟩, by simp, rfl, rfl⟩
              have e0 : a.tmps[54]?.getD undef = .pointer (some ⟨px, 0, none⟩) := (RY.ev_tmp a 54).trans (d0.2.1.trans d0.2.2)
              exact Or.inl ⟨.pointer (some ⟨px, 0, none⟩), W, by simp [execOp, go_sem, e0], rfl, rfl, hX, hH⟩
            | 4, ho =>
              injection ho with ho; subst ho
              have d0 := hd 3 _ 55 rfl rfl ⟨⟨3, .data⟩, by simp, rfl, rfl⟩
              have e0 : a.tmps[55]?.getD undef = .pointer (some ⟨px, 0, none⟩) := (RY.ev_tmp a 55).trans (d0.2.1.trans d0.2.2)
              exact Or.inl ⟨.pointer (some ⟨px, 2, none⟩), W, by simp [execOp, go_sem, e0], rfl, rfl, hX, hH⟩
            | 5, ho =>
              injection ho with ho; subst ho
              have d0 := hd 4 _ 56 rfl rfl ⟨⟨4, .data⟩, by simp, rfl, rfl⟩
              have e0 : a.tmps[56]?.getD undef = .pointer (some ⟨px, 2, none⟩) := (RY.ev_tmp a 56).trans (d0.2.1.trans d0.2.2)
              exact Or.inl ⟨.slice (some ⟨g, 0, none⟩) n q1, W, by simp [execOp, go_sem, e0, x2], rfl, rfl, hX, hH⟩
            | 6, ho =>
              injection ho with ho; subst ho
              have e0 : a.tmps[5]?.getD undef = .int .i64 (k : Nat) := (RY.ev_tmp a 5).trans ((hk 5 (by kernel_rfl)).trans rfl)
              exact Or.inl ⟨.int .i64 (k : Nat), W, by simp [execOp, go_sem, e0], rfl, rfl, hX, hH⟩
            | 7, ho =>
              injection ho with ho; subst ho
              have e0 : a.tmps[7]?.getD undef = .pointer (some ⟨pb, 0, none⟩) := (RY.ev_tmp a 7).trans ((hk 7 (by kernel_rfl)).trans rfl)
              exact Or.inl ⟨.pointer (some ⟨pb, 0, none⟩), W, by simp [execOp, go_sem, e0], rfl, rfl, hX, hH⟩
            | 8, ho =>
              injection ho with ho; subst ho
              have d0 := hd 7 _ 59 rfl rfl ⟨⟨7, .data⟩, by simp, rfl, rfl⟩
              have e0 : a.tmps[59]?.getD undef = .pointer (some ⟨pb, 0, none⟩) := (RY.ev_tmp a 59).trans (d0.2.1.trans d0.2.2)
              exact Or.inl ⟨.string nm, W, by simp [execOp, go_sem, e0, xb], rfl, rfl, hX, hH⟩
            | 9, ho =>
              injection ho with ho; subst ho
              have d0 := hd 5 _ 57 rfl rfl ⟨⟨5, .data⟩, by simp, rfl, rfl⟩
              have e0 : a.tmps[57]?.getD undef = .slice (some ⟨g, 0, none⟩) n q1 := (RY.ev_tmp a 57).trans (d0.2.1.trans d0.2.2)
              have d1 := hd 6 _ 58 rfl rfl ⟨⟨6, .data⟩, by simp, rfl, rfl⟩
              have e1 : a.tmps[58]?.getD undef = .int .i64 (k : Nat) := (RY.ev_tmp a 58).trans (d1.2.1.trans d1.2.2)
              exact Or.inl ⟨.pointer (some ⟨g, k * 7, none⟩), W, by simp [execOp, go_sem, e0, e1, hm0, hm3], rfl, rfl, hX, hH⟩
            | 10, ho =>
              injection ho with ho; subst ho
              have d0 := hd 9 _ 61 rfl rfl ⟨⟨9, .data⟩, by simp, rfl, rfl⟩
              have e0 : a.tmps[61]?.getD undef = .pointer (some ⟨g, k * 7, none⟩) := (RY.ev_tmp a 61).trans (d0.2.1.trans d0.2.2)
              exact Or.inl ⟨.pointer (some ⟨g, k * 7 + 6, none⟩), W, by simp [execOp, go_sem, e0], rfl, rfl, hX, hH⟩
            | 11, ho =>
              injection ho with ho; subst ho
              have d0 := hd 10 _ 62 rfl rfl ⟨⟨10, .data⟩, by simp, rfl, rfl⟩
              have e0 : a.tmps[62]?.getD undef = .pointer (some ⟨g, k * 7 + 6, none⟩) := (RY.ev_tmp a 62).trans (d0.2.1.trans d0.2.2)
              have d1 := hd 8 _ 60 rfl rfl ⟨⟨8, .data⟩, by simp, rfl, rfl⟩
              have e1 : a.tmps[60]?.getD undef = .string nm := (RY.ev_tmp a 60).trans (d1.2.1.trans d1.2.2)
              rw [hi] at hH
              have hH : W.heap[g]? = some (.cells cur 81 (0, 0)) := hH
              have y : W.cell? ⟨g, k * 7 + 6, none⟩ = some (.string x.berth) := by simp only [World.cell?, hH]; exact C6
              have fz : ∀ j, W.frozen? ⟨g, j, none⟩ = false := fun j => by simp [World.frozen?, hH]
              refine Or.inr (Or.inl ⟨W.setCell ⟨g, k * 7 + 6, none⟩ (.string nm), by simp [execOp, go_sem, e0, e1, y, fz], rfl, hX.sc _ _, ?_⟩)
              exact heap_setCell_same W g _ _ _ _ hH
            | n + 12, ho => simp at ho
          · intro up vals vs w5 hall hv hT
            have h11 := hall 11 (by decide)
            obtain ⟨hX, hH⟩ := hT
            rw [h11] at hH
            have hH : w5.heap[g]? = some (.cells (cur.setIfInBounds (k * 7 + 6) (.string nm)) 81 (0, 0)) := hH
            subst hkk hnmm
            simp only [RY.putAll, Act.put, List.setIfInBounds_toArray, List.set_cons_zero, List.set_cons_succ]
            generalize vs 52 = s52
            generalize vs 53 = s53
            generalize vs 54 = s54
            generalize vs 55 = s55
            generalize vs 56 = s56
            generalize vs 57 = s57
            generalize vs 58 = s58
            generalize vs 59 = s59
            generalize vs 60 = s60
            generalize vs 61 = s61
            generalize vs 62 = s62
            have HX5 : Hid (XG lo px t ex w5 now sv (M.set k ⟨x.svc, x.num, x.ver, x.image, x.state, x.ending, b.nm⟩) bt p0 (some ⟨g, 0, none⟩) p2 n0 n n2 q0 q1 q2) := by
              refine HX4.out.cps hgh hX ((hX.block px hpl hne).trans HX4.out.bx) ?_ (by rw [List.length_set]; exact HML.out) (fun j hj => ?_) HX4.out.m1
              · have e1 := owns_set HX4.out.o1 (k * 7 + 6) (.string b.nm)
                rw [flat_set Cp.none CpC 7 CpC_len 6 (by omega) (.string b.nm) M k ⟨x.svc, x.num, x.ver, x.image, x.state, x.ending, b.nm⟩ (by rw [HML.out]; exact hlt) (by rw [← HXE.out]; rfl)] at e1
                rcases e1.2 with ⟨q, _⟩ | ⟨g'', cap, cu, w1', w2', w3', w4'⟩
                · cases q
                · cases w1'
                  refine ⟨e1.1, Or.inr ⟨g, _, cu, rfl, w2', ?_, w4'⟩⟩
                  rw [hH]
                  rw [heap_setCell_same w4 g _ _ _ _ hgh] at w3'
                  exact w3'
              · rw [List.length_set] at hj
                by_cases e : k = j
                · subst e
                  rw [show (M.set k _).getD k Cp.none = (⟨x.svc, x.num, x.ver, x.image, x.state, x.ending, b.nm⟩ : Cp) from by simp [hj]]
                  have hz := HX4.out.z1 k hj
                  rw [← HXE.out] at hz
                  exact ⟨hz.1, HBN.out.2⟩
                · rw [show (M.set k (⟨x.svc, x.num, x.ver, x.image, x.state, x.ending, b.nm⟩ : Cp)).getD j Cp.none = M.getD j Cp.none from by simp [e]]; exact HX4.out.z1 j hj
            have HM5 : Hid (MpAt w5 mb (updF f b.nm (f b.nm + 1))) := HM4.out.of (hX.block mb HM4.out.lt (fun q => by have := HMB.out.1; have := HGR.out; omega))
            have HO5 : Hid (w5.ownsRow R.heap.size 79 2 vo (openB bt).length ((openB bt).flatMap BtC)) := owns_belx HO4'.out hX hgh t_bc
            have HP5 : Hid (w5.heap[pm]? = some (.cells #[.map (some mb)] 149 (0, 0))) := (hX.block pm (lt_heap HP4'.out) (fun q => by have := HMB.out.2.1; have := HGR.out; omega)).trans HP4'.out
            have HB5 : Hid (Below lo R w5) := HB4'.out.trans (hX.lo HGL.out (Nat.le_trans HLO.out HB4'.out.size))
            clear hX hH hv hall h11 hgh hne hpl hpbl hbg X2 XB C6 hcell HX4 HM4 HO4' HP4' HC4 HB4' HXm
            have xz := lt_heap HX5.out.bx
            go_wp2_with fail
            refine (turnI HX5.out k (by rw [List.length_set, HML.out]; exact hlt) 2).mono ?_
            rintro e w6 ⟨rfl, hX6, g', hg', hBX⟩
            cases hg'
            have HX6 : Hid (XG lo px t ex w6 now sv (stT K now M0 (k + 1)) bt p0 (some ⟨g, 0, none⟩) p2 n0 n n2 q0 q1 q2) := by
              rw [HTS.out]
              rw [show (M.set k (⟨x.svc, x.num, x.ver, x.image, x.state, x.ending, b.nm⟩ : Cp)).getD k Cp.none = ⟨x.svc, x.num, x.ver, x.image, x.state, x.ending, b.nm⟩ from by simp [show k < M.length from by rw [HML.out]; exact hlt], List.set_set] at hX6
              exact hX6
            have HM6 : Hid (MpAt w6 mb (updF f b.nm (f b.nm + 1))) := HM5.out.of (hBX.block mb HM5.out.lt (fun q => by have := HMB.out.1; have := HGR.out; omega))
            have HO6 : Hid (w6.ownsRow R.heap.size 79 2 vo (openB bt).length ((openB bt).flatMap BtC)) := by
              obtain ⟨cu, hcu⟩ := (owns_typ HX5.out.o1 g rfl).2
              exact owns_belx HO5.out hBX hcu t_bc
            have HP6 : Hid (w6.heap[pm]? = some (.cells #[.map (some mb)] 149 (0, 0))) := (hBX.block pm (lt_heap HP5.out) (fun q => by have := HMB.out.2.1; have := HGR.out; omega)).trans HP5.out
            have HB6 : Hid (Below lo R w6) := HB5.out.trans (hBX.lo HGL.out (Nat.le_trans HLO.out HB5.out.size))
            have HF6 : Hid (∀ nm : ByteArray, nm.toList ≠ [] → updF f b.nm (f b.nm + 1) nm = standTo (stT K now M0 (k + 1)) nm n) := by
              intro nm hn
              rw [HTS.out, stand_set M k _ nm (by rw [HML.out]; exact hlt) n, if_pos hlt, ← HXE.out]
              have hx0 : same x.berth nm = false := by
                rw [Bool.eq_false_iff]
                intro q
                have := (same_iff _ _).1 q
                rw [← this] at hn
                exact hn HBE.out
              rw [hx0]
              unfold updF
              by_cases hs : same nm b.nm = true
              · have e := (same_iff _ _).1 hs
                subst e
                rw [if_pos hs, if_pos hs, HF.out _ hn]
                rfl
              · rw [if_neg hs, if_neg (fun q => hs ((same_iff _ _).2 ((same_iff _ _).1 q).symm)), HF.out nm hn]
                exact (Int.add_zero _).symm
            clear hX6 hBX xz
            go_wp2
            go_roundw
            case rel => first | exact ⟨k + 1, by omega, by go_num, HX6.out, ⟨_, HM6.out, HF6.out⟩, HO6.out, HP6.out, HB6.out⟩ | ((repeat apply Exists.intro); exact ⟨⟨k + 1, by omega, by go_num, HX6.out, ⟨_, HM6.out, HF6.out⟩, HO6.out, HP6.out, HB6.out⟩, rfl⟩)
            case measure => simp [intOf]; omega
      · have hsb : (x.state != 1) = true := by simpa using hst
        have HTS : Hid (stT K now M0 (i + 1) = M) := by
          show _ = _
          rw [HNX.out, tickS, ← HXE.out, show (x.state == 1) = false from by simpa using hst]
          rfl
        clear hst
        go_wp2
        go_roundw
        case rel => exact ⟨i + 1, by omega, by go_num, by rw [HTS.out]; exact HX1.out, ⟨f, HM1.out, by rw [HTS.out]; exact HF.out⟩, HO1.out, HP1.out, HB1.out⟩
        case measure => simp [intOf]; omega
    · obtain rfl : i = n := by omega
      go_wp2
      first | go_end0 | refine bodyPost_ret (results_none rfl _ _ _) rfl ?_
      exact ⟨rfl, HX.out, HB.out⟩

end Go.Proofs.YtclagbakddkjcaaGreat
