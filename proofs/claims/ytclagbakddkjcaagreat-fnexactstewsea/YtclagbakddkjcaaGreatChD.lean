/-
  The sea, by the program: a load.
-/
import Derived.Test.YtclagbakddkjcaaGreatChC
namespace Go.Proofs.YtclagbakddkjcaaGreat
open Go.RowKit Go.Deep

def cw2 (i j : Nat) (u v : Value) (cur : Array Value) (b c : Bool) : Array Value := if c then (cur.setIfInBounds i u).setIfInBounds j v else if b then cur.setIfInBounds i u else cur
def T2 (R : World) (g : Nat) (e : TypeId) (i j : Nat) (u v : Value) (cur : Array Value) (s1 s2 : Nat) (up : Nat → Bool) (_ : Nat → Value) (W : World) : Prop := BelX g R W ∧ W.heap[g]? = some (.cells (cw2 i j u v cur (up s1) (up s2)) e (0, 0)) ∧ (up s2 = true → up s1 = true)
/-- Behind what changes the row of services alone. -/
theorem XG.svs {lo px : Nat} {t : TypeId} {ex : List Value} {W W' : World} {now : Int} {sv : List Sv} {cp : List Cp} {bt : List Bt} {p0 p1 p2 : Option Addr} {n0 n1 n2 q0 q1 q2 : Nat} {g : Nat} (h : XG lo px t ex W now sv cp bt p0 p1 p2 n0 n1 n2 q0 q1 q2) {cur : Array Value} (hg : W.heap[g]? = some (.cells cur 41 (0, 0))) (hX : BelX g W W') {sv' : List Sv} {p0' : Option Addr} {n0' q0' : Nat} (hb : W'.heap[px]? = some (.cells (.int .i64 now :: .slice p0' n0' q0' :: .slice p1 n1 q1 :: .slice p2 n2 q2 :: ex).toArray t (0, 0))) (ho : W'.ownsRow lo 41 13 (.slice p0' n0' q0') n0' (sv'.flatMap SvC)) (hl : sv'.length = n0') (hz : ∀ i, i < sv'.length → (sv'.getD i Sv.none).sized) (hm : n0' ≤ 1048576) : XG lo px t ex W' now sv' cp bt p0' p1 p2 n0' n1 n2 q0' q1 q2 :=
  ⟨h.nr, hb, ho, owns_belx h.o1 hX hg t_cs, owns_belx h.o2 hX hg t_bs, hl, h.l1, h.l2, hz, h.z1, h.z2, hm, h.m1, h.m2⟩
def bearOk (sv : List Sv) (nm : ByteArray) : Bool := decide (0 ≤ svIx sv nm) && !((sv.getD (svIx sv nm).toNat Sv.none).per == 0)
def bearTo (sv : List Sv) (now : Int) (nm : ByteArray) (ld : Int) : List Sv := if bearOk sv nm then sv.set (svIx sv nm).toNat (loadS (sv.getD (svIx sv nm).toNat Sv.none) now ld) else sv
def V61 (px : Nat) (now : Int) (sv : List Sv) (cp : List Cp) (bt : List Bt) (p0 p1 p2 : Option Addr) (q0 q1 q2 : Nat) (nm : ByteArray) (i : Nat) (u : Value) (_ : World) : Prop := match i with
  | 0 => u = .pointer (some ⟨px, 0, none⟩)
  | 1 => u = .pointer (some ⟨px, 0, none⟩)
  | 2 => u = .pointer (some ⟨px, 0, none⟩)
  | 3 => u = .pointer (some ⟨px, 0, none⟩)
  | 4 => u = .agg #[.int .i64 now, .slice p0 sv.length q0, .slice p1 cp.length q1, .slice p2 bt.length q2]
  | 5 => u = .pointer (some ⟨px, 0, none⟩)
  | 6 => u = .pointer (some ⟨px, 0, none⟩)
  | 7 => u = .pointer (some ⟨px, 4, none⟩)
  | 8 => u = .string nm
  | 9 => u = .tuple #[.int .i64 (svAt sv nm), .bool (decide (0 ≤ svIx sv nm))]
  | 10 => u = .tuple #[.int .i64 (svAt sv nm), .bool (decide (0 ≤ svIx sv nm))]
  | 11 => u = .int .i64 (svAt sv nm)
  | 12 => u = .bool (decide (0 ≤ svIx sv nm))
  | 13 => u = .int .i64 (svAt sv nm)
  | 14 => u = .bool (decide (0 ≤ svIx sv nm))
  | _ => True

def V61s (px g k : Nat) (now ld : Int) (n0 q0 : Nat) : Nat → Value → Prop
  | 0, u => u = .pointer (some ⟨px, 0, none⟩)
  | 1, u => u = .pointer (some ⟨px, 0, none⟩)
  | 2, u => u = .pointer (some ⟨px, 0, none⟩)
  | 3, u => u = .pointer (some ⟨px, 0, none⟩)
  | 4, u => u = .pointer (some ⟨px, 1, none⟩)
  | 5, u => u = .slice (some ⟨g, 0, none⟩) n0 q0
  | 6, u => u = .int .i64 (k : Nat)
  | 7, u => u = .pointer (some ⟨px, 0, none⟩)
  | 8, u => u = .pointer (some ⟨px, 0, none⟩)
  | 9, u => u = .pointer (some ⟨px, 0, none⟩)
  | 10, u => u = .pointer (some ⟨px, 0, none⟩)
  | 11, u => u = .pointer (some ⟨px, 1, none⟩)
  | 12, u => u = .slice (some ⟨g, 0, none⟩) n0 q0
  | 13, u => u = .int .i64 (k : Nat)
  | 14, u => u = .pointer (some ⟨px, 0, none⟩)
  | 15, u => u = .pointer (some ⟨px, 0, none⟩)
  | 16, u => u = .pointer (some ⟨px, 5, none⟩)
  | 17, u => u = .int .i64 ld
  | 18, u => u = .pointer (some ⟨px, 0, none⟩)
  | 19, u => u = .pointer (some ⟨px, 0, none⟩)
  | 20, u => u = .pointer (some ⟨px, 0, none⟩)
  | 21, u => u = .pointer (some ⟨px, 0, none⟩)
  | 22, u => u = .pointer (some ⟨px, 0, none⟩)
  | 23, u => u = .int .i64 now
  | 24, u => u = .pointer (some ⟨g, k * 13, none⟩)
  | 25, u => u = .pointer (some ⟨g, k * 13 + 11, none⟩)
  | 27, u => u = .pointer (some ⟨g, k * 13, none⟩)
  | 28, u => u = .pointer (some ⟨g, k * 13 + 1, none⟩)
  | _, _ => True

set_option maxRecDepth 8000 in
set_option maxHeartbeats 16000000 in
theorem bearI {lo px : Nat} {t : TypeId} {nm : ByteArray} {ld : Int} {R : World} {now : Int} {sv : List Sv} {cp : List Cp} {bt : List Bt} {p0 p1 p2 : Option Addr} {q0 q1 q2 : Nat} (h : XG lo px t [.string nm, .int .i64 ld] R now sv cp bt p0 p1 p2 sv.length cp.length bt.length q0 q1 q2) (hap : Apart ⟨now, sv, cp, bt⟩) (hsz : nm.size ≤ maxLen) (hlo : lo ≤ R.heap.size) :
    Calls Tryz.prog 61 #[.pointer (some ⟨px, 0, none⟩)] R fun e W' => e = .returned (.int .i64 (if bearOk sv nm then (if sbOk ⟨now, bearTo sv now nm ld, cp, bt⟩ then 0 else 2) else 3)) ∧ XG lo px t [.string nm, .int .i64 ld] W' now (bearTo sv now nm ld) cp bt p0 p1 p2 sv.length cp.length bt.length q0 q1 q2 ∧ Below lo R W' := by
  obtain ⟨r, hr⟩ : ∃ r : Int, r = (if bearOk sv nm then (if sbOk ⟨now, bearTo sv now nm ld, cp, bt⟩ then 0 else 2) else 3) := ⟨_, rfl⟩
  rw [← hr]
  have HRE := hid hr
  clear hr
  have HXG := hid h
  have HV := hid h.v
  have HLO := hid hlo
  have X0 := h.cell 0 _ rfl
  have X1 := h.cell 1 _ rfl
  have X2 := h.cell 2 _ rfl
  have X3 := h.cell 3 _ rfl
  have X4 := h.cell 4 _ rfl
  have HXL := lt_heap h.bx
  clear h hlo
  go_enter Tryz.func61, Tryz.ntmps61
  go_upto_region 1 with fail
  refine RY.region_past R (Below.refl _ _) (V61 px now sv cp bt p0 p1 p2 q0 q1 q2 nm) (fun j u W W' _ h => h) (by kernel_rfl) (by kernel_rfl) (by kernel_rfl) (by kernel_rfl) ?_ ?_
  · intro i o ho a W hW hk hd
    have x0 := (hW.cell (p := ⟨px, 0, none⟩) HXL).trans X0
    have x1 := (hW.cell (p := ⟨px, 1, none⟩) HXL).trans X1
    have x2 := (hW.cell (p := ⟨px, 2, none⟩) HXL).trans X2
    have x3 := (hW.cell (p := ⟨px, 3, none⟩) HXL).trans X3
    have x4 := (hW.cell (p := ⟨px, 4, none⟩) HXL).trans X4
    match i, ho with
    | 0, ho =>
      injection ho with ho; subst ho
      have e0 : a.tmps[0]?.getD undef = .pointer (some ⟨px, 0, none⟩) := (RY.ev_tmp a 0).trans ((hk 0 (by kernel_rfl)).trans rfl)
      exact Or.inl ⟨.pointer (some ⟨px, 0, none⟩), W, by simp [execOp, go_sem, e0], Below.refl _ _, rfl⟩
    | 1, ho =>
      injection ho with ho; subst ho
      have d0 := hd 0 _ 6 rfl rfl ⟨⟨0, .data⟩, by simp, rfl, rfl⟩
      have e0 : a.tmps[6]?.getD undef = .pointer (some ⟨px, 0, none⟩) := (RY.ev_tmp a 6).trans d0
      exact Or.inl ⟨.pointer (some ⟨px, 0, none⟩), W, by simp [execOp, go_sem, e0], Below.refl _ _, rfl⟩
    | 2, ho =>
      injection ho with ho; subst ho
      have d0 := hd 1 _ 7 rfl rfl ⟨⟨1, .data⟩, by simp, rfl, rfl⟩
      have e0 : a.tmps[7]?.getD undef = .pointer (some ⟨px, 0, none⟩) := (RY.ev_tmp a 7).trans d0
      exact Or.inl ⟨.pointer (some ⟨px, 0, none⟩), W, by simp [execOp, go_sem, e0], Below.refl _ _, rfl⟩
    | 3, ho =>
      injection ho with ho; subst ho
      have d0 := hd 2 _ 8 rfl rfl ⟨⟨2, .data⟩, by simp, rfl, rfl⟩
      have e0 : a.tmps[8]?.getD undef = .pointer (some ⟨px, 0, none⟩) := (RY.ev_tmp a 8).trans d0
      exact Or.inl ⟨.pointer (some ⟨px, 0, none⟩), W, by simp [execOp, go_sem, e0], Below.refl _ _, rfl⟩
    | 4, ho =>
      injection ho with ho; subst ho
      have d0 := hd 3 _ 9 rfl rfl ⟨⟨3, .data⟩, by simp, rfl, rfl⟩
      have e0 : a.tmps[9]?.getD undef = .pointer (some ⟨px, 0, none⟩) := (RY.ev_tmp a 9).trans d0
      exact Or.inl ⟨.agg #[.int .i64 now, .slice p0 sv.length q0, .slice p1 cp.length q1, .slice p2 bt.length q2], W, by simp [execOp, go_sem, e0, x0, x1, x2, x3], Below.refl _ _, rfl⟩
    | 5, ho =>
      injection ho with ho; subst ho
      have e0 : a.tmps[0]?.getD undef = .pointer (some ⟨px, 0, none⟩) := (RY.ev_tmp a 0).trans ((hk 0 (by kernel_rfl)).trans rfl)
      exact Or.inl ⟨.pointer (some ⟨px, 0, none⟩), W, by simp [execOp, go_sem, e0], Below.refl _ _, rfl⟩
    | 6, ho =>
      injection ho with ho; subst ho
      have d0 := hd 5 _ 11 rfl rfl ⟨⟨5, .data⟩, by simp, rfl, rfl⟩
      have e0 : a.tmps[11]?.getD undef = .pointer (some ⟨px, 0, none⟩) := (RY.ev_tmp a 11).trans d0
      exact Or.inl ⟨.pointer (some ⟨px, 0, none⟩), W, by simp [execOp, go_sem, e0], Below.refl _ _, rfl⟩
    | 7, ho =>
      injection ho with ho; subst ho
      have d0 := hd 6 _ 12 rfl rfl ⟨⟨6, .data⟩, by simp, rfl, rfl⟩
      have e0 : a.tmps[12]?.getD undef = .pointer (some ⟨px, 0, none⟩) := (RY.ev_tmp a 12).trans d0
      exact Or.inl ⟨.pointer (some ⟨px, 4, none⟩), W, by simp [execOp, go_sem, e0], Below.refl _ _, rfl⟩
    | 8, ho =>
      injection ho with ho; subst ho
      have d0 := hd 7 _ 13 rfl rfl ⟨⟨7, .data⟩, by simp, rfl, rfl⟩
      have e0 : a.tmps[13]?.getD undef = .pointer (some ⟨px, 4, none⟩) := (RY.ev_tmp a 13).trans d0
      exact Or.inl ⟨.string nm, W, by simp [execOp, go_sem, e0, x4], Below.refl _ _, rfl⟩
    | 9, ho =>
      injection ho with ho; subst ho
      have d0 := hd 4 _ 10 rfl rfl ⟨⟨4, .data⟩, by simp, rfl, rfl⟩
      have e0 : a.tmps[10]?.getD undef = .agg #[.int .i64 now, .slice p0 sv.length q0, .slice p1 cp.length q1, .slice p2 bt.length q2] := (RY.ev_tmp a 10).trans d0
      have d1 := hd 8 _ 14 rfl rfl ⟨⟨8, .data⟩, by simp, rfl, rfl⟩
      have e1 : a.tmps[14]?.getD undef = .string nm := (RY.ev_tmp a 14).trans d1
      refine Or.inr ⟨92, #[.agg #[.int .i64 now, .slice p0 sv.length q0, .slice p1 cp.length q1, .slice p2 bt.length q2], .string nm], by simp [go_sem, e0, e1], (servicePlaceI ⟨now, sv, cp, bt⟩ p0 p1 p2 q0 q1 q2 nm W (HV.out.later hW) hap hsz).mono ?_⟩
      rintro e W' ⟨rfl, hb⟩
      exact ⟨_, rfl, hb, rfl⟩
    | 10, ho =>
      injection ho with ho; subst ho
      have d0 := hd 9 _ 15 rfl rfl ⟨⟨9, .data⟩, by simp, rfl, rfl⟩
      have e0 : a.tmps[15]?.getD undef = .tuple #[.int .i64 (svAt sv nm), .bool (decide (0 ≤ svIx sv nm))] := (RY.ev_tmp a 15).trans d0
      exact Or.inl ⟨.tuple #[.int .i64 (svAt sv nm), .bool (decide (0 ≤ svIx sv nm))], W, by simp [execOp, go_sem, e0], Below.refl _ _, rfl⟩
    | 11, ho =>
      injection ho with ho; subst ho
      have d0 := hd 10 _ 5 rfl rfl ⟨⟨10, .data⟩, by simp, rfl, rfl⟩
      have e0 : a.tmps[5]?.getD undef = .tuple #[.int .i64 (svAt sv nm), .bool (decide (0 ≤ svIx sv nm))] := (RY.ev_tmp a 5).trans d0
      exact Or.inl ⟨.int .i64 (svAt sv nm), W, by simp [execOp, go_sem, e0], Below.refl _ _, rfl⟩
    | 12, ho =>
      injection ho with ho; subst ho
      have d0 := hd 10 _ 5 rfl rfl ⟨⟨10, .data⟩, by simp, rfl, rfl⟩
      have e0 : a.tmps[5]?.getD undef = .tuple #[.int .i64 (svAt sv nm), .bool (decide (0 ≤ svIx sv nm))] := (RY.ev_tmp a 5).trans d0
      exact Or.inl ⟨.bool (decide (0 ≤ svIx sv nm)), W, by simp [execOp, go_sem, e0], Below.refl _ _, rfl⟩
    | 13, ho =>
      injection ho with ho; subst ho
      have d0 := hd 11 _ 16 rfl rfl ⟨⟨11, .data⟩, by simp, rfl, rfl⟩
      have e0 : a.tmps[16]?.getD undef = .int .i64 (svAt sv nm) := (RY.ev_tmp a 16).trans d0
      exact Or.inl ⟨.int .i64 (svAt sv nm), W, by simp [execOp, go_sem, e0], Below.refl _ _, rfl⟩
    | 14, ho =>
      injection ho with ho; subst ho
      have d0 := hd 12 _ 17 rfl rfl ⟨⟨12, .data⟩, by simp, rfl, rfl⟩
      have e0 : a.tmps[17]?.getD undef = .bool (decide (0 ≤ svIx sv nm)) := (RY.ev_tmp a 17).trans d0
      exact Or.inl ⟨.bool (decide (0 ≤ svIx sv nm)), W, by simp [execOp, go_sem, e0], Below.refl _ _, rfl⟩
    | n + 15, ho => simp at ho
  intro W1 vs hb hvs
  have e3 : vs 3 = _ := hvs 13 _ 3 rfl rfl
  have e4 : vs 4 = _ := hvs 14 _ 4 rfl rfl
  simp only [RY.putAll, Act.put, List.setIfInBounds_toArray, List.set_cons_zero, List.set_cons_succ]
  rw [e3, e4]
  generalize vs 5 = s5
  generalize vs 6 = s6
  generalize vs 7 = s7
  generalize vs 8 = s8
  generalize vs 9 = s9
  generalize vs 10 = s10
  generalize vs 11 = s11
  generalize vs 12 = s12
  generalize vs 13 = s13
  generalize vs 14 = s14
  generalize vs 15 = s15
  generalize vs 16 = s16
  generalize vs 17 = s17
  clear hvs e3 e4 X0 X1 X2 X3 X4 HXL
  have HX1 := hid (HXG.out.later hb)
  have HB1 : Hid (Below lo R W1) := hb.mono HLO.out
  have HLO1 : Hid (lo ≤ W1.heap.size) := Nat.le_trans HLO.out hb.size
  clear hb HXG
  by_cases h0 : 0 ≤ svIx sv nm
  · obtain ⟨k, hkk, hlt⟩ : ∃ k : Nat, svIx sv nm = k ∧ k < sv.length := by
      rcases firstTo_cases (fun i => same (sv.getD i Sv.none).nm nm) sv.length with ⟨q, _⟩ | ⟨k, q1, q2, _⟩
      · exfalso
        have : svIx sv nm = -1 := q
        omega
      · exact ⟨k, q2, q1⟩
    have hd0 : decide (0 ≤ svIx sv nm) = true := decide_eq_true h0
    have hat : svAt sv nm = (k : Int) := by unfold svAt; rw [if_pos h0, hkk]
    rw [hd0, hat]
    obtain ⟨x, hx⟩ : ∃ x, x = sv.getD k Sv.none := ⟨_, rfl⟩
    have HOK : Hid (bearOk sv nm = !(x.per == 0)) := by show _ = _; unfold bearOk; rw [hd0, hkk, Int.toNat_natCast, ← hx]; rfl
    have HTO : Hid (bearTo sv now nm ld = if !(x.per == 0) then sv.set k (loadS x now ld) else sv) := by show _ = _; unfold bearTo; rw [HOK.out, hkk, Int.toNat_natCast, ← hx]
    obtain ⟨g, cur, rfl, hgl, hgh, hcs, hcell⟩ := owns_blk HX1.out.o0 (by omega)
    have cell := fun j (hj : j < 13) u (hu : (SvC x)[j]? = some u) => hcell (k * 13 + j) u ((flat_at Sv.none SvC 13 SvC_len sv k j hlt hj).trans (by rw [← hx]; exact hu))
    have z8 := cell 8 (by omega) _ rfl
    have C11 : cur[k * 13 + 11]? = some (.int .i64 x.load) := by simpa [World.cell?, hgh] using cell 11 (by omega) _ rfl
    have C1 : cur[k * 13 + 1]? = some (.int .i64 x.ver) := by simpa [World.cell?, hgh] using cell 1 (by omega) _ rfl
    have gz := lt_heap hgh
    have HXE := hid hx
    have HGL := hid hgl
    have x1 := HX1.out.cell 1 _ rfl
    have xz := lt_heap HX1.out.bx
    have hm0 : (0 : Int) ≤ (k : Int) := by omega
    have hm3 : (k : Int) < (sv.length : Int) := by omega
    clear hcell cell hx hgl hcs h0 hd0 hkk hat
    cases hper : (x.per == 0)
    · rw [hper] at HOK HTO
      have HT : Hid (bearTo sv now nm ld = sv.set k (loadS x now ld)) := HTO.out
      have HC : Hid (r = if sbOk ⟨now, sv.set k (loadS x now ld), cp, bt⟩ then 0 else 2) := by show _ = _; rw [HRE.out, HOK.out, HT.out]; rfl
      clear HTO HOK HRE
      have hne := HX1.out.ne hgh HX1.out.nr.1
      have X0 := HX1.out.cell 0 _ rfl
      have X5 := HX1.out.cell 5 _ rfl
      have HR : Hid (∀ W', BelX g W1 W' → W'.heap[g]? = some (.cells (cw2 (k * 13 + 11) (k * 13 + 1) (.int .i64 ld) (.int .i64 now) cur true true) 41 (0, 0)) → XG lo px t [.string nm, .int .i64 ld] W' now (sv.set k (loadS x now ld)) cp bt (some ⟨g, 0, none⟩) p1 p2 sv.length cp.length bt.length q0 q1 q2) := by
        intro W' hX hH
        have hxz : x.sized := by rw [HXE.out]; exact HX1.out.z0 k hlt
        refine HX1.out.svs hgh hX ((hX.block px xz hne).trans HX1.out.bx) ?_ (by rw [List.length_set]) (fun i hi => ?_) HX1.out.m0
        · have e1 := owns_set (owns_set HX1.out.o0 (k * 13 + 11) (.int .i64 ld)) (k * 13 + 1) (.int .i64 now)
          rw [flat_set Sv.none SvC 13 SvC_len 11 (by omega) (.int .i64 ld) sv k (loadS x x.ver ld) hlt (by rw [← HXE.out]; rfl), flat_set Sv.none SvC 13 SvC_len 1 (by omega) (.int .i64 now) (sv.set k (loadS x x.ver ld)) k (loadS x now ld) (by rw [List.length_set]; exact hlt) (by rw [show (sv.set k (loadS x x.ver ld)).getD k Sv.none = loadS x x.ver ld from by simp [hlt]]; rfl), List.set_set] at e1
          rcases e1.2 with ⟨q, _⟩ | ⟨g', cap, cu, w1, w2, w3, w4⟩
          · cases q
          · cases w1
            refine ⟨e1.1, Or.inr ⟨g, _, cu, rfl, w2, ?_, w4⟩⟩
            rw [hH]
            rw [heap_setCell_same _ g _ _ _ _ (heap_setCell_same W1 g _ _ _ _ hgh)] at w3
            exact w3
        · rw [List.length_set] at hi
          by_cases e : k = i
          · subst e
            rw [show (sv.set k (loadS x now ld)).getD k Sv.none = loadS x now ld from by simp [hlt]]; exact hxz
          · rw [show (sv.set k (loadS x now ld)).getD i Sv.none = sv.getD i Sv.none from by simp [e]]; exact HX1.out.z0 i hi
      have HH := hid hgh
      have HFC := hid (And.intro hne (And.intro xz (And.intro x1 (And.intro X0 (And.intro X5 (And.intro C11 C1))))))
      clear hgh hne X0 X5 C11 C1
      go_upto_region 4 with fail
      obtain ⟨hne, hpl, X1, X0, X5, C11, C1⟩ := HFC.out
      have hgh := HH.out
      refine RY.region_TC (V61s px g k now ld sv.length q0) (T2 W1 g 41 (k * 13 + 11) (k * 13 + 1) (.int .i64 ld) (.int .i64 now) cur 26 29) (by kernel_rfl) (by kernel_rfl) (by kernel_rfl) (by kernel_rfl) ?_ ?_ ?_
      · intro vals
        exact ⟨(BelX.refl g W1).drew, hgh, fun h => by cases h⟩
      · intro up vals i o ho hi hcl a W hk hd hT
        obtain ⟨hX, hH, hU⟩ := hT
        have x0 := (hX.cell hpl hne 0).trans X0
        have x1 := (hX.cell hpl hne 1).trans X1
        have x5 := (hX.cell hpl hne 5).trans X5
        match i, ho with
      | 0, ho =>
        injection ho with ho; subst ho
        have e0 : a.tmps[0]?.getD undef = .pointer (some ⟨px, 0, none⟩) := (RY.ev_tmp a 0).trans ((hk 0 (by kernel_rfl)).trans rfl)
        exact Or.inl ⟨.pointer (some ⟨px, 0, none⟩), W, by simp [execOp, go_sem, e0], rfl, rfl, hX, hH, hU⟩
      | 1, ho =>
        injection ho with ho; subst ho
        have d0 := hd 0 _ 33 rfl rfl ⟨⟨0, .data⟩, by simp, rfl, rfl⟩
        have e0 : a.tmps[33]?.getD undef = .pointer (some ⟨px, 0, none⟩) := (RY.ev_tmp a 33).trans (d0.2.1.trans d0.2.2)
        exact Or.inl ⟨.pointer (some ⟨px, 0, none⟩), W, by simp [execOp, go_sem, e0], rfl, rfl, hX, hH, hU⟩
      | 2, ho =>
        injection ho with ho; subst ho
        have d0 := hd 1 _ 34 rfl rfl ⟨⟨1, .data⟩, by simp, rfl, rfl⟩
        have e0 : a.tmps[34]?.getD undef = .pointer (some ⟨px, 0, none⟩) := (RY.ev_tmp a 34).trans (d0.2.1.trans d0.2.2)
        exact Or.inl ⟨.pointer (some ⟨px, 0, none⟩), W, by simp [execOp, go_sem, e0], rfl, rfl, hX, hH, hU⟩
      | 3, ho =>
        injection ho with ho; subst ho
        have d0 := hd 2 _ 35 rfl rfl ⟨⟨2, .data⟩, by simp, rfl, rfl⟩
        have e0 : a.tmps[35]?.getD undef = .pointer (some ⟨px, 0, none⟩) := (RY.ev_tmp a 35).trans (d0.2.1.trans d0.2.2)
        exact Or.inl ⟨.pointer (some ⟨px, 0, none⟩), W, by simp [execOp, go_sem, e0], rfl, rfl, hX, hH, hU⟩
      | 4, ho =>
        injection ho with ho; subst ho
        have d0 := hd 3 _ 36 rfl rfl ⟨⟨3, .data⟩, by simp, rfl, rfl⟩
        have e0 : a.tmps[36]?.getD undef = .pointer (some ⟨px, 0, none⟩) := (RY.ev_tmp a 36).trans (d0.2.1.trans d0.2.2)
        exact Or.inl ⟨.pointer (some ⟨px, 1, none⟩), W, by simp [execOp, go_sem, e0], rfl, rfl, hX, hH, hU⟩
      | 5, ho =>
        injection ho with ho; subst ho
        have d0 := hd 4 _ 37 rfl rfl ⟨⟨4, .data⟩, by simp, rfl, rfl⟩
        have e0 : a.tmps[37]?.getD undef = .pointer (some ⟨px, 1, none⟩) := (RY.ev_tmp a 37).trans (d0.2.1.trans d0.2.2)
        exact Or.inl ⟨.slice (some ⟨g, 0, none⟩) sv.length q0, W, by simp [execOp, go_sem, e0, x1], rfl, rfl, hX, hH, hU⟩
      | 6, ho =>
        injection ho with ho; subst ho
        have e0 : a.tmps[3]?.getD undef = .int .i64 (k : Nat) := (RY.ev_tmp a 3).trans ((hk 3 (by kernel_rfl)).trans rfl)
        exact Or.inl ⟨.int .i64 (k : Nat), W, by simp [execOp, go_sem, e0], rfl, rfl, hX, hH, hU⟩
      | 7, ho =>
        injection ho with ho; subst ho
        have e0 : a.tmps[0]?.getD undef = .pointer (some ⟨px, 0, none⟩) := (RY.ev_tmp a 0).trans ((hk 0 (by kernel_rfl)).trans rfl)
        exact Or.inl ⟨.pointer (some ⟨px, 0, none⟩), W, by simp [execOp, go_sem, e0], rfl, rfl, hX, hH, hU⟩
      | 8, ho =>
        injection ho with ho; subst ho
        have d0 := hd 7 _ 40 rfl rfl ⟨⟨7, .data⟩, by simp, rfl, rfl⟩
        have e0 : a.tmps[40]?.getD undef = .pointer (some ⟨px, 0, none⟩) := (RY.ev_tmp a 40).trans (d0.2.1.trans d0.2.2)
        exact Or.inl ⟨.pointer (some ⟨px, 0, none⟩), W, by simp [execOp, go_sem, e0], rfl, rfl, hX, hH, hU⟩
      | 9, ho =>
        injection ho with ho; subst ho
        have d0 := hd 8 _ 41 rfl rfl ⟨⟨8, .data⟩, by simp, rfl, rfl⟩
        have e0 : a.tmps[41]?.getD undef = .pointer (some ⟨px, 0, none⟩) := (RY.ev_tmp a 41).trans (d0.2.1.trans d0.2.2)
        exact Or.inl ⟨.pointer (some ⟨px, 0, none⟩), W, by simp [execOp, go_sem, e0], rfl, rfl, hX, hH, hU⟩
      | 10, ho =>
        injection ho with ho; subst ho
        have d0 := hd 9 _ 42 rfl rfl ⟨⟨9, .data⟩, by simp, rfl, rfl⟩
        have e0 : a.tmps[42]?.getD undef = .pointer (some ⟨px, 0, none⟩) := (RY.ev_tmp a 42).trans (d0.2.1.trans d0.2.2)
        exact Or.inl ⟨.pointer (some ⟨px, 0, none⟩), W, by simp [execOp, go_sem, e0], rfl, rfl, hX, hH, hU⟩
      | 11, ho =>
        injection ho with ho; subst ho
        have d0 := hd 10 _ 43 rfl rfl ⟨⟨10, .data⟩, by simp, rfl, rfl⟩
        have e0 : a.tmps[43]?.getD undef = .pointer (some ⟨px, 0, none⟩) := (RY.ev_tmp a 43).trans (d0.2.1.trans d0.2.2)
        exact Or.inl ⟨.pointer (some ⟨px, 1, none⟩), W, by simp [execOp, go_sem, e0], rfl, rfl, hX, hH, hU⟩
      | 12, ho =>
        injection ho with ho; subst ho
        have d0 := hd 11 _ 44 rfl rfl ⟨⟨11, .data⟩, by simp, rfl, rfl⟩
        have e0 : a.tmps[44]?.getD undef = .pointer (some ⟨px, 1, none⟩) := (RY.ev_tmp a 44).trans (d0.2.1.trans d0.2.2)
        exact Or.inl ⟨.slice (some ⟨g, 0, none⟩) sv.length q0, W, by simp [execOp, go_sem, e0, x1], rfl, rfl, hX, hH, hU⟩
      | 13, ho =>
        injection ho with ho; subst ho
        have e0 : a.tmps[3]?.getD undef = .int .i64 (k : Nat) := (RY.ev_tmp a 3).trans ((hk 3 (by kernel_rfl)).trans rfl)
        exact Or.inl ⟨.int .i64 (k : Nat), W, by simp [execOp, go_sem, e0], rfl, rfl, hX, hH, hU⟩
      | 14, ho =>
        injection ho with ho; subst ho
        have e0 : a.tmps[0]?.getD undef = .pointer (some ⟨px, 0, none⟩) := (RY.ev_tmp a 0).trans ((hk 0 (by kernel_rfl)).trans rfl)
        exact Or.inl ⟨.pointer (some ⟨px, 0, none⟩), W, by simp [execOp, go_sem, e0], rfl, rfl, hX, hH, hU⟩
      | 15, ho =>
        injection ho with ho; subst ho
        have d0 := hd 14 _ 47 rfl rfl ⟨⟨14, .data⟩, by simp, rfl, rfl⟩
        have e0 : a.tmps[47]?.getD undef = .pointer (some ⟨px, 0, none⟩) := (RY.ev_tmp a 47).trans (d0.2.1.trans d0.2.2)
        exact Or.inl ⟨.pointer (some ⟨px, 0, none⟩), W, by simp [execOp, go_sem, e0], rfl, rfl, hX, hH, hU⟩
      | 16, ho =>
        injection ho with ho; subst ho
        have d0 := hd 15 _ 48 rfl rfl ⟨⟨15, .data⟩, by simp, rfl, rfl⟩
        have e0 : a.tmps[48]?.getD undef = .pointer (some ⟨px, 0, none⟩) := (RY.ev_tmp a 48).trans (d0.2.1.trans d0.2.2)
        exact Or.inl ⟨.pointer (some ⟨px, 5, none⟩), W, by simp [execOp, go_sem, e0], rfl, rfl, hX, hH, hU⟩
      | 17, ho =>
        injection ho with ho; subst ho
        have d0 := hd 16 _ 49 rfl rfl ⟨⟨16, .data⟩, by simp, rfl, rfl⟩
        have e0 : a.tmps[49]?.getD undef = .pointer (some ⟨px, 5, none⟩) := (RY.ev_tmp a 49).trans (d0.2.1.trans d0.2.2)
        exact Or.inl ⟨.int .i64 ld, W, by simp [execOp, go_sem, e0, x5], rfl, rfl, hX, hH, hU⟩
      | 18, ho =>
        injection ho with ho; subst ho
        have e0 : a.tmps[0]?.getD undef = .pointer (some ⟨px, 0, none⟩) := (RY.ev_tmp a 0).trans ((hk 0 (by kernel_rfl)).trans rfl)
        exact Or.inl ⟨.pointer (some ⟨px, 0, none⟩), W, by simp [execOp, go_sem, e0], rfl, rfl, hX, hH, hU⟩
      | 19, ho =>
        injection ho with ho; subst ho
        have d0 := hd 18 _ 51 rfl rfl ⟨⟨18, .data⟩, by simp, rfl, rfl⟩
        have e0 : a.tmps[51]?.getD undef = .pointer (some ⟨px, 0, none⟩) := (RY.ev_tmp a 51).trans (d0.2.1.trans d0.2.2)
        exact Or.inl ⟨.pointer (some ⟨px, 0, none⟩), W, by simp [execOp, go_sem, e0], rfl, rfl, hX, hH, hU⟩
      | 20, ho =>
        injection ho with ho; subst ho
        have d0 := hd 19 _ 52 rfl rfl ⟨⟨19, .data⟩, by simp, rfl, rfl⟩
        have e0 : a.tmps[52]?.getD undef = .pointer (some ⟨px, 0, none⟩) := (RY.ev_tmp a 52).trans (d0.2.1.trans d0.2.2)
        exact Or.inl ⟨.pointer (some ⟨px, 0, none⟩), W, by simp [execOp, go_sem, e0], rfl, rfl, hX, hH, hU⟩
      | 21, ho =>
        injection ho with ho; subst ho
        have d0 := hd 20 _ 53 rfl rfl ⟨⟨20, .data⟩, by simp, rfl, rfl⟩
        have e0 : a.tmps[53]?.getD undef = .pointer (some ⟨px, 0, none⟩) := (RY.ev_tmp a 53).trans (d0.2.1.trans d0.2.2)
        exact Or.inl ⟨.pointer (some ⟨px, 0, none⟩), W, by simp [execOp, go_sem, e0], rfl, rfl, hX, hH, hU⟩
      | 22, ho =>
        injection ho with ho; subst ho
        have d0 := hd 21 _ 54 rfl rfl ⟨⟨21, .data⟩, by simp, rfl, rfl⟩
        have e0 : a.tmps[54]?.getD undef = .pointer (some ⟨px, 0, none⟩) := (RY.ev_tmp a 54).trans (d0.2.1.trans d0.2.2)
        exact Or.inl ⟨.pointer (some ⟨px, 0, none⟩), W, by simp [execOp, go_sem, e0], rfl, rfl, hX, hH, hU⟩
      | 23, ho =>
        injection ho with ho; subst ho
        have d0 := hd 22 _ 55 rfl rfl ⟨⟨22, .data⟩, by simp, rfl, rfl⟩
        have e0 : a.tmps[55]?.getD undef = .pointer (some ⟨px, 0, none⟩) := (RY.ev_tmp a 55).trans (d0.2.1.trans d0.2.2)
        exact Or.inl ⟨.int .i64 now, W, by simp [execOp, go_sem, e0, x0], rfl, rfl, hX, hH, hU⟩
      | 24, ho =>
        injection ho with ho; subst ho
        have d0 := hd 5 _ 38 rfl rfl ⟨⟨5, .data⟩, by simp, rfl, rfl⟩
        have e0 : a.tmps[38]?.getD undef = .slice (some ⟨g, 0, none⟩) sv.length q0 := (RY.ev_tmp a 38).trans (d0.2.1.trans d0.2.2)
        have d1 := hd 6 _ 39 rfl rfl ⟨⟨6, .data⟩, by simp, rfl, rfl⟩
        have e1 : a.tmps[39]?.getD undef = .int .i64 (k : Nat) := (RY.ev_tmp a 39).trans (d1.2.1.trans d1.2.2)
        exact Or.inl ⟨.pointer (some ⟨g, k * 13, none⟩), W, by simp [execOp, go_sem, e0, e1, hm0, hm3], rfl, rfl, hX, hH, hU⟩
      | 25, ho =>
        injection ho with ho; subst ho
        have d0 := hd 24 _ 57 rfl rfl ⟨⟨24, .data⟩, by simp, rfl, rfl⟩
        have e0 : a.tmps[57]?.getD undef = .pointer (some ⟨g, k * 13, none⟩) := (RY.ev_tmp a 57).trans (d0.2.1.trans d0.2.2)
        exact Or.inl ⟨.pointer (some ⟨g, k * 13 + 11, none⟩), W, by simp [execOp, go_sem, e0], rfl, rfl, hX, hH, hU⟩
      | 26, ho =>
        injection ho with ho; subst ho
        have d0 := hd 25 _ 58 rfl rfl ⟨⟨25, .data⟩, by simp, rfl, rfl⟩
        have e0 : a.tmps[58]?.getD undef = .pointer (some ⟨g, k * 13 + 11, none⟩) := (RY.ev_tmp a 58).trans (d0.2.1.trans d0.2.2)
        have d1 := hd 17 _ 50 rfl rfl ⟨⟨17, .data⟩, by simp, rfl, rfl⟩
        have e1 : a.tmps[50]?.getD undef = .int .i64 ld := (RY.ev_tmp a 50).trans (d1.2.1.trans d1.2.2)
        have h29 : up 29 = false := by
          cases e : up 29
          · rfl
          · have := hU e; rw [hi] at this; cases this
        rw [hi, h29] at hH
        have hH : W.heap[g]? = some (.cells cur 41 (0, 0)) := hH
        have y : W.cell? ⟨g, k * 13 + 11, none⟩ = some (.int .i64 x.load) := by simp only [World.cell?, hH]; exact C11
        have fz : ∀ j, W.frozen? ⟨g, j, none⟩ = false := fun j => by simp [World.frozen?, hH]
        refine Or.inr (Or.inl ⟨W.setCell ⟨g, k * 13 + 11, none⟩ (.int .i64 ld), by simp [execOp, go_sem, e0, e1, y, fz], rfl, hX.sc _ _, ?_, fun _ => rfl⟩)
        show _ = some (Obj.cells (cw2 (k * 13 + 11) (k * 13 + 1) (.int .i64 ld) (.int .i64 now) cur true ((29 == 26) || up 29)) _ _)
        rw [h29]
        exact heap_setCell_same W g _ _ _ _ hH
      | 27, ho =>
        injection ho with ho; subst ho
        have d0 := hd 12 _ 45 rfl rfl ⟨⟨12, .data⟩, by simp, rfl, rfl⟩
        have e0 : a.tmps[45]?.getD undef = .slice (some ⟨g, 0, none⟩) sv.length q0 := (RY.ev_tmp a 45).trans (d0.2.1.trans d0.2.2)
        have d1 := hd 13 _ 46 rfl rfl ⟨⟨13, .data⟩, by simp, rfl, rfl⟩
        have e1 : a.tmps[46]?.getD undef = .int .i64 (k : Nat) := (RY.ev_tmp a 46).trans (d1.2.1.trans d1.2.2)
        exact Or.inl ⟨.pointer (some ⟨g, k * 13, none⟩), W, by simp [execOp, go_sem, e0, e1, hm0, hm3], rfl, rfl, hX, hH, hU⟩
      | 28, ho =>
        injection ho with ho; subst ho
        have d0 := hd 27 _ 59 rfl rfl ⟨⟨27, .data⟩, by simp, rfl, rfl⟩
        have e0 : a.tmps[59]?.getD undef = .pointer (some ⟨g, k * 13, none⟩) := (RY.ev_tmp a 59).trans (d0.2.1.trans d0.2.2)
        exact Or.inl ⟨.pointer (some ⟨g, k * 13 + 1, none⟩), W, by simp [execOp, go_sem, e0], rfl, rfl, hX, hH, hU⟩
      | 29, ho =>
        injection ho with ho; subst ho
        have d0 := hd 28 _ 60 rfl rfl ⟨⟨28, .data⟩, by simp, rfl, rfl⟩
        have e0 : a.tmps[60]?.getD undef = .pointer (some ⟨g, k * 13 + 1, none⟩) := (RY.ev_tmp a 60).trans (d0.2.1.trans d0.2.2)
        have d1 := hd 23 _ 56 rfl rfl ⟨⟨23, .data⟩, by simp, rfl, rfl⟩
        have e1 : a.tmps[56]?.getD undef = .int .i64 now := (RY.ev_tmp a 56).trans (d1.2.1.trans d1.2.2)
        have h26 : up 26 = true := hcl 28 _ ⟨26, .phase⟩ rfl (by simp) rfl d0.1
        rw [h26, hi] at hH
        have hH : W.heap[g]? = some (.cells (cur.setIfInBounds (k * 13 + 11) (.int .i64 ld)) 41 (0, 0)) := hH
        have y : W.cell? ⟨g, k * 13 + 1, none⟩ = some (.int .i64 x.ver) := by
          simp only [World.cell?, hH]
          rw [Array.getElem?_setIfInBounds_ne (by omega)]
          exact C1
        have fz : ∀ j, W.frozen? ⟨g, j, none⟩ = false := fun j => by simp [World.frozen?, hH]
        refine Or.inr (Or.inl ⟨W.setCell ⟨g, k * 13 + 1, none⟩ (.int .i64 now), by simp [execOp, go_sem, e0, e1, y, fz], rfl, hX.sc _ _, ?_, fun _ => ?_⟩)
        · show _ = some (Obj.cells (cw2 (k * 13 + 11) (k * 13 + 1) (.int .i64 ld) (.int .i64 now) cur ((26 == 29) || up 26) true) _ _)
          exact heap_setCell_same W g _ _ _ _ hH
        · show ((26 == 29) || up 26) = true
          rw [h26]; rfl
      | n + 30, ho => simp at ho
      · intro up vals vs W2 hall hv hT
        have h26 := hall 26 (by decide)
        have h29 := hall 29 (by decide)
        obtain ⟨hX, hH, _⟩ := hT
        rw [h26, h29] at hH
        simp only [RY.putAll, Act.put, List.setIfInBounds_toArray, List.set_cons_zero, List.set_cons_succ]
        generalize vs 33 = s33
        generalize vs 34 = s34
        generalize vs 35 = s35
        generalize vs 36 = s36
        generalize vs 37 = s37
        generalize vs 38 = s38
        generalize vs 39 = s39
        generalize vs 40 = s40
        generalize vs 41 = s41
        generalize vs 42 = s42
        generalize vs 43 = s43
        generalize vs 44 = s44
        generalize vs 45 = s45
        generalize vs 46 = s46
        generalize vs 47 = s47
        generalize vs 48 = s48
        generalize vs 49 = s49
        generalize vs 50 = s50
        generalize vs 51 = s51
        generalize vs 52 = s52
        generalize vs 53 = s53
        generalize vs 54 = s54
        generalize vs 55 = s55
        generalize vs 56 = s56
        generalize vs 57 = s57
        generalize vs 58 = s58
        generalize vs 59 = s59
        generalize vs 60 = s60
        have HX2 := hid (HR.out W2 hX hH)
        have HB2 : Hid (Below lo R W2) := HB1.out.trans (hX.lo HGL.out HLO1.out)
        have HLO2 : Hid (lo ≤ W2.heap.size) := Nat.le_trans HLO1.out hX.size
        clear hX hH hv hall h26 h29 X0 X1 X5 C11 C1 hpl hne hgh xz x1 z8 gz
        have xz := lt_heap HX2.out.bx
        go_wp2_with fail
        refine (codeI HX2.out).mono ?_
        rintro e W3 ⟨rfl, hb3⟩
        have HX3 := hid (HX2.out.later hb3)
        have HB3 : Hid (Below lo R W3) := HB2.out.trans (hb3.mono HLO2.out)
        clear hb3 xz
        rw [← HC.out]
        go_wp2
        go_ret
        exact ⟨rfl, by rw [HT.out]; exact HX3.out, HB3.out⟩
    · rw [hper] at HOK HTO
      have HC : Hid (r = 3) := by show _ = _; rw [HRE.out, HOK.out]; rfl
      have HT : Hid (bearTo sv now nm ld = sv) := HTO.out
      clear HTO HOK HRE
      go_wp2
      go_ret
      exact ⟨by rw [HC.out]; rfl, by rw [HT.out]; exact HX1.out, HB1.out⟩
  · have hd0 : decide (0 ≤ svIx sv nm) = false := decide_eq_false h0
    rw [hd0]
    have HOK : Hid (bearOk sv nm = false) := by show _ = _; unfold bearOk; rw [hd0]; rfl
    have HC : Hid (r = 3) := by show _ = _; rw [HRE.out, HOK.out]; rfl
    have HT : Hid (bearTo sv now nm ld = sv) := by show _ = _; unfold bearTo; rw [HOK.out]; rfl
    clear h0 hd0
    go_wp2
    go_ret
    exact ⟨by rw [HC.out]; rfl, by rw [HT.out]; exact HX1.out, HB1.out⟩

end Go.Proofs.YtclagbakddkjcaaGreat
