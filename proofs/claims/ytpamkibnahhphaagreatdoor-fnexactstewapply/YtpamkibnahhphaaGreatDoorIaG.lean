/-
  Stewards: an act that is being done: dropping a service, by the program.
-/
import Derived.Test.YtpamkibnahhphaaGreatDoorIaM
import Derived.Test.YtpamkibnahhphaaGreatDoorRegC
namespace Go.Proofs.YtpamkibnahhphaaGreatDoor
open Go.RowKit Go.Deep

set_option maxHeartbeats 4000000 in
theorem dropNo {lo p : Nat} {W : World} {X : Ac} {ae : Value} {now : Int} {sv : List Sv} {cp : List Cp} {bt : List Bt} {k : Nat} {es : List Nat} {p0 p1 p2 pe : Option Addr} {n0 n1 n2 ne q0 q1 q2 qe : Nat} (h : Wk lo p W X ae now sv cp bt k es p0 p1 p2 pe n0 n1 n2 ne q0 q1 q2 qe) (hs : X.drop = false) :
    Calls Tryz.prog 68 #[.pointer (some ⟨p, 0, none⟩)] W fun e W' => e = .returned (.tuple #[]) ∧ W' = W := by
  have c7 : W.cell? ⟨p, 7, none⟩ = some (.bool X.drop) := h.cell 7
  have hz := h.lt
  rw [hs] at c7
  clear h
  go_enter Tryz.func68, Tryz.ntmps68
  go_wp2
  first | go_end0 | refine bodyPost_ret (results_none rfl _ _ _) rfl ?_
  exact ⟨rfl, rfl⟩

def dropOff (cp : List Cp) (s : Sv) : Bool := !s.gone || decide (0 < (cnL cp s.image (rowCp cp s.nm)).live + (cnL cp s.image (rowCp cp s.nm)).ending)

def VDc (p g k : Nat) (bk : Value) (s : Sv) (n : Cn) : Nat → Value → Prop
  | 0, u => u = .pointer (some ⟨p, 0, none⟩)
  | 1, u => u = .pointer (some ⟨p, 0, none⟩)
  | 2, u => u = .pointer (some ⟨p, 8, none⟩)
  | 3, u => u = bk
  | 4, u => u = .pointer (some ⟨g, k * 13, none⟩)
  | 5, u => u = .pointer (some ⟨g, k * 13, none⟩)
  | 6, u => u = .agg #[.string s.nm, .int .i64 s.ver, .bool s.gone, .int .i64 s.image, .int .i64 s.want, .int .i64 s.down, .int .i64 s.over, .int .i64 s.next, .int .i64 s.per, .int .i64 s.least, .int .i64 s.most, .int .i64 s.load, .int .i64 s.cool]
  | 7, u => u = .agg #[.int .i64 n.live, .int .i64 n.ready, .int .i64 n.old, .int .i64 n.failed, .int .i64 n.ending]
  | _, _ => True

def VDd (p g k n0 q0 : Nat) : Nat → Value → Prop
  | 0, u => u = .pointer (some ⟨p, 0, none⟩)
  | 1, u => u = .pointer (some ⟨p, 0, none⟩)
  | 2, u => u = .pointer (some ⟨p, 0, none⟩)
  | 3, u => u = .pointer (some ⟨p, 8, none⟩)
  | 4, u => u = .pointer (some ⟨p, 9, none⟩)
  | 5, u => u = .slice (some ⟨g, 0, none⟩) n0 q0
  | 6, u => u = .pointer (some ⟨p, 0, none⟩)
  | 7, u => u = .pointer (some ⟨p, 0, none⟩)
  | 8, u => u = .pointer (some ⟨p, 12, none⟩)
  | 9, u => u = .int .i64 (k : Nat)
  | 10, u => u = .pointer (some ⟨p, 0, none⟩)
  | 11, u => u = .pointer (some ⟨p, 0, none⟩)
  | 12, u => u = .pointer (some ⟨p, 12, none⟩)
  | 13, u => u = .int .i64 (k : Nat)
  | 14, u => u = .int .i64 ((k : Int) + 1)
  | 15, u => u = .slice (some ⟨g, 0, none⟩) (n0 - 1) q0
  | 16, u => u = .pointer (some ⟨p, 0, none⟩)
  | 17, u => u = .pointer (some ⟨p, 8, none⟩)
  | 18, u => u = .pointer (some ⟨p, 9, none⟩)
  | _, _ => True
/-- Ahead of the call at c, behind it, behind the store at e. -/
structure T3 (c e : Nat) (C M F : World → Prop) (up : Nat → Bool) (_ : Nat → Value) (W : World) : Prop where
  a : up c = false → C W
  b : up c = true → up e = false → M W
  d : up e = true → F W
theorem T3.pure {c e : Nat} {C M F : World → Prop} {up : Nat → Bool} {vals : Nat → Value} {W : World} (h : T3 c e C M F up vals W) (i : Nat) (hc : i ≠ c) (he : i ≠ e) (vals' : Nat → Value) : T3 c e C M F (fun j => (j == i) || up j) vals' W := by
  have e1 : ∀ q, i ≠ q → ((q == i) || up q) = up q := fun q hq => by rw [show (q == i) = false from by simpa using fun e => hq e.symm]; rfl
  constructor
  · show ((c == i) || up c) = false → _; rw [e1 c hc]; exact h.a
  · show ((c == i) || up c) = true → ((e == i) || up e) = false → _; rw [e1 c hc, e1 e he]; exact h.b
  · show ((e == i) || up e) = true → _; rw [e1 e he]; exact h.d

set_option maxRecDepth 8000 in
set_option maxHeartbeats 40000000 in
theorem dropYes {lo p : Nat} {W : World} {X : Ac} {ae : Value} {now : Int} {sv : List Sv} {cp : List Cp} {bt : List Bt} {k : Nat} {es : List Nat} {p1 p2 pe : Option Addr} {g : Nat} {n0 n1 n2 ne q0 q1 q2 qe : Nat} (h : Wk lo p W X ae now sv cp bt k es (some ⟨g, 0, none⟩) p1 p2 pe n0 n1 n2 ne q0 q1 q2 qe) (hs : X.drop = true) (hk : k < n0) (hasc : ascCp cp = true) (hlen : n1 ≤ 200) (s : Sv) (hsv : s = sv.getD k Sv.none) :
    Calls Tryz.prog 68 #[.pointer (some ⟨p, 0, none⟩)] W fun e W' => (if dropOff cp s then e = stopE 6 else e = .returned (.tuple #[]) ∧ Wk lo p W' X ae now (sv.take k ++ sv.drop (k + 1)) cp bt k es (some ⟨g, 0, none⟩) p1 p2 pe (n0 - 1) n1 n2 ne q0 q1 q2 qe) ∧ Below lo W W' := by
  have HW := hid h
  have c7 : W.cell? ⟨p, 7, none⟩ = some (.bool X.drop) := h.cell 7
  have hz := h.lt
  have HK := hid hk
  have HA := hid hasc
  have HL := hid hlen
  have HSV := hid hsv
  have HLO := hid h.lo
  have hm0 := h.m0
  rw [hs] at c7
  clear h hs hk hsv hasc hlen
  obtain ⟨R, hR⟩ : ∃ R, R = dropOff cp s := ⟨_, rfl⟩
  have HR := hid hR
  rw [← hR]
  clear hR
  go_enter Tryz.func68, Tryz.ntmps68
  go_wp2_with fail
  refine (serviceI HW.out HK.out).mono ?_
  rintro e w1 ⟨rfl, hb1⟩
  have HW1 := hid (HW.out.later hb1)
  have HB1 := hid (blw_less hb1 HLO.out)
  have HLO1 := hid (Nat.le_trans HLO.out hb1.size)
  clear c7 hz hb1 HW
  obtain ⟨n, hn⟩ : ∃ n, n = cnL cp s.image (rowCp cp s.nm) := ⟨_, rfl⟩
  have HCN : Hid (∀ W', Below w1.heap.size w1 W' → Calls Tryz.prog 99 #[.agg #[.int .i64 now, .slice (some ⟨g, 0, none⟩) n0 q0, .slice p1 n1 q1, .slice p2 n2 q2], .agg #[.string s.nm, .int .i64 s.ver, .bool s.gone, .int .i64 s.image, .int .i64 s.want, .int .i64 s.down, .int .i64 s.over, .int .i64 s.next, .int .i64 s.per, .int .i64 s.least, .int .i64 s.most, .int .i64 s.load, .int .i64 s.cool]] W' fun e w' => e = .returned (.agg #[.int .i64 n.live, .int .i64 n.ready, .int .i64 n.old, .int .i64 n.failed, .int .i64 n.ending]) ∧ Below W'.heap.size W' w') := fun W' hb => by
    rw [hn]; exact (HW1.out.later hb).counted s HA.out HL.out
  have hle := cnL_le cp s.image (rowCp cp s.nm)
  have hrl : (rowCp cp s.nm).length ≤ 200 := Nat.le_trans (row_len _) (by rw [HW1.out.l1]; exact HL.out)
  rw [← hn] at hle
  have HR2 : Hid (R = (!s.gone || decide (0 < n.live + n.ending))) := by show R = _; rw [HR.out, hn]; rfl
  obtain ⟨⟨l1, l2⟩, _, _, _, ⟨l3, l4⟩⟩ := hle
  have l5 : n.live ≤ 200 := by omega
  have l6 : n.ending ≤ 200 := by omega
  clear hn HR l2 l4 hrl
  obtain ⟨g', cur, eg, hlo, hgl, hgb, hcs, hsc⟩ := HW1.out.svAt (i := k) (by rw [HW1.out.l0]; exact HK.out)
  injection eg with eg
  injection eg with eg _ _
  subst eg
  rw [← HSV.out] at hsc
  have HSC := hid hsc
  clear hsc hcs cur hgb
  go_upto_region 2 with fail
  refine RY.region_let w1 (Below.refl _ _) (VDc p g k (.agg #[.int .i64 now, .slice (some ⟨g, 0, none⟩) n0 q0, .slice p1 n1 q1, .slice p2 n2 q2]) s n) 8 7 9 3 19 99 5 [.int .i64 n.live, .int .i64 n.ready, .int .i64 n.old, .int .i64 n.failed, .int .i64 n.ending] [.int .i64 0, .int .i64 0, .int .i64 0, .int .i64 0, .int .i64 0] (by kernel_rfl) (by kernel_rfl) (by kernel_rfl) (by kernel_rfl) _ _ _ rfl rfl rfl rfl rfl rfl rfl (by decide) (by decide) (by decide) (by kernel_rfl) (by kernel_rfl) rfl ?_ rfl ?_ Tryz.infoCt (fun u hu => hu) ?_ ?_
  · intro a W
    kernel_rfl
  · intro x hx
    simp only [List.mem_cons, List.not_mem_nil, or_false] at hx
    rcases hx with rfl | rfl | rfl | rfl | rfl <;> rfl
  · intro i o ho nA nS a W hW hk hd
    have et0 : a.tmps[0]?.getD undef = .pointer (some ⟨p, 0, none⟩) := (RY.ev_tmp a 0).trans ((hk 0 (by kernel_rfl)).trans rfl)
    have et2 : a.tmps[2]?.getD undef = .pointer (some ⟨g, k * 13, none⟩) := (RY.ev_tmp a 2).trans ((hk 2 (by kernel_rfl)).trans rfl)
    have HWW := HW1.out.later hW
    have hz := HWW.lt
    have b8 : W.cell? ⟨p, 8, none⟩ = some (.int .i64 now) := HWW.cell 8
    have b9 : W.cell? ⟨p, 9, none⟩ = some (.slice (some ⟨g, 0, none⟩) n0 q0) := HWW.cell 9
    have b10 : W.cell? ⟨p, 10, none⟩ = some (.slice p1 n1 q1) := HWW.cell 10
    have b11 : W.cell? ⟨p, 11, none⟩ = some (.slice p2 n2 q2) := HWW.cell 11
    match i, ho with
    | 0, ho =>
      injection ho with ho; subst ho
      exact Or.inl ⟨_, W, by simp [execOp, go_sem, et0], Below.refl _ _, rfl⟩
    | 1, ho =>
      injection ho with ho; subst ho
      have e0 : a.tmps[12]?.getD undef = _ := (RY.ev_tmp a 12).trans (hd 0 _ 12 rfl rfl (by decide) ⟨⟨0, .data⟩, by simp, rfl, rfl⟩)
      exact Or.inl ⟨_, W, by simp [execOp, go_sem, e0], Below.refl _ _, rfl⟩
    | 2, ho =>
      injection ho with ho; subst ho
      have e0 : a.tmps[13]?.getD undef = _ := (RY.ev_tmp a 13).trans (hd 1 _ 13 rfl rfl (by decide) ⟨⟨1, .data⟩, by simp, rfl, rfl⟩)
      exact Or.inl ⟨_, W, by simp [execOp, go_sem, e0], Below.refl _ _, rfl⟩
    | 3, ho =>
      injection ho with ho; subst ho
      have e0 : a.tmps[14]?.getD undef = _ := (RY.ev_tmp a 14).trans (hd 2 _ 14 rfl rfl (by decide) ⟨⟨2, .data⟩, by simp, rfl, rfl⟩)
      exact Or.inl ⟨_, W, by simp [execOp, go_sem, e0, b8, b9, b10, b11], Below.refl _ _, rfl⟩
    | 4, ho =>
      injection ho with ho; subst ho
      exact Or.inl ⟨_, W, by simp [execOp, go_sem, et2], Below.refl _ _, rfl⟩
    | 5, ho =>
      injection ho with ho; subst ho
      have e0 : a.tmps[16]?.getD undef = _ := (RY.ev_tmp a 16).trans (hd 4 _ 16 rfl rfl (by decide) ⟨⟨4, .data⟩, by simp, rfl, rfl⟩)
      exact Or.inl ⟨_, W, by simp [execOp, go_sem, e0], Below.refl _ _, rfl⟩
    | 6, ho =>
      injection ho with ho; subst ho
      have e0 : a.tmps[17]?.getD undef = _ := (RY.ev_tmp a 17).trans (hd 5 _ 17 rfl rfl (by decide) ⟨⟨5, .data⟩, by simp, rfl, rfl⟩)
      have f := fun j u hu => (hW.cell (p := ⟨g, k * 13 + j, none⟩) hgl).trans (HSC.out j u hu)
      have f0 : W.cell? ⟨g, k * 13, none⟩ = some (.string s.nm) := f 0 _ rfl
      have f1 : W.cell? ⟨g, k * 13 + 1, none⟩ = some (.int .i64 s.ver) := f 1 _ rfl
      have f2 : W.cell? ⟨g, k * 13 + 2, none⟩ = some (.bool s.gone) := f 2 _ rfl
      have f3 : W.cell? ⟨g, k * 13 + 3, none⟩ = some (.int .i64 s.image) := f 3 _ rfl
      have f4 : W.cell? ⟨g, k * 13 + 4, none⟩ = some (.int .i64 s.want) := f 4 _ rfl
      have f5 : W.cell? ⟨g, k * 13 + 5, none⟩ = some (.int .i64 s.down) := f 5 _ rfl
      have f6 : W.cell? ⟨g, k * 13 + 6, none⟩ = some (.int .i64 s.over) := f 6 _ rfl
      have f7 : W.cell? ⟨g, k * 13 + 7, none⟩ = some (.int .i64 s.next) := f 7 _ rfl
      have f8 : W.cell? ⟨g, k * 13 + 8, none⟩ = some (.int .i64 s.per) := f 8 _ rfl
      have f9 : W.cell? ⟨g, k * 13 + 9, none⟩ = some (.int .i64 s.least) := f 9 _ rfl
      have f10 : W.cell? ⟨g, k * 13 + 10, none⟩ = some (.int .i64 s.most) := f 10 _ rfl
      have f11 : W.cell? ⟨g, k * 13 + 11, none⟩ = some (.int .i64 s.load) := f 11 _ rfl
      have f12 : W.cell? ⟨g, k * 13 + 12, none⟩ = some (.int .i64 s.cool) := f 12 _ rfl
      exact Or.inl ⟨_, W, by simp [execOp, go_sem, e0, f0, f1, f2, f3, f4, f5, f6, f7, f8, f9, f10, f11, f12], Below.refl _ _, rfl⟩
    | 7, ho =>
      injection ho with ho; subst ho
      have e0 : a.tmps[15]?.getD undef = _ := (RY.ev_tmp a 15).trans (hd 3 _ 15 rfl rfl (by decide) ⟨⟨3, .data⟩, by simp, rfl, rfl⟩)
      have e1 : a.tmps[18]?.getD undef = _ := (RY.ev_tmp a 18).trans (hd 6 _ 18 rfl rfl (by decide) ⟨⟨6, .data⟩, by simp, rfl, rfl⟩)
      refine Or.inr ⟨99, #[.agg #[.int .i64 now, .slice (some ⟨g, 0, none⟩) n0 q0, .slice p1 n1 q1, .slice p2 n2 q2], .agg #[.string s.nm, .int .i64 s.ver, .bool s.gone, .int .i64 s.image, .int .i64 s.want, .int .i64 s.down, .int .i64 s.over, .int .i64 s.next, .int .i64 s.per, .int .i64 s.least, .int .i64 s.most, .int .i64 s.load, .int .i64 s.cool]], by simp [go_sem, e0, e1], (HCN.out W hW).mono ?_⟩
      rintro e W' ⟨rfl, hb⟩
      exact ⟨_, rfl, hb, rfl⟩
    | 8, ho => exact absurd rfl nA
    | 9, ho => exact absurd rfl nS
    | n + 10, ho => simp at ho
  intro w2 vs pc hW hvs hp hpv hpo hpr
  simp only [RY.putAll, Act.put, List.setIfInBounds_toArray, List.set_cons_zero, List.set_cons_succ]
  rw [hp]
  generalize vs 12 = s12
  generalize vs 13 = s13
  generalize vs 14 = s14
  generalize vs 15 = s15
  generalize vs 16 = s16
  generalize vs 17 = s17
  generalize vs 18 = s18
  generalize vs 19 = s19
  clear hvs hp
  have z0 : w2.cell? ⟨pc, 0, none⟩ = some (.int .i64 n.live) := by simpa using hpr 0 _ rfl
  have z4 : w2.cell? ⟨pc, 4, none⟩ = some (.int .i64 n.ending) := by simpa using hpr 4 _ rfl
  have pz := hpo.lt
  have HW2 := hid (HW1.out.later hW)
  have HB2 := hid (blw_two HB1.out (blw_less hW HLO1.out))
  have g2 : w2.cell? ⟨g, k * 13 + 2, none⟩ = some (.bool s.gone) := (hW.cell (p := ⟨g, k * 13 + 2, none⟩) hgl).trans (HSC.out 2 _ rfl)
  have hgl2 : g < w2.heap.size := Nat.lt_of_lt_of_le hgl hW.size
  clear hW hpr hpo HSC hgl HW1 HB1 HCN HLO1 hpv
  cases hgn : s.gone
  · have HE : Hid (R = true) := by show R = _; rw [HR2.out, hgn]; rfl
    rw [hgn] at g2
    go_wp2_with fail
    refine (stopYes _ _).mono ?_
    rintro e w3 ⟨rfl, rfl⟩
    go_wp2
    exact ⟨rfl, by first | rfl | (rw [if_pos HE.out]; rfl), HB2.out⟩
  rw [hgn] at g2
  by_cases hpos : 0 < n.live + n.ending
  · have HE : Hid (R = true) := by show R = _; rw [HR2.out]; simp [hpos]
    have hpos' : decide (0 < n.live + n.ending) = true := decide_eq_true hpos
    go_wp2_with fail
    refine (stopYes _ _).mono ?_
    rintro e w3 ⟨rfl, rfl⟩
    go_wp2
    exact ⟨rfl, by first | rfl | (rw [if_pos HE.out]; rfl), HB2.out⟩
  have HE : Hid (¬ R = true) := by show ¬ _; rw [HR2.out, hgn]; simp [hpos]
  have hl0 : n.live = 0 := by omega
  have he0 : n.ending = 0 := by omega
  rw [hl0] at z0
  rw [he0] at z4
  clear hpos hgn HR2
  go_wp2_with fail
  refine (stopNo _ _).mono ?_
  rintro e w3 ⟨rfl, hw3⟩
  obtain rfl := hw3.symm
  clear z0 z4 g2 pz hl0 he0
  go_upto_region 4 with fail
  have hwr : IntKind.i64.wrap ((k : Int) + 1) = (k : Int) + 1 := wrapI _ (by omega) (by have := HK.out; omega)
  refine RY.region_TC (VDd p g k n0 q0) (T3 15 19 (fun W' => Below w2.heap.size w2 W') (fun W' => ∃ V, Below w2.heap.size w2 V ∧ W'.ownsRow lo 86 13 (.slice (some ⟨g, 0, none⟩) (n0 - 1) q0) (n0 - 1) ((sv.flatMap SvC).take (k * 13) ++ (sv.flatMap SvC).drop ((k + 1) * 13)) ∧ BelO (some ⟨g, 0, none⟩) V W')
    (fun W' => Wk lo p W' X ae now (sv.take k ++ sv.drop (k + 1)) cp bt k es (some ⟨g, 0, none⟩) p1 p2 pe (n0 - 1) n1 n2 ne q0 q1 q2 qe ∧ Below lo w2 W')) (by kernel_rfl) (by kernel_rfl) (by kernel_rfl) (by kernel_rfl) ?_ ?_ ?_
  · intro vals
    exact ⟨fun _ => Below.drew (Below.refl _ _), fun h => (by cases h), fun h => (by cases h)⟩
  · intro up vals i o ho hi hcl a W hk hd hT
    have et0 : a.tmps[0]?.getD undef = .pointer (some ⟨p, 0, none⟩) := (RY.ev_tmp a 0).trans ((hk 0 (by kernel_rfl)).trans rfl)
    have c15_5 : up 15 = true → up 5 = true := hcl 15 _ ⟨5, .data⟩ rfl (by simp) rfl
    have c15_9 : up 15 = true → up 9 = true := hcl 15 _ ⟨9, .data⟩ rfl (by simp) rfl
    have c15_14 : up 15 = true → up 14 = true := hcl 15 _ ⟨14, .data⟩ rfl (by simp) rfl
    have c14_13 : up 14 = true → up 13 = true := hcl 14 _ ⟨13, .data⟩ rfl (by simp) rfl
    have c19_15 : up 19 = true → up 15 = true := hcl 19 _ ⟨15, .data⟩ rfl (by simp) rfl
    match i, ho with

    | 0, ho =>
      injection ho with ho; subst ho
      exact Or.inl ⟨.pointer (some ⟨p, 0, none⟩), W, by simp [execOp, go_sem, et0], rfl, rfl, hT.pure 0 (by decide) (by decide) _⟩
    | 1, ho =>
      injection ho with ho; subst ho
      exact Or.inl ⟨.pointer (some ⟨p, 0, none⟩), W, by simp [execOp, go_sem, et0], rfl, rfl, hT.pure 1 (by decide) (by decide) _⟩
    | 2, ho =>
      injection ho with ho; subst ho
      have e0 : a.tmps[35]?.getD undef = _ := (RY.ev_tmp a 35).trans ((hd 1 _ 35 rfl rfl ⟨⟨1, .data⟩, by simp, rfl, rfl⟩).2.1.trans (hd 1 _ 35 rfl rfl ⟨⟨1, .data⟩, by simp, rfl, rfl⟩).2.2)
      exact Or.inl ⟨.pointer (some ⟨p, 0, none⟩), W, by simp [execOp, go_sem, e0], rfl, rfl, hT.pure 2 (by decide) (by decide) _⟩
    | 3, ho =>
      injection ho with ho; subst ho
      have e0 : a.tmps[36]?.getD undef = _ := (RY.ev_tmp a 36).trans ((hd 2 _ 36 rfl rfl ⟨⟨2, .data⟩, by simp, rfl, rfl⟩).2.1.trans (hd 2 _ 36 rfl rfl ⟨⟨2, .data⟩, by simp, rfl, rfl⟩).2.2)
      exact Or.inl ⟨.pointer (some ⟨p, 8, none⟩), W, by simp [execOp, go_sem, e0], rfl, rfl, hT.pure 3 (by decide) (by decide) _⟩
    | 4, ho =>
      injection ho with ho; subst ho
      have e0 : a.tmps[37]?.getD undef = _ := (RY.ev_tmp a 37).trans ((hd 3 _ 37 rfl rfl ⟨⟨3, .data⟩, by simp, rfl, rfl⟩).2.1.trans (hd 3 _ 37 rfl rfl ⟨⟨3, .data⟩, by simp, rfl, rfl⟩).2.2)
      exact Or.inl ⟨.pointer (some ⟨p, 9, none⟩), W, by simp [execOp, go_sem, e0], rfl, rfl, hT.pure 4 (by decide) (by decide) _⟩
    | 5, ho =>
      injection ho with ho; subst ho
      have e0 : a.tmps[38]?.getD undef = _ := (RY.ev_tmp a 38).trans ((hd 4 _ 38 rfl rfl ⟨⟨4, .data⟩, by simp, rfl, rfl⟩).2.1.trans (hd 4 _ 38 rfl rfl ⟨⟨4, .data⟩, by simp, rfl, rfl⟩).2.2)
      have h15 : up 15 = false := by cases q : up 15 with
        | false => rfl
        | true => rw [c15_5 q] at hi; cases hi
      have HWW := HW2.out.later (hT.a h15)
      have b : W.cell? ⟨p, 9, none⟩ = some (.slice (some ⟨g, 0, none⟩) n0 q0) := HWW.cell 9
      exact Or.inl ⟨.slice (some ⟨g, 0, none⟩) n0 q0, W, by simp [execOp, go_sem, e0, b], rfl, rfl, hT.pure 5 (by decide) (by decide) _⟩
    | 6, ho =>
      injection ho with ho; subst ho
      exact Or.inl ⟨.pointer (some ⟨p, 0, none⟩), W, by simp [execOp, go_sem, et0], rfl, rfl, hT.pure 6 (by decide) (by decide) _⟩
    | 7, ho =>
      injection ho with ho; subst ho
      have e0 : a.tmps[40]?.getD undef = _ := (RY.ev_tmp a 40).trans ((hd 6 _ 40 rfl rfl ⟨⟨6, .data⟩, by simp, rfl, rfl⟩).2.1.trans (hd 6 _ 40 rfl rfl ⟨⟨6, .data⟩, by simp, rfl, rfl⟩).2.2)
      exact Or.inl ⟨.pointer (some ⟨p, 0, none⟩), W, by simp [execOp, go_sem, e0], rfl, rfl, hT.pure 7 (by decide) (by decide) _⟩
    | 8, ho =>
      injection ho with ho; subst ho
      have e0 : a.tmps[41]?.getD undef = _ := (RY.ev_tmp a 41).trans ((hd 7 _ 41 rfl rfl ⟨⟨7, .data⟩, by simp, rfl, rfl⟩).2.1.trans (hd 7 _ 41 rfl rfl ⟨⟨7, .data⟩, by simp, rfl, rfl⟩).2.2)
      exact Or.inl ⟨.pointer (some ⟨p, 12, none⟩), W, by simp [execOp, go_sem, e0], rfl, rfl, hT.pure 8 (by decide) (by decide) _⟩
    | 9, ho =>
      injection ho with ho; subst ho
      have e0 : a.tmps[42]?.getD undef = _ := (RY.ev_tmp a 42).trans ((hd 8 _ 42 rfl rfl ⟨⟨8, .data⟩, by simp, rfl, rfl⟩).2.1.trans (hd 8 _ 42 rfl rfl ⟨⟨8, .data⟩, by simp, rfl, rfl⟩).2.2)
      have h15 : up 15 = false := by cases q : up 15 with
        | false => rfl
        | true => rw [c15_9 q] at hi; cases hi
      have HWW := HW2.out.later (hT.a h15)
      have b : W.cell? ⟨p, 12, none⟩ = some (.int .i64 (k : Nat)) := HWW.cell 12
      exact Or.inl ⟨.int .i64 (k : Nat), W, by simp [execOp, go_sem, e0, b], rfl, rfl, hT.pure 9 (by decide) (by decide) _⟩
    | 10, ho =>
      injection ho with ho; subst ho
      exact Or.inl ⟨.pointer (some ⟨p, 0, none⟩), W, by simp [execOp, go_sem, et0], rfl, rfl, hT.pure 10 (by decide) (by decide) _⟩
    | 11, ho =>
      injection ho with ho; subst ho
      have e0 : a.tmps[44]?.getD undef = _ := (RY.ev_tmp a 44).trans ((hd 10 _ 44 rfl rfl ⟨⟨10, .data⟩, by simp, rfl, rfl⟩).2.1.trans (hd 10 _ 44 rfl rfl ⟨⟨10, .data⟩, by simp, rfl, rfl⟩).2.2)
      exact Or.inl ⟨.pointer (some ⟨p, 0, none⟩), W, by simp [execOp, go_sem, e0], rfl, rfl, hT.pure 11 (by decide) (by decide) _⟩
    | 12, ho =>
      injection ho with ho; subst ho
      have e0 : a.tmps[45]?.getD undef = _ := (RY.ev_tmp a 45).trans ((hd 11 _ 45 rfl rfl ⟨⟨11, .data⟩, by simp, rfl, rfl⟩).2.1.trans (hd 11 _ 45 rfl rfl ⟨⟨11, .data⟩, by simp, rfl, rfl⟩).2.2)
      exact Or.inl ⟨.pointer (some ⟨p, 12, none⟩), W, by simp [execOp, go_sem, e0], rfl, rfl, hT.pure 12 (by decide) (by decide) _⟩
    | 13, ho =>
      injection ho with ho; subst ho
      have e0 : a.tmps[46]?.getD undef = _ := (RY.ev_tmp a 46).trans ((hd 12 _ 46 rfl rfl ⟨⟨12, .data⟩, by simp, rfl, rfl⟩).2.1.trans (hd 12 _ 46 rfl rfl ⟨⟨12, .data⟩, by simp, rfl, rfl⟩).2.2)
      have h15 : up 15 = false := by cases q : up 15 with
        | false => rfl
        | true => rw [c14_13 (c15_14 q)] at hi; cases hi
      have HWW := HW2.out.later (hT.a h15)
      have b : W.cell? ⟨p, 12, none⟩ = some (.int .i64 (k : Nat)) := HWW.cell 12
      exact Or.inl ⟨.int .i64 (k : Nat), W, by simp [execOp, go_sem, e0, b], rfl, rfl, hT.pure 13 (by decide) (by decide) _⟩
    | 14, ho =>
      injection ho with ho; subst ho
      have e0 : a.tmps[47]?.getD undef = _ := (RY.ev_tmp a 47).trans ((hd 13 _ 47 rfl rfl ⟨⟨13, .data⟩, by simp, rfl, rfl⟩).2.1.trans (hd 13 _ 47 rfl rfl ⟨⟨13, .data⟩, by simp, rfl, rfl⟩).2.2)
      exact Or.inl ⟨.int .i64 ((k : Int) + 1), W, by simp [execOp, go_sem, e0, hwr], rfl, rfl, hT.pure 14 (by decide) (by decide) _⟩
    | 15, ho =>
      injection ho with ho; subst ho
      have e0 : a.tmps[39]?.getD undef = _ := (RY.ev_tmp a 39).trans ((hd 5 _ 39 rfl rfl ⟨⟨5, .data⟩, by simp, rfl, rfl⟩).2.1.trans (hd 5 _ 39 rfl rfl ⟨⟨5, .data⟩, by simp, rfl, rfl⟩).2.2)
      have e1 : a.tmps[43]?.getD undef = _ := (RY.ev_tmp a 43).trans ((hd 9 _ 43 rfl rfl ⟨⟨9, .data⟩, by simp, rfl, rfl⟩).2.1.trans (hd 9 _ 43 rfl rfl ⟨⟨9, .data⟩, by simp, rfl, rfl⟩).2.2)
      have e2 : a.tmps[48]?.getD undef = _ := (RY.ev_tmp a 48).trans ((hd 14 _ 48 rfl rfl ⟨⟨14, .data⟩, by simp, rfl, rfl⟩).2.1.trans (hd 14 _ 48 rfl rfl ⟨⟨14, .data⟩, by simp, rfl, rfl⟩).2.2)
      have hbl := hT.a hi
      have HWW := HW2.out.later hbl
      refine Or.inr (Or.inr ⟨101, #[.slice (some ⟨g, 0, none⟩) n0 q0, .int .i64 (k : Nat), .int .i64 ((k : Int) + 1)], by simp [go_sem, e0, e1, e2], rfl, (delI lo W g n0 q0 _ HWW.o0 (SvC_one sv) k HK.out hm0).mono ?_⟩)
      rintro e W' ⟨rfl, ho, hb⟩
      have u19 : up 19 = false := by cases q : up 19 with
        | false => rfl
        | true => rw [c19_15 q] at hi; cases hi
      refine ⟨_, rfl, rfl, ⟨fun h => ?_, fun _ _ => ⟨W, hbl, ho, hb⟩, fun h => ?_⟩⟩
      · simp at h
      · have : ((19 == 15) || up 19) = true := h
        rw [u19] at this
        cases this
    | 16, ho =>
      injection ho with ho; subst ho
      have e0 : a.tmps[34]?.getD undef = _ := (RY.ev_tmp a 34).trans ((hd 0 _ 34 rfl rfl ⟨⟨0, .data⟩, by simp, rfl, rfl⟩).2.1.trans (hd 0 _ 34 rfl rfl ⟨⟨0, .data⟩, by simp, rfl, rfl⟩).2.2)
      exact Or.inl ⟨.pointer (some ⟨p, 0, none⟩), W, by simp [execOp, go_sem, e0], rfl, rfl, hT.pure 16 (by decide) (by decide) _⟩
    | 17, ho =>
      injection ho with ho; subst ho
      have e0 : a.tmps[50]?.getD undef = _ := (RY.ev_tmp a 50).trans ((hd 16 _ 50 rfl rfl ⟨⟨16, .data⟩, by simp, rfl, rfl⟩).2.1.trans (hd 16 _ 50 rfl rfl ⟨⟨16, .data⟩, by simp, rfl, rfl⟩).2.2)
      exact Or.inl ⟨.pointer (some ⟨p, 8, none⟩), W, by simp [execOp, go_sem, e0], rfl, rfl, hT.pure 17 (by decide) (by decide) _⟩
    | 18, ho =>
      injection ho with ho; subst ho
      have e0 : a.tmps[51]?.getD undef = _ := (RY.ev_tmp a 51).trans ((hd 17 _ 51 rfl rfl ⟨⟨17, .data⟩, by simp, rfl, rfl⟩).2.1.trans (hd 17 _ 51 rfl rfl ⟨⟨17, .data⟩, by simp, rfl, rfl⟩).2.2)
      exact Or.inl ⟨.pointer (some ⟨p, 9, none⟩), W, by simp [execOp, go_sem, e0], rfl, rfl, hT.pure 18 (by decide) (by decide) _⟩
    | 19, ho =>
      injection ho with ho; subst ho
      have e0 : a.tmps[52]?.getD undef = _ := (RY.ev_tmp a 52).trans ((hd 18 _ 52 rfl rfl ⟨⟨18, .data⟩, by simp, rfl, rfl⟩).2.1.trans (hd 18 _ 52 rfl rfl ⟨⟨18, .data⟩, by simp, rfl, rfl⟩).2.2)
      have e1 : a.tmps[49]?.getD undef = _ := (RY.ev_tmp a 49).trans ((hd 15 _ 49 rfl rfl ⟨⟨15, .data⟩, by simp, rfl, rfl⟩).2.1.trans (hd 15 _ 49 rfl rfl ⟨⟨15, .data⟩, by simp, rfl, rfl⟩).2.2)
      have u15 : up 15 = true := (hd 15 _ 49 rfl rfl ⟨⟨15, .data⟩, by simp, rfl, rfl⟩).1
      obtain ⟨V, hbl, ho, hb⟩ := hT.b u15 hi
      have HWV := HW2.out.later hbl
      have HF := HWV.cut k HK.out ho hb
      obtain ⟨g2, cur2, eg2, hlo2, _, hgb2, _⟩ := HWV.svAt (i := k) (by rw [HWV.l0]; exact HK.out)
      injection eg2 with eg2
      injection eg2 with eg2 _ _
      subst eg2
      have hbx := hb.heap HWV.bx hgb2 t_ws
      have x9 : W.cell? ⟨p, 9, none⟩ = some (.slice (some ⟨g, 0, none⟩) n0 q0) := cellsOf_block hbx 9
      have fz := frozen_block hbx 9
      refine Or.inr (Or.inl ⟨W.setCell ⟨p, 9, none⟩ (.slice (some ⟨g, 0, none⟩) (n0 - 1) q0), by simp [execOp, go_sem, e0, e1, x9, fz], rfl, ⟨fun h => ?_, fun _ h => ?_, fun _ => ⟨HF, ?_⟩⟩⟩)
      · have : ((15 == 19) || up 15) = false := h
        rw [u15] at this
        cases this
      · simp at h
      · have h1 : Below lo w2 V := blw_less hbl HW2.out.lo
        have h2 : Below lo V W := hb.lo (fun x hx => by injection hx with hx; injection hx with hx _ _; subst hx; exact hlo2) (Nat.le_trans HW2.out.lo hbl.size)
        exact blw_sc (blw_two h1 h2) HW2.out.lp 9 _
    | n + 20, ho => simp at ho
  intro up vals vs w3 hall hv hT
  obtain ⟨HF, hbF⟩ := hT.d (hall 19 (by decide))
  have HF' := hid HF
  have HB3 := hid (blw_two HB2.out hbF)
  clear hall hv hT HF hbF
  simp only [RY.putAll, Act.put, List.setIfInBounds_toArray, List.set_cons_zero, List.set_cons_succ]
  go_wp2
  first | go_end0 | refine bodyPost_ret (results_none rfl _ _ _) rfl ?_
  first
    | exact ⟨⟨rfl, HF'.out⟩, HB3.out⟩
    | exact ⟨by rw [if_neg HE.out]; exact ⟨rfl, HF'.out⟩, HB3.out⟩

end Go.Proofs.YtpamkibnahhphaaGreatDoor
