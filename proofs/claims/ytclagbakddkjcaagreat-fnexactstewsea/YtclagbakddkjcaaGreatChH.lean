/-
  The sea, by the program: a berth sinks.
-/
import Derived.Test.YtclagbakddkjcaaGreatChG
import Derived.Test.YtclagbakddkjcaaGreatSeM
namespace Go.Proofs.YtclagbakddkjcaaGreat
open Go.RowKit Go.Deep

def btAt (l : List Bt) (nm : ByteArray) : Int := if 0 ≤ btIx l nm then btIx l nm else 0
theorem look_bt2 {K : SBk} {W : World} {mb : Nat} (h : PlAt K W mb) (hs : Nmd K) (ha : Apart K) (nm : ByteArray) (hx : nm.size ≤ maxLen) :
    (Instr.lookup 123 (.map (some mb)) (.agg #[.int .i64 1, .string nm]) true).run Tryz.prog W = .ok (.tuple #[.int .i64 (btAt K.bts nm), .bool (decide (0 ≤ btIx K.bts nm))]) W := by
  rcases pl_find K (plAll K) W true nm hx (Nat.le_refl _) hs with ⟨h1, h2⟩ | ⟨i, hi, h1, h2⟩
  · have e : btIx K.bts nm = -1 := by
      refine firstTo_none fun j hj => ?_
      have := h2 (K.svcs.length + j) (by unfold plAll; omega)
      unfold plK at this
      rw [if_neg (by omega), Nat.add_sub_cancel_left] at this
      rw [Bool.eq_false_iff]
      intro q
      exact this (by rw [(same_iff _ _).1 q])
    unfold btAt
    rw [e]
    exact pl_miss _ _ mb W true nm hx h h1
  · have hl : ¬ i < K.svcs.length := by
      intro q
      unfold plK at h2; rw [if_pos q] at h2; cases (pk_inj h2).1
    have hn : (K.bts.getD (i - K.svcs.length) Bt.none).nm = nm := by unfold plK at h2; rw [if_neg hl] at h2; exact (pk_inj h2).2
    have hv : plV K i = i - K.svcs.length := by unfold plV; rw [if_neg hl]
    rw [hv] at h1
    have hb : i - K.svcs.length < K.bts.length := by unfold plAll at hi; omega
    have e : btIx K.bts nm = ((i - K.svcs.length : Nat) : Int) := by
      refine firstTo_hit hb ((same_iff _ _).2 hn) fun j hj => ?_
      rw [Bool.eq_false_iff]
      intro q
      have := ha.2 j (i - K.svcs.length) (by omega) hb (((same_iff _ _).1 q).trans hn.symm)
      omega
    unfold btAt
    rw [e, if_pos (by omega), decide_eq_true (by omega)]
    exact pl_hit _ _ mb i W true nm _ hx h h1
/-- Behind what turns the variable and its row of copies. -/
theorem XG.cpsY {lo px : Nat} {t : TypeId} {ex : List Value} {W W' : World} {now : Int} {sv : List Sv} {cp : List Cp} {bt : List Bt} {p0 p1 p2 : Option Addr} {n0 n1 n2 q0 q1 q2 : Nat} (h : XG lo px t ex W now sv cp bt p0 p1 p2 n0 n1 n2 q0 q1 q2) (hY : BelY px p1 W W') {cp' : List Cp} {p1' : Option Addr} {n1' q1' : Nat} (hb : W'.heap[px]? = some (.cells (.int .i64 now :: .slice p0 n0 q0 :: .slice p1' n1' q1' :: .slice p2 n2 q2 :: ex).toArray t (0, 0))) (ho : W'.ownsRow lo 81 7 (.slice p1' n1' q1') n1' (cp'.flatMap CpC)) (hl : cp'.length = n1') (hz : ∀ i, i < cp'.length → (cp'.getD i Cp.none).sized) (hm : n1' ≤ 1048576) : XG lo px t ex W' now sv cp' bt p0 p1' p2 n0 n1' n2 q0 q1' q2 :=
  ⟨h.nr, hb, owns_bely h.o0 hY h.bx h.nr.1 (fun g e => (owns_typ h.o1 g e).2) t_sc, ho, owns_bely h.o2 hY h.bx h.nr.2.2 (fun g e => (owns_typ h.o1 g e).2) t_bc, h.l0, hl, h.l2, h.z0, hz, h.z2, h.m0, hm, h.m2⟩
def V59 (px : Nat) (now : Int) (sv : List Sv) (cp : List Cp) (bt : List Bt) (p0 p1 p2 : Option Addr) (q0 q1 q2 : Nat) (nm : ByteArray) (i : Nat) (u : Value) (W : World) : Prop := match i with
  | 5 => ∃ mb, u = .map (some mb) ∧ PlAt ⟨now, sv, cp, bt⟩ W mb
  | 0 => u = .pointer (some ⟨px, 0, none⟩)
  | 1 => u = .pointer (some ⟨px, 0, none⟩)
  | 2 => u = .pointer (some ⟨px, 0, none⟩)
  | 3 => u = .pointer (some ⟨px, 0, none⟩)
  | 4 => u = .agg #[.int .i64 now, .slice p0 sv.length q0, .slice p1 cp.length q1, .slice p2 bt.length q2]
  | 6 => u = .pointer (some ⟨px, 0, none⟩)
  | 7 => u = .pointer (some ⟨px, 0, none⟩)
  | 8 => u = .pointer (some ⟨px, 4, none⟩)
  | 9 => u = .string nm
  | 10 => u = .agg #[.int .i64 1, .string nm]
  | 11 => u = .tuple #[.int .i64 (btAt bt nm), .bool (decide (0 ≤ btIx bt nm))]
  | 12 => u = .tuple #[.int .i64 (btAt bt nm), .bool (decide (0 ≤ btIx bt nm))]
  | 13 => u = .int .i64 (btAt bt nm)
  | 14 => u = .bool (decide (0 ≤ btIx bt nm))
  | 15 => u = .int .i64 (btAt bt nm)
  | 16 => u = .bool (decide (0 ≤ btIx bt nm))
  | _ => True
theorem V59_mono (px : Nat) (now : Int) (sv : List Sv) (cp : List Cp) (bt : List Bt) (p0 p1 p2 : Option Addr) (q0 q1 q2 : Nat) (nm : ByteArray) : ∀ j u W W', Below W.heap.size W W' → V59 px now sv cp bt p0 p1 p2 q0 q1 q2 nm j u W → V59 px now sv cp bt p0 p1 p2 q0 q1 q2 nm j u W' := by
  intro j u W W' hb h
  match j, h with
  | 5, h =>
    obtain ⟨mb, e, hp⟩ := h
    exact ⟨mb, e, hp.later hb⟩
  | 0, h => exact h
  | 1, h => exact h
  | 2, h => exact h
  | 3, h => exact h
  | 4, h => exact h
  | 6, h => exact h
  | 7, h => exact h
  | 8, h => exact h
  | 9, h => exact h
  | 10, h => exact h
  | 11, h => exact h
  | 12, h => exact h
  | 13, h => exact h
  | 14, h => exact h
  | 15, h => exact h
  | 16, h => exact h
  | n + 17, _ => trivial
def V59d (px g k : Nat) (n2 q2 : Nat) : Nat → Value → Prop
  | 0, u => u = .pointer (some ⟨px, 0, none⟩)
  | 1, u => u = .pointer (some ⟨px, 0, none⟩)
  | 2, u => u = .pointer (some ⟨px, 0, none⟩)
  | 3, u => u = .pointer (some ⟨px, 0, none⟩)
  | 4, u => u = .pointer (some ⟨px, 0, none⟩)
  | 5, u => u = .pointer (some ⟨px, 3, none⟩)
  | 6, u => u = .slice (some ⟨g, 0, none⟩) n2 q2
  | 7, u => u = .int .i64 (k : Nat)
  | 8, u => u = .int .i64 (k : Nat)
  | 9, u => u = .int .i64 ((k : Int) + 1)
  | 11, u => u = .pointer (some ⟨px, 0, none⟩)
  | 12, u => u = .pointer (some ⟨px, 0, none⟩)
  | 13, u => u = .pointer (some ⟨px, 0, none⟩)
  | 14, u => u = .pointer (some ⟨px, 3, none⟩)
  | _, _ => True
def V59f (px pe : Nat) (p1 : Option Addr) (n1 q1 : Nat) : Nat → Value → Prop
  | 0, u => u = .pointer (some ⟨px, 0, none⟩)
  | 1, u => u = .pointer (some ⟨px, 0, none⟩)
  | 2, u => u = .pointer (some ⟨px, 0, none⟩)
  | 3, u => u = .pointer (some ⟨px, 0, none⟩)
  | 4, u => u = .pointer (some ⟨px, 0, none⟩)
  | 5, u => u = .pointer (some ⟨px, 2, none⟩)
  | 6, u => u = .slice p1 n1 q1
  | 7, u => u = .func (.func 89) #[] #[.pointer (some ⟨pe, 0, none⟩)]
  | 9, u => u = .pointer (some ⟨px, 0, none⟩)
  | 10, u => u = .pointer (some ⟨px, 0, none⟩)
  | 11, u => u = .pointer (some ⟨px, 0, none⟩)
  | 12, u => u = .pointer (some ⟨px, 2, none⟩)
  | _, _ => True
def sinkB (bt : List Bt) (nm : ByteArray) : List Bt := if 0 ≤ btIx bt nm then bt.take (btIx bt nm).toNat ++ bt.drop ((btIx bt nm).toNat + 1) else bt
def sinkC (bt : List Bt) (cp : List Cp) (nm : ByteArray) : List Cp := if 0 ≤ btIx bt nm then awayFrom cp nm else cp

set_option maxRecDepth 8000 in
set_option maxHeartbeats 16000000 in
theorem sinkI {lo px : Nat} {t : TypeId} {nm : ByteArray} {R : World} {now : Int} {sv : List Sv} {cp : List Cp} {bt : List Bt} {p0 p1 p2 : Option Addr} {q0 q1 q2 : Nat} (h : XG lo px t [.string nm] R now sv cp bt p0 p1 p2 sv.length cp.length bt.length q0 q1 q2) (hap : Apart ⟨now, sv, cp, bt⟩) (hsz : nm.size ≤ maxLen) (hlo : lo ≤ R.heap.size) (hpl : lo ≤ px) :
    Calls Tryz.prog 59 #[.pointer (some ⟨px, 0, none⟩)] R fun e W' => e = .returned (.int .i64 (if 0 ≤ btIx bt nm then 0 else 3)) ∧ (∃ p1' p2' n1' n2' q1' q2', XG lo px t [.string nm] W' now sv (sinkC bt cp nm) (sinkB bt nm) p0 p1' p2' sv.length n1' n2' q0 q1' q2') ∧ Below lo R W' := by
  obtain ⟨r, hr⟩ : ∃ r : Int, r = (if 0 ≤ btIx bt nm then 0 else 3) := ⟨_, rfl⟩
  rw [← hr]
  have HRE := hid hr
  have HLO := hid hlo
  have HPL := hid hpl
  obtain ⟨pe, hpe⟩ : ∃ pe, pe = R.heap.size := ⟨_, rfl⟩
  obtain ⟨Ra, hRa⟩ : ∃ Ra, Ra = R.alloc (.cells #[.pointer (some ⟨px, 0, none⟩)] 102) := ⟨_, rfl⟩
  have hba : Below R.heap.size R Ra := by rw [hRa]; exact blw_alloc (Below.refl _ _) _
  have hea : Ra.heap[pe]? = some (.cells #[.pointer (some ⟨px, 0, none⟩)] 102 (0, 0)) := by rw [hRa, hpe]; exact World.alloc_heap_new R _
  have HXG := hid (h.later hba)
  have HBa : Hid (Below lo R Ra) := hba.mono HLO.out
  have HLOa : Hid (lo ≤ Ra.heap.size) := Nat.le_trans HLO.out hba.size
  have HPEX0 : Hid (pe ≠ px ∧ (∀ g, p1 = some ⟨g, 0, none⟩ → pe ≠ g) ∧ (∀ g, p2 = some ⟨g, 0, none⟩ → pe ≠ g)) := by
    have h1 := lt_heap h.bx
    exact ⟨by omega, fun g e => by have := (World.ownsRow.lt h.o1 g (by rw [e]; rfl)).2; omega, fun g e => by have := (World.ownsRow.lt h.o2 g (by rw [e]; rfl)).2; omega⟩
  have HEA := hid hea
  clear h hlo hpl hr hba hea
  go_enter Tryz.func59, Tryz.ntmps59
  go_upto_region 1 with fail
  rw [← hRa, ← hpe]
  clear hRa hpe
  have HV := hid HXG.out.v
  have X0 := HXG.out.cell 0 _ rfl
  have X1 := HXG.out.cell 1 _ rfl
  have X2 := HXG.out.cell 2 _ rfl
  have X3 := HXG.out.cell 3 _ rfl
  have X4 := HXG.out.cell 4 _ rfl
  have HXL := lt_heap HXG.out.bx
  have XE : Ra.cell? ⟨pe, 0, none⟩ = some (.pointer (some ⟨px, 0, none⟩)) := by have := HEA.out; simp [World.cell?, this]
  have HPEL := lt_heap HEA.out
  refine RY.region_past Ra (Below.refl _ _) (V59 px now sv cp bt p0 p1 p2 q0 q1 q2 nm) (V59_mono px now sv cp bt p0 p1 p2 q0 q1 q2 nm) (by kernel_rfl) (by kernel_rfl) (by kernel_rfl) (by kernel_rfl) ?_ ?_
  · intro i o ho a W hW hk hd
    have x0 := (hW.cell (p := ⟨px, 0, none⟩) HXL).trans X0
    have x1 := (hW.cell (p := ⟨px, 1, none⟩) HXL).trans X1
    have x2 := (hW.cell (p := ⟨px, 2, none⟩) HXL).trans X2
    have x3 := (hW.cell (p := ⟨px, 3, none⟩) HXL).trans X3
    have x4 := (hW.cell (p := ⟨px, 4, none⟩) HXL).trans X4
    have xe := (hW.cell (p := ⟨pe, 0, none⟩) HPEL).trans XE
    match i, ho with
    | 0, ho =>
      injection ho with ho; subst ho
      have e0 : a.tmps[1]?.getD undef = .pointer (some ⟨pe, 0, none⟩) := (RY.ev_tmp a 1).trans ((hk 1 (by kernel_rfl)).trans rfl)
      exact Or.inl ⟨.pointer (some ⟨px, 0, none⟩), W, by simp [execOp, go_sem, e0, xe], Below.refl _ _, rfl⟩
    | 1, ho =>
      injection ho with ho; subst ho
      have d0 := hd 0 _ 6 rfl rfl ⟨⟨0, .data⟩, by simp, rfl, rfl⟩
      have e0 : a.tmps[6]?.getD undef = .pointer (some ⟨px, 0, none⟩) := (RY.ev_tmp a 6).trans d0
      exact Or.inl ⟨.pointer (some ⟨px, 0, none⟩), W, by simp [execOp, go_sem, e0], Below.refl _ _, rfl⟩
    | 2, ho =>
      injection ho with ho; subst ho
      have d0 := hd 1 _ 7 rfl rfl ⟨⟨1, .data⟩, by simp, rfl, rfl⟩
      have e0 : a.tmps[7]?.getD undef = .pointer (some ⟨px, 0, none⟩) := (RY.ev_tmp a 7).trans d0
      exact Or.inl ⟨.pointer (some ⟨px, 0, none⟩), W, by simp [execOp, go_sem, e0], Below.refl _ _, rfl⟩
    | 3, ho =>
      injection ho with ho; subst ho
      have d0 := hd 2 _ 8 rfl rfl ⟨⟨2, .data⟩, by simp, rfl, rfl⟩
      have e0 : a.tmps[8]?.getD undef = .pointer (some ⟨px, 0, none⟩) := (RY.ev_tmp a 8).trans d0
      exact Or.inl ⟨.pointer (some ⟨px, 0, none⟩), W, by simp [execOp, go_sem, e0], Below.refl _ _, rfl⟩
    | 4, ho =>
      injection ho with ho; subst ho
      have d0 := hd 3 _ 9 rfl rfl ⟨⟨3, .data⟩, by simp, rfl, rfl⟩
      have e0 : a.tmps[9]?.getD undef = .pointer (some ⟨px, 0, none⟩) := (RY.ev_tmp a 9).trans d0
      exact Or.inl ⟨.agg #[.int .i64 now, .slice p0 sv.length q0, .slice p1 cp.length q1, .slice p2 bt.length q2], W, by simp [execOp, go_sem, e0, x0, x1, x2, x3], Below.refl _ _, rfl⟩
    | 5, ho =>
      injection ho with ho; subst ho
      have d0 := hd 4 _ 10 rfl rfl ⟨⟨4, .data⟩, by simp, rfl, rfl⟩
      have e0 : a.tmps[10]?.getD undef = .agg #[.int .i64 now, .slice p0 sv.length q0, .slice p1 cp.length q1, .slice p2 bt.length q2] := (RY.ev_tmp a 10).trans d0
      refine Or.inr ⟨77, #[.agg #[.int .i64 now, .slice p0 sv.length q0, .slice p1 cp.length q1, .slice p2 bt.length q2]], by simp [go_sem, e0], (placesI ⟨now, sv, cp, bt⟩ p0 p1 p2 q0 q1 q2 W (HV.out.later hW) hap).mono ?_⟩
      rintro e W' ⟨mb, rfl, hpl, hb⟩
      exact ⟨_, rfl, hb, mb, rfl, hpl⟩
    | 6, ho =>
      injection ho with ho; subst ho
      have e0 : a.tmps[1]?.getD undef = .pointer (some ⟨pe, 0, none⟩) := (RY.ev_tmp a 1).trans ((hk 1 (by kernel_rfl)).trans rfl)
      exact Or.inl ⟨.pointer (some ⟨px, 0, none⟩), W, by simp [execOp, go_sem, e0, xe], Below.refl _ _, rfl⟩
    | 7, ho =>
      injection ho with ho; subst ho
      have d0 := hd 6 _ 12 rfl rfl ⟨⟨6, .data⟩, by simp, rfl, rfl⟩
      have e0 : a.tmps[12]?.getD undef = .pointer (some ⟨px, 0, none⟩) := (RY.ev_tmp a 12).trans d0
      exact Or.inl ⟨.pointer (some ⟨px, 0, none⟩), W, by simp [execOp, go_sem, e0], Below.refl _ _, rfl⟩
    | 8, ho =>
      injection ho with ho; subst ho
      have d0 := hd 7 _ 13 rfl rfl ⟨⟨7, .data⟩, by simp, rfl, rfl⟩
      have e0 : a.tmps[13]?.getD undef = .pointer (some ⟨px, 0, none⟩) := (RY.ev_tmp a 13).trans d0
      exact Or.inl ⟨.pointer (some ⟨px, 4, none⟩), W, by simp [execOp, go_sem, e0], Below.refl _ _, rfl⟩
    | 9, ho =>
      injection ho with ho; subst ho
      have d0 := hd 8 _ 14 rfl rfl ⟨⟨8, .data⟩, by simp, rfl, rfl⟩
      have e0 : a.tmps[14]?.getD undef = .pointer (some ⟨px, 4, none⟩) := (RY.ev_tmp a 14).trans d0
      exact Or.inl ⟨.string nm, W, by simp [execOp, go_sem, e0, x4], Below.refl _ _, rfl⟩
    | 10, ho =>
      injection ho with ho; subst ho
      have d0 := hd 9 _ 15 rfl rfl ⟨⟨9, .data⟩, by simp, rfl, rfl⟩
      have e0 : a.tmps[15]?.getD undef = .string nm := (RY.ev_tmp a 15).trans d0
      exact Or.inl ⟨.agg #[.int .i64 1, .string nm], W, by simp [execOp, go_sem, e0], Below.refl _ _, rfl⟩
    | 11, ho =>
      injection ho with ho; subst ho
      have d0 := hd 5 _ 11 rfl rfl ⟨⟨5, .data⟩, by simp, rfl, rfl⟩
      have d1 := hd 10 _ 16 rfl rfl ⟨⟨10, .data⟩, by simp, rfl, rfl⟩
      have e1 : a.tmps[16]?.getD undef = .agg #[.int .i64 1, .string nm] := (RY.ev_tmp a 16).trans d1
      obtain ⟨mb, em, hpl⟩ := d0
      have em : a.tmps[11]?.getD undef = .map (some mb) := (RY.ev_tmp a 11).trans em
      have hlk := look_bt2 hpl HV.out.nmd hap nm hsz
      exact Or.inl ⟨_, W, by simp [execOp, go_sem, em, e1, hlk], Below.refl _ _, rfl⟩
    | 12, ho =>
      injection ho with ho; subst ho
      have d0 := hd 11 _ 17 rfl rfl ⟨⟨11, .data⟩, by simp, rfl, rfl⟩
      have e0 : a.tmps[17]?.getD undef = .tuple #[.int .i64 (btAt bt nm), .bool (decide (0 ≤ btIx bt nm))] := (RY.ev_tmp a 17).trans d0
      exact Or.inl ⟨.tuple #[.int .i64 (btAt bt nm), .bool (decide (0 ≤ btIx bt nm))], W, by simp [execOp, go_sem, e0], Below.refl _ _, rfl⟩
    | 13, ho =>
      injection ho with ho; subst ho
      have d0 := hd 12 _ 5 rfl rfl ⟨⟨12, .data⟩, by simp, rfl, rfl⟩
      have e0 : a.tmps[5]?.getD undef = .tuple #[.int .i64 (btAt bt nm), .bool (decide (0 ≤ btIx bt nm))] := (RY.ev_tmp a 5).trans d0
      exact Or.inl ⟨.int .i64 (btAt bt nm), W, by simp [execOp, go_sem, e0], Below.refl _ _, rfl⟩
    | 14, ho =>
      injection ho with ho; subst ho
      have d0 := hd 12 _ 5 rfl rfl ⟨⟨12, .data⟩, by simp, rfl, rfl⟩
      have e0 : a.tmps[5]?.getD undef = .tuple #[.int .i64 (btAt bt nm), .bool (decide (0 ≤ btIx bt nm))] := (RY.ev_tmp a 5).trans d0
      exact Or.inl ⟨.bool (decide (0 ≤ btIx bt nm)), W, by simp [execOp, go_sem, e0], Below.refl _ _, rfl⟩
    | 15, ho =>
      injection ho with ho; subst ho
      have d0 := hd 13 _ 18 rfl rfl ⟨⟨13, .data⟩, by simp, rfl, rfl⟩
      have e0 : a.tmps[18]?.getD undef = .int .i64 (btAt bt nm) := (RY.ev_tmp a 18).trans d0
      exact Or.inl ⟨.int .i64 (btAt bt nm), W, by simp [execOp, go_sem, e0], Below.refl _ _, rfl⟩
    | 16, ho =>
      injection ho with ho; subst ho
      have d0 := hd 14 _ 19 rfl rfl ⟨⟨14, .data⟩, by simp, rfl, rfl⟩
      have e0 : a.tmps[19]?.getD undef = .bool (decide (0 ≤ btIx bt nm)) := (RY.ev_tmp a 19).trans d0
      exact Or.inl ⟨.bool (decide (0 ≤ btIx bt nm)), W, by simp [execOp, go_sem, e0], Below.refl _ _, rfl⟩
    | n + 17, ho => simp at ho
  intro W1 vs hb hvs
  have e3 : vs 3 = _ := hvs 15 _ 3 rfl rfl
  have e4 : vs 4 = _ := hvs 16 _ 4 rfl rfl
  simp only [RY.putAll, Act.put, List.setIfInBounds_toArray, List.set_cons_zero, List.set_cons_succ]
  rw [e3, e4]
  generalize vs 5 = z5
  generalize vs 6 = z6
  generalize vs 7 = z7
  generalize vs 8 = z8
  generalize vs 9 = z9
  generalize vs 10 = z10
  generalize vs 11 = z11
  generalize vs 12 = z12
  generalize vs 13 = z13
  generalize vs 14 = z14
  generalize vs 15 = z15
  generalize vs 16 = z16
  generalize vs 17 = z17
  generalize vs 18 = z18
  generalize vs 19 = z19
  clear hvs e3 e4 X0 X1 X2 X3 X4 HXL XE HPEL
  have HX1 := hid (HXG.out.later hb)
  have HB1 : Hid (Below lo R W1) := HBa.out.trans (hb.mono HLOa.out)
  have HLO1 : Hid (lo ≤ W1.heap.size) := Nat.le_trans HLOa.out hb.size
  have HE1 : Hid (W1.heap[pe]? = some (.cells #[.pointer (some ⟨px, 0, none⟩)] 102 (0, 0))) := (hb.block pe (lt_heap HEA.out)).trans HEA.out
  clear hb HXG HBa HLOa HEA HV
  by_cases h0 : 0 ≤ btIx bt nm
  · obtain ⟨k, hkk, hlt⟩ : ∃ k : Nat, btIx bt nm = k ∧ k < bt.length := by
      rcases firstTo_cases (fun i => same (bt.getD i Bt.none).nm nm) bt.length with ⟨q, _⟩ | ⟨k, w1, w2, _⟩
      · exfalso
        have : btIx bt nm = -1 := q
        omega
      · exact ⟨k, w2, w1⟩
    have hd0 : decide (0 ≤ btIx bt nm) = true := decide_eq_true h0
    have hat : btAt bt nm = (k : Int) := by unfold btAt; rw [if_pos h0, hkk]
    have HSB : Hid (sinkB bt nm = bt.take k ++ bt.drop (k + 1)) := by show _ = _; unfold sinkB; rw [if_pos h0, hkk, Int.toNat_natCast]
    have HSC : Hid (sinkC bt cp nm = awayFrom cp nm) := by show _ = _; unfold sinkC; rw [if_pos h0]
    have HC : Hid (r = 0) := by show _ = _; rw [HRE.out, if_pos h0]
    rw [hd0, hat]
    clear hd0 hat h0 hkk HRE
    obtain ⟨g, cur, hpg, hgl, hgh, hcs, hcell⟩ := owns_blk HX1.out.o2 (by omega)
    subst hpg
    have HGL := hid hgl
    have HPG : Hid (px ≠ g) := HX1.out.ne hgh HX1.out.nr.2.2
    have HCUT : Hid ((bt.take k ++ bt.drop (k + 1)).flatMap BtC = (bt.flatMap BtC).take (k * 2) ++ (bt.flatMap BtC).drop ((k + 1) * 2)) := by show _ = _; rw [List.flatMap_append, flat_take BtC 2 BtC_len, flat_drop BtC 2 BtC_len]
    have HRL : Hid ((sinkB bt nm).length = bt.length - 1) := by show _ = _; rw [HSB.out, List.length_append, List.length_take, List.length_drop]; omega
    have HSZD : Hid (∀ i, i < (sinkB bt nm).length → ((sinkB bt nm).getD i Bt.none).sized) := by rw [HSB.out]; exact out_sized HX1.out.z2 k
    clear hcell hgl hgh hcs
    go_upto_region 4 with fail
    have X3 := HX1.out.cell 3 _ rfl
    have HXL := lt_heap HX1.out.bx
    have HPX := HX1.out.bx
    have HNE : 79 ≠ t := HX1.out.nr.2.2
    have XE : W1.cell? ⟨pe, 0, none⟩ = some (.pointer (some ⟨px, 0, none⟩)) := by have := HE1.out; simp [World.cell?, this]
    have HPEL := lt_heap HE1.out
    have HPEX := HPEX0.out.1
    have HPEG := HPEX0.out.2.2
    have hm2 := HX1.out.m2
    have hwr : IntKind.i64.wrap ((k : Int) + 1) = (k : Int) + 1 := by simp [IntKind.wrap, IntKind.bits, IntKind.signed]; omega
    refine RY.region_TC (V59d px g k bt.length q2) (TY W1 px (some ⟨g, 0, none⟩) t (fun u => (.int .i64 now :: .slice p0 sv.length q0 :: .slice p1 cp.length q1 :: u :: [.string nm]).toArray) lo 79 2 (bt.length - 1) ((bt.take k ++ bt.drop (k + 1)).flatMap BtC) [] 99 10 15) (by kernel_rfl) (by kernel_rfl) (by kernel_rfl) (by kernel_rfl) ?_ ?_ ?_
    · intro vals
      exact ⟨BelY.of (Below.refl _ _).drew, fun _ => (Below.refl _ _).drew, fun h => (by cases h), fun _ => rfl, fun h => (by cases h), fun h => (by cases h)⟩
    · intro up vals i o ho hi hcl a W hk hd hT
      obtain ⟨hY, hBe, hO, hS0, hS1, hBb⟩ := hT
      match i, ho with
        | 0, ho =>
          injection ho with ho; subst ho
          have e0 : a.tmps[1]?.getD undef = .pointer (some ⟨pe, 0, none⟩) := (RY.ev_tmp a 1).trans ((hk 1 (by kernel_rfl)).trans rfl)
          have xe : W.cell? ⟨pe, 0, none⟩ = some (.pointer (some ⟨px, 0, none⟩)) := (World.cell?_of_block (w := W1) (hY.block pe HPEL HPEX HPEG)).trans XE
          exact Or.inl ⟨.pointer (some ⟨px, 0, none⟩), W, by simp [execOp, go_sem, e0, xe], rfl, rfl, ⟨hY, hBe, hO, hS0, hS1, hBb⟩⟩
        | 1, ho =>
          injection ho with ho; subst ho
          have e0 : a.tmps[1]?.getD undef = .pointer (some ⟨pe, 0, none⟩) := (RY.ev_tmp a 1).trans ((hk 1 (by kernel_rfl)).trans rfl)
          have xe : W.cell? ⟨pe, 0, none⟩ = some (.pointer (some ⟨px, 0, none⟩)) := (World.cell?_of_block (w := W1) (hY.block pe HPEL HPEX HPEG)).trans XE
          exact Or.inl ⟨.pointer (some ⟨px, 0, none⟩), W, by simp [execOp, go_sem, e0, xe], rfl, rfl, ⟨hY, hBe, hO, hS0, hS1, hBb⟩⟩
        | 2, ho =>
          injection ho with ho; subst ho
          have d0 := hd 1 _ 23 rfl rfl ⟨⟨1, .data⟩, by simp, rfl, rfl⟩
          have e0 : a.tmps[23]?.getD undef = .pointer (some ⟨px, 0, none⟩) := (RY.ev_tmp a 23).trans (d0.2.1.trans d0.2.2)
          exact Or.inl ⟨.pointer (some ⟨px, 0, none⟩), W, by simp [execOp, go_sem, e0], rfl, rfl, ⟨hY, hBe, hO, hS0, hS1, hBb⟩⟩
        | 3, ho =>
          injection ho with ho; subst ho
          have d0 := hd 2 _ 24 rfl rfl ⟨⟨2, .data⟩, by simp, rfl, rfl⟩
          have e0 : a.tmps[24]?.getD undef = .pointer (some ⟨px, 0, none⟩) := (RY.ev_tmp a 24).trans (d0.2.1.trans d0.2.2)
          exact Or.inl ⟨.pointer (some ⟨px, 0, none⟩), W, by simp [execOp, go_sem, e0], rfl, rfl, ⟨hY, hBe, hO, hS0, hS1, hBb⟩⟩
        | 4, ho =>
          injection ho with ho; subst ho
          have d0 := hd 3 _ 25 rfl rfl ⟨⟨3, .data⟩, by simp, rfl, rfl⟩
          have e0 : a.tmps[25]?.getD undef = .pointer (some ⟨px, 0, none⟩) := (RY.ev_tmp a 25).trans (d0.2.1.trans d0.2.2)
          exact Or.inl ⟨.pointer (some ⟨px, 0, none⟩), W, by simp [execOp, go_sem, e0], rfl, rfl, ⟨hY, hBe, hO, hS0, hS1, hBb⟩⟩
        | 5, ho =>
          injection ho with ho; subst ho
          have d0 := hd 4 _ 26 rfl rfl ⟨⟨4, .data⟩, by simp, rfl, rfl⟩
          have e0 : a.tmps[26]?.getD undef = .pointer (some ⟨px, 0, none⟩) := (RY.ev_tmp a 26).trans (d0.2.1.trans d0.2.2)
          exact Or.inl ⟨.pointer (some ⟨px, 3, none⟩), W, by simp [execOp, go_sem, e0], rfl, rfl, ⟨hY, hBe, hO, hS0, hS1, hBb⟩⟩
        | 6, ho =>
          injection ho with ho; subst ho
          have d0 := hd 5 _ 27 rfl rfl ⟨⟨5, .data⟩, by simp, rfl, rfl⟩
          have e0 : a.tmps[27]?.getD undef = .pointer (some ⟨px, 3, none⟩) := (RY.ev_tmp a 27).trans (d0.2.1.trans d0.2.2)
          have fc : up 10 = false := by
            cases e : up 10
            · rfl
            · exfalso
              have e := hcl 10 _ ⟨6, .data⟩ rfl (by simp) rfl e
              rw [hi] at e; cases e
          have hW := hBe fc
          have x3 := (hW.cell (p := ⟨px, 3, none⟩) HXL).trans X3
          exact Or.inl ⟨.slice (some ⟨g, 0, none⟩) bt.length q2, W, by simp [execOp, go_sem, e0, x3], rfl, rfl, ⟨hY, hBe, hO, hS0, hS1, hBb⟩⟩
        | 7, ho =>
          injection ho with ho; subst ho
          have e0 : a.tmps[3]?.getD undef = .int .i64 (k : Nat) := (RY.ev_tmp a 3).trans ((hk 3 (by kernel_rfl)).trans rfl)
          exact Or.inl ⟨.int .i64 (k : Nat), W, by simp [execOp, go_sem, e0], rfl, rfl, ⟨hY, hBe, hO, hS0, hS1, hBb⟩⟩
        | 8, ho =>
          injection ho with ho; subst ho
          have e0 : a.tmps[3]?.getD undef = .int .i64 (k : Nat) := (RY.ev_tmp a 3).trans ((hk 3 (by kernel_rfl)).trans rfl)
          exact Or.inl ⟨.int .i64 (k : Nat), W, by simp [execOp, go_sem, e0], rfl, rfl, ⟨hY, hBe, hO, hS0, hS1, hBb⟩⟩
        | 9, ho =>
          injection ho with ho; subst ho
          have d0 := hd 8 _ 30 rfl rfl ⟨⟨8, .data⟩, by simp, rfl, rfl⟩
          have e0 : a.tmps[30]?.getD undef = .int .i64 (k : Nat) := (RY.ev_tmp a 30).trans (d0.2.1.trans d0.2.2)
          exact Or.inl ⟨.int .i64 ((k : Int) + 1), W, by simp [execOp, go_sem, e0, hwr], rfl, rfl, ⟨hY, hBe, hO, hS0, hS1, hBb⟩⟩
        | 10, ho =>
          injection ho with ho; subst ho
          have d0 := hd 6 _ 28 rfl rfl ⟨⟨6, .data⟩, by simp, rfl, rfl⟩
          have e0 : a.tmps[28]?.getD undef = .slice (some ⟨g, 0, none⟩) bt.length q2 := (RY.ev_tmp a 28).trans (d0.2.1.trans d0.2.2)
          have d1 := hd 7 _ 29 rfl rfl ⟨⟨7, .data⟩, by simp, rfl, rfl⟩
          have e1 : a.tmps[29]?.getD undef = .int .i64 (k : Nat) := (RY.ev_tmp a 29).trans (d1.2.1.trans d1.2.2)
          have d2 := hd 9 _ 31 rfl rfl ⟨⟨9, .data⟩, by simp, rfl, rfl⟩
          have e2 : a.tmps[31]?.getD undef = .int .i64 ((k : Int) + 1) := (RY.ev_tmp a 31).trans (d2.2.1.trans d2.2.2)
          have hW := hBe hi
          refine Or.inr (Or.inr ⟨88, #[.slice (some ⟨g, 0, none⟩) bt.length q2, .int .i64 (k : Nat), .int .i64 ((k : Int) + 1)], by simp [go_sem, e0, e1, e2], rfl, (delB lo W g bt.length q2 _ (owns_on HX1.out.o2 hW) (BtC_one bt) k hlt HX1.out.m2).mono ?_⟩)
          rintro e W' ⟨rfl, ho, hb⟩
          have f15 : up 15 = false := by
            cases e : up 15
            · rfl
            · have := hcl 15 _ ⟨10, .data⟩ rfl (by simp) rfl e; rw [hi] at this; cases this
          refine ⟨_, rfl, trivial, BelY.call hW hb, fun h => (by cases h), fun _ => ⟨_, _, rfl, ?_⟩, fun _ => (hb.block px (Nat.lt_of_lt_of_le HXL hW.size) (fun g' e => by cases e; exact HPG.out)).trans (hW.block px HXL), ?_, fun _ h => (by cases h)⟩
          · rw [HCUT.out]; exact ho
          · show ((15 == 10) || up 15) = true → _
            rw [f15]; intro h; cases h
        | 11, ho =>
          injection ho with ho; subst ho
          have d0 := hd 0 _ 22 rfl rfl ⟨⟨0, .data⟩, by simp, rfl, rfl⟩
          have e0 : a.tmps[22]?.getD undef = .pointer (some ⟨px, 0, none⟩) := (RY.ev_tmp a 22).trans (d0.2.1.trans d0.2.2)
          exact Or.inl ⟨.pointer (some ⟨px, 0, none⟩), W, by simp [execOp, go_sem, e0], rfl, rfl, ⟨hY, hBe, hO, hS0, hS1, hBb⟩⟩
        | 12, ho =>
          injection ho with ho; subst ho
          have d0 := hd 11 _ 33 rfl rfl ⟨⟨11, .data⟩, by simp, rfl, rfl⟩
          have e0 : a.tmps[33]?.getD undef = .pointer (some ⟨px, 0, none⟩) := (RY.ev_tmp a 33).trans (d0.2.1.trans d0.2.2)
          exact Or.inl ⟨.pointer (some ⟨px, 0, none⟩), W, by simp [execOp, go_sem, e0], rfl, rfl, ⟨hY, hBe, hO, hS0, hS1, hBb⟩⟩
        | 13, ho =>
          injection ho with ho; subst ho
          have d0 := hd 12 _ 34 rfl rfl ⟨⟨12, .data⟩, by simp, rfl, rfl⟩
          have e0 : a.tmps[34]?.getD undef = .pointer (some ⟨px, 0, none⟩) := (RY.ev_tmp a 34).trans (d0.2.1.trans d0.2.2)
          exact Or.inl ⟨.pointer (some ⟨px, 0, none⟩), W, by simp [execOp, go_sem, e0], rfl, rfl, ⟨hY, hBe, hO, hS0, hS1, hBb⟩⟩
        | 14, ho =>
          injection ho with ho; subst ho
          have d0 := hd 13 _ 35 rfl rfl ⟨⟨13, .data⟩, by simp, rfl, rfl⟩
          have e0 : a.tmps[35]?.getD undef = .pointer (some ⟨px, 0, none⟩) := (RY.ev_tmp a 35).trans (d0.2.1.trans d0.2.2)
          exact Or.inl ⟨.pointer (some ⟨px, 3, none⟩), W, by simp [execOp, go_sem, e0], rfl, rfl, ⟨hY, hBe, hO, hS0, hS1, hBb⟩⟩
        | 15, ho =>
          injection ho with ho; subst ho
          have d0 := hd 14 _ 36 rfl rfl ⟨⟨14, .data⟩, by simp, rfl, rfl⟩
          have e0 : a.tmps[36]?.getD undef = .pointer (some ⟨px, 3, none⟩) := (RY.ev_tmp a 36).trans (d0.2.1.trans d0.2.2)
          have d1 := hd 10 _ 32 rfl rfl ⟨⟨10, .data⟩, by simp, rfl, rfl⟩
          have dc := hd 10 _ 32 rfl rfl ⟨⟨10, .data⟩, by simp, rfl, rfl⟩
          obtain ⟨g9, q9, ev9, ho9⟩ := hO dc.1
          have e9 : a.tmps[32]?.getD undef = .slice g9 (bt.length - 1) q9 := (RY.ev_tmp a 32).trans (dc.2.1.trans ev9)
          have hp := (hS0 hi).trans HPX
          have fz : ∀ j, W.frozen? ⟨px, j, none⟩ = false := fun j => by simp [World.frozen?, hp]
          have y : W.cell? ⟨px, 3, none⟩ = some (.slice (some ⟨g, 0, none⟩) bt.length q2) := by simp [World.cell?, hp]
          refine Or.inr (Or.inl ⟨W.setCell ⟨px, 3, none⟩ (.slice g9 (bt.length - 1) q9), by simp [execOp, go_sem, e0, e9, y, fz], rfl, hY.sc _ _, ?_, fun _ => ⟨g9, q9, ev9, owns_else ho9 hp HNE _ _⟩, fun h => (by cases h), fun _ => ?_, ?_⟩)
          · show ((10 == 15) || up 10) = false → _
            rw [dc.1]; intro h; cases h
          · show _ = some (Obj.cells ((fun u => (.int .i64 now :: .slice p0 sv.length q0 :: .slice p1 cp.length q1 :: u :: [.string nm]).toArray) (vals 10)) _ _)
            rw [ev9, heap_setCell_same W px 3 _ _ _ hp]; rfl
          · show ((99 == 15) || up 99) = true → ((10 == 15) || up 10) = false → _
            rw [dc.1]; intro _ h; cases h
        | n + 16, ho => simp at ho
    intro up vals vs W2 hall hv hT
    obtain ⟨hY, _, hO, _, hS1, _⟩ := hT
    obtain ⟨g9, q9, ev9, ho9⟩ := hO (hall 10 (by decide))
    have hpx := hS1 (hall 15 (by decide))
    rw [ev9] at hpx
    simp only [RY.putAll, Act.put, List.setIfInBounds_toArray, List.set_cons_zero, List.set_cons_succ]
    generalize vs 22 = z22
    generalize vs 23 = z23
    generalize vs 24 = z24
    generalize vs 25 = z25
    generalize vs 26 = z26
    generalize vs 27 = z27
    generalize vs 28 = z28
    generalize vs 29 = z29
    generalize vs 30 = z30
    generalize vs 31 = z31
    generalize vs 32 = z32
    generalize vs 33 = z33
    generalize vs 34 = z34
    generalize vs 35 = z35
    generalize vs 36 = z36
    have HX2 : Hid (XG lo px t [.string nm] W2 now sv cp (sinkB bt nm) p0 p1 g9 sv.length cp.length (bt.length - 1) q0 q1 q9) := HX1.out.btsY hY hpx (by rw [HSB.out]; exact ho9) HRL.out HSZD.out (by omega)
    have HB2 : Hid (Below lo R W2) := HB1.out.trans (hY.lo HPL.out (fun g' e => by cases e; exact HGL.out) HLO1.out)
    have HLO2 : Hid (lo ≤ W2.heap.size) := Nat.le_trans HLO1.out hY.size
    have HE2 : Hid (W2.heap[pe]? = some (.cells #[.pointer (some ⟨px, 0, none⟩)] 102 (0, 0))) := (hY.block pe HPEL HPEX HPEG).trans HE1.out
    clear hY hO hS1 hpx ho9 ev9 hv hall X3 HXL HPX HNE XE HPEL HPEX HPEG hwr HX1 HB1 HLO1 HE1 hm2
    obtain ⟨n2', hn2'⟩ : ∃ n2', n2' = bt.length - 1 := ⟨_, rfl⟩
    rw [← hn2'] at HX2
    clear hn2'
    obtain ⟨p2', hp2'⟩ : ∃ p2', p2' = g9 := ⟨_, rfl⟩
    obtain ⟨q2', hq2'⟩ : ∃ q2', q2' = q9 := ⟨_, rfl⟩
    rw [← hp2', ← hq2'] at HX2
    clear hp2' hq2'
    go_upto_region 5 with fail
    have X2 := HX2.out.cell 2 _ rfl
    have X4 := HX2.out.cell 4 _ rfl
    have HXL := lt_heap HX2.out.bx
    have HPX := HX2.out.bx
    have HNE : 81 ≠ t := HX2.out.nr.2.1
    have XE : W2.cell? ⟨pe, 0, none⟩ = some (.pointer (some ⟨px, 0, none⟩)) := by have := HE2.out; simp [World.cell?, this]
    have HPEL := lt_heap HE2.out
    have HPEX := HPEX0.out.1
    have HPEG := HPEX0.out.2.1
    have HPG5 : Hid (∀ g, p1 = some ⟨g, 0, none⟩ → px ≠ g) := fun g e => by
      obtain ⟨cur, hc⟩ := (owns_typ HX2.out.o1 g e).2
      exact HX2.out.ne hc HX2.out.nr.2.1
    refine RY.region_TC (V59f px pe p1 cp.length q1) (TY W2 px p1 t (fun u => (.int .i64 now :: .slice p0 sv.length q0 :: u :: .slice p2' n2' q2' :: [.string nm]).toArray) lo 81 7 (awayFrom cp nm).length ((awayFrom cp nm).flatMap CpC) [] 99 8 13) (by kernel_rfl) (by kernel_rfl) (by kernel_rfl) (by kernel_rfl) ?_ ?_ ?_
    · intro vals
      exact ⟨BelY.of (Below.refl _ _).drew, fun _ => (Below.refl _ _).drew, fun h => (by cases h), fun _ => rfl, fun h => (by cases h), fun h => (by cases h)⟩
    · intro up vals i o ho hi hcl a W hk hd hT
      obtain ⟨hY, hBe, hO, hS0, hS1, hBb⟩ := hT
      match i, ho with
        | 0, ho =>
          injection ho with ho; subst ho
          have e0 : a.tmps[1]?.getD undef = .pointer (some ⟨pe, 0, none⟩) := (RY.ev_tmp a 1).trans ((hk 1 (by kernel_rfl)).trans rfl)
          have xe : W.cell? ⟨pe, 0, none⟩ = some (.pointer (some ⟨px, 0, none⟩)) := (World.cell?_of_block (w := W2) (hY.block pe HPEL HPEX HPEG)).trans XE
          exact Or.inl ⟨.pointer (some ⟨px, 0, none⟩), W, by simp [execOp, go_sem, e0, xe], rfl, rfl, ⟨hY, hBe, hO, hS0, hS1, hBb⟩⟩
        | 1, ho =>
          injection ho with ho; subst ho
          have e0 : a.tmps[1]?.getD undef = .pointer (some ⟨pe, 0, none⟩) := (RY.ev_tmp a 1).trans ((hk 1 (by kernel_rfl)).trans rfl)
          have xe : W.cell? ⟨pe, 0, none⟩ = some (.pointer (some ⟨px, 0, none⟩)) := (World.cell?_of_block (w := W2) (hY.block pe HPEL HPEX HPEG)).trans XE
          exact Or.inl ⟨.pointer (some ⟨px, 0, none⟩), W, by simp [execOp, go_sem, e0, xe], rfl, rfl, ⟨hY, hBe, hO, hS0, hS1, hBb⟩⟩
        | 2, ho =>
          injection ho with ho; subst ho
          have d0 := hd 1 _ 38 rfl rfl ⟨⟨1, .data⟩, by simp, rfl, rfl⟩
          have e0 : a.tmps[38]?.getD undef = .pointer (some ⟨px, 0, none⟩) := (RY.ev_tmp a 38).trans (d0.2.1.trans d0.2.2)
          exact Or.inl ⟨.pointer (some ⟨px, 0, none⟩), W, by simp [execOp, go_sem, e0], rfl, rfl, ⟨hY, hBe, hO, hS0, hS1, hBb⟩⟩
        | 3, ho =>
          injection ho with ho; subst ho
          have d0 := hd 2 _ 39 rfl rfl ⟨⟨2, .data⟩, by simp, rfl, rfl⟩
          have e0 : a.tmps[39]?.getD undef = .pointer (some ⟨px, 0, none⟩) := (RY.ev_tmp a 39).trans (d0.2.1.trans d0.2.2)
          exact Or.inl ⟨.pointer (some ⟨px, 0, none⟩), W, by simp [execOp, go_sem, e0], rfl, rfl, ⟨hY, hBe, hO, hS0, hS1, hBb⟩⟩
        | 4, ho =>
          injection ho with ho; subst ho
          have d0 := hd 3 _ 40 rfl rfl ⟨⟨3, .data⟩, by simp, rfl, rfl⟩
          have e0 : a.tmps[40]?.getD undef = .pointer (some ⟨px, 0, none⟩) := (RY.ev_tmp a 40).trans (d0.2.1.trans d0.2.2)
          exact Or.inl ⟨.pointer (some ⟨px, 0, none⟩), W, by simp [execOp, go_sem, e0], rfl, rfl, ⟨hY, hBe, hO, hS0, hS1, hBb⟩⟩
        | 5, ho =>
          injection ho with ho; subst ho
          have d0 := hd 4 _ 41 rfl rfl ⟨⟨4, .data⟩, by simp, rfl, rfl⟩
          have e0 : a.tmps[41]?.getD undef = .pointer (some ⟨px, 0, none⟩) := (RY.ev_tmp a 41).trans (d0.2.1.trans d0.2.2)
          exact Or.inl ⟨.pointer (some ⟨px, 2, none⟩), W, by simp [execOp, go_sem, e0], rfl, rfl, ⟨hY, hBe, hO, hS0, hS1, hBb⟩⟩
        | 6, ho =>
          injection ho with ho; subst ho
          have d0 := hd 5 _ 42 rfl rfl ⟨⟨5, .data⟩, by simp, rfl, rfl⟩
          have e0 : a.tmps[42]?.getD undef = .pointer (some ⟨px, 2, none⟩) := (RY.ev_tmp a 42).trans (d0.2.1.trans d0.2.2)
          have fc : up 8 = false := by
            cases e : up 8
            · rfl
            · exfalso
              have e := hcl 8 _ ⟨6, .data⟩ rfl (by simp) rfl e
              rw [hi] at e; cases e
          have hW := hBe fc
          have x2 := (hW.cell (p := ⟨px, 2, none⟩) HXL).trans X2
          exact Or.inl ⟨.slice p1 cp.length q1, W, by simp [execOp, go_sem, e0, x2], rfl, rfl, ⟨hY, hBe, hO, hS0, hS1, hBb⟩⟩
        | 7, ho =>
          injection ho with ho; subst ho
          have e0 : a.tmps[1]?.getD undef = .pointer (some ⟨pe, 0, none⟩) := (RY.ev_tmp a 1).trans ((hk 1 (by kernel_rfl)).trans rfl)
          exact Or.inl ⟨.func (.func 89) #[] #[.pointer (some ⟨pe, 0, none⟩)], W, by simp [execOp, go_sem, e0], rfl, rfl, ⟨hY, hBe, hO, hS0, hS1, hBb⟩⟩
        | 8, ho =>
          injection ho with ho; subst ho
          have d0 := hd 6 _ 43 rfl rfl ⟨⟨6, .data⟩, by simp, rfl, rfl⟩
          have e0 : a.tmps[43]?.getD undef = .slice p1 cp.length q1 := (RY.ev_tmp a 43).trans (d0.2.1.trans d0.2.2)
          have d1 := hd 7 _ 44 rfl rfl ⟨⟨7, .data⟩, by simp, rfl, rfl⟩
          have e1 : a.tmps[44]?.getD undef = .func (.func 89) #[] #[.pointer (some ⟨pe, 0, none⟩)] := (RY.ev_tmp a 44).trans (d1.2.1.trans d1.2.2)
          have hW := hBe hi
          refine Or.inr (Or.inr ⟨79, #[.slice p1 cp.length q1, .func (.func 89) #[] #[.pointer (some ⟨pe, 0, none⟩)]], by simp [go_sem, e0, e1], rfl, (delFnC 89 #[.pointer (some ⟨pe, 0, none⟩)] (fun args W => by kernel_rfl) (fun c => same c.berth nm) cp lo p1 q1 W (owns_on HX2.out.o1 hW) HX2.out.z1 HX2.out.m1 (fun x W9 hb9 => del89 x pe px nm W9 ?_ ?_ ?_ ?_)).mono ?_⟩)
          rotate_left 4
          · rintro e W' ⟨⟨rfl, ho⟩, hb⟩
            have f13 : up 13 = false := by
              cases e : up 13
              · rfl
              · have := hcl 13 _ ⟨8, .data⟩ rfl (by simp) rfl e; rw [hi] at this; cases this
            refine ⟨_, rfl, trivial, BelY.call hW hb, fun h => (by cases h), fun _ => ⟨_, _, rfl, ho⟩, fun _ => (hb.block px (Nat.lt_of_lt_of_le HXL hW.size) HPG5.out).trans (hW.block px HXL), ?_, fun _ h => (by cases h)⟩
            show ((13 == 8) || up 13) = true → _
            rw [f13]; intro h; cases h
          · exact (World.cell?_of_block (w := W) (hb9.block pe (Nat.lt_of_lt_of_le HPEL hW.size) HPEG)).trans ((hW.cell (p := ⟨pe, 0, none⟩) HPEL).trans XE)
          · exact Nat.lt_of_lt_of_le (Nat.lt_of_lt_of_le HPEL hW.size) hb9.size
          · exact (World.cell?_of_block (w := W) (hb9.block px (Nat.lt_of_lt_of_le HXL hW.size) HPG5.out)).trans ((hW.cell (p := ⟨px, 4, none⟩) HXL).trans X4)
          · exact Nat.lt_of_lt_of_le (Nat.lt_of_lt_of_le HXL hW.size) hb9.size
        | 9, ho =>
          injection ho with ho; subst ho
          have d0 := hd 0 _ 37 rfl rfl ⟨⟨0, .data⟩, by simp, rfl, rfl⟩
          have e0 : a.tmps[37]?.getD undef = .pointer (some ⟨px, 0, none⟩) := (RY.ev_tmp a 37).trans (d0.2.1.trans d0.2.2)
          exact Or.inl ⟨.pointer (some ⟨px, 0, none⟩), W, by simp [execOp, go_sem, e0], rfl, rfl, ⟨hY, hBe, hO, hS0, hS1, hBb⟩⟩
        | 10, ho =>
          injection ho with ho; subst ho
          have d0 := hd 9 _ 46 rfl rfl ⟨⟨9, .data⟩, by simp, rfl, rfl⟩
          have e0 : a.tmps[46]?.getD undef = .pointer (some ⟨px, 0, none⟩) := (RY.ev_tmp a 46).trans (d0.2.1.trans d0.2.2)
          exact Or.inl ⟨.pointer (some ⟨px, 0, none⟩), W, by simp [execOp, go_sem, e0], rfl, rfl, ⟨hY, hBe, hO, hS0, hS1, hBb⟩⟩
        | 11, ho =>
          injection ho with ho; subst ho
          have d0 := hd 10 _ 47 rfl rfl ⟨⟨10, .data⟩, by simp, rfl, rfl⟩
          have e0 : a.tmps[47]?.getD undef = .pointer (some ⟨px, 0, none⟩) := (RY.ev_tmp a 47).trans (d0.2.1.trans d0.2.2)
          exact Or.inl ⟨.pointer (some ⟨px, 0, none⟩), W, by simp [execOp, go_sem, e0], rfl, rfl, ⟨hY, hBe, hO, hS0, hS1, hBb⟩⟩
        | 12, ho =>
          injection ho with ho; subst ho
          have d0 := hd 11 _ 48 rfl rfl ⟨⟨11, .data⟩, by simp, rfl, rfl⟩
          have e0 : a.tmps[48]?.getD undef = .pointer (some ⟨px, 0, none⟩) := (RY.ev_tmp a 48).trans (d0.2.1.trans d0.2.2)
          exact Or.inl ⟨.pointer (some ⟨px, 2, none⟩), W, by simp [execOp, go_sem, e0], rfl, rfl, ⟨hY, hBe, hO, hS0, hS1, hBb⟩⟩
        | 13, ho =>
          injection ho with ho; subst ho
          have d0 := hd 12 _ 49 rfl rfl ⟨⟨12, .data⟩, by simp, rfl, rfl⟩
          have e0 : a.tmps[49]?.getD undef = .pointer (some ⟨px, 2, none⟩) := (RY.ev_tmp a 49).trans (d0.2.1.trans d0.2.2)
          have d1 := hd 8 _ 45 rfl rfl ⟨⟨8, .data⟩, by simp, rfl, rfl⟩
          have dc := hd 8 _ 45 rfl rfl ⟨⟨8, .data⟩, by simp, rfl, rfl⟩
          obtain ⟨g9, q9, ev9, ho9⟩ := hO dc.1
          have e9 : a.tmps[45]?.getD undef = .slice g9 (awayFrom cp nm).length q9 := (RY.ev_tmp a 45).trans (dc.2.1.trans ev9)
          have hp := (hS0 hi).trans HPX
          have fz : ∀ j, W.frozen? ⟨px, j, none⟩ = false := fun j => by simp [World.frozen?, hp]
          have y : W.cell? ⟨px, 2, none⟩ = some (.slice p1 cp.length q1) := by simp [World.cell?, hp]
          refine Or.inr (Or.inl ⟨W.setCell ⟨px, 2, none⟩ (.slice g9 (awayFrom cp nm).length q9), by simp [execOp, go_sem, e0, e9, y, fz], rfl, hY.sc _ _, ?_, fun _ => ⟨g9, q9, ev9, owns_else ho9 hp HNE _ _⟩, fun h => (by cases h), fun _ => ?_, ?_⟩)
          · show ((8 == 13) || up 8) = false → _
            rw [dc.1]; intro h; cases h
          · show _ = some (Obj.cells ((fun u => (.int .i64 now :: .slice p0 sv.length q0 :: u :: .slice p2' n2' q2' :: [.string nm]).toArray) (vals 8)) _ _)
            rw [ev9, heap_setCell_same W px 2 _ _ _ hp]; rfl
          · show ((99 == 13) || up 99) = true → ((8 == 13) || up 8) = false → _
            rw [dc.1]; intro _ h; cases h
        | n + 14, ho => simp at ho
    intro up vals vs W3 hall hv hT
    obtain ⟨hY, _, hO, _, hS1, _⟩ := hT
    obtain ⟨g8, q8, ev8, ho8⟩ := hO (hall 8 (by decide))
    have hpx := hS1 (hall 13 (by decide))
    rw [ev8] at hpx
    simp only [RY.putAll, Act.put, List.setIfInBounds_toArray, List.set_cons_zero, List.set_cons_succ]
    generalize vs 37 = z37
    generalize vs 38 = z38
    generalize vs 39 = z39
    generalize vs 40 = z40
    generalize vs 41 = z41
    generalize vs 42 = z42
    generalize vs 43 = z43
    generalize vs 44 = z44
    generalize vs 45 = z45
    generalize vs 46 = z46
    generalize vs 47 = z47
    generalize vs 48 = z48
    generalize vs 49 = z49
    have HAL : Hid ((awayFrom cp nm).length ≤ cp.length) := List.length_filter_le _ _
    have HX3 : Hid (XG lo px t [.string nm] W3 now sv (sinkC bt cp nm) (sinkB bt nm) p0 g8 p2' sv.length (awayFrom cp nm).length n2' q0 q8 q2') := by
      rw [HSC.out]
      refine HX2.out.cpsY hY hpx ho8 rfl ?_ (by have := HX2.out.m1; have := HAL.out; omega)
      have := away_sized HX2.out.z1 nm cp.length
      rw [awayTo_all] at this
      exact this
    have HB3 : Hid (Below lo R W3) := HB2.out.trans (hY.lo HPL.out (fun g e => (owns_typ HX2.out.o1 g e).1) HLO2.out)
    clear hY hO hS1 hpx ho8 ev8 hv hall X2 X4 HXL HPX HNE XE HPEL HPEX HPEG
    go_wp2
    go_ret
    exact ⟨by rw [HC.out]; rfl, ⟨_, _, _, _, _, _, HX3.out⟩, HB3.out⟩
  · have hd0 : decide (0 ≤ btIx bt nm) = false := decide_eq_false h0
    rw [hd0]
    have HC : Hid (r = 3) := by show _ = _; rw [HRE.out, if_neg h0]
    have HSB : Hid (sinkB bt nm = bt) := by show _ = _; unfold sinkB; rw [if_neg h0]
    have HSC : Hid (sinkC bt cp nm = cp) := by show _ = _; unfold sinkC; rw [if_neg h0]
    clear h0 hd0
    go_wp2
    go_ret
    exact ⟨by rw [HC.out]; rfl, ⟨p1, p2, _, _, q1, q2, by rw [HSB.out, HSC.out]; exact HX1.out⟩, HB1.out⟩

end Go.Proofs.YtclagbakddkjcaaGreat
