/-
  Walks: GateTurned: the program.
-/
import Derived.Test.YtfbehiagmanflaaGreatDoorWalkCB
import Derived.Deep.DeepCutAuto
namespace Go.Proofs.YtfbehiagmanflaaGreatDoor
open Go.RowKit Go.Deep

/-- An object in the block p. -/
structure BoxAt (W : World) (p : Nat) (o : Ob) (v1 v2 : Value) : Prop where
  lt : p < W.heap.size
  x0 : W.cell? ⟨p, 0, none⟩ = some (.string o.kind)
  x1 : W.cell? ⟨p, 1, none⟩ = some (.string o.name)
  x2 : W.cell? ⟨p, 2, none⟩ = some (.string o.team)
  x3 : W.cell? ⟨p, 3, none⟩ = some v1
  x4 : W.cell? ⟨p, 4, none⟩ = some (.bool o.ending)
  x5 : W.cell? ⟨p, 5, none⟩ = some v2
  x6 : W.cell? ⟨p, 6, none⟩ = some (.int .i64 o.version)

theorem BoxAt.later {W W' : World} {p : Nat} {o : Ob} {v1 v2 : Value} (h : BoxAt W p o v1 v2) (hb : Below W.heap.size W W') : BoxAt W' p o v1 v2 := by
  have c : ∀ j, W'.cell? ⟨p, j, none⟩ = W.cell? ⟨p, j, none⟩ := fun j => hb.cell (p := ⟨p, j, none⟩) h.lt
  exact ⟨Nat.lt_of_lt_of_le h.lt hb.size, (c 0).trans h.x0, (c 1).trans h.x1, (c 2).trans h.x2, (c 3).trans h.x3, (c 4).trans h.x4, (c 5).trans h.x5, (c 6).trans h.x6⟩
theorem BoxAt.new (W : World) (o : Ob) (v1 v2 : Value) (t : TypeId) : BoxAt (W.alloc (.cells #[.string o.kind, .string o.name, .string o.team, v1, .bool o.ending, v2, .int .i64 o.version] t)) W.heap.size o v1 v2 :=
  ⟨by simp, by simp, by simp, by simp, by simp, by simp, by simp, by simp⟩
theorem BoxAt.at_ {W : World} {p q : Nat} {o : Ob} {v1 v2 : Value} (h : BoxAt W p o v1 v2) (e : q = p) : BoxAt W q o v1 v2 := by rw [e]; exact h

def sameOb (a b : Ob) : Bool := (a.kind.toList == b.kind.toList) && (a.name.toList == b.name.toList) && (a.team.toList == b.team.toList)
def tBad (fs : List Fld) (vs us : List ByteArray) (i : Nat) : Bool := (fs.getD i Fld.none).fixed && !(vs.getD i ByteArray.empty).toList.isEmpty && !((vs.getD i ByteArray.empty).toList == (us.getD i ByteArray.empty).toList)
def tFirst (fs : List Fld) (vs us : List ByteArray) : Nat := (List.range fs.length).findIdx (tBad fs vs us)
def tOk (fs : List Fld) (a b : Ob) : Bool := sameOb a b && decide (obCode fs a = 0) && decide (obCode fs b = 0)
def toCode (fs : List Fld) (a b : Ob) : Nat := if tOk fs a b = true then (if tFirst fs a.values b.values < fs.length then 4 else 0) else 1
def toPlace (fs : List Fld) (a b : Ob) : Nat := if tOk fs a b = true then (if tFirst fs a.values b.values < fs.length then tFirst fs a.values b.values else 0) else 0

theorem tFirst_hit {fs : List Fld} {vs us : List ByteArray} {i : Nat} (hno : i ≤ tFirst fs vs us) (_hi : i < fs.length) (h : tBad fs vs us i = true) : tFirst fs vs us = i := by
  have : tFirst fs vs us ≤ i := by
    unfold tFirst
    exact Nat.le_of_not_lt fun hlt => by
      have := List.not_of_lt_findIdx hlt
      simp [h] at this
  omega
theorem tFirst_miss {fs : List Fld} {vs us : List ByteArray} {i : Nat} (hi : i < fs.length) (hno : i ≤ tFirst fs vs us) (h : tBad fs vs us i = false) : i + 1 ≤ tFirst fs vs us := by
  by_cases hq : tFirst fs vs us = i
  · exfalso
    have hlt : tFirst fs vs us < (List.range fs.length).length := by simp; omega
    have := List.findIdx_getElem (w := hlt)
    unfold tFirst at hq
    simp only [hq] at this
    simp [h] at this
  · omega

theorem obCode_len {fs : List Fld} {o : Ob} (h : obCode fs o = 0) : o.values.length = fs.length := by
  unfold obCode at h
  split at h
  · rename_i hc
    simp only [Bool.and_eq_true] at hc
    exact of_decide_eq_true hc.1.1.2
  · cases h

set_option maxRecDepth 8000 in
set_option maxHeartbeats 8000000 in
theorem turnObject (K : ByteArray) (fb : Nat) (fs : List Fld) (a b : Ob) (b1 c1 b2 c2 d1 e1 d2 e2 : Nat) (w : World) (ha : ObArg w b1 b2 a) (hb : ObArg w d1 d2 b) (hf : FldsIn w fb fs) (sa : a.sized ∧ (∀ i, i < a.values.length → (a.values.getD i ByteArray.empty).size ≤ maxLen) ∧ (∀ i, i < a.holds.length → (a.holds.getD i ByteArray.empty).size ≤ maxLen)) (sb : b.sized ∧ (∀ i, i < b.values.length → (b.values.getD i ByteArray.empty).size ≤ maxLen) ∧ (∀ i, i < b.holds.length → (b.holds.getD i ByteArray.empty).size ≤ maxLen)) :
    Calls Tryz.prog 20 #[.agg #[.string K, .slice (some ⟨fb, 0, none⟩) fs.length fs.length], .agg #[.string a.kind, .string a.name, .string a.team, .slice (some ⟨b1, 0, none⟩) a.values.length c1, .bool a.ending, .slice (some ⟨b2, 0, none⟩) a.holds.length c2, .int .i64 a.version], .agg #[.string b.kind, .string b.name, .string b.team, .slice (some ⟨d1, 0, none⟩) b.values.length e1, .bool b.ending, .slice (some ⟨d2, 0, none⟩) b.holds.length e2, .int .i64 b.version]] w fun e w' => e = .returned (errV (toCode fs a b) (toPlace fs a b)) ∧ Below w.heap.size w w' := by
  have HA : Hid ((ObArg w b1 b2 a ∧ (a.sized ∧ (∀ i, i < a.values.length → (a.values.getD i ByteArray.empty).size ≤ maxLen) ∧ (∀ i, i < a.holds.length → (a.holds.getD i ByteArray.empty).size ≤ maxLen))) ∧ (ObArg w d1 d2 b ∧ (b.sized ∧ (∀ i, i < b.values.length → (b.values.getD i ByteArray.empty).size ≤ maxLen) ∧ (∀ i, i < b.holds.length → (b.holds.getD i ByteArray.empty).size ≤ maxLen))) ∧ FldsIn w fb fs) := ⟨⟨ha, sa⟩, ⟨hb, sb⟩, hf⟩
  have hl := hf.len
  clear ha hb hf sa sb
  obtain ⟨u1, hu1⟩ : ∃ u1, u1 = w.alloc (.cells #[.string K, .slice (some ⟨fb, 0, none⟩) fs.length fs.length] 49) := ⟨_, rfl⟩
  obtain ⟨u2, hu2⟩ : ∃ u2, u2 = u1.alloc (.cells #[.string a.kind, .string a.name, .string a.team, .slice (some ⟨b1, 0, none⟩) a.values.length c1, .bool a.ending, .slice (some ⟨b2, 0, none⟩) a.holds.length c2, .int .i64 a.version] 32) := ⟨_, rfl⟩
  obtain ⟨w3, hu3⟩ : ∃ w3, w3 = u2.alloc (.cells #[.string b.kind, .string b.name, .string b.team, .slice (some ⟨d1, 0, none⟩) b.values.length e1, .bool b.ending, .slice (some ⟨d2, 0, none⟩) b.holds.length e2, .int .i64 b.version] 32) := ⟨_, rfl⟩
  have z1 : u1.heap.size = w.heap.size + 1 := by rw [hu1]; simp
  have z2 : u2.heap.size = w.heap.size + 1 + 1 := by rw [hu2, World.size_alloc, z1]
  have z3 : w3.heap.size = w.heap.size + 1 + 1 + 1 := by rw [hu3, World.size_alloc, z2]
  have g1 : Below w.heap.size w u1 := by rw [hu1]; exact blw_alloc (Below.refl _ _) _
  have g2 : Below u1.heap.size u1 u2 := by rw [hu2]; exact blw_alloc (Below.refl _ _) _
  have g3 : Below u2.heap.size u2 w3 := by rw [hu3]; exact blw_alloc (Below.refl _ _) _
  have HB : Hid (Below w.heap.size w w3) := blw_trans (blw_trans g1 g2) g3
  have HXA : Hid (BoxAt w3 (w.heap.size + 1) a (.slice (some ⟨b1, 0, none⟩) a.values.length c1) (.slice (some ⟨b2, 0, none⟩) a.holds.length c2)) := ((by rw [hu2]; exact BoxAt.new u1 a _ _ 32 : BoxAt u2 u1.heap.size a (.slice (some ⟨b1, 0, none⟩) a.values.length c1) (.slice (some ⟨b2, 0, none⟩) a.holds.length c2)).later g3).at_ z1.symm
  have HXB : Hid (BoxAt w3 (w.heap.size + 1 + 1) b (.slice (some ⟨d1, 0, none⟩) b.values.length e1) (.slice (some ⟨d2, 0, none⟩) b.holds.length e2)) := (by rw [hu3]; exact BoxAt.new u2 b _ _ 32 : BoxAt w3 u2.heap.size b (.slice (some ⟨d1, 0, none⟩) b.values.length e1) (.slice (some ⟨d2, 0, none⟩) b.holds.length e2)).at_ z2.symm
  have HS : Hid (w3.cell? ⟨w.heap.size, 0, none⟩ = some (.string K) ∧ w3.cell? ⟨w.heap.size, 1, none⟩ = some (.slice (some ⟨fb, 0, none⟩) fs.length fs.length)) := by
    have q : ∀ j, w3.cell? ⟨w.heap.size, j, none⟩ = u1.cell? ⟨w.heap.size, j, none⟩ := fun j => (blw_trans g2 g3).cell (p := ⟨w.heap.size, j, none⟩) (by show w.heap.size < _; omega)
    exact ⟨(q 0).trans (by rw [hu1]; simp), (q 1).trans (by rw [hu1]; simp)⟩
  have HZ3 : Hid (w3.heap.size = w.heap.size + 1 + 1 + 1) := z3
  go_enter Tryz.func20, Tryz.ntmps20
  go_upto_region 1 with fail
  rw [← hu1, ← hu2, ← hu3]
  clear hu1 hu2 hu3 z1 z2 z3 g1 g2 g3
  have f0 := HXA.out.x0
  have f1 := HXA.out.x1
  have f2 := HXA.out.x2
  have f3 := HXA.out.x3
  have f4 := HXA.out.x4
  have f5 := HXA.out.x5
  have f6 := HXA.out.x6
  have fz := HXA.out.lt
  have g0 := HXB.out.x0
  have g1 := HXB.out.x1
  have g2 := HXB.out.x2
  have g3 := HXB.out.x3
  have g4 := HXB.out.x4
  have g5 := HXB.out.x5
  have g6 := HXB.out.x6
  have gz := HXB.out.lt
  have s0 := HS.out.1
  have s1 := HS.out.2
  have hzs : w.heap.size < w3.heap.size := by have := HZ3.out; omega
  go_cut [7] (fun x wx => x = .bool (sameOb a b) ∧ wx = w3)
  case first =>
    have HT : Hid (sameOb a b = ((a.kind.toList == b.kind.toList) && (a.name.toList == b.name.toList) && (a.team.toList == b.team.toList))) := rfl
    cases q1 : (a.kind.toList == b.kind.toList)
    · go_wp2_with fail
      go_meet
      exact ⟨by rw [HT.out, q1]; rfl, rfl⟩
    cases q2 : (a.name.toList == b.name.toList)
    · go_wp2_with fail
      go_meet
      exact ⟨by rw [HT.out, q1, q2]; rfl, rfl⟩
    cases q3 : (a.team.toList == b.team.toList)
    · go_wp2_with fail
      go_meet
      exact ⟨by rw [HT.out, q1, q2, q3]; rfl, rfl⟩
    · go_wp2_with fail
      go_meet
      exact ⟨by rw [HT.out, q1, q2, q3]; rfl, rfl⟩
  case rest =>
  obtain ⟨rfl, hwc⟩ := hcut
  subst hwc
  rename World => w3
  have HF1 : Hid (tOk fs a b = false → errV (toCode fs a b) (toPlace fs a b) = .iface 65 (.agg #[.int .i64 1, .int .i64 0])) := by intro e; unfold toCode toPlace; rw [e]; rfl
  cases hsame : sameOb a b
  · have HE : Hid (errV (toCode fs a b) (toPlace fs a b) = .iface 65 (.agg #[.int .i64 1, .int .i64 0])) := HF1.out (by unfold tOk; rw [hsame]; rfl)
    go_wp2
    go_ret
    exact ⟨ret_val HE.out.symm, HB.out⟩
  have HSm : Hid (sameOb a b = true) := hsame
  clear hsame
  have CA := checkObject K fb fs a b1 c1 b2 c2 w3 (HA.out.1.1.later HB.out) (HA.out.2.2.later HB.out) HA.out.1.2.1 HA.out.1.2.2.1 HA.out.1.2.2.2
  by_cases ca : obCode fs a = 0
  case neg =>
    have e : errV (obCode fs a) (obPlace fs a) = .iface 65 (.agg #[.int .i64 (obCode fs a : Nat), .int .i64 (obPlace fs a : Nat)]) := by unfold errV; rw [if_neg ca]
    rw [e] at CA
    have CA' : Hid (Calls Tryz.prog 31 #[.agg #[.string K, .slice (some ⟨fb, 0, none⟩) fs.length fs.length], .agg #[.string a.kind, .string a.name, .string a.team, .slice (some ⟨b1, 0, none⟩) a.values.length c1, .bool a.ending, .slice (some ⟨b2, 0, none⟩) a.holds.length c2, .int .i64 a.version]] w3 fun e w' => e = .returned (.iface 65 (.agg #[.int .i64 (obCode fs a : Nat), .int .i64 (obPlace fs a : Nat)])) ∧ Below w3.heap.size w3 w') := CA
    have HE : Hid (errV (toCode fs a b) (toPlace fs a b) = .iface 65 (.agg #[.int .i64 1, .int .i64 0])) := HF1.out (by unfold tOk; simp [ca])
    clear CA e
    go_wp2_with fail
    refine CA'.out.mono ?_
    rintro e w4 ⟨rfl, hb4⟩
    have hB4 := blw_trans HB.out hb4
    clear hb4
    go_wp2
    go_ret
    exact ⟨ret_val HE.out.symm, hB4⟩
  have e : errV (obCode fs a) (obPlace fs a) = .nilIface := by unfold errV; rw [if_pos ca]
  rw [e] at CA
  have CA' : Hid (Calls Tryz.prog 31 #[.agg #[.string K, .slice (some ⟨fb, 0, none⟩) fs.length fs.length], .agg #[.string a.kind, .string a.name, .string a.team, .slice (some ⟨b1, 0, none⟩) a.values.length c1, .bool a.ending, .slice (some ⟨b2, 0, none⟩) a.holds.length c2, .int .i64 a.version]] w3 fun e w' => e = .returned .nilIface ∧ Below w3.heap.size w3 w') := CA
  have HCa : Hid (obCode fs a = 0) := ca
  clear CA e ca
  go_wp2_with fail
  refine CA'.out.mono ?_
  rintro e w4 ⟨rfl, hb4⟩
  have HB4 : Hid (Below w3.heap.size w3 w4) := hb4
  have HW4 : Hid (Below w.heap.size w w4) := blw_trans HB.out hb4
  have HYB := HXB.out.later hb4
  have s0' := (hb4.cell (p := ⟨w.heap.size, 0, none⟩) hzs).trans HS.out.1
  have s1' := (hb4.cell (p := ⟨w.heap.size, 1, none⟩) hzs).trans HS.out.2
  have hzs' : w.heap.size < w4.heap.size := Nat.lt_of_lt_of_le hzs hb4.size
  clear hb4 f0 f1 f2 f3 f4 f5 f6 fz g0 g1 g2 g3 g4 g5 g6 gz s0 s1 CA'
  have g0 := HYB.x0
  have g1 := HYB.x1
  have g2 := HYB.x2
  have g3 := HYB.x3
  have g4 := HYB.x4
  have g5 := HYB.x5
  have g6 := HYB.x6
  have gz := HYB.lt
  have CB := checkObject K fb fs b d1 e1 d2 e2 w4 (HA.out.2.1.1.later HW4.out) (HA.out.2.2.later HW4.out) HA.out.2.1.2.1 HA.out.2.1.2.2.1 HA.out.2.1.2.2.2
  clear HYB
  by_cases cb : obCode fs b = 0
  case neg =>
    have e : errV (obCode fs b) (obPlace fs b) = .iface 65 (.agg #[.int .i64 (obCode fs b : Nat), .int .i64 (obPlace fs b : Nat)]) := by unfold errV; rw [if_neg cb]
    rw [e] at CB
    have CB' : Hid (Calls Tryz.prog 31 #[.agg #[.string K, .slice (some ⟨fb, 0, none⟩) fs.length fs.length], .agg #[.string b.kind, .string b.name, .string b.team, .slice (some ⟨d1, 0, none⟩) b.values.length e1, .bool b.ending, .slice (some ⟨d2, 0, none⟩) b.holds.length e2, .int .i64 b.version]] w4 fun e w' => e = .returned (.iface 65 (.agg #[.int .i64 (obCode fs b : Nat), .int .i64 (obPlace fs b : Nat)])) ∧ Below w4.heap.size w4 w') := CB
    have HE : Hid (errV (toCode fs a b) (toPlace fs a b) = .iface 65 (.agg #[.int .i64 1, .int .i64 0])) := HF1.out (by unfold tOk; simp [cb])
    clear CB e
    go_wp2_with fail
    refine CB'.out.mono ?_
    rintro e w5 ⟨rfl, hb5⟩
    have hB5 := blw_trans HW4.out hb5
    clear hb5
    go_wp2
    go_ret
    exact ⟨ret_val HE.out.symm, hB5⟩
  have e : errV (obCode fs b) (obPlace fs b) = .nilIface := by unfold errV; rw [if_pos cb]
  rw [e] at CB
  have CB' : Hid (Calls Tryz.prog 31 #[.agg #[.string K, .slice (some ⟨fb, 0, none⟩) fs.length fs.length], .agg #[.string b.kind, .string b.name, .string b.team, .slice (some ⟨d1, 0, none⟩) b.values.length e1, .bool b.ending, .slice (some ⟨d2, 0, none⟩) b.holds.length e2, .int .i64 b.version]] w4 fun e w' => e = .returned .nilIface ∧ Below w4.heap.size w4 w') := CB
  have HOK : Hid (tOk fs a b = true) := by show tOk fs a b = true; unfold tOk; rw [HSm.out, HCa.out, cb]; rfl
  have HLn : Hid (a.values.length = fs.length ∧ b.values.length = fs.length) := ⟨obCode_len HCa.out, obCode_len cb⟩
  clear CB e cb HF1
  go_wp2_with fail
  refine CB'.out.mono ?_
  rintro e w5 ⟨rfl, hb5⟩
  have HB5 : Hid (Below w3.heap.size w3 w5) := blw_trans HB4.out hb5
  have HW5 : Hid (Below w.heap.size w w5) := blw_trans HW4.out hb5
  have t1 := (HB5.out.cell (p := ⟨w.heap.size, 1, none⟩) hzs).trans HS.out.2
  have hz5 : w.heap.size < w5.heap.size := Nat.lt_of_lt_of_le hzs HB5.out.size
  clear hb5 g0 g1 g2 g3 g4 g5 g6 gz s0' s1' hzs' CB' HB4 HW4
  go_wp2
  clear t1 hz5
  go_loopw [48] (fun i wr => ∃ k : Nat, k ≤ fs.length ∧ i = .int .i64 k ∧ k ≤ tFirst fs a.values b.values ∧ Below w5.heap.size w5 wr) (fun i _ => fs.length - (intOf i).toNat)
  case atStart => exact ⟨0, Nat.zero_le _, rfl, Nat.zero_le _, Below.refl _ _⟩
  case round =>
    obtain ⟨k, hk, rfl, hno, hW⟩ := hrel
    have HN : Hid (k ≤ tFirst fs a.values b.values) := hno
    have HW : Hid (Below w5.heap.size w5 wr) := hW
    have HWw : Hid (Below w.heap.size w wr) := blw_trans HW5.out hW
    have HW3 : Hid (Below w3.heap.size w3 wr) := blw_trans HB5.out hW
    clear hno hW
    by_cases hlt : k < fs.length
    · obtain ⟨f, hff⟩ : ∃ f, f = fs.getD k Fld.none := ⟨_, rfl⟩
      obtain ⟨bf, _, hfi⟩ := (HA.out.2.2.later HWw.out).arg hlt hff
      have hka : k < a.values.length := by rw [HLn.out.1]; exact hlt
      have hkb : k < b.values.length := by rw [HLn.out.2]; exact hlt
      have v0 := (HA.out.1.1.later HWw.out).at1 k hka
      have x0 := (HA.out.2.1.1.later HWw.out).at1 k hkb
      obtain ⟨v, hv⟩ : ∃ v, v = a.values.getD k ByteArray.empty := ⟨_, rfl⟩
      obtain ⟨x, hx⟩ : ∃ x, x = b.values.getD k ByteArray.empty := ⟨_, rfl⟩
      rw [← hv] at v0
      rw [← hx] at x0
      have HBa : Hid (tBad fs a.values b.values k = (f.fixed && !v.toList.isEmpty && !(v.toList == x.toList))) := by show tBad _ _ _ _ = _; unfold tBad; rw [← hff, ← hv, ← hx]
      have HM : Hid (tBad fs a.values b.values k = false → k + 1 ≤ tFirst fs a.values b.values) := fun e => tFirst_miss hlt HN.out e
      have HHt : Hid (tBad fs a.values b.values k = true → errV (toCode fs a b) (toPlace fs a b) = .iface 65 (.agg #[.int .i64 4, .int .i64 (k : Nat)])) := by
        intro e
        have e1 := tFirst_hit HN.out hlt e
        unfold toCode toPlace
        rw [HOK.out, if_pos rfl, if_pos rfl, e1, if_pos hlt, if_pos hlt]
        rfl
      have hb1 : b1 < wr.heap.size := (HA.out.1.1.later HWw.out).lt1
      have hd1 : d1 < wr.heap.size := (HA.out.2.1.1.later HWw.out).lt1
      have hfb : fb < wr.heap.size := (HA.out.2.2.later HWw.out).lt
      have yA := HXA.out.later HW3.out
      have yB := HXB.out.later HW3.out
      have k3 := yA.x3
      have j3 := yB.x3
      have kz := yA.lt
      have jz := yB.lt
      obtain ⟨c0, c1', c2', c3, c4, c5, c6, c7, c8, c9, c10, _, _⟩ := hfi
      clear hff hv hx yA yB
      cases hfx : f.fixed
      · have HE : Hid (k + 1 ≤ tFirst fs a.values b.values) := HM.out (by rw [HBa.out, hfx]; rfl)
        go_wp2_with fail
        go_quiet (fail)
        go_wp2
        go_roundw
        case rel => first | exact ⟨k + 1, by omega, by go_num, HE.out, blw_drewN (blw_alloc HW.out _) _⟩ | ((repeat apply Exists.intro); exact ⟨⟨k + 1, by omega, by go_num, HE.out, blw_drewN (blw_alloc HW.out _) _⟩, rfl⟩)
        case measure => simp [intOf]; omega
      cases hem : v.toList.isEmpty
      · cases heq : (v.toList == x.toList)
        · have HE : Hid (errV (toCode fs a b) (toPlace fs a b) = .iface 65 (.agg #[.int .i64 4, .int .i64 (k : Nat)])) := HHt.out (by rw [HBa.out, hfx, hem, heq]; rfl)
          go_wp2_with fail
          go_quiet (fail)
          go_wp2
          go_ret
          exact ⟨ret_val HE.out.symm, blw_drewN (blw_alloc HWw.out _) _⟩
        · have HE : Hid (k + 1 ≤ tFirst fs a.values b.values) := HM.out (by rw [HBa.out, hfx, hem, heq]; rfl)
          go_wp2_with fail
          go_quiet (fail)
          go_wp2
          go_roundw
          case rel => first | exact ⟨k + 1, by omega, by go_num, HE.out, blw_drewN (blw_alloc HW.out _) _⟩ | ((repeat apply Exists.intro); exact ⟨⟨k + 1, by omega, by go_num, HE.out, blw_drewN (blw_alloc HW.out _) _⟩, rfl⟩)
          case measure => simp [intOf]; omega
      · have HE : Hid (k + 1 ≤ tFirst fs a.values b.values) := HM.out (by rw [HBa.out, hfx, hem]; rfl)
        go_wp2_with fail
        go_quiet (fail)
        go_wp2
        go_roundw
        case rel => first | exact ⟨k + 1, by omega, by go_num, HE.out, blw_drewN (blw_alloc HW.out _) _⟩ | ((repeat apply Exists.intro); exact ⟨⟨k + 1, by omega, by go_num, HE.out, blw_drewN (blw_alloc HW.out _) _⟩, rfl⟩)
        case measure => simp [intOf]; omega
    · have HE : Hid (errV (toCode fs a b) (toPlace fs a b) = .nilIface) := by
        show errV _ _ = _
        unfold toCode toPlace
        rw [HOK.out, if_pos rfl, if_pos rfl, if_neg (by have := HN.out; omega)]
        rfl
      go_wp2
      go_ret
      exact ⟨ret_val HE.out.symm, HWw.out⟩

end Go.Proofs.YtfbehiagmanflaaGreatDoor
