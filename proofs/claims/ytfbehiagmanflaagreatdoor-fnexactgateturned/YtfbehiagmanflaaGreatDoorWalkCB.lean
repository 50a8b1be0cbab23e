/-
  Walks: what is wrong with an object: the program's list of checks, and what is told.
-/
import Derived.Test.YtfbehiagmanflaaGreatDoorWalkCA
import Derived.Test.YtfbehiagmanflaaGreatDoorAs
namespace Go.Proofs.YtfbehiagmanflaaGreatDoor
open Go.RowKit Go.Deep

/-- The cell of errors' own variable. -/
def Handle (w : World) : Prop := w.cell? ⟨0, 0, none⟩ = some (.iface 100 (.agg #[.pointer (some ⟨1, 56, none⟩)])) ∧ 0 < w.heap.size

theorem Handle.later {w w' : World} (h : Handle w) (hb : Below w.heap.size w w') : Handle w' := ⟨(hb.cell (p := ⟨0, 0, none⟩) h.2).trans h.1, Nat.lt_of_lt_of_le h.2 hb.size⟩

set_option maxHeartbeats 1000000 in
theorem told_nil (w : World) : Calls Tryz.prog 19 #[.nilIface] w fun e w' => e = .returned (.tuple #[.int .i64 0, .int .i64 0]) ∧ Below w.heap.size w w' := by
  go_enter Tryz.func19, Tryz.ntmps19
  go_wp2_with fail
  refine (as_nil _ _).mono ?_
  rintro e w' ⟨rfl, rfl⟩
  go_wp2
  go_ret2
  exact ⟨rfl, blw_alloc (Below.refl _ _) _⟩

set_option maxHeartbeats 2000000 in
theorem told_hit (x y : Int) (w : World) (h : Handle w) : Calls Tryz.prog 19 #[.iface 65 (.agg #[.int .i64 x, .int .i64 y])] w fun e w' => e = .returned (.tuple #[.int .i64 x, .int .i64 y]) ∧ Below w.heap.size w w' := by
  obtain ⟨w1, hw1⟩ : ∃ w1, w1 = w.alloc (.cells #[.int .i64 0, .int .i64 0] 65) := ⟨_, rfl⟩
  have HB : Hid (Below w.heap.size w w1) := by show Below _ _ _; rw [hw1]; exact blw_alloc (Below.refl _ _) _
  have HO : Hid (OwnBlk w1 w.heap.size 65 2) := by show OwnBlk _ _ _ _; rw [hw1]; exact OwnBlk.alloc w _ 65 2 rfl
  obtain ⟨o0, h0⟩ := HO.out.cell 0 (by omega)
  obtain ⟨o1, h1⟩ := HO.out.cell 1 (by omega)
  have HX : Hid (Calls Tryz.prog 30 #[.iface 65 (.agg #[.int .i64 x, .int .i64 y]), .iface 67 (.pointer (some ⟨w.heap.size, 0, none⟩))] w1 fun ev w' => ev = .returned (.bool true) ∧ (w'.cell? ⟨w.heap.size, 0, none⟩ = some (.int .i64 x) ∧ w'.cell? ⟨w.heap.size, 1, none⟩ = some (.int .i64 y) ∧ w.heap.size < w'.heap.size) ∧ Below w.heap.size w w') := by
    refine (as_hit w.heap.size x y o0 o1 w1 (h.later HB.out).1 h0 h1 HO.out.frozen HO.out.lt).mono ?_
    rintro e w' ⟨rfl, hw⟩
    have hb4 : Below w1.heap.size w1 ((((w1.alloc (.cells #[.pointer (some ⟨w.heap.size, 0, none⟩)] 67)).alloc (.cells #[.pointer (some ⟨1, 67, none⟩), .pointer (some ⟨w1.heap.size, 0, none⟩), .int .u64 150] 82)).alloc (.cells #[.pointer (some ⟨1, 67, none⟩), .pointer (some ⟨w1.heap.size, 0, none⟩), .int .u64 150] 82)).alloc (.cells #[.int .i64 x, .int .i64 y] 65)) := blw_alloc (blw_alloc (blw_alloc (blw_alloc (Below.refl _ _) _) _) _) _
    have ho4 := HO.out.later hb4
    subst hw
    refine ⟨rfl, ⟨(sc_ne _ _ _ _ _ _ (by omega)).trans (sc_eq ho4 0 (by omega) _), sc_eq (ho4.setCell 0 _) 1 (by omega) _, ?_⟩, ?_⟩
    · exact ((ho4.setCell 0 _).setCell 1 _).lt
    · exact ((blw_trans HB.out hb4).setCell (p := ⟨w.heap.size, 0, none⟩) (Nat.le_refl _) _).setCell (p := ⟨w.heap.size, 1, none⟩) (Nat.le_refl _) _
  clear h h0 h1
  go_enter Tryz.func19, Tryz.ntmps19
  go_upto_region 2 with fail
  rw [← hw1]
  clear hw1 HO HB
  go_wp2_with fail
  refine HX.out.mono ?_
  rintro e w2 ⟨rfl, ⟨c0, c1, hz⟩, hb2⟩
  go_wp2_with fail
  go_quiet (fail)
  go_wp2
  go_ret2
  exact ⟨rfl, blw_drewN hb2 _⟩

theorem told (c p : Nat) (w : World) (h : Handle w) : Calls Tryz.prog 19 #[errV c p] w fun e w' => e = .returned (.tuple #[.int .i64 (c : Nat), .int .i64 ((if c = 0 then 0 else p : Nat) : Nat)]) ∧ Below w.heap.size w w' := by
  unfold errV
  by_cases hc : c = 0
  · subst hc; exact told_nil w
  · rw [if_neg hc, if_neg hc]; exact told_hit c p w h

/-- What the list of checks says. -/
def obCode (fs : List Fld) (o : Ob) : Nat := if (goodNames o && decide (o.values.length = fs.length) && goodHolds o && goodVersion o) = true then badCode fs o.values else 1
def obPlace (fs : List Fld) (o : Ob) : Nat := if (goodNames o && decide (o.values.length = fs.length) && goodHolds o && goodVersion o) = true then badPlace fs o.values else 0

set_option maxRecDepth 8000 in
set_option maxHeartbeats 8000000 in
theorem checkObject (K : ByteArray) (fb : Nat) (fs : List Fld) (o : Ob) (b1 c1 b2 c2 : Nat) (w : World) (h : ObArg w b1 b2 o) (hf : FldsIn w fb fs) (hs : o.sized) (hz1 : ∀ i, i < o.values.length → (o.values.getD i ByteArray.empty).size ≤ maxLen) (hz2 : ∀ i, i < o.holds.length → (o.holds.getD i ByteArray.empty).size ≤ maxLen) :
    Calls Tryz.prog 31 #[.agg #[.string K, .slice (some ⟨fb, 0, none⟩) fs.length fs.length], .agg #[.string o.kind, .string o.name, .string o.team, .slice (some ⟨b1, 0, none⟩) o.values.length c1, .bool o.ending, .slice (some ⟨b2, 0, none⟩) o.holds.length c2, .int .i64 o.version]] w fun e w' => e = .returned (errV (obCode fs o) (obPlace fs o)) ∧ Below w.heap.size w w' := by
  have HA : Hid (ObArg w b1 b2 o ∧ FldsIn w fb fs ∧ o.sized ∧ (∀ i, i < o.values.length → (o.values.getD i ByteArray.empty).size ≤ maxLen) ∧ (∀ i, i < o.holds.length → (o.holds.getD i ByteArray.empty).size ≤ maxLen)) := ⟨h, hf, hs, hz1, hz2⟩
  clear h hf hs hz1 hz2
  obtain ⟨w3, hw3⟩ : ∃ w3, w3 = (((w.alloc (.cells #[.string K, .slice (some ⟨fb, 0, none⟩) fs.length fs.length] 49)).alloc (.cells #[.string o.kind, .string o.name, .string o.team, .slice (some ⟨b1, 0, none⟩) o.values.length c1, .bool o.ending, .slice (some ⟨b2, 0, none⟩) o.holds.length c2, .int .i64 o.version] 32)).alloc (.cells #[.func (.func 46) #[] #[], .func (.func 47) #[] #[], .func (.func 48) #[] #[], .func (.func 49) #[] #[], .func (.func 50) #[] #[]] 68)) := ⟨_, rfl⟩
  have HB : Hid (Below w.heap.size w w3) := by show Below _ _ _; rw [hw3]; exact blw_alloc (blw_alloc (blw_alloc (Below.refl _ _) _) _) _
  have HZ : Hid (w3.heap.size = w.heap.size + 3) := by show _ = _; rw [hw3]; simp
  have HK : Hid ((w3.cell? ⟨w.heap.size, 0, none⟩ = some (.string K) ∧ w3.cell? ⟨w.heap.size, 1, none⟩ = some (.slice (some ⟨fb, 0, none⟩) fs.length fs.length)) ∧ (w3.cell? ⟨w.heap.size + 1, 0, none⟩ = some (.string o.kind) ∧ w3.cell? ⟨w.heap.size + 1, 1, none⟩ = some (.string o.name) ∧ w3.cell? ⟨w.heap.size + 1, 2, none⟩ = some (.string o.team) ∧ w3.cell? ⟨w.heap.size + 1, 3, none⟩ = some (.slice (some ⟨b1, 0, none⟩) o.values.length c1) ∧ w3.cell? ⟨w.heap.size + 1, 4, none⟩ = some (.bool o.ending) ∧ w3.cell? ⟨w.heap.size + 1, 5, none⟩ = some (.slice (some ⟨b2, 0, none⟩) o.holds.length c2) ∧ w3.cell? ⟨w.heap.size + 1, 6, none⟩ = some (.int .i64 o.version)) ∧ (w3.cell? ⟨w.heap.size + 1 + 1, 0, none⟩ = some (.func (.func 46) #[] #[]) ∧ w3.cell? ⟨w.heap.size + 1 + 1, 1, none⟩ = some (.func (.func 47) #[] #[]) ∧ w3.cell? ⟨w.heap.size + 1 + 1, 2, none⟩ = some (.func (.func 48) #[] #[]) ∧ w3.cell? ⟨w.heap.size + 1 + 1, 3, none⟩ = some (.func (.func 49) #[] #[]) ∧ w3.cell? ⟨w.heap.size + 1 + 1, 4, none⟩ = some (.func (.func 50) #[] #[]))) := by
    have e3 : ∀ b j, b < w.heap.size + 2 → w3.cell? ⟨b, j, none⟩ = ((w.alloc (.cells #[.string K, .slice (some ⟨fb, 0, none⟩) fs.length fs.length] 49)).alloc (.cells #[.string o.kind, .string o.name, .string o.team, .slice (some ⟨b1, 0, none⟩) o.values.length c1, .bool o.ending, .slice (some ⟨b2, 0, none⟩) o.holds.length c2, .int .i64 o.version] 32)).cell? ⟨b, j, none⟩ := by
      intro b j hb
      rw [hw3]
      exact (blw_alloc (Below.refl _ _) _).cell (p := ⟨b, j, none⟩) (by show b < _; simp; omega)
    refine ⟨⟨?_, ?_⟩, ⟨?_, ?_, ?_, ?_, ?_, ?_, ?_⟩, ⟨?_, ?_, ?_, ?_, ?_⟩⟩
    · exact (e3 _ _ (by omega)).trans (by simp)
    · exact (e3 _ _ (by omega)).trans (by simp)
    · exact (e3 _ _ (by omega)).trans (by simp)
    · exact (e3 _ _ (by omega)).trans (by simp)
    · exact (e3 _ _ (by omega)).trans (by simp)
    · exact (e3 _ _ (by omega)).trans (by simp)
    · exact (e3 _ _ (by omega)).trans (by simp)
    · exact (e3 _ _ (by omega)).trans (by simp)
    · exact (e3 _ _ (by omega)).trans (by simp)
    · rw [hw3, World.cell?_alloc_at _ _ _ _ (by simp)]; rfl
    · rw [hw3, World.cell?_alloc_at _ _ _ _ (by simp)]; rfl
    · rw [hw3, World.cell?_alloc_at _ _ _ _ (by simp)]; rfl
    · rw [hw3, World.cell?_alloc_at _ _ _ _ (by simp)]; rfl
    · rw [hw3, World.cell?_alloc_at _ _ _ _ (by simp)]; rfl
  go_enter Tryz.func31, Tryz.ntmps31
  go_upto_region 2 with fail
  rw [← hw3]
  clear hw3
  go_wp2
  go_loopw [12] (fun i wr => ∃ k : Nat, k ≤ 5 ∧ i = .int .i64 k ∧ (1 ≤ k → goodNames o = true) ∧ (2 ≤ k → o.values.length = fs.length) ∧ (3 ≤ k → goodHolds o = true) ∧ (4 ≤ k → goodVersion o = true) ∧ (5 ≤ k → badCode fs o.values = 0) ∧ Below w3.heap.size w3 wr) (fun i _ => 5 - (intOf i).toNat)
  case atStart => exact ⟨0, by omega, rfl, fun h => by omega, fun h => by omega, fun h => by omega, fun h => by omega, fun h => by omega, Below.refl _ _⟩
  case round =>
    obtain ⟨k, hk, rfl, g1, g2, g3, g4, g5, hW⟩ := hrel
    have HG : Hid ((1 ≤ k → goodNames o = true) ∧ (2 ≤ k → o.values.length = fs.length) ∧ (3 ≤ k → goodHolds o = true) ∧ (4 ≤ k → goodVersion o = true) ∧ (5 ≤ k → badCode fs o.values = 0)) := ⟨g1, g2, g3, g4, g5⟩
    have HW : Hid (Below w3.heap.size w3 wr) := hW
    have HWw : Hid (Below w.heap.size w wr) := blw_trans HB.out hW
    have hzr : w.heap.size + 1 + 1 < wr.heap.size := by have := hW.size; have := HZ.out; omega
    have q : ∀ b j, b < w.heap.size + 3 → wr.cell? ⟨b, j, none⟩ = w3.cell? ⟨b, j, none⟩ := fun b j hb => hW.cell (p := ⟨b, j, none⟩) (by have := HZ.out; show b < _; omega)
    have s0 := (q w.heap.size 0 (by omega)).trans HK.out.1.1
    have s1 := (q w.heap.size 1 (by omega)).trans HK.out.1.2
    have o0 := (q (w.heap.size + 1) 0 (by omega)).trans HK.out.2.1.1
    have o1 := (q (w.heap.size + 1) 1 (by omega)).trans HK.out.2.1.2.1
    have o2 := (q (w.heap.size + 1) 2 (by omega)).trans HK.out.2.1.2.2.1
    have o3 := (q (w.heap.size + 1) 3 (by omega)).trans HK.out.2.1.2.2.2.1
    have o4 := (q (w.heap.size + 1) 4 (by omega)).trans HK.out.2.1.2.2.2.2.1
    have o5 := (q (w.heap.size + 1) 5 (by omega)).trans HK.out.2.1.2.2.2.2.2.1
    have o6 := (q (w.heap.size + 1) 6 (by omega)).trans HK.out.2.1.2.2.2.2.2.2
    have f0 := (q (w.heap.size + 1 + 1) 0 (by omega)).trans HK.out.2.2.1
    have f1 := (q (w.heap.size + 1 + 1) 1 (by omega)).trans HK.out.2.2.2.1
    have f2 := (q (w.heap.size + 1 + 1) 2 (by omega)).trans HK.out.2.2.2.2.1
    have f3 := (q (w.heap.size + 1 + 1) 3 (by omega)).trans HK.out.2.2.2.2.2.1
    have f4 := (q (w.heap.size + 1 + 1) 4 (by omega)).trans HK.out.2.2.2.2.2.2
    clear q g1 g2 g3 g4 g5 hW
    by_cases k0 : k = 0
    · subst k0
      go_wp2_with fail
      refine (checkNames K fb fs o b1 c1 b2 c2 wr HA.out.2.2.1).mono ?_
      rintro e w4 ⟨rfl, hb4⟩
      have HB4 : Hid (Below w3.heap.size w3 w4) := blw_trans HW.out hb4
      clear hb4 s0 s1 o0 o1 o2 o3 o4 o5 o6 f0 f1 f2 f3 f4
      cases hb : goodNames o
      · have HE : Hid (errV (obCode fs o) (obPlace fs o) = .iface 65 (.agg #[.int .i64 1, .int .i64 0])) := by
          show errV _ _ = _
          unfold obCode obPlace
          rw [hb]
          simp [errV]
        have e : okV false = .iface 65 (.agg #[.int .i64 1, .int .i64 0]) := rfl
        rw [e]
        clear e
        go_wp2
        go_ret
        exact ⟨ret_val HE.out.symm, blw_trans HB.out HB4.out⟩
      · have e : okV true = .nilIface := rfl
        rw [e]
        clear e
        go_wp2
        go_roundw
        case rel => exact ⟨0 + 1, by omega, by go_num, fun _ => hb, fun h => by omega, fun h => by omega, fun h => by omega, fun h => by omega, HB4.out⟩
        case measure => simp [intOf]
    by_cases k1 : k = 1
    · subst k1
      go_wp2_with fail
      refine (checkCount K fb fs o b1 c1 b2 c2 wr).mono ?_
      rintro e w4 ⟨rfl, hb4⟩
      have HB4 : Hid (Below w3.heap.size w3 w4) := blw_trans HW.out hb4
      clear hb4 s0 s1 o0 o1 o2 o3 o4 o5 o6 f0 f1 f2 f3 f4
      cases hb : (decide (o.values.length = fs.length))
      · have HE : Hid (errV (obCode fs o) (obPlace fs o) = .iface 65 (.agg #[.int .i64 1, .int .i64 0])) := by
          show errV _ _ = _
          unfold obCode obPlace
          rw [hb]
          simp [errV]
        have e : okV false = .iface 65 (.agg #[.int .i64 1, .int .i64 0]) := rfl
        rw [e]
        clear e
        go_wp2
        go_ret
        exact ⟨ret_val HE.out.symm, blw_trans HB.out HB4.out⟩
      · have e : okV true = .nilIface := rfl
        rw [e]
        clear e
        go_wp2
        go_roundw
        case rel => exact ⟨1 + 1, by omega, by go_num, fun _ => HG.out.1 (by omega), fun _ => of_decide_eq_true hb, fun h => by omega, fun h => by omega, fun h => by omega, HB4.out⟩
        case measure => simp [intOf]
    by_cases k2 : k = 2
    · subst k2
      go_wp2_with fail
      refine (checkHolds K fb fs o b1 c1 b2 c2 wr (HA.out.1.later HWw.out) HA.out.2.2.2.2).mono ?_
      rintro e w4 ⟨rfl, hb4⟩
      have HB4 : Hid (Below w3.heap.size w3 w4) := blw_trans HW.out hb4
      clear hb4 s0 s1 o0 o1 o2 o3 o4 o5 o6 f0 f1 f2 f3 f4
      cases hb : goodHolds o
      · have HE : Hid (errV (obCode fs o) (obPlace fs o) = .iface 65 (.agg #[.int .i64 1, .int .i64 0])) := by
          show errV _ _ = _
          unfold obCode obPlace
          rw [hb]
          simp [errV]
        have e : okV false = .iface 65 (.agg #[.int .i64 1, .int .i64 0]) := rfl
        rw [e]
        clear e
        go_wp2
        go_ret
        exact ⟨ret_val HE.out.symm, blw_trans HB.out HB4.out⟩
      · have e : okV true = .nilIface := rfl
        rw [e]
        clear e
        go_wp2
        go_roundw
        case rel => exact ⟨2 + 1, by omega, by go_num, fun _ => HG.out.1 (by omega), fun _ => HG.out.2.1 (by omega), fun _ => hb, fun h => by omega, fun h => by omega, HB4.out⟩
        case measure => simp [intOf]
    by_cases k3 : k = 3
    · subst k3
      go_wp2_with fail
      refine (checkVersion K fb fs o b1 c1 b2 c2 wr).mono ?_
      rintro e w4 ⟨rfl, hb4⟩
      have HB4 : Hid (Below w3.heap.size w3 w4) := blw_trans HW.out hb4
      clear hb4 s0 s1 o0 o1 o2 o3 o4 o5 o6 f0 f1 f2 f3 f4
      cases hb : goodVersion o
      · have HE : Hid (errV (obCode fs o) (obPlace fs o) = .iface 65 (.agg #[.int .i64 1, .int .i64 0])) := by
          show errV _ _ = _
          unfold obCode obPlace
          rw [hb]
          simp [errV]
        have e : okV false = .iface 65 (.agg #[.int .i64 1, .int .i64 0]) := rfl
        rw [e]
        clear e
        go_wp2
        go_ret
        exact ⟨ret_val HE.out.symm, blw_trans HB.out HB4.out⟩
      · have e : okV true = .nilIface := rfl
        rw [e]
        clear e
        go_wp2
        go_roundw
        case rel => exact ⟨3 + 1, by omega, by go_num, fun _ => HG.out.1 (by omega), fun _ => HG.out.2.1 (by omega), fun _ => HG.out.2.2.1 (by omega), fun _ => hb, fun h => by omega, HB4.out⟩
        case measure => simp [intOf]
    by_cases k4 : k = 4
    · subst k4
      have HE : Hid (errV (obCode fs o) (obPlace fs o) = errV (badCode fs o.values) (badPlace fs o.values)) := by
        show errV _ _ = _
        unfold obCode obPlace
        rw [HG.out.1 (by omega), HG.out.2.2.1 (by omega), HG.out.2.2.2.1 (by omega)]
        simp [HG.out.2.1 (by omega)]
      have HX := checkValues K fb fs o b1 c1 b2 c2 wr (HA.out.1.later HWw.out) (HA.out.2.1.later HWw.out) HA.out.2.2.2.1 (HG.out.2.1 (by omega))
      by_cases hc : badCode fs o.values = 0
      · have e : errV (badCode fs o.values) (badPlace fs o.values) = .nilIface := by unfold errV; rw [if_pos hc]
        rw [e] at HX
        have HX' : Hid (Calls Tryz.prog 50 #[.agg #[.string K, .slice (some ⟨fb, 0, none⟩) fs.length fs.length], .agg #[.string o.kind, .string o.name, .string o.team, .slice (some ⟨b1, 0, none⟩) o.values.length c1, .bool o.ending, .slice (some ⟨b2, 0, none⟩) o.holds.length c2, .int .i64 o.version]] wr fun e w' => e = .returned .nilIface ∧ Below wr.heap.size wr w') := HX
        clear HX e
        go_wp2_with fail
        refine HX'.out.mono ?_
        rintro e w4 ⟨rfl, hb4⟩
        have HB4 : Hid (Below w3.heap.size w3 w4) := blw_trans HW.out hb4
        clear hb4 s0 s1 o0 o1 o2 o3 o4 o5 o6 f0 f1 f2 f3 f4
        go_wp2
        go_roundw
        case rel => exact ⟨4 + 1, by omega, by go_num, fun _ => HG.out.1 (by omega), fun _ => HG.out.2.1 (by omega), fun _ => HG.out.2.2.1 (by omega), fun _ => HG.out.2.2.2.1 (by omega), fun _ => hc, HB4.out⟩
        case measure => simp [intOf]
      · have e : errV (badCode fs o.values) (badPlace fs o.values) = .iface 65 (.agg #[.int .i64 (badCode fs o.values : Nat), .int .i64 (badPlace fs o.values : Nat)]) := by unfold errV; rw [if_neg hc]
        rw [e] at HX HE
        have HX' : Hid (Calls Tryz.prog 50 #[.agg #[.string K, .slice (some ⟨fb, 0, none⟩) fs.length fs.length], .agg #[.string o.kind, .string o.name, .string o.team, .slice (some ⟨b1, 0, none⟩) o.values.length c1, .bool o.ending, .slice (some ⟨b2, 0, none⟩) o.holds.length c2, .int .i64 o.version]] wr fun e w' => e = .returned (.iface 65 (.agg #[.int .i64 (badCode fs o.values : Nat), .int .i64 (badPlace fs o.values : Nat)])) ∧ Below wr.heap.size wr w') := HX
        clear HX e
        go_wp2_with fail
        refine HX'.out.mono ?_
        rintro e w4 ⟨rfl, hb4⟩
        have HB4 : Hid (Below w3.heap.size w3 w4) := blw_trans HW.out hb4
        clear hb4 s0 s1 o0 o1 o2 o3 o4 o5 o6 f0 f1 f2 f3 f4
        go_wp2
        go_ret
        exact ⟨ret_val HE.out.symm, blw_trans HB.out HB4.out⟩
    obtain rfl : k = 5 := by omega
    have HE : Hid (errV (obCode fs o) (obPlace fs o) = .nilIface) := by
      show errV _ _ = _
      unfold obCode obPlace
      rw [HG.out.1 (by omega), HG.out.2.2.1 (by omega), HG.out.2.2.2.1 (by omega), HG.out.2.2.2.2 (by omega)]
      simp [HG.out.2.1 (by omega), errV]
    go_wp2
    go_ret
    exact ⟨ret_val HE.out.symm, HWw.out⟩

end Go.Proofs.YtfbehiagmanflaaGreatDoor
