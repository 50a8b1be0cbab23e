/-
  Stewards: the places of a service, a copy, a berth, by the specification.
-/
import Derived.Test.YtfmcdpgeplkcgaaStA
namespace Go.Proofs.Ytfmcdpgeplkcgaa
open Go.RowKit Go.Deep

theorem Box4.at {w : World} {p : Nat} {v0 v1 v2 v3 : Value} (h : Box4 w p v0 v1 v2 v3) : p < w.heap.size ∧ w.cell? ⟨p, 0, none⟩ = some v0 ∧ w.cell? ⟨p, 1, none⟩ = some v1 ∧ w.cell? ⟨p, 2, none⟩ = some v2 ∧ w.cell? ⟨p, 3, none⟩ = some v3 := ⟨h.lt, h.x0, h.x1, h.x2, h.x3⟩

structure Box5 (W : World) (p : Nat) (v0 v1 v2 v3 v4 : Value) : Prop where
  lt : p < W.heap.size
  x0 : W.cell? ⟨p, 0, none⟩ = some v0
  x1 : W.cell? ⟨p, 1, none⟩ = some v1
  x2 : W.cell? ⟨p, 2, none⟩ = some v2
  x3 : W.cell? ⟨p, 3, none⟩ = some v3
  x4 : W.cell? ⟨p, 4, none⟩ = some v4

theorem Box5.later {W W' : World} {p : Nat} {v0 v1 v2 v3 v4 : Value} (h : Box5 W p v0 v1 v2 v3 v4) (hb : Below W.heap.size W W') : Box5 W' p v0 v1 v2 v3 v4 := by
  have c : ∀ j, W'.cell? ⟨p, j, none⟩ = W.cell? ⟨p, j, none⟩ := fun j => hb.cell (p := ⟨p, j, none⟩) h.lt
  exact ⟨Nat.lt_of_lt_of_le h.lt hb.size, (c 0).trans h.x0, (c 1).trans h.x1, (c 2).trans h.x2, (c 3).trans h.x3, (c 4).trans h.x4⟩
theorem Box5.new' (W : World) (p : Nat) (v0 v1 v2 v3 v4 : Value) (t : TypeId) (hp : p = W.heap.size) : Box5 (W.alloc (.cells #[v0, v1, v2, v3, v4] t)) p v0 v1 v2 v3 v4 := by
  subst hp
  have c : ∀ j, (W.alloc (.cells #[v0, v1, v2, v3, v4] t)).cell? ⟨W.heap.size, j, none⟩ = (#[v0, v1, v2, v3, v4])[j]? := fun j => World.cell?_alloc_at _ _ _ _ rfl
  exact ⟨by simp, c 0, c 1, c 2, c 3, c 4⟩
theorem Box5.past {W : World} {p : Nat} {v0 v1 v2 v3 v4 : Value} (h : Box5 W p v0 v1 v2 v3 v4) (o : Obj) : Box5 (W.alloc o) p v0 v1 v2 v3 v4 := h.later (blw_alloc (Below.refl _ _) o)

structure Box7 (W : World) (p : Nat) (v0 v1 v2 v3 v4 v5 v6 : Value) : Prop where
  lt : p < W.heap.size
  x0 : W.cell? ⟨p, 0, none⟩ = some v0
  x1 : W.cell? ⟨p, 1, none⟩ = some v1
  x2 : W.cell? ⟨p, 2, none⟩ = some v2
  x3 : W.cell? ⟨p, 3, none⟩ = some v3
  x4 : W.cell? ⟨p, 4, none⟩ = some v4
  x5 : W.cell? ⟨p, 5, none⟩ = some v5
  x6 : W.cell? ⟨p, 6, none⟩ = some v6

theorem Box7.later {W W' : World} {p : Nat} {v0 v1 v2 v3 v4 v5 v6 : Value} (h : Box7 W p v0 v1 v2 v3 v4 v5 v6) (hb : Below W.heap.size W W') : Box7 W' p v0 v1 v2 v3 v4 v5 v6 := by
  have c : ∀ j, W'.cell? ⟨p, j, none⟩ = W.cell? ⟨p, j, none⟩ := fun j => hb.cell (p := ⟨p, j, none⟩) h.lt
  exact ⟨Nat.lt_of_lt_of_le h.lt hb.size, (c 0).trans h.x0, (c 1).trans h.x1, (c 2).trans h.x2, (c 3).trans h.x3, (c 4).trans h.x4, (c 5).trans h.x5, (c 6).trans h.x6⟩
theorem Box7.new' (W : World) (p : Nat) (v0 v1 v2 v3 v4 v5 v6 : Value) (t : TypeId) (hp : p = W.heap.size) : Box7 (W.alloc (.cells #[v0, v1, v2, v3, v4, v5, v6] t)) p v0 v1 v2 v3 v4 v5 v6 := by
  subst hp
  have c : ∀ j, (W.alloc (.cells #[v0, v1, v2, v3, v4, v5, v6] t)).cell? ⟨W.heap.size, j, none⟩ = (#[v0, v1, v2, v3, v4, v5, v6])[j]? := fun j => World.cell?_alloc_at _ _ _ _ rfl
  exact ⟨by simp, c 0, c 1, c 2, c 3, c 4, c 5, c 6⟩
theorem Box7.past {W : World} {p : Nat} {v0 v1 v2 v3 v4 v5 v6 : Value} (h : Box7 W p v0 v1 v2 v3 v4 v5 v6) (o : Obj) : Box7 (W.alloc o) p v0 v1 v2 v3 v4 v5 v6 := h.later (blw_alloc (Below.refl _ _) o)

structure Box13 (W : World) (p : Nat) (v0 v1 v2 v3 v4 v5 v6 v7 v8 v9 v10 v11 v12 : Value) : Prop where
  lt : p < W.heap.size
  x0 : W.cell? ⟨p, 0, none⟩ = some v0
  x1 : W.cell? ⟨p, 1, none⟩ = some v1
  x2 : W.cell? ⟨p, 2, none⟩ = some v2
  x3 : W.cell? ⟨p, 3, none⟩ = some v3
  x4 : W.cell? ⟨p, 4, none⟩ = some v4
  x5 : W.cell? ⟨p, 5, none⟩ = some v5
  x6 : W.cell? ⟨p, 6, none⟩ = some v6
  x7 : W.cell? ⟨p, 7, none⟩ = some v7
  x8 : W.cell? ⟨p, 8, none⟩ = some v8
  x9 : W.cell? ⟨p, 9, none⟩ = some v9
  x10 : W.cell? ⟨p, 10, none⟩ = some v10
  x11 : W.cell? ⟨p, 11, none⟩ = some v11
  x12 : W.cell? ⟨p, 12, none⟩ = some v12

theorem Box13.later {W W' : World} {p : Nat} {v0 v1 v2 v3 v4 v5 v6 v7 v8 v9 v10 v11 v12 : Value} (h : Box13 W p v0 v1 v2 v3 v4 v5 v6 v7 v8 v9 v10 v11 v12) (hb : Below W.heap.size W W') : Box13 W' p v0 v1 v2 v3 v4 v5 v6 v7 v8 v9 v10 v11 v12 := by
  have c : ∀ j, W'.cell? ⟨p, j, none⟩ = W.cell? ⟨p, j, none⟩ := fun j => hb.cell (p := ⟨p, j, none⟩) h.lt
  exact ⟨Nat.lt_of_lt_of_le h.lt hb.size, (c 0).trans h.x0, (c 1).trans h.x1, (c 2).trans h.x2, (c 3).trans h.x3, (c 4).trans h.x4, (c 5).trans h.x5, (c 6).trans h.x6, (c 7).trans h.x7, (c 8).trans h.x8, (c 9).trans h.x9, (c 10).trans h.x10, (c 11).trans h.x11, (c 12).trans h.x12⟩
theorem Box13.new' (W : World) (p : Nat) (v0 v1 v2 v3 v4 v5 v6 v7 v8 v9 v10 v11 v12 : Value) (t : TypeId) (hp : p = W.heap.size) : Box13 (W.alloc (.cells #[v0, v1, v2, v3, v4, v5, v6, v7, v8, v9, v10, v11, v12] t)) p v0 v1 v2 v3 v4 v5 v6 v7 v8 v9 v10 v11 v12 := by
  subst hp
  have c : ∀ j, (W.alloc (.cells #[v0, v1, v2, v3, v4, v5, v6, v7, v8, v9, v10, v11, v12] t)).cell? ⟨W.heap.size, j, none⟩ = (#[v0, v1, v2, v3, v4, v5, v6, v7, v8, v9, v10, v11, v12])[j]? := fun j => World.cell?_alloc_at _ _ _ _ rfl
  exact ⟨by simp, c 0, c 1, c 2, c 3, c 4, c 5, c 6, c 7, c 8, c 9, c 10, c 11, c 12⟩
theorem Box13.past {W : World} {p : Nat} {v0 v1 v2 v3 v4 v5 v6 v7 v8 v9 v10 v11 v12 : Value} (h : Box13 W p v0 v1 v2 v3 v4 v5 v6 v7 v8 v9 v10 v11 v12) (o : Obj) : Box13 (W.alloc o) p v0 v1 v2 v3 v4 v5 v6 v7 v8 v9 v10 v11 v12 := h.later (blw_alloc (Below.refl _ _) o)

set_option maxHeartbeats 4000000 in
theorem l12ServiceIx (K : SBk) (a0 a1 a2 : Option Addr) (c0 c1 c2 : Nat) (nm : ByteArray) (w : World) (h : SBkV w a0 a1 a2 K) :
    Calls Try.prog 40 #[.agg #[.int .i64 K.now, .slice a0 K.svcs.length c0, .slice a1 K.cps.length c1, .slice a2 K.bts.length c2], .string nm] w fun e w' => e = .returned (.int .i64 (svIx K.svcs nm)) ∧ Below w.heap.size w w' := by
  have hl := h.s.len
  unfold maxLen at hl
  have HH : Hid (SBkV w a0 a1 a2 K) := h
  clear h
  obtain ⟨R, hR⟩ : ∃ R, R = svIx K.svcs nm := ⟨_, rfl⟩
  have HR : Hid (R = firstTo (fun i => same (K.svcs.getD i Sv.none).nm nm) K.svcs.length) := hR
  rw [← hR]
  clear hR
  obtain ⟨wa, hwa⟩ : ∃ wa, wa = w.alloc (.cells #[.int .i64 K.now, .slice a0 K.svcs.length c0, .slice a1 K.cps.length c1, .slice a2 K.bts.length c2] 37) := ⟨_, rfl⟩
  have HB : Hid (Below w.heap.size w wa) := by show Below _ _ _; rw [hwa]; exact blw_alloc (Below.refl _ _) _
  have HX : Hid (Box4 wa w.heap.size (.int .i64 K.now) (.slice a0 K.svcs.length c0) (.slice a1 K.cps.length c1) (.slice a2 K.bts.length c2)) := by show Box4 _ _ _ _ _ _; rw [hwa]; exact Box4.new' w _ _ _ _ _ _ rfl
  go_enter Try.func40, Try.ntmps40
  go_upto_region 1 with fail
  rw [← hwa]
  clear hwa
  go_wp2
  go_loopw [5] (fun i wr => ∃ k : Nat, k ≤ K.svcs.length ∧ i = .int .i64 k ∧ Below wa.heap.size wa wr ∧ ∀ j, j < k → (same (K.svcs.getD j Sv.none).nm nm) = false) (fun i _ => K.svcs.length - (intOf i).toNat)
  case atStart => exact ⟨0, Nat.zero_le _, rfl, Below.refl _ _, fun j hj => absurd hj (Nat.not_lt_zero j)⟩
  case round =>
    obtain ⟨k, hk, rfl, hW, hall⟩ := hrel
    have HA := hid hall
    have HW := hid hW
    obtain ⟨yz, y0, y1, y2, y3⟩ := HX.out.later hW
    clear hall hW
    by_cases hlt : k < K.svcs.length
    · obtain ⟨b, off, ha, hbl, hf⟩ := (HH.out.later (blw_trans HB.out HW.out)).s.at_ k hlt
      subst ha
      obtain ⟨m, hm⟩ : ∃ m, m = K.svcs.getD k Sv.none := ⟨_, rfl⟩
      rw [← hm] at hf
      obtain ⟨z0, z1, z2, z3, z4, z5, z6, z7, z8, z9, z10, z11, z12, _⟩ := hf
      have HM := hid hm
      clear hm
      cases hq : (m.nm.toList == nm.toList)
      · have HN : Hid (∀ j, j < k + 1 → (same (K.svcs.getD j Sv.none).nm nm) = false) := by
          intro j hj
          by_cases e : j = k
          · subst e; show (same (K.svcs.getD j Sv.none).nm nm) = false; rw [← HM.out]; exact hq
          · exact HA.out j (by omega)
        clear HA
        go_wp2
        go_roundw
        case rel => exact ⟨k + 1, by omega, by go_num, HW.out, HN.out⟩
        case measure => simp [intOf]; omega
      · have HE : Hid (R = k) := by
          show R = k
          rw [HR.out]
          exact firstTo_hit hlt (by show (same (K.svcs.getD k Sv.none).nm nm) = true; rw [← HM.out]; exact hq) HA.out
        clear HA
        go_wp2
        go_ret
        exact ⟨Pl.ret_int HE.out.symm, blw_trans HB.out HW.out⟩
    · obtain rfl : k = K.svcs.length := by omega
      have HE : Hid (R = -1) := by show R = -1; rw [HR.out]; exact firstTo_none HA.out
      go_wp2
      go_ret
      exact ⟨Pl.ret_int HE.out.symm, blw_trans HB.out HW.out⟩

set_option maxHeartbeats 4000000 in
theorem l12BerthIx (K : SBk) (a0 a1 a2 : Option Addr) (c0 c1 c2 : Nat) (nm : ByteArray) (w : World) (h : SBkV w a0 a1 a2 K) :
    Calls Try.prog 41 #[.agg #[.int .i64 K.now, .slice a0 K.svcs.length c0, .slice a1 K.cps.length c1, .slice a2 K.bts.length c2], .string nm] w fun e w' => e = .returned (.int .i64 (btIx K.bts nm)) ∧ Below w.heap.size w w' := by
  have hl := h.b.len
  unfold maxLen at hl
  have HH : Hid (SBkV w a0 a1 a2 K) := h
  clear h
  obtain ⟨R, hR⟩ : ∃ R, R = btIx K.bts nm := ⟨_, rfl⟩
  have HR : Hid (R = firstTo (fun i => same (K.bts.getD i Bt.none).nm nm) K.bts.length) := hR
  rw [← hR]
  clear hR
  obtain ⟨wa, hwa⟩ : ∃ wa, wa = w.alloc (.cells #[.int .i64 K.now, .slice a0 K.svcs.length c0, .slice a1 K.cps.length c1, .slice a2 K.bts.length c2] 37) := ⟨_, rfl⟩
  have HB : Hid (Below w.heap.size w wa) := by show Below _ _ _; rw [hwa]; exact blw_alloc (Below.refl _ _) _
  have HX : Hid (Box4 wa w.heap.size (.int .i64 K.now) (.slice a0 K.svcs.length c0) (.slice a1 K.cps.length c1) (.slice a2 K.bts.length c2)) := by show Box4 _ _ _ _ _ _; rw [hwa]; exact Box4.new' w _ _ _ _ _ _ rfl
  go_enter Try.func41, Try.ntmps41
  go_upto_region 1 with fail
  rw [← hwa]
  clear hwa
  go_wp2
  go_loopw [5] (fun i wr => ∃ k : Nat, k ≤ K.bts.length ∧ i = .int .i64 k ∧ Below wa.heap.size wa wr ∧ ∀ j, j < k → (same (K.bts.getD j Bt.none).nm nm) = false) (fun i _ => K.bts.length - (intOf i).toNat)
  case atStart => exact ⟨0, Nat.zero_le _, rfl, Below.refl _ _, fun j hj => absurd hj (Nat.not_lt_zero j)⟩
  case round =>
    obtain ⟨k, hk, rfl, hW, hall⟩ := hrel
    have HA := hid hall
    have HW := hid hW
    obtain ⟨yz, y0, y1, y2, y3⟩ := HX.out.later hW
    clear hall hW
    by_cases hlt : k < K.bts.length
    · obtain ⟨b, off, ha, hbl, hf⟩ := (HH.out.later (blw_trans HB.out HW.out)).b.at_ k hlt
      subst ha
      obtain ⟨m, hm⟩ : ∃ m, m = K.bts.getD k Bt.none := ⟨_, rfl⟩
      rw [← hm] at hf
      obtain ⟨z0, z1, _⟩ := hf
      have HM := hid hm
      clear hm
      cases hq : (m.nm.toList == nm.toList)
      · have HN : Hid (∀ j, j < k + 1 → (same (K.bts.getD j Bt.none).nm nm) = false) := by
          intro j hj
          by_cases e : j = k
          · subst e; show (same (K.bts.getD j Bt.none).nm nm) = false; rw [← HM.out]; exact hq
          · exact HA.out j (by omega)
        clear HA
        go_wp2
        go_roundw
        case rel => exact ⟨k + 1, by omega, by go_num, HW.out, HN.out⟩
        case measure => simp [intOf]; omega
      · have HE : Hid (R = k) := by
          show R = k
          rw [HR.out]
          exact firstTo_hit hlt (by show (same (K.bts.getD k Bt.none).nm nm) = true; rw [← HM.out]; exact hq) HA.out
        clear HA
        go_wp2
        go_ret
        exact ⟨Pl.ret_int HE.out.symm, blw_trans HB.out HW.out⟩
    · obtain rfl : k = K.bts.length := by omega
      have HE : Hid (R = -1) := by show R = -1; rw [HR.out]; exact firstTo_none HA.out
      go_wp2
      go_ret
      exact ⟨Pl.ret_int HE.out.symm, blw_trans HB.out HW.out⟩

end Go.Proofs.Ytfmcdpgeplkcgaa
