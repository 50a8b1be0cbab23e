/-
  Draws: any rule.
-/
import Derived.Test.YtfmidkdpclfffaaDoorDrC
namespace Go.Proofs.YtfmidkdpclfffaaDoor
open Go.RowKit Go.Deep

/-- While a rule is drawn: it lies in Q, the answer goes into B. -/
structure AQ (R : Nat) (v : Value) (len : Nat) (W : World) (B Q p b c : Nat) (r : Rul) (W' : World) : Prop where
  fr : Fr R W W'
  rd : Rd W' R v len p
  ob : OwnBlk W' B 27 4
  oq : OwnBlk W' Q 27 4
  x0 : W'.cell? ⟨Q, 0, none⟩ = some (.slice (some ⟨b, 0, none⟩) r.verbs.length c)
  x1 : W'.cell? ⟨Q, 1, none⟩ = some (.string r.kind)
  x2 : W'.cell? ⟨Q, 2, none⟩ = some (.string r.team)
  x3 : W'.cell? ⟨Q, 3, none⟩ = some (.string r.pre)
  hv : RulD W' W.heap.size b r
  hb : b ≠ B ∧ b ≠ Q
  ho : R < W.heap.size ∧ W.heap.size ≤ B ∧ B < Q

theorem AQ.on {R : Nat} {v : Value} {len : Nat} {W : World} {B Q p b c : Nat} {r : Rul} {W' : World} (h : AQ R v len W B Q p b c r W') {W'' : World} {p' : Nat} (hF : Fr R W' W'') (hR : Rd W'' R v len p') : AQ R v len W B Q p' b c r W'' := by
  obtain ⟨o1, o2, o3⟩ := h.ho
  have hq := h.oq.lt
  exact ⟨h.fr.trans hF, hR, own_fr h.ob hF (by omega), own_fr h.oq hF (by omega), (hF.cell (by omega) hq).trans h.x0, (hF.cell (by omega) hq).trans h.x1, (hF.cell (by omega) hq).trans h.x2, (hF.cell (by omega) hq).trans h.x3,
    ⟨ints_fr h.hv.1 hF (by have := h.hv.2.1; omega), h.hv.2⟩, h.hb, h.ho⟩
theorem ints_new (W : World) (L : List Int) (cs : Array Value) (b : Nat) (hb : b = W.heap.size) (h : cs = (L.map (Value.int .i64)).toArray) (hl : L.length ≤ 1048576) : IntsIn (W.alloc (.cells cs 3)) b L := by
  subst h hb
  refine ⟨by simp, hl, fun i hi => ?_⟩
  rw [World.cell?_alloc_at _ _ _ _ rfl]
  simp [hi]
theorem ints_past {W : World} {b : Nat} {L : List Int} (h : IntsIn W b L) (o : Obj) : IntsIn (W.alloc o) b L := h.later (blw_alloc (Below.refl _ _) o)

theorem six_rows (W : World) : Below W.heap.size W (((((((W.alloc (.cells #[] 3)).alloc (.cells #[.int .i64 2, .int .i64 1] 3)).alloc (.cells #[.int .i64 0] 3)).alloc (.cells #[.int .i64 6] 3)).alloc (.cells #[.int .i64 1, .int .i64 1] 3)).alloc (.cells #[.int .i64 (-1)] 3)).alloc (.cells #[.slice (some ⟨W.heap.size, 0, none⟩) 0 0, .slice (some ⟨W.heap.size + 1, 0, none⟩) 2 2, .slice (some ⟨W.heap.size + 1 + 1, 0, none⟩) 1 1, .slice (some ⟨W.heap.size + 1 + 1 + 1, 0, none⟩) 1 1, .slice (some ⟨W.heap.size + 1 + 1 + 1 + 1, 0, none⟩) 2 2, .slice (some ⟨W.heap.size + 1 + 1 + 1 + 1 + 1, 0, none⟩) 1 1] 25)) ∧ (∀ i, i < 6 → ∃ (b' : Nat) (L : List Int), (((((((W.alloc (.cells #[] 3)).alloc (.cells #[.int .i64 2, .int .i64 1] 3)).alloc (.cells #[.int .i64 0] 3)).alloc (.cells #[.int .i64 6] 3)).alloc (.cells #[.int .i64 1, .int .i64 1] 3)).alloc (.cells #[.int .i64 (-1)] 3)).alloc (.cells #[.slice (some ⟨W.heap.size, 0, none⟩) 0 0, .slice (some ⟨W.heap.size + 1, 0, none⟩) 2 2, .slice (some ⟨W.heap.size + 1 + 1, 0, none⟩) 1 1, .slice (some ⟨W.heap.size + 1 + 1 + 1, 0, none⟩) 1 1, .slice (some ⟨W.heap.size + 1 + 1 + 1 + 1, 0, none⟩) 2 2, .slice (some ⟨W.heap.size + 1 + 1 + 1 + 1 + 1, 0, none⟩) 1 1] 25)).cell? ⟨W.heap.size + 6, i, none⟩ = some (.slice (some ⟨b', 0, none⟩) L.length L.length) ∧ IntsIn (((((((W.alloc (.cells #[] 3)).alloc (.cells #[.int .i64 2, .int .i64 1] 3)).alloc (.cells #[.int .i64 0] 3)).alloc (.cells #[.int .i64 6] 3)).alloc (.cells #[.int .i64 1, .int .i64 1] 3)).alloc (.cells #[.int .i64 (-1)] 3)).alloc (.cells #[.slice (some ⟨W.heap.size, 0, none⟩) 0 0, .slice (some ⟨W.heap.size + 1, 0, none⟩) 2 2, .slice (some ⟨W.heap.size + 1 + 1, 0, none⟩) 1 1, .slice (some ⟨W.heap.size + 1 + 1 + 1, 0, none⟩) 1 1, .slice (some ⟨W.heap.size + 1 + 1 + 1 + 1, 0, none⟩) 2 2, .slice (some ⟨W.heap.size + 1 + 1 + 1 + 1 + 1, 0, none⟩) 1 1] 25)) b' L ∧ W.heap.size ≤ b' ∧ L.length ≤ 10) ∧ W.heap.size + 6 < (((((((W.alloc (.cells #[] 3)).alloc (.cells #[.int .i64 2, .int .i64 1] 3)).alloc (.cells #[.int .i64 0] 3)).alloc (.cells #[.int .i64 6] 3)).alloc (.cells #[.int .i64 1, .int .i64 1] 3)).alloc (.cells #[.int .i64 (-1)] 3)).alloc (.cells #[.slice (some ⟨W.heap.size, 0, none⟩) 0 0, .slice (some ⟨W.heap.size + 1, 0, none⟩) 2 2, .slice (some ⟨W.heap.size + 1 + 1, 0, none⟩) 1 1, .slice (some ⟨W.heap.size + 1 + 1 + 1, 0, none⟩) 1 1, .slice (some ⟨W.heap.size + 1 + 1 + 1 + 1, 0, none⟩) 2 2, .slice (some ⟨W.heap.size + 1 + 1 + 1 + 1 + 1, 0, none⟩) 1 1] 25)).heap.size := by
  refine ⟨blw_alloc (blw_alloc (blw_alloc (blw_alloc (blw_alloc (blw_alloc (blw_alloc (Below.refl _ _) _) _) _) _) _) _) _, fun i hi => ?_, by simp⟩
  match i, hi with
  | 0, _ => exact ⟨W.heap.size, [], (World.cell?_alloc_at _ _ _ _ (by simp)).trans rfl, ints_past (ints_past (ints_past (ints_past (ints_past (ints_past (ints_new W [] _ _ rfl rfl (by simp)) _) _) _) _) _) _, by omega, by simp⟩
  | 1, _ => exact ⟨W.heap.size + 1, [2, 1], (World.cell?_alloc_at _ _ _ _ (by simp)).trans rfl, ints_past (ints_past (ints_past (ints_past (ints_past (ints_new _ [2, 1] _ _ (by simp) rfl (by simp)) _) _) _) _) _, by omega, by simp⟩
  | 2, _ => exact ⟨W.heap.size + 1 + 1, [0], (World.cell?_alloc_at _ _ _ _ (by simp)).trans rfl, ints_past (ints_past (ints_past (ints_past (ints_new _ [0] _ _ (by simp) rfl (by simp)) _) _) _) _, by omega, by simp⟩
  | 3, _ => exact ⟨W.heap.size + 1 + 1 + 1, [6], (World.cell?_alloc_at _ _ _ _ (by simp)).trans rfl, ints_past (ints_past (ints_past (ints_new _ [6] _ _ (by simp) rfl (by simp)) _) _) _, by omega, by simp⟩
  | 4, _ => exact ⟨W.heap.size + 1 + 1 + 1 + 1, [1, 1], (World.cell?_alloc_at _ _ _ _ (by simp)).trans rfl, ints_past (ints_past (ints_new _ [1, 1] _ _ (by simp) rfl (by simp)) _) _, by omega, by simp⟩
  | 5, _ => exact ⟨W.heap.size + 1 + 1 + 1 + 1 + 1, [-1], (World.cell?_alloc_at _ _ _ _ (by simp)).trans rfl, ints_past (ints_new _ [-1] _ _ (by simp) rfl (by simp)) _, by omega, by simp⟩

theorem AQ.set1 {R : Nat} {v : Value} {len : Nat} {W : World} {B Q p b c : Nat} {r : Rul} {W' : World} (h : AQ R v len W B Q p b c r W') (s : ByteArray) (hs : s.size ≤ 2000) : AQ R v len W B Q p b c ⟨r.verbs, s, r.team, r.pre⟩ (W'.setCell ⟨Q, 1, none⟩ (.string s)) := by
  obtain ⟨o1, o2, o3⟩ := h.ho
  exact ⟨h.fr.sc (by omega) (by omega) _ _, h.rd.sc (by omega) _ _, h.ob.sc_other (by omega) _ _, h.oq.setCell _ _, ((sc_ne _ _ _ _ _ _ (Or.inr (by omega))).trans h.x0), (sc_eq h.oq _ (by omega) _), ((sc_ne _ _ _ _ _ _ (Or.inr (by omega))).trans h.x2), ((sc_ne _ _ _ _ _ _ (Or.inr (by omega))).trans h.x3), ⟨ints_sc h.hv.1 h.hb.2 _ _, h.hv.2.1, h.hv.2.2.1, ⟨hs, h.hv.2.2.2.2.1, h.hv.2.2.2.2.2⟩⟩, h.hb, h.ho⟩
theorem AQ.set2 {R : Nat} {v : Value} {len : Nat} {W : World} {B Q p b c : Nat} {r : Rul} {W' : World} (h : AQ R v len W B Q p b c r W') (s : ByteArray) (hs : s.size ≤ 2000) : AQ R v len W B Q p b c ⟨r.verbs, r.kind, s, r.pre⟩ (W'.setCell ⟨Q, 2, none⟩ (.string s)) := by
  obtain ⟨o1, o2, o3⟩ := h.ho
  exact ⟨h.fr.sc (by omega) (by omega) _ _, h.rd.sc (by omega) _ _, h.ob.sc_other (by omega) _ _, h.oq.setCell _ _, ((sc_ne _ _ _ _ _ _ (Or.inr (by omega))).trans h.x0), ((sc_ne _ _ _ _ _ _ (Or.inr (by omega))).trans h.x1), (sc_eq h.oq _ (by omega) _), ((sc_ne _ _ _ _ _ _ (Or.inr (by omega))).trans h.x3), ⟨ints_sc h.hv.1 h.hb.2 _ _, h.hv.2.1, h.hv.2.2.1, ⟨h.hv.2.2.2.1, hs, h.hv.2.2.2.2.2⟩⟩, h.hb, h.ho⟩
theorem AQ.set3 {R : Nat} {v : Value} {len : Nat} {W : World} {B Q p b c : Nat} {r : Rul} {W' : World} (h : AQ R v len W B Q p b c r W') (s : ByteArray) (hs : s.size ≤ 2000) : AQ R v len W B Q p b c ⟨r.verbs, r.kind, r.team, s⟩ (W'.setCell ⟨Q, 3, none⟩ (.string s)) := by
  obtain ⟨o1, o2, o3⟩ := h.ho
  exact ⟨h.fr.sc (by omega) (by omega) _ _, h.rd.sc (by omega) _ _, h.ob.sc_other (by omega) _ _, h.oq.setCell _ _, ((sc_ne _ _ _ _ _ _ (Or.inr (by omega))).trans h.x0), ((sc_ne _ _ _ _ _ _ (Or.inr (by omega))).trans h.x1), ((sc_ne _ _ _ _ _ _ (Or.inr (by omega))).trans h.x2), (sc_eq h.oq _ (by omega) _), ⟨ints_sc h.hv.1 h.hb.2 _ _, h.hv.2.1, h.hv.2.2.1, ⟨h.hv.2.2.2.1, h.hv.2.2.2.2.1, hs⟩⟩, h.hb, h.ho⟩
theorem AQ.set0 {R : Nat} {v : Value} {len : Nat} {W : World} {B Q p b c : Nat} {r : Rul} {W' : World} (h : AQ R v len W B Q p b c r W') (b' c' n : Nat) (L : List Int) (hn : n = L.length) (hL : IntsIn W' b' L) (hb : Q < b') (hl : L.length ≤ 10) : AQ R v len W B Q p b' c' ⟨L, r.kind, r.team, r.pre⟩ (W'.setCell ⟨Q, 0, none⟩ (.slice (some ⟨b', 0, none⟩) n c')) := by
  obtain ⟨o1, o2, o3⟩ := h.ho
  subst hn
  exact ⟨h.fr.sc (by omega) (by omega) _ _, h.rd.sc (by omega) _ _, h.ob.sc_other (by omega) _ _, h.oq.setCell _ _, (sc_eq h.oq _ (by omega) _), ((sc_ne _ _ _ _ _ _ (Or.inr (by omega))).trans h.x1), ((sc_ne _ _ _ _ _ _ (Or.inr (by omega))).trans h.x2), ((sc_ne _ _ _ _ _ _ (Or.inr (by omega))).trans h.x3), ⟨ints_sc hL (by omega) _ _, by omega, hl, h.hv.2.2.2⟩, ⟨by omega, by omega⟩, h.ho⟩

set_option maxRecDepth 8000 in
set_option maxHeartbeats 8000000 in
theorem anyRule_any (R : Nat) (v : Value) (len p : Nat) (W : World) (h : Rd W R v len p) (hp : p ≤ 900000) :
    Calls Tryd.prog 13 #[.pointer (some ⟨R, 0, none⟩)] W fun e W' => (∃ (b c : Nat) (r : Rul), e = .returned (.agg #[.slice (some ⟨b, 0, none⟩) r.verbs.length c, .string r.kind, .string r.team, .string r.pre]) ∧ RulD W' W.heap.size b r) ∧ Dr R v len p 15 W W' := by
  obtain ⟨Wa, hWa⟩ : ∃ Wa, Wa = W.alloc (.cells #[.slice none 0 0, .string ⟨#[]⟩, .string ⟨#[]⟩, .string ⟨#[]⟩] 27) := ⟨_, rfl⟩
  obtain ⟨B, hB⟩ : ∃ B, B = W.heap.size := ⟨_, rfl⟩
  have hba : Below W.heap.size W Wa := by rw [hWa]; exact blw_alloc (Below.refl _ _) _
  have H0 : Hid (Fr R W Wa ∧ Rd Wa R v len p ∧ OwnBlk Wa B 27 4 ∧ R < B ∧ W.heap.size = B) := ⟨Fr.of_below hba h.own.lt, h.later hba, by rw [hWa, hB]; exact OwnBlk.alloc _ _ _ _ rfl, by rw [hB]; exact h.own.lt, by omega⟩
  clear h hba
  go_enter Tryd.func13, Tryd.ntmps13
  go_upto_region 1 with fail
  rw [← hWa, ← hB]
  clear hWa hB
  go_wp2_with fail
  refine (drawRule_any R v len p Wa H0.out.2.1 hp).mono ?_
  rintro e W1 ⟨⟨b, c, r, rfl, hr⟩, hF, p1, hp1, hR⟩
  obtain ⟨W2, hW2⟩ : ∃ W2, W2 = W1.alloc (.cells #[.slice (some ⟨b, 0, none⟩) r.verbs.length c, .string r.kind, .string r.team, .string r.pre] 27) := ⟨_, rfl⟩
  obtain ⟨Q, hQ⟩ : ∃ Q, Q = W1.heap.size := ⟨_, rfl⟩
  have H2 : Hid (AQ R v len W B Q p1 b c r W2) := by
    obtain ⟨e1, e2, e3, e4, e5⟩ := H0.out
    have l1 := e3.lt
    have l2 := hF.bel.size
    have l3 := hr.1.lt
    have l4 := hr.2.1
    have hb2 : Below W1.heap.size W1 W2 := by rw [hW2]; exact blw_alloc (Below.refl _ _) _
    have hF2 : Fr R W1 W2 := Fr.of_below hb2 hR.own.lt
    have cc : ∀ j, W2.cell? ⟨Q, j, none⟩ = (#[.slice (some ⟨b, 0, none⟩) r.verbs.length c, .string r.kind, .string r.team, .string r.pre] : Array Value)[j]? := fun j => by rw [hW2, hQ]; exact World.cell?_alloc_at _ _ _ _ rfl
    have hRb : R < b := by omega
    exact ⟨(e1.trans hF).trans hF2, hR.later hb2, own_fr (own_fr e3 hF e4) hF2 e4, by rw [hW2, hQ]; exact OwnBlk.alloc _ _ _ _ rfl, cc 0, cc 1, cc 2, cc 3, ⟨ints_fr hr.1 hF2 hRb, by omega, hr.2.2⟩, ⟨by omega, by omega⟩, by omega, by omega, by omega⟩
  go_upto_region 2 with fail
  rw [← hW2, ← hQ]
  clear hW2 hQ hr hF hR H0
  go_wp2_with fail
  refine (pick_any R v len p1 24 W2 H2.out.rd (by omega) (by omega)).mono ?_
  rintro e W3 ⟨⟨x, rfl, hx⟩, hF, hR⟩
  have x0 := hx.1
  have x1 := hx.2.1 (by omega)
  have H3 : Hid (AQ R v len W B Q (p1 + 1) b c r W3) := H2.out.on hF hR
  clear hx hF hR H2
  by_cases c0 : x = 0
  · subst c0
    have HSX := six_rows W3
    obtain ⟨Wl, hWl⟩ : ∃ Wl, Wl = ((((((W3.alloc (.cells #[] 3)).alloc (.cells #[.int .i64 2, .int .i64 1] 3)).alloc (.cells #[.int .i64 0] 3)).alloc (.cells #[.int .i64 6] 3)).alloc (.cells #[.int .i64 1, .int .i64 1] 3)).alloc (.cells #[.int .i64 (-1)] 3)).alloc (.cells #[.slice (some ⟨W3.heap.size, 0, none⟩) 0 0, .slice (some ⟨W3.heap.size + 1, 0, none⟩) 2 2, .slice (some ⟨W3.heap.size + 1 + 1, 0, none⟩) 1 1, .slice (some ⟨W3.heap.size + 1 + 1 + 1, 0, none⟩) 1 1, .slice (some ⟨W3.heap.size + 1 + 1 + 1 + 1, 0, none⟩) 2 2, .slice (some ⟨W3.heap.size + 1 + 1 + 1 + 1 + 1, 0, none⟩) 1 1] 25) := ⟨_, rfl⟩
    rw [← hWl] at HSX
    have HL : Hid (AQ R v len W B Q (p1 + 1) b c r Wl) := H3.out.on (Fr.of_below HSX.1 H3.out.rd.own.lt) (H3.out.rd.later HSX.1)
    have HX : Hid ((∀ i, i < 6 → ∃ (b' : Nat) (L : List Int), Wl.cell? ⟨W3.heap.size + 6, i, none⟩ = some (.slice (some ⟨b', 0, none⟩) L.length L.length) ∧ IntsIn Wl b' L ∧ W3.heap.size ≤ b' ∧ L.length ≤ 10) ∧ W3.heap.size + 6 < Wl.heap.size) := HSX.2
    have HQ3 : Hid (Q < W3.heap.size) := H3.out.oq.lt
    clear HSX H3
    go_wp2_with fail
    rw [← hWl]
    clear hWl
    refine (pick_any R v len (p1 + 1) 6 Wl HL.out.rd (by omega) (by omega)).mono ?_
    rintro e W4 ⟨⟨x, rfl, hx⟩, hF, hR⟩
    have x2 := hx.1
    have x3 := hx.2.1 (by omega)
    obtain ⟨i, rfl⟩ := Int.eq_ofNat_of_zero_le x2
    obtain ⟨b', L, hc, hL, hb', hl⟩ := HX.out.1 i (by omega)
    have hRl : R < W3.heap.size := by have := HL.out.ho; have := HQ3.out; omega
    have hlz := HX.out.2
    have hc4 : W4.cell? ⟨W3.heap.size + 6, i, none⟩ = some (.slice (some ⟨b', 0, none⟩) L.length L.length) := (hF.cell (by omega) hlz).trans hc
    have hlz4 : W3.heap.size + 6 < W4.heap.size := Nat.lt_of_lt_of_le hlz hF.bel.size
    have H4 : Hid (AQ R v len W B Q (p1 + 1 + 1) b c r W4 ∧ IntsIn W4 b' L ∧ Q < b') := ⟨HL.out.on hF hR, ints_fr hL hF (by omega), by have := HQ3.out; omega⟩
    clear hx hF hR HL HX hc hL hlz
    have hfq := H4.out.1.oq.frozen
    have hqz := H4.out.1.oq.lt
    have y0 := H4.out.1.x0
    obtain ⟨W5, hW5⟩ : ∃ W5, W5 = W4.setCell ⟨Q, 0, none⟩ (.slice (some ⟨b', 0, none⟩) L.length L.length) := ⟨_, rfl⟩
    have H5 : Hid (AQ R v len W B Q (p1 + 1 + 1) b' L.length ⟨L, r.kind, r.team, r.pre⟩ W5) := by show AQ _ _ _ _ _ _ _ _ _ _ _; rw [hW5]; exact H4.out.1.set0 b' _ _ L rfl H4.out.2.1 H4.out.2.2 hl
    go_upto_region 11 with fail
    rw [← hW5]
    clear hW5 H4 hfq hqz y0 hc4 hlz4
    have hfz := H5.out.ob.frozen
    have hz := H5.out.ob.lt
    have hqz := H5.out.oq.lt
    have y0 := H5.out.x0
    have y1 := H5.out.x1
    have y2 := H5.out.x2
    have y3 := H5.out.x3
    obtain ⟨u0, o0⟩ := H5.out.ob.cell 0 (by omega)
    obtain ⟨u1, o1⟩ := H5.out.ob.cell 1 (by omega)
    obtain ⟨u2, o2⟩ := H5.out.ob.cell 2 (by omega)
    obtain ⟨u3, o3⟩ := H5.out.ob.cell 3 (by omega)
    go_wp2
    obtain ⟨g0, g1, g2, g3⟩ := four_at H5.out.ob (.slice (some ⟨b', 0, none⟩) ((⟨L, r.kind, r.team, r.pre⟩ : Rul)).verbs.length L.length) (.string ((⟨L, r.kind, r.team, r.pre⟩ : Rul)).kind) (.string ((⟨L, r.kind, r.team, r.pre⟩ : Rul)).team) (.string ((⟨L, r.kind, r.team, r.pre⟩ : Rul)).pre)
    refine bodyPost_ret (v := .agg #[.slice (some ⟨b', 0, none⟩) ((⟨L, r.kind, r.team, r.pre⟩ : Rul)).verbs.length L.length, .string ((⟨L, r.kind, r.team, r.pre⟩ : Rul)).kind, .string ((⟨L, r.kind, r.team, r.pre⟩ : Rul)).team, .string ((⟨L, r.kind, r.team, r.pre⟩ : Rul)).pre]) (by simp only [results, Tryd.results13]; simp [go_sem, g0, g1, g2, g3]) rfl ⟨⟨b', L.length, (⟨L, r.kind, r.team, r.pre⟩ : Rul), rfl, ints_four H5.out.hv.1 H5.out.hb.1 _ _ _ _, H5.out.hv.2⟩, ?_⟩
    have hh := H5.out.ho
    exact Dr.four ⟨H5.out.fr, _, (by omega : p1 + 1 + 1 ≤ p + 15), H5.out.rd⟩ (by omega) (by omega) _ _ _ _
  by_cases c1 : x = 1
  · subst c1
    go_wp2_with fail
    refine (of_lit R v len (p1 + 1) W3 H3.out.rd (by omega) _ 2 rfl rfl (by omega) (by omega) 2000 (by decide)).mono ?_
    rintro e W4 ⟨⟨s, rfl, hs⟩, hF, hR⟩
    have H4 : Hid (AQ R v len W B Q (p1 + 1 + 1) b c r W4) := H3.out.on hF hR
    clear hF hR H3
    have hfq := H4.out.oq.frozen
    have hqz := H4.out.oq.lt
    have y1 := H4.out.x1
    obtain ⟨W5, hW5⟩ : ∃ W5, W5 = W4.setCell ⟨Q, 1, none⟩ (.string s) := ⟨_, rfl⟩
    have H5 : Hid (AQ R v len W B Q (p1 + 1 + 1) b c ⟨r.verbs, s, r.team, r.pre⟩ W5) := by show AQ _ _ _ _ _ _ _ _ _ _ _; rw [hW5]; exact H4.out.set1 s hs
    go_upto_region 11 with fail
    rw [← hW5]
    clear hW5 H4 hfq hqz y1
    have hfz := H5.out.ob.frozen
    have hz := H5.out.ob.lt
    have hqz := H5.out.oq.lt
    have y0 := H5.out.x0
    have y1 := H5.out.x1
    have y2 := H5.out.x2
    have y3 := H5.out.x3
    obtain ⟨u0, o0⟩ := H5.out.ob.cell 0 (by omega)
    obtain ⟨u1, o1⟩ := H5.out.ob.cell 1 (by omega)
    obtain ⟨u2, o2⟩ := H5.out.ob.cell 2 (by omega)
    obtain ⟨u3, o3⟩ := H5.out.ob.cell 3 (by omega)
    go_wp2
    obtain ⟨g0, g1, g2, g3⟩ := four_at H5.out.ob (.slice (some ⟨b, 0, none⟩) ((⟨r.verbs, s, r.team, r.pre⟩ : Rul)).verbs.length c) (.string ((⟨r.verbs, s, r.team, r.pre⟩ : Rul)).kind) (.string ((⟨r.verbs, s, r.team, r.pre⟩ : Rul)).team) (.string ((⟨r.verbs, s, r.team, r.pre⟩ : Rul)).pre)
    refine bodyPost_ret (v := .agg #[.slice (some ⟨b, 0, none⟩) ((⟨r.verbs, s, r.team, r.pre⟩ : Rul)).verbs.length c, .string ((⟨r.verbs, s, r.team, r.pre⟩ : Rul)).kind, .string ((⟨r.verbs, s, r.team, r.pre⟩ : Rul)).team, .string ((⟨r.verbs, s, r.team, r.pre⟩ : Rul)).pre]) (by simp only [results, Tryd.results13]; simp [go_sem, g0, g1, g2, g3]) rfl ⟨⟨b, c, (⟨r.verbs, s, r.team, r.pre⟩ : Rul), rfl, ints_four H5.out.hv.1 H5.out.hb.1 _ _ _ _, H5.out.hv.2⟩, ?_⟩
    have hh := H5.out.ho
    exact Dr.four ⟨H5.out.fr, _, (by omega : p1 + 1 + 1 ≤ p + 15), H5.out.rd⟩ (by omega) (by omega) _ _ _ _
  by_cases c2 : x = 2
  · subst c2
    go_wp2_with fail
    refine (of_lit R v len (p1 + 1) W3 H3.out.rd (by omega) _ 2 rfl rfl (by omega) (by omega) 2000 (by decide)).mono ?_
    rintro e W4 ⟨⟨s, rfl, hs⟩, hF, hR⟩
    have H4 : Hid (AQ R v len W B Q (p1 + 1 + 1) b c r W4) := H3.out.on hF hR
    clear hF hR H3
    have hfq := H4.out.oq.frozen
    have hqz := H4.out.oq.lt
    have y2 := H4.out.x2
    obtain ⟨W5, hW5⟩ : ∃ W5, W5 = W4.setCell ⟨Q, 2, none⟩ (.string s) := ⟨_, rfl⟩
    have H5 : Hid (AQ R v len W B Q (p1 + 1 + 1) b c ⟨r.verbs, r.kind, s, r.pre⟩ W5) := by show AQ _ _ _ _ _ _ _ _ _ _ _; rw [hW5]; exact H4.out.set2 s hs
    go_upto_region 11 with fail
    rw [← hW5]
    clear hW5 H4 hfq hqz y2
    have hfz := H5.out.ob.frozen
    have hz := H5.out.ob.lt
    have hqz := H5.out.oq.lt
    have y0 := H5.out.x0
    have y1 := H5.out.x1
    have y2 := H5.out.x2
    have y3 := H5.out.x3
    obtain ⟨u0, o0⟩ := H5.out.ob.cell 0 (by omega)
    obtain ⟨u1, o1⟩ := H5.out.ob.cell 1 (by omega)
    obtain ⟨u2, o2⟩ := H5.out.ob.cell 2 (by omega)
    obtain ⟨u3, o3⟩ := H5.out.ob.cell 3 (by omega)
    go_wp2
    obtain ⟨g0, g1, g2, g3⟩ := four_at H5.out.ob (.slice (some ⟨b, 0, none⟩) ((⟨r.verbs, r.kind, s, r.pre⟩ : Rul)).verbs.length c) (.string ((⟨r.verbs, r.kind, s, r.pre⟩ : Rul)).kind) (.string ((⟨r.verbs, r.kind, s, r.pre⟩ : Rul)).team) (.string ((⟨r.verbs, r.kind, s, r.pre⟩ : Rul)).pre)
    refine bodyPost_ret (v := .agg #[.slice (some ⟨b, 0, none⟩) ((⟨r.verbs, r.kind, s, r.pre⟩ : Rul)).verbs.length c, .string ((⟨r.verbs, r.kind, s, r.pre⟩ : Rul)).kind, .string ((⟨r.verbs, r.kind, s, r.pre⟩ : Rul)).team, .string ((⟨r.verbs, r.kind, s, r.pre⟩ : Rul)).pre]) (by simp only [results, Tryd.results13]; simp [go_sem, g0, g1, g2, g3]) rfl ⟨⟨b, c, (⟨r.verbs, r.kind, s, r.pre⟩ : Rul), rfl, ints_four H5.out.hv.1 H5.out.hb.1 _ _ _ _, H5.out.hv.2⟩, ?_⟩
    have hh := H5.out.ho
    exact Dr.four ⟨H5.out.fr, _, (by omega : p1 + 1 + 1 ≤ p + 15), H5.out.rd⟩ (by omega) (by omega) _ _ _ _
  by_cases c3 : x = 3
  · subst c3
    go_wp2_with fail
    refine (pick_any R v len (p1 + 1) 2 W3 H3.out.rd (by omega) (by omega)).mono ?_
    rintro e W4 ⟨⟨x, rfl, hx⟩, hF, hR⟩
    have x2 := hx.1
    have x3 := hx.2.1 (by omega)
    obtain ⟨n, rfl⟩ := Int.eq_ofNat_of_zero_le x2
    have H4 : Hid (AQ R v len W B Q (p1 + 1 + 1) b c r W4) := H3.out.on hF hR
    clear hx hF hR H3
    have hcast : ((16 : Int) + (n : Int)) = ((16 + n : Nat) : Int) := by omega
    have HM : Hid (Calls Tryd.prog 38 #[.string ⟨#[98]⟩, .int .i64 (16 + (n : Int))] W4 fun e W' => (∃ s : ByteArray, e = .returned (.string s) ∧ s.size ≤ 1600) ∧ W4 = W') := by rw [hcast]; exact many_any ⟨#[98]⟩ (16 + n) W4 (by decide) (by omega)
    clear hcast
    go_wp2_with fail
    refine HM.out.mono ?_
    rintro e W' ⟨⟨s, rfl, hs⟩, rfl⟩
    clear HM
    go_wp2_with fail
    refine (of_lit R v len (p1 + 1 + 1) W4 H4.out.rd (by omega) [.string ⟨#[66]⟩, .string s] 2 rfl rfl (by omega) (by omega) 2000 (by intro z hz; simp [strOf] at hz; rcases hz with rfl | rfl; decide; omega)).mono ?_
    rintro e W5 ⟨⟨s', rfl, hs'⟩, hF, hR⟩
    have H5 : Hid (AQ R v len W B Q (p1 + 1 + 1 + 1) b c r W5) := H4.out.on hF hR
    clear hF hR H4
    have hfq := H5.out.oq.frozen
    have hqz := H5.out.oq.lt
    have y3 := H5.out.x3
    obtain ⟨W6, hW6⟩ : ∃ W6, W6 = W5.setCell ⟨Q, 3, none⟩ (.string s') := ⟨_, rfl⟩
    have H6 : Hid (AQ R v len W B Q (p1 + 1 + 1 + 1) b c ⟨r.verbs, r.kind, r.team, s'⟩ W6) := by show AQ _ _ _ _ _ _ _ _ _ _ _; rw [hW6]; exact H5.out.set3 s' hs'
    go_upto_region 11 with fail
    rw [← hW6]
    clear hW6 H5 hfq hqz y3
    have hfz := H6.out.ob.frozen
    have hz := H6.out.ob.lt
    have hqz := H6.out.oq.lt
    have y0 := H6.out.x0
    have y1 := H6.out.x1
    have y2 := H6.out.x2
    have y3 := H6.out.x3
    obtain ⟨u0, o0⟩ := H6.out.ob.cell 0 (by omega)
    obtain ⟨u1, o1⟩ := H6.out.ob.cell 1 (by omega)
    obtain ⟨u2, o2⟩ := H6.out.ob.cell 2 (by omega)
    obtain ⟨u3, o3⟩ := H6.out.ob.cell 3 (by omega)
    go_wp2
    obtain ⟨g0, g1, g2, g3⟩ := four_at H6.out.ob (.slice (some ⟨b, 0, none⟩) ((⟨r.verbs, r.kind, r.team, s'⟩ : Rul)).verbs.length c) (.string ((⟨r.verbs, r.kind, r.team, s'⟩ : Rul)).kind) (.string ((⟨r.verbs, r.kind, r.team, s'⟩ : Rul)).team) (.string ((⟨r.verbs, r.kind, r.team, s'⟩ : Rul)).pre)
    refine bodyPost_ret (v := .agg #[.slice (some ⟨b, 0, none⟩) ((⟨r.verbs, r.kind, r.team, s'⟩ : Rul)).verbs.length c, .string ((⟨r.verbs, r.kind, r.team, s'⟩ : Rul)).kind, .string ((⟨r.verbs, r.kind, r.team, s'⟩ : Rul)).team, .string ((⟨r.verbs, r.kind, r.team, s'⟩ : Rul)).pre]) (by simp only [results, Tryd.results13]; simp [go_sem, g0, g1, g2, g3]) rfl ⟨⟨b, c, (⟨r.verbs, r.kind, r.team, s'⟩ : Rul), rfl, ints_four H6.out.hv.1 H6.out.hb.1 _ _ _ _, H6.out.hv.2⟩, ?_⟩
    have hh := H6.out.ho
    exact Dr.four ⟨H6.out.fr, _, (by omega : p1 + 1 + 1 + 1 ≤ p + 15), H6.out.rd⟩ (by omega) (by omega) _ _ _ _
  have d0 : (x == 0) = false := beq_eq_false_iff_ne.2 c0
  have d1 : (x == 1) = false := beq_eq_false_iff_ne.2 c1
  have d2 : (x == 2) = false := beq_eq_false_iff_ne.2 c2
  have d3 : (x == 3) = false := beq_eq_false_iff_ne.2 c3
  go_upto_region 11 with fail
  have hfz := H3.out.ob.frozen
  have hz := H3.out.ob.lt
  have hqz := H3.out.oq.lt
  have y0 := H3.out.x0
  have y1 := H3.out.x1
  have y2 := H3.out.x2
  have y3 := H3.out.x3
  obtain ⟨u0, o0⟩ := H3.out.ob.cell 0 (by omega)
  obtain ⟨u1, o1⟩ := H3.out.ob.cell 1 (by omega)
  obtain ⟨u2, o2⟩ := H3.out.ob.cell 2 (by omega)
  obtain ⟨u3, o3⟩ := H3.out.ob.cell 3 (by omega)
  go_wp2
  obtain ⟨g0, g1, g2, g3⟩ := four_at H3.out.ob (.slice (some ⟨b, 0, none⟩) (r).verbs.length c) (.string (r).kind) (.string (r).team) (.string (r).pre)
  refine bodyPost_ret (v := .agg #[.slice (some ⟨b, 0, none⟩) (r).verbs.length c, .string (r).kind, .string (r).team, .string (r).pre]) (by simp only [results, Tryd.results13]; simp [go_sem, g0, g1, g2, g3]) rfl ⟨⟨b, c, r, rfl, ints_four H3.out.hv.1 H3.out.hb.1 _ _ _ _, H3.out.hv.2⟩, ?_⟩
  have hh := H3.out.ho
  exact Dr.four ⟨H3.out.fr, _, (by omega : p1 + 1 ≤ p + 15), H3.out.rd⟩ (by omega) (by omega) _ _ _ _

end Go.Proofs.YtfmidkdpclfffaaDoor
