/-
  Draws: teams.
-/
import Derived.Test.YtfmidkdpclfffaaDoorDrF
namespace Go.Proofs.YtfmidkdpclfffaaDoor
open Go.RowKit Go.Deep

theorem field_teams (a b : Value) (s : Option Addr) (n c : Nat) (W : World) : (Instr.field 91 (.agg #[a, b, .slice s n c]) 2).run Tryd.prog W = .ok (.slice s n c) W := by kernel_rfl

set_option maxRecDepth 8000 in
set_option maxHeartbeats 4000000 in
theorem drawTeams_any (R : Nat) (v : Value) (len p : Nat) (W : World) (h : Rd W R v len p) (hp : p ≤ 900000) :
    Calls Tryd.prog 34 #[.pointer (some ⟨R, 0, none⟩)] W fun e W' => (∃ (b : Nat) (ts : List Tm), e = .returned (.slice (some ⟨b, 0, none⟩) ts.length ts.length) ∧ TmsIn W' b ts ∧ W.heap.size ≤ b ∧ 1 ≤ ts.length ∧ ts.length ≤ 6) ∧ Dr R v len p 1 W W' := by
  have HR : Hid (Rd W R v len p) := h
  clear h
  go_enter Tryd.func34, Tryd.ntmps34
  go_wp2_with fail
  refine (pick_any R v len p 4 W HR.out (by omega) (by omega)).mono ?_
  rintro e W1 ⟨⟨x, rfl, hx⟩, hF, hR⟩
  have x0 := hx.1
  have x1 := hx.2.1 (by omega)
  have H1 : Hid (Fr R W W1 ∧ Rd W1 R v len (p + 1) ∧ W.heap.size ≤ W1.heap.size) := ⟨hF, hR, hF.bel.size⟩
  clear hx hF hR HR
  by_cases c0 : x = 0
  · subst c0
    go_wp2
    go_ret
    obtain ⟨e1, e2, e3⟩ := H1.out
    refine ⟨⟨W1.heap.size, [⟨⟨#[100, 101, 118]⟩, ⟨#[]⟩⟩, ⟨⟨#[108, 97, 98]⟩, ⟨#[100, 101, 118]⟩⟩, ⟨⟨#[111, 112, 115]⟩, ⟨#[]⟩⟩, ⟨⟨#[114, 49]⟩, ⟨#[108, 97, 98]⟩⟩, ⟨⟨#[114, 50]⟩, ⟨#[114, 49]⟩⟩, ⟨⟨#[114, 51]⟩, ⟨#[114, 50]⟩⟩], rfl, tms_new W1 _ _ _ 80 rfl rfl (by decide) (by intro m hm; simp at hm; rcases hm with rfl | rfl | rfl | rfl | rfl | rfl <;> exact ⟨by decide, by decide⟩), e3, by decide, by decide⟩, e1.trans (Fr.of_below (blw_alloc (Below.refl _ _) _) e2.own.lt), _, Nat.le_refl _, e2.later (blw_alloc (Below.refl _ _) _)⟩
  by_cases c1 : x = 1
  · subst c1
    go_wp2
    go_ret
    obtain ⟨e1, e2, e3⟩ := H1.out
    refine ⟨⟨W1.heap.size, [⟨⟨#[100, 101, 118]⟩, ⟨#[111, 112, 115]⟩⟩, ⟨⟨#[108, 97, 98]⟩, ⟨#[]⟩⟩, ⟨⟨#[111, 112, 115]⟩, ⟨#[108, 97, 98]⟩⟩], rfl, tms_new W1 _ _ _ 80 rfl rfl (by decide) (by intro m hm; simp at hm; rcases hm with rfl | rfl | rfl <;> exact ⟨by decide, by decide⟩), e3, by decide, by decide⟩, e1.trans (Fr.of_below (blw_alloc (Below.refl _ _) _) e2.own.lt), _, Nat.le_refl _, e2.later (blw_alloc (Below.refl _ _) _)⟩
  have d0 : (x == 0) = false := beq_eq_false_iff_ne.2 c0
  have d1 : (x == 1) = false := beq_eq_false_iff_ne.2 c1
  go_wp2_with fail
  refine (law11 W1).mono ?_
  rintro e W2 ⟨⟨s0, s1, b, ts, rfl, hT, hb, l1, l6⟩, hbel⟩
  have hfl : ∀ W, (Instr.field 91 (.agg #[s0, s1, .slice (some ⟨b, 0, none⟩) ts.length ts.length]) 2).run Tryd.prog W = .ok (.slice (some ⟨b, 0, none⟩) ts.length ts.length) W := field_teams s0 s1 _ _ _
  have H2 : Hid (TmsIn W2 b ts ∧ W.heap.size ≤ b ∧ Dr R v len p 1 W W2) := ⟨hT, Nat.le_trans H1.out.2.2 hb, H1.out.1.trans (Fr.of_below hbel H1.out.2.1.own.lt), _, Nat.le_refl _, H1.out.2.1.later hbel⟩
  clear hT hb hbel H1
  go_wp2
  go_ret
  exact ⟨⟨b, ts, rfl, H2.out.1, H2.out.2.1, l1, l6⟩, H2.out.2.2⟩

theorem Tryd.info80 : (Tryd.prog.info? 80).map (fun i => (i.zero, i.size, i.bytes)) = some (some (.agg #[.string ByteArray.empty, .string ByteArray.empty]), 2, 32) := by kernel_rfl

def cellsT (ts : List Tm) : List Value := ts.flatMap fun m => [Value.string m.nm, Value.string m.ov]
theorem cellsT_len (ts : List Tm) : (cellsT ts).length = ts.length * 2 := by
  induction ts with
  | nil => rfl
  | cons m ms ih =>
    unfold cellsT at ih ⊢
    simp [ih]
    omega
theorem cellsT_at : ∀ (l : List Tm) (i : Nat), i < l.length → (cellsT l)[i * 2]? = some (.string (l.getD i Tm.none).nm) ∧ (cellsT l)[i * 2 + 1]? = some (.string (l.getD i Tm.none).ov) := by
  intro l
  unfold cellsT
  induction l with
  | nil => intro i hi; simp at hi
  | cons x xs ih =>
    intro i hi
    cases i with
    | zero => simp
    | succ j =>
      have := ih j (by simpa using hi)
      have e1 : (j + 1) * 2 = j * 2 + 2 := by omega
      rw [e1]
      simpa using this
theorem cellsT_app (ts : List Tm) (m : Tm) : cellsT (ts ++ [m]) = cellsT ts ++ [Value.string m.nm, Value.string m.ov] := by
  unfold cellsT; simp
theorem tms_cells {W : World} {b : Nat} {ts : List Tm} (h : TmsIn W b ts) : ∀ j u, (cellsT ts)[j]? = some u → W.cell? ⟨b, j, none⟩ = some u := by
  intro j u hj
  have hl : j < ts.length * 2 := by rw [← cellsT_len]; exact (List.getElem?_eq_some_iff.1 hj).1
  obtain ⟨g0, g1⟩ := cellsT_at ts (j / 2) (by omega)
  have hi := h.at_ (j / 2) (by omega)
  rcases Nat.mod_two_eq_zero_or_one j with e | e
  · have e2 : j / 2 * 2 = j := by omega
    rw [e2] at g0 hi
    rw [hj] at g0
    injection g0 with g0
    rw [g0]
    exact hi.c0
  · have e2 : j / 2 * 2 + 1 = j := by omega
    rw [e2] at g1
    have := hi.c1
    rw [e2] at this
    rw [hj] at g1
    injection g1 with g1
    rw [g1]
    exact this

/-- Teams in a slice of the call's own, behind lo. -/
structure SQ (R : Nat) (v : Value) (len : Nat) (W : World) (lo p g cap : Nat) (ts : List Tm) (W' : World) : Prop where
  fr : Fr R W W'
  rd : Rd W' R v len p
  own : W'.ownsRow lo 80 2 (.slice (some ⟨g, 0, none⟩) ts.length cap) ts.length (cellsT ts)
  sz : ∀ m ∈ ts, m.sized
  ho : R < W.heap.size ∧ W.heap.size ≤ lo ∧ lo ≤ W'.heap.size
  n1 : 1 ≤ ts.length
  n2 : ts.length ≤ 20

theorem SQ.on {R : Nat} {v : Value} {len : Nat} {W : World} {lo p g cap : Nat} {ts : List Tm} {W' : World} (h : SQ R v len W lo p g cap ts W') {W'' : World} {p' : Nat} (hF : Fr R W' W'') (hR : Rd W'' R v len p') : SQ R v len W lo p' g cap ts W'' :=
  ⟨h.fr.trans hF, hR, owns_fr h.own hF (by have := h.ho; omega), h.sz, ⟨h.ho.1, h.ho.2.1, Nat.le_trans h.ho.2.2 hF.bel.size⟩, h.n1, h.n2⟩
theorem SQ.blk {R : Nat} {v : Value} {len : Nat} {W : World} {lo p g cap : Nat} {ts : List Tm} {W' : World} (h : SQ R v len W lo p g cap ts W') : lo ≤ g ∧ OwnBlk W' g 80 (cap * 2) ∧ ts.length ≤ cap := by
  rcases h.own.2 with ⟨e, _⟩ | ⟨g', cap', cur, e, h0, h1, h2, h3, h4, h5⟩
  · injection e with e1; cases e1
  · injection e with e1 e2 e3
    injection e1 with e1
    injection e1 with e1
    subst e1 e3
    exact ⟨h0, ⟨cur, h1, h4⟩, h2⟩
theorem SQ.tms {R : Nat} {v : Value} {len : Nat} {W : World} {lo p g cap : Nat} {ts : List Tm} {W' : World} (h : SQ R v len W lo p g cap ts W') : TmsIn W' g ts := by
  have hcs := World.ownsRow.cells h.own rfl
  refine ⟨h.blk.2.1.lt, by have := h.n2; omega, fun i hi => ?_⟩
  obtain ⟨g0, g1⟩ := cellsT_at ts i hi
  have a0 := hcs _ _ g0
  have a1 := hcs _ _ g1
  rw [Addr.add_lit, Nat.zero_add] at a0 a1
  refine ⟨a0, a1, h.sz _ ?_⟩
  rw [List.getD_eq_getElem?_getD, List.getElem?_eq_getElem hi]
  exact List.getElem_mem _
theorem SQ.app {R : Nat} {v : Value} {len : Nat} {W : World} {lo p g cap : Nat} {ts : List Tm} {W' : World} (h : SQ R v len W lo p g cap ts W') (m : Tm) (hm : m.sized) (hl : ts.length < 20) {o : Obj} {v' : Value} {w5 : World}
    (hown : w5.ownsRow lo 80 2 v' (ts.length + 1) (cellsT ts ++ [Value.string m.nm, Value.string m.ov])) (hgrow : (W'.alloc o).grownBy w5 (Value.slice (some ⟨g, 0, none⟩) ts.length cap).ownBlock) (hnn : ¬ v' = .slice none 0 0) :
    ∃ g' cap', v' = .slice (some ⟨g', 0, none⟩) (ts.length + 1) cap' ∧ SQ R v len W lo p g' cap' (ts ++ [m]) w5 := by
  have hrow : ∀ x, (Value.slice (some ⟨g, 0, none⟩) ts.length cap).ownBlock = some x → lo ≤ x := fun x hx => (World.ownsRow.lt h.own x hx).1
  have hbt : Below W'.heap.size W' (W'.alloc o) := blw_alloc (Below.refl _ _) _
  obtain ⟨o1, o2, o3⟩ := h.ho
  have hown2 := hown
  rcases hown.2 with ⟨e, _⟩ | ⟨g', cap', cur, rfl, hg0, hg1, hg2⟩
  · exact absurd e hnn
  · refine ⟨g', cap', rfl, (h.fr.trans (Fr.of_below hbt h.rd.own.lt)).grown hgrow (by have := h.rd.own.lt; have := hbt.size; omega) (fun x hx => by have := hrow x hx; omega), (h.rd.later hbt).grown hgrow (fun x hx => by have := hrow x hx; omega), ?_, ?_, ⟨o1, o2, Nat.le_trans o3 (Nat.le_trans hbt.size hgrow.size)⟩, by simp, by simp; omega⟩
    · rw [List.length_append, cellsT_app]
      exact hown2
    · intro x hx
      rcases List.mem_append.1 hx with hx | hx
      · exact h.sz x hx
      · simp at hx; subst hx; exact hm
theorem tms_set {W : World} {g i d n : Nat} {ts : List Tm} (h : TmsIn W g ts) (ho : OwnBlk W g 80 n) (hi : i < ts.length) (hn : ts.length * 2 ≤ n) (hd : d < 2) (s : ByteArray) (hs : s.size ≤ maxLen) :
    TmsIn (W.setCell ⟨g, i * 2 + d, none⟩ (.string s)) g (ts.set i (if d = 0 then ⟨s, (ts.getD i Tm.none).ov⟩ else ⟨(ts.getD i Tm.none).nm, s⟩)) := by
  refine ⟨by rw [sc_size']; exact h.lt, by simpa using h.len, fun k hk => ?_⟩
  have hk' : k < ts.length := by simpa using hk
  have tk := h.at_ k hk'
  by_cases e : k = i
  · subst e
    have hg : (ts.set k (if d = 0 then ⟨s, (ts.getD k Tm.none).ov⟩ else ⟨(ts.getD k Tm.none).nm, s⟩)).getD k Tm.none = (if d = 0 then ⟨s, (ts.getD k Tm.none).ov⟩ else ⟨(ts.getD k Tm.none).nm, s⟩) := by simp [hk']
    rw [hg]
    by_cases e0 : d = 0
    · subst e0
      exact ⟨sc_eq ho _ (by omega) _, (sc_ne _ _ _ _ _ _ (Or.inr (by omega))).trans tk.c1, hs, tk.sized.2⟩
    · obtain rfl : d = 1 := by omega
      exact ⟨(sc_ne _ _ _ _ _ _ (Or.inr (by omega))).trans tk.c0, sc_eq ho _ (by omega) _, tk.sized.1, hs⟩
  · have hg : (ts.set i (if d = 0 then ⟨s, (ts.getD i Tm.none).ov⟩ else ⟨(ts.getD i Tm.none).nm, s⟩)).getD k Tm.none = ts.getD k Tm.none := by
      rw [List.getD_eq_getElem?_getD, List.getElem?_set_ne (by omega), List.getD_eq_getElem?_getD]
    rw [hg]
    exact ⟨(sc_ne _ _ _ _ _ _ (Or.inr (by omega))).trans tk.c0, (sc_ne _ _ _ _ _ _ (Or.inr (by omega))).trans tk.c1, tk.sized⟩

end Go.Proofs.YtfmidkdpclfffaaDoor
