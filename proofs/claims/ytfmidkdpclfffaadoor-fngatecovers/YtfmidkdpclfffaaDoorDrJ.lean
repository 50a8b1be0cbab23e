/-
  Draws: what is kept while rules are drawn.
-/
import Derived.Test.YtfmidkdpclfffaaDoorDrI
import Derived.Test.YtfmidkdpclfffaaDoorWalkVA
namespace Go.Proofs.YtfmidkdpclfffaaDoor
open Go.RowKit Go.Deep

/-- A rule in X, on its way. -/
structure AX (R : Nat) (v : Value) (len : Nat) (W : World) (X p b c : Nat) (r : Rul) (W' : World) : Prop where
  fr : Fr R W W'
  rd : Rd W' R v len p
  ox : OwnBlk W' X 27 4
  x0 : W'.cell? ⟨X, 0, none⟩ = some (.slice (some ⟨b, 0, none⟩) r.verbs.length c)
  x1 : W'.cell? ⟨X, 1, none⟩ = some (.string r.kind)
  x2 : W'.cell? ⟨X, 2, none⟩ = some (.string r.team)
  x3 : W'.cell? ⟨X, 3, none⟩ = some (.string r.pre)
  hv : IntsIn W' b r.verbs
  hl : r.verbs.length ≤ 10
  ht : r.sized
  hb : R < b ∧ b ≠ X
  ho : R < W.heap.size ∧ W.heap.size ≤ X

theorem Rul.tiny.sized {r : Rul} (h : r.tiny) : r.sized := by
  obtain ⟨a, b, c⟩ := h
  unfold Rul.sized maxLen
  exact ⟨by omega, by omega, by omega⟩

theorem AX.on {R : Nat} {v : Value} {len : Nat} {W : World} {X p b c : Nat} {r : Rul} {W' : World} (h : AX R v len W X p b c r W') {W'' : World} {p' : Nat} (hF : Fr R W' W'') (hR : Rd W'' R v len p') : AX R v len W X p' b c r W'' := by
  obtain ⟨o1, o2⟩ := h.ho
  have hx := h.ox.lt
  exact ⟨h.fr.trans hF, hR, own_fr h.ox hF (by omega), (hF.cell (by omega) hx).trans h.x0, (hF.cell (by omega) hx).trans h.x1, (hF.cell (by omega) hx).trans h.x2, (hF.cell (by omega) hx).trans h.x3, ints_fr h.hv hF h.hb.1, h.hl, h.ht, h.hb, h.ho⟩
theorem AX.set1 {R : Nat} {v : Value} {len : Nat} {W : World} {X p b c : Nat} {r : Rul} {W' : World} (h : AX R v len W X p b c r W') (s : ByteArray) (hs : s.size ≤ maxLen) : AX R v len W X p b c ⟨r.verbs, s, r.team, r.pre⟩ (W'.setCell ⟨X, 1, none⟩ (.string s)) := by
  obtain ⟨o1, o2⟩ := h.ho
  exact ⟨h.fr.sc (by omega) (by omega) _ _, h.rd.sc (by omega) _ _, h.ox.setCell _ _, (sc_ne _ _ _ _ _ _ (Or.inr (by omega))).trans h.x0, sc_eq h.ox _ (by omega) _, (sc_ne _ _ _ _ _ _ (Or.inr (by omega))).trans h.x2, (sc_ne _ _ _ _ _ _ (Or.inr (by omega))).trans h.x3, ints_sc h.hv h.hb.2 _ _, h.hl, ⟨hs, h.ht.2.1, h.ht.2.2⟩, h.hb, h.ho⟩
theorem AX.set2 {R : Nat} {v : Value} {len : Nat} {W : World} {X p b c : Nat} {r : Rul} {W' : World} (h : AX R v len W X p b c r W') (s : ByteArray) (hs : s.size ≤ maxLen) : AX R v len W X p b c ⟨r.verbs, r.kind, s, r.pre⟩ (W'.setCell ⟨X, 2, none⟩ (.string s)) := by
  obtain ⟨o1, o2⟩ := h.ho
  exact ⟨h.fr.sc (by omega) (by omega) _ _, h.rd.sc (by omega) _ _, h.ox.setCell _ _, (sc_ne _ _ _ _ _ _ (Or.inr (by omega))).trans h.x0, (sc_ne _ _ _ _ _ _ (Or.inr (by omega))).trans h.x1, sc_eq h.ox _ (by omega) _, (sc_ne _ _ _ _ _ _ (Or.inr (by omega))).trans h.x3, ints_sc h.hv h.hb.2 _ _, h.hl, ⟨h.ht.1, hs, h.ht.2.2⟩, h.hb, h.ho⟩
theorem AX.set3 {R : Nat} {v : Value} {len : Nat} {W : World} {X p b c : Nat} {r : Rul} {W' : World} (h : AX R v len W X p b c r W') (s : ByteArray) (hs : s.size ≤ maxLen) : AX R v len W X p b c ⟨r.verbs, r.kind, r.team, s⟩ (W'.setCell ⟨X, 3, none⟩ (.string s)) := by
  obtain ⟨o1, o2⟩ := h.ho
  exact ⟨h.fr.sc (by omega) (by omega) _ _, h.rd.sc (by omega) _ _, h.ox.setCell _ _, (sc_ne _ _ _ _ _ _ (Or.inr (by omega))).trans h.x0, (sc_ne _ _ _ _ _ _ (Or.inr (by omega))).trans h.x1, (sc_ne _ _ _ _ _ _ (Or.inr (by omega))).trans h.x2, sc_eq h.ox _ (by omega) _, ints_sc h.hv h.hb.2 _ _, h.hl, ⟨h.ht.1, h.ht.2.1, hs⟩, h.hb, h.ho⟩
theorem AX.cut {R : Nat} {v : Value} {len : Nat} {W : World} {X p b c : Nat} {r : Rul} {W' : World} (h : AX R v len W X p b c r W') (m : Nat) (hm : m ≤ r.verbs.length) : AX R v len W X p b c ⟨r.verbs.take m, r.kind, r.team, r.pre⟩ (W'.setCell ⟨X, 0, none⟩ (.slice (some ⟨b, 0, none⟩) m c)) := by
  obtain ⟨o1, o2⟩ := h.ho
  have hlm : (r.verbs.take m).length = m := by simp; omega
  refine ⟨h.fr.sc (by omega) (by omega) _ _, h.rd.sc (by omega) _ _, h.ox.setCell _ _, ?_, (sc_ne _ _ _ _ _ _ (Or.inr (by omega))).trans h.x1, (sc_ne _ _ _ _ _ _ (Or.inr (by omega))).trans h.x2, (sc_ne _ _ _ _ _ _ (Or.inr (by omega))).trans h.x3, ?_, ?_, h.ht, h.hb, h.ho⟩
  · show _ = some (Value.slice _ (r.verbs.take m).length _)
    rw [hlm]
    exact sc_eq h.ox _ (by omega) _
  · have hI := ints_sc h.hv h.hb.2 0 (.slice (some ⟨b, 0, none⟩) m c)
    refine ⟨hI.lt, by show (r.verbs.take m).length ≤ _; rw [hlm]; have := h.hl; omega, fun i hi => ?_⟩
    have hi' : i < m := by rw [← hlm]; exact hi
    rw [hI.at_ i (by omega)]
    show _ = some (Value.int .i64 ((r.verbs.take m).getD i 0))
    simp [List.getD_eq_getElem?_getD, hi']
  · show (r.verbs.take m).length ≤ 10
    rw [hlm]; have := h.hl; omega
theorem AX.all {R : Nat} {v : Value} {len : Nat} {W : World} {X p b c : Nat} {r : Rul} {W' : World} (h : AX R v len W X p b c r W') {W'' : World} (b' c' : Nat) (r' : Rul) (hb : Below W'.heap.size W' W'') (hI : IntsIn W'' b' r'.verbs) (hl : r'.verbs.length ≤ 10) (ht : r'.sized) (hb' : W'.heap.size ≤ b') :
    AX R v len W X p b' c' r' ((((W''.setCell ⟨X, 0, none⟩ (.slice (some ⟨b', 0, none⟩) r'.verbs.length c')).setCell ⟨X, 1, none⟩ (.string r'.kind)).setCell ⟨X, 2, none⟩ (.string r'.team)).setCell ⟨X, 3, none⟩ (.string r'.pre)) := by
  obtain ⟨o1, o2⟩ := h.ho
  have hx := h.ox.lt
  have hF := Fr.of_below hb h.rd.own.lt
  have ox := h.ox.later hb
  obtain ⟨g0, g1, g2, g3⟩ := four_at ox (.slice (some ⟨b', 0, none⟩) r'.verbs.length c') (.string r'.kind) (.string r'.team) (.string r'.pre)
  exact ⟨((((h.fr.trans hF).sc (by omega) (by omega) _ _).sc (by omega) (by omega) _ _).sc (by omega) (by omega) _ _).sc (by omega) (by omega) _ _, (((((h.rd.later hb).sc (by omega) _ _).sc (by omega) _ _).sc (by omega) _ _).sc (by omega) _ _), (((ox.setCell _ _).setCell _ _).setCell _ _).setCell _ _, g0, g1, g2, g3, ints_four hI (by omega) _ _ _ _, hl, ht, ⟨by omega, by omega⟩, h.ho⟩

theorem ints_grown {W w5 : World} {b g : Nat} {L : List Int} (h : IntsIn W b L) (hg : W.grownBy w5 (some g)) (hne : ∀ k, W.cell? ⟨g, 0, none⟩ ≠ some (.int .i64 k)) : IntsIn w5 b L := by
  refine ⟨Nat.lt_of_lt_of_le h.lt hg.size, h.len, fun i hi => ?_⟩
  have hbg : b ≠ g := by
    intro e
    subst e
    exact hne _ (h.at_ 0 (by omega))
  have : w5.cell? ⟨b, i, none⟩ = W.cell? ⟨b, i, none⟩ := by
    simp only [World.cell?]
    rw [hg.block b h.lt (fun e => hbg (by injection e))]
  rw [this]
  exact h.at_ i hi

abbrev RX := Nat × Nat × Rul
def cellsR (L : List RX) : List Value := L.flatMap fun x => [Value.slice (some ⟨x.1, 0, none⟩) x.2.2.verbs.length x.2.1, Value.string x.2.2.kind, Value.string x.2.2.team, Value.string x.2.2.pre]
theorem cellsR_app (L : List RX) (x : RX) : cellsR (L ++ [x]) = cellsR L ++ [Value.slice (some ⟨x.1, 0, none⟩) x.2.2.verbs.length x.2.1, Value.string x.2.2.kind, Value.string x.2.2.team, Value.string x.2.2.pre] := by
  unfold cellsR; simp
theorem cellsR_at : ∀ (l : List RX) (i : Nat) (h : i < l.length), (cellsR l)[i * 4]? = some (.slice (some ⟨l[i].1, 0, none⟩) l[i].2.2.verbs.length l[i].2.1) ∧ (cellsR l)[i * 4 + 1]? = some (.string l[i].2.2.kind) ∧ (cellsR l)[i * 4 + 2]? = some (.string l[i].2.2.team) ∧ (cellsR l)[i * 4 + 3]? = some (.string l[i].2.2.pre) := by
  intro l
  unfold cellsR
  induction l with
  | nil => intro i hi; simp at hi
  | cons x xs ih =>
    intro i hi
    cases i with
    | zero => simp
    | succ j =>
      have := ih j (by simpa using hi)
      have e1 : (j + 1) * 4 = j * 4 + 4 := by omega
      rw [e1]
      simpa using this

/-- What is kept while the rules are drawn. -/
structure CQ (R : Nat) (v : Value) (len : Nat) (W : World) (lo Bq Q bt ct b c : Nat) (ts : List Tm) (r : Rul) (p g cap : Nat) (L : List RX) (W' : World) : Prop where
  bel : Below W.heap.size W W'
  rd : Rd W' R v len p
  ob : OwnBlk W' Bq 27 4
  tm : TmsIn W' bt ts
  oq : OwnBlk W' Q 27 4
  q0 : W'.cell? ⟨Q, 0, none⟩ = some (.slice (some ⟨b, 0, none⟩) r.verbs.length c)
  q1 : W'.cell? ⟨Q, 1, none⟩ = some (.string r.kind)
  q2 : W'.cell? ⟨Q, 2, none⟩ = some (.string r.team)
  q3 : W'.cell? ⟨Q, 3, none⟩ = some (.string r.pre)
  qv : IntsIn W' b r.verbs
  ql : r.verbs.length ≤ 10
  qt : r.tiny
  own : W'.ownsRow lo 27 4 (.slice (some ⟨g, 0, none⟩) L.length cap) L.length (cellsR L)
  gi : ∀ k, W'.cell? ⟨g, 0, none⟩ ≠ some (.int .i64 k)
  gl : g < W'.heap.size
  rl : ∀ x ∈ L, IntsIn W' x.1 x.2.2.verbs ∧ R < x.1 ∧ x.2.2.sized
  ho : W.heap.size ≤ Bq ∧ Bq < R ∧ R < bt ∧ R < Q ∧ R < b ∧ bt < lo ∧ Q < lo ∧ b < lo ∧ lo ≤ W'.heap.size

theorem CQ.glo {R : Nat} {v : Value} {len : Nat} {W : World} {lo Bq Q bt ct b c : Nat} {ts : List Tm} {r : Rul} {p g cap : Nat} {L : List RX} {W' : World} (h : CQ R v len W lo Bq Q bt ct b c ts r p g cap L W') : lo ≤ g := by
  rcases h.own.2 with ⟨e, _⟩ | ⟨g', cap', cur, e, h0, _⟩
  · injection e with e1; cases e1
  · injection e with e1 e2 e3
    injection e1 with e1
    injection e1 with e1
    subst e1
    exact h0
theorem CQ.on {R : Nat} {v : Value} {len : Nat} {W : World} {lo Bq Q bt ct b c : Nat} {ts : List Tm} {r : Rul} {p g cap : Nat} {L : List RX} {W' : World} (h : CQ R v len W lo Bq Q bt ct b c ts r p g cap L W') {W'' : World} {p' : Nat} (hF : Fr R W' W'') (hR : Rd W'' R v len p') : CQ R v len W lo Bq Q bt ct b c ts r p' g cap L W'' := by
  obtain ⟨o1, o2, o3, o4, o5, o6, o7, o8, o9⟩ := h.ho
  have hg := h.glo
  have hq := h.oq.lt
  have cc : ∀ o, W''.cell? ⟨bt, o, none⟩ = W'.cell? ⟨bt, o, none⟩ := fun o => hF.cell o3 h.tm.lt
  refine ⟨h.bel.trans (hF.bel.mono (by omega)), hR, ?_, ⟨Nat.lt_of_lt_of_le h.tm.lt hF.bel.size, h.tm.len, fun i hi => ⟨(cc _).trans (h.tm.at_ i hi).c0, (cc _).trans (h.tm.at_ i hi).c1, (h.tm.at_ i hi).sized⟩⟩, own_fr h.oq hF o4, (hF.cell o4 hq).trans h.q0, (hF.cell o4 hq).trans h.q1, (hF.cell o4 hq).trans h.q2, (hF.cell o4 hq).trans h.q3, ints_fr h.qv hF o5, h.ql, h.qt, owns_fr h.own hF (by omega), ?_, Nat.lt_of_lt_of_le h.gl hF.bel.size, fun x hx => ⟨ints_fr (h.rl x hx).1 hF (h.rl x hx).2.1, (h.rl x hx).2⟩, o1, o2, o3, o4, o5, o6, o7, o8, Nat.le_trans o9 hF.bel.size⟩
  · obtain ⟨cs, g1, g2⟩ := h.ob
    exact ⟨cs, (hF.bel.block Bq o2).trans g1, g2⟩
  · intro k
    rw [hF.cell (by omega) h.gl]
    exact h.gi k
theorem CQ.app {R : Nat} {v : Value} {len : Nat} {W : World} {lo Bq Q bt ct b c : Nat} {ts : List Tm} {r : Rul} {p g cap : Nat} {L : List RX} {W' : World} (h : CQ R v len W lo Bq Q bt ct b c ts r p g cap L W') {o : Obj} {v' : Value} {w5 : World} (b' c' : Nat) (r' : Rul) (hI : IntsIn W' b' r'.verbs) (hR : R < b') (hs : r'.sized)
    (hown : w5.ownsRow lo 27 4 v' (L.length + 1) (cellsR L ++ [Value.slice (some ⟨b', 0, none⟩) r'.verbs.length c', Value.string r'.kind, Value.string r'.team, Value.string r'.pre])) (hgrow : (W'.alloc o).grownBy w5 (Value.slice (some ⟨g, 0, none⟩) L.length cap).ownBlock) (hnn : ¬ v' = .slice none 0 0) :
    ∃ g' cap', v' = .slice (some ⟨g', 0, none⟩) (L.length + 1) cap' ∧ CQ R v len W lo Bq Q bt ct b c ts r p g' cap' (L ++ [(b', c', r')]) w5 := by
  obtain ⟨o1, o2, o3, o4, o5, o6, o7, o8, o9⟩ := h.ho
  have hg := h.glo
  have hbt : Below W'.heap.size W' (W'.alloc o) := blw_alloc (Below.refl _ _) _
  have hlow : Below lo W' w5 := (hbt.mono o9).grown hgrow (by have := hbt.size; omega) (fun x hx => by simp [Value.ownBlock] at hx; omega)
  have cl : ∀ k j, k < lo → w5.cell? ⟨k, j, none⟩ = W'.cell? ⟨k, j, none⟩ := fun k j hk => by simp only [World.cell?]; rw [hlow.block k hk]
  have ol : ∀ {k t m}, k < lo → OwnBlk W' k t m → OwnBlk w5 k t m := fun hk ⟨cs, g1, g2⟩ => ⟨cs, (hlow.block _ hk).trans g1, g2⟩
  have hgi : ∀ k, (W'.alloc o).cell? ⟨g, 0, none⟩ ≠ some (.int .i64 k) := fun k => by rw [hbt.cell (p := ⟨g, 0, none⟩) h.gl]; exact h.gi k
  have hown2 := hown
  have hcs := fun gg (e : v'.ownBlock = some gg) => World.ownsRow.cells hown e
  rcases hown.2 with ⟨e, _⟩ | ⟨g', cap', cur, rfl, hg0, hg1, hg2⟩
  · exact absurd e hnn
  · have hz : (cellsR L ++ [Value.slice (some ⟨b', 0, none⟩) r'.verbs.length c', Value.string r'.kind, Value.string r'.team, Value.string r'.pre]) = cellsR (L ++ [(b', c', r')]) := (cellsR_app L (b', c', r')).symm
    refine ⟨g', cap', rfl, h.bel.trans (hlow.mono (by omega)), h.rd.below (hlow.mono (by omega)), ol (by omega) h.ob, ⟨Nat.lt_of_lt_of_le h.tm.lt hlow.size, h.tm.len, fun i hi => ⟨(cl _ _ o6).trans (h.tm.at_ i hi).c0, (cl _ _ o6).trans (h.tm.at_ i hi).c1, (h.tm.at_ i hi).sized⟩⟩, ol o7 h.oq, (cl _ _ o7).trans h.q0, (cl _ _ o7).trans h.q1, (cl _ _ o7).trans h.q2, (cl _ _ o7).trans h.q3, ints_grown (h.qv.later hbt) hgrow hgi, h.ql, h.qt, ?_, ?_, (Array.getElem?_eq_some_iff.1 hg1).1, ?_, o1, o2, o3, o4, o5, o6, o7, o8, Nat.le_trans o9 hlow.size⟩
    · rw [List.length_append, ← hz]
      exact hown2
    · intro k
      rw [hz] at hcs
      have := hcs g' rfl 0 _ (cellsR_at (L ++ [(b', c', r')]) 0 (by simp)).1
      rw [Addr.add_lit, Nat.zero_add] at this
      rw [this]
      simp
    · intro x hx
      rcases List.mem_append.1 hx with hx | hx
      · exact ⟨ints_grown ((h.rl x hx).1.later hbt) hgrow hgi, (h.rl x hx).2⟩
      · simp at hx
        subst hx
        exact ⟨ints_grown (hI.later hbt) hgrow hgi, hR, hs⟩
theorem CQ.ruls {R : Nat} {v : Value} {len : Nat} {W : World} {lo Bq Q bt ct b c : Nat} {ts : List Tm} {r : Rul} {p g cap : Nat} {L : List RX} {W' : World} (h : CQ R v len W lo Bq Q bt ct b c ts r p g cap L W') (hl : L.length ≤ 1000) : RulsIn W' g (L.map fun x => x.2.2) := by
  have hcs := World.ownsRow.cells h.own rfl
  refine ⟨h.gl, by simp; omega, fun i hi => ?_⟩
  have hi' : i < L.length := by simpa using hi
  obtain ⟨g0, g1, g2, g3⟩ := cellsR_at L i hi'
  have a0 := hcs _ _ g0
  have a1 := hcs _ _ g1
  have a2 := hcs _ _ g2
  have a3 := hcs _ _ g3
  rw [Addr.add_lit, Nat.zero_add] at a0 a1 a2 a3
  have e : (L.map fun x => x.2.2).getD i Rul.none = L[i].2.2 := by simp [hi']
  rw [e]
  have hr := h.rl L[i] (List.getElem_mem _)
  exact ⟨L[i].1, L[i].2.1, a0, a1, a2, a3, hr.1, hr.2.2⟩

theorem CQ.fin {R : Nat} {v : Value} {len : Nat} {W : World} {lo Bq Q bt ct b c : Nat} {ts : List Tm} {r : Rul} {p g cap : Nat} {L : List RX} {W' : World} (h : CQ R v len W lo Bq Q bt ct b c ts r p g cap L W') (hl : L.length ≤ 1000) (v0 v1 v2 v3 : Value) : ∀ Wp, Wp = (((W'.setCell ⟨Bq, 0, none⟩ v0).setCell ⟨Bq, 1, none⟩ v1).setCell ⟨Bq, 2, none⟩ v2).setCell ⟨Bq, 3, none⟩ v3 →
    TmsIn Wp.drew bt ts ∧ RulsIn Wp.drew g (L.map fun x => x.2.2) ∧ IntsIn Wp.drew b r.verbs ∧ Below W.heap.size W Wp.drew := by
  intro Wp hWp
  obtain ⟨o1, o2, o3, o4, o5, o6, o7, o8, o9⟩ := h.ho
  have hg := h.glo
  have cc : ∀ k j, k ≠ Bq → Wp.cell? ⟨k, j, none⟩ = W'.cell? ⟨k, j, none⟩ := fun k j hk => by rw [hWp, sc_ne _ _ _ _ _ _ (Or.inl hk), sc_ne _ _ _ _ _ _ (Or.inl hk), sc_ne _ _ _ _ _ _ (Or.inl hk), sc_ne _ _ _ _ _ _ (Or.inl hk)]
  have hz : Wp.heap.size = W'.heap.size := by rw [hWp, sc_size', sc_size', sc_size', sc_size']
  have hi : ∀ {k : Nat} {l : List Int}, R < k → IntsIn W' k l → IntsIn Wp k l := fun hk q => ⟨by rw [hz]; exact q.lt, q.len, fun i hi => (cc _ _ (by omega)).trans (q.at_ i hi)⟩
  have hd : Below Wp.heap.size Wp Wp.drew := Below.drew (Below.refl _ _)
  refine ⟨(⟨by rw [hz]; exact h.tm.lt, h.tm.len, fun i hi => ⟨(cc _ _ (by omega)).trans (h.tm.at_ i hi).c0, (cc _ _ (by omega)).trans (h.tm.at_ i hi).c1, (h.tm.at_ i hi).sized⟩⟩ : TmsIn Wp bt ts).later hd, ?_, (hi o5 h.qv).later hd, Below.drew ?_⟩
  · have hcs := World.ownsRow.cells h.own rfl
    refine (⟨by rw [hz]; exact h.gl, by simp; omega, fun i hil => ?_⟩ : RulsIn Wp g _).later hd
    have hi' : i < L.length := by simpa using hil
    obtain ⟨g0, g1, g2, g3⟩ := cellsR_at L i hi'
    have a0 := hcs _ _ g0
    have a1 := hcs _ _ g1
    have a2 := hcs _ _ g2
    have a3 := hcs _ _ g3
    rw [Addr.add_lit, Nat.zero_add] at a0 a1 a2 a3
    have e : (L.map fun x => x.2.2).getD i Rul.none = L[i].2.2 := by simp [hi']
    rw [e]
    have hr := h.rl L[i] (List.getElem_mem _)
    exact ⟨L[i].1, L[i].2.1, (cc _ _ (by omega)).trans a0, (cc _ _ (by omega)).trans a1, (cc _ _ (by omega)).trans a2, (cc _ _ (by omega)).trans a3, hi hr.2.1 hr.1, hr.2.2⟩
  · rw [hWp]
    exact (((h.bel.setCell (p := ⟨Bq, 0, none⟩) (by show _ ≤ Bq; omega) _).setCell (p := ⟨Bq, 1, none⟩) (by show _ ≤ Bq; omega) _).setCell (p := ⟨Bq, 2, none⟩) (by show _ ≤ Bq; omega) _).setCell (p := ⟨Bq, 3, none⟩) (by show _ ≤ Bq; omega) _

end Go.Proofs.YtfmidkdpclfffaaDoor
