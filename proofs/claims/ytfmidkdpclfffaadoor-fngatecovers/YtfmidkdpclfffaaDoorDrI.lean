/-
  Draws: the reader is made; teams, a rule and an act.
-/
import Derived.Test.YtfmidkdpclfffaaDoorDrH
namespace Go.Proofs.YtfmidkdpclfffaaDoor
open Go.RowKit Go.Deep

/-- A code that was handed in. -/
def CodeAt (W : World) (v : Value) : Prop :=
  (∃ a c, v = .slice a 0 c) ∨ ∃ b off n cap, v = .slice (some ⟨b, off, none⟩) n cap ∧ b < W.heap.size ∧ n ≤ cap ∧ cap ≤ maxLen ∧ ∀ i, i < n → ∃ x : Int, 0 ≤ x ∧ x < 256 ∧ W.cell? ⟨b, off + i, none⟩ = some (.int .u8 x)

theorem CodeAt.later {W W' : World} {v : Value} (h : CodeAt W v) (hb : Below W.heap.size W W') : CodeAt W' v := by
  rcases h with h | ⟨b, off, n, cap, rfl, h1, h2, h4, h3⟩
  · exact Or.inl h
  · refine Or.inr ⟨b, off, n, cap, rfl, Nat.lt_of_lt_of_le h1 hb.size, h2, h4, fun i hi => ?_⟩
    obtain ⟨x, x0, x1, hx⟩ := h3 i hi
    exact ⟨x, x0, x1, (hb.cell (p := ⟨b, off + i, none⟩) h1).trans hx⟩

theorem rd_new (W : World) (v : Value) (n : Nat) (hn : n ≤ 2000) (h : Byts W W.heap.size v n) : Rd (W.alloc (.cells #[v, .int .i64 0] 65)) W.heap.size v n 0 := by
  refine ⟨OwnBlk.alloc _ _ _ _ rfl, by rw [World.cell?_alloc_at _ _ _ _ rfl]; rfl, by rw [World.cell?_alloc_at _ _ _ _ rfl]; rfl, hn, ?_⟩
  rcases h with h | ⟨b, off, cap, rfl, hb, hx⟩
  · exact Or.inl h
  · refine Or.inr ⟨b, off, cap, rfl, hb, fun i hi => ?_⟩
    obtain ⟨x, x0, x1, hx⟩ := hx i hi
    exact ⟨x, x0, x1, ((blw_alloc (Below.refl _ _) _ : Below W.heap.size W _).cell (p := ⟨b, off + i, none⟩) hb).trans hx⟩

set_option maxRecDepth 8000 in
set_option maxHeartbeats 4000000 in
theorem open_any (v : Value) (W : World) (h : CodeAt W v) :
    Calls Tryd.prog 11 #[v] W fun e W' => (∃ (v' : Value) (len : Nat), e = .returned (.pointer (some ⟨W.heap.size, 0, none⟩)) ∧ Rd W' W.heap.size v' len 0) ∧ Below W.heap.size W W' := by
  rcases h with ⟨a, c, rfl⟩ | ⟨b, off, n, cap, rfl, h1, h2, h4, h3⟩
  · have HN : Hid (Rd (W.alloc (.cells #[.slice a 0 c, .int .i64 0] 65)) W.heap.size (.slice a 0 c) 0 0) := rd_new W _ 0 (by omega) (Or.inl ⟨a, c, rfl, rfl⟩)
    go_enter Tryd.func11, Tryd.ntmps11
    go_wp2
    go_ret
    first | exact ⟨⟨_, _, rfl, HN.out⟩, blw_alloc (Below.refl _ _) _⟩ | exact ⟨⟨rfl, _, _, HN.out⟩, blw_alloc (Below.refl _ _) _⟩
  · unfold maxLen at h4
    by_cases c0 : 2000 < n
    · have HN : Hid (Rd (W.alloc (.cells #[.slice (some ⟨b, off, none⟩) 2000 cap, .int .i64 0] 65)) W.heap.size (.slice (some ⟨b, off, none⟩) 2000 cap) 2000 0) := rd_new W _ 2000 (by omega) (Or.inr ⟨b, off, cap, rfl, h1, fun i hi => h3 i (by omega)⟩)
      have c1 : (2000 : Int) < (n : Int) := by omega
      clear h3
      go_enter Tryd.func11, Tryd.ntmps11
      go_wp2
      go_ret
      first | exact ⟨⟨_, _, rfl, HN.out⟩, blw_alloc (Below.refl _ _) _⟩ | exact ⟨⟨rfl, _, _, HN.out⟩, blw_alloc (Below.refl _ _) _⟩
    · have HN : Hid (Rd (W.alloc (.cells #[.slice (some ⟨b, off, none⟩) n cap, .int .i64 0] 65)) W.heap.size (.slice (some ⟨b, off, none⟩) n cap) n 0) := rd_new W _ n (by omega) (Or.inr ⟨b, off, cap, rfl, h1, h3⟩)
      have c1 : ¬ (2000 : Int) < (n : Int) := by omega
      clear h3
      go_enter Tryd.func11, Tryd.ntmps11
      go_wp2
      go_ret
      first | exact ⟨⟨_, _, rfl, HN.out⟩, blw_alloc (Below.refl _ _) _⟩ | exact ⟨⟨rfl, _, _, HN.out⟩, blw_alloc (Below.refl _ _) _⟩

set_option maxRecDepth 8000 in
set_option maxHeartbeats 8000000 in
theorem drawAllows (v : Value) (W : World) (h : CodeAt W v) :
    Calls Tryd.prog 10 #[v] W fun e W' => (∃ (b1 n1 c1 b2 n2 c2 : Nat) (k1 k2 k3 : ByteArray) (d : Deed), e = .returned (.tuple #[.slice (some ⟨b1, 0, none⟩) n1 c1, .agg #[.slice (some ⟨b2, 0, none⟩) n2 c2, .string k1, .string k2, .string k3], .agg #[.int .i64 d.verb, .string d.kind, .string d.team, .string d.name]]) ∧ d.sized) ∧ Below W.heap.size W W' := by
  obtain ⟨Wa, hWa⟩ : ∃ Wa, Wa = (W.alloc (.cells #[.slice none 0 0, .string ⟨#[]⟩, .string ⟨#[]⟩, .string ⟨#[]⟩] 27)).alloc (.cells #[.int .i64 0, .string ⟨#[]⟩, .string ⟨#[]⟩, .string ⟨#[]⟩] 32) := ⟨_, rfl⟩
  obtain ⟨C, hC⟩ : ∃ C, C = W.heap.size + 1 := ⟨_, rfl⟩
  obtain ⟨B, hB⟩ : ∃ B, B = W.heap.size := ⟨_, rfl⟩
  have hba : Below W.heap.size W Wa := by rw [hWa]; exact blw_alloc (blw_alloc (Below.refl _ _) _) _
  have H0 : Hid (Below W.heap.size W Wa ∧ CodeAt Wa v ∧ OwnBlk Wa B 27 4 ∧ OwnBlk Wa C 32 4 ∧ W.heap.size = B ∧ C = B + 1) := by
    refine ⟨hba, h.later hba, ?_, ?_, hB.symm, by omega⟩
    · rw [hWa, hB]; exact (OwnBlk.alloc _ _ _ _ rfl).past _
    · rw [hWa]
      have := OwnBlk.alloc (W.alloc (.cells #[.slice none 0 0, .string ⟨#[]⟩, .string ⟨#[]⟩, .string ⟨#[]⟩] 27)) #[.int .i64 0, .string ⟨#[]⟩, .string ⟨#[]⟩, .string ⟨#[]⟩] 32 4 rfl
      have e : (W.alloc (.cells #[.slice none 0 0, .string ⟨#[]⟩, .string ⟨#[]⟩, .string ⟨#[]⟩] 27)).heap.size = C := by simp [hC]
      rwa [e] at this
  clear h hba
  go_enter Tryd.func10, Tryd.ntmps10
  go_upto_region 1 with fail
  rw [← hWa, ← hC, ← hB]
  clear hWa hC hB
  go_wp2_with fail
  refine (open_any v Wa H0.out.2.1).mono ?_
  rintro e W1 ⟨⟨v', len, rfl, hR⟩, hb⟩
  obtain ⟨R, hRR⟩ : ∃ R, R = Wa.heap.size := ⟨_, rfl⟩
  rw [← hRR] at hR
  have H1 : Hid (Below W.heap.size W W1 ∧ Rd W1 R v' len 0 ∧ OwnBlk W1 B 27 4 ∧ OwnBlk W1 C 32 4 ∧ W.heap.size = B ∧ C = B + 1 ∧ C < R) := ⟨blw_trans H0.out.1 hb, hR, H0.out.2.2.1.later hb, H0.out.2.2.2.1.later hb, H0.out.2.2.2.2.1, H0.out.2.2.2.2.2, by rw [hRR]; exact H0.out.2.2.2.1.lt⟩
  rw [← hRR]
  clear hRR hR hb H0
  go_wp2_with fail
  refine (anyTeams_any R v' len 0 W1 H1.out.2.1 (by omega)).mono ?_
  rintro e W2 ⟨⟨b, c, ts, rfl, _, _⟩, hF, p2, hp2, hR⟩
  have H2 : Hid (Below W.heap.size W W2 ∧ Rd W2 R v' len p2 ∧ OwnBlk W2 B 27 4 ∧ OwnBlk W2 C 32 4 ∧ W.heap.size = B ∧ C = B + 1 ∧ C < R) := by
    obtain ⟨e1, e2, e3, e4, e5, e6, e7⟩ := H1.out
    have own : ∀ {k t m}, k < R → OwnBlk W1 k t m → OwnBlk W2 k t m := fun hk ⟨cs, g1, g2⟩ => ⟨cs, (hF.bel.block _ hk).trans g1, g2⟩
    exact ⟨e1.trans (hF.bel.mono (by omega)), hR, own (by omega) e3, own (by omega) e4, e5, e6, e7⟩
  clear hF hR H1
  go_wp2_with fail
  refine (anyRule_any R v' len p2 W2 H2.out.2.1 (by omega)).mono ?_
  rintro e W3 ⟨⟨b3, c3, r, rfl, _⟩, hF, p3, hp3, hR⟩
  have H3 : Hid (Below W.heap.size W W3 ∧ Rd W3 R v' len p3 ∧ OwnBlk W3 B 27 4 ∧ OwnBlk W3 C 32 4 ∧ W.heap.size = B ∧ C = B + 1 ∧ C < R) := by
    obtain ⟨e1, e2, e3, e4, e5, e6, e7⟩ := H2.out
    have own : ∀ {k t m}, k < R → OwnBlk W2 k t m → OwnBlk W3 k t m := fun hk ⟨cs, g1, g2⟩ => ⟨cs, (hF.bel.block _ hk).trans g1, g2⟩
    exact ⟨e1.trans (hF.bel.mono (by omega)), hR, own (by omega) e3, own (by omega) e4, e5, e6, e7⟩
  clear hF hR H2
  go_wp2_with fail
  refine (drawAct_any R v' len p3 W3 H3.out.2.1 (by omega)).mono ?_
  rintro e W4 ⟨⟨x, s1, s2, s3, rfl, hs1, hs2, hs3⟩, hF, p4, hp4, hR⟩
  have H4 : Hid (Below W.heap.size W W4 ∧ OwnBlk W4 B 27 4 ∧ OwnBlk W4 C 32 4 ∧ W.heap.size = B ∧ C = B + 1) := by
    obtain ⟨e1, e2, e3, e4, e5, e6, e7⟩ := H3.out
    have own : ∀ {k t m}, k < R → OwnBlk W3 k t m → OwnBlk W4 k t m := fun hk ⟨cs, g1, g2⟩ => ⟨cs, (hF.bel.block _ hk).trans g1, g2⟩
    exact ⟨e1.trans (hF.bel.mono (by omega)), own (by omega) e3, own (by omega) e4, e5, e6⟩
  clear hF hR H3
  have hfz := H4.out.2.1.frozen
  have hz := H4.out.2.1.lt
  have hfy := H4.out.2.2.1.frozen
  have hy := H4.out.2.2.1.lt
  obtain ⟨z0, y0⟩ := H4.out.2.1.cell 0 (by omega)
  obtain ⟨z1, y1⟩ := H4.out.2.1.cell 1 (by omega)
  obtain ⟨z2, y2⟩ := H4.out.2.1.cell 2 (by omega)
  obtain ⟨z3, y3⟩ := H4.out.2.1.cell 3 (by omega)
  obtain ⟨u0, o0⟩ := H4.out.2.2.1.cell 0 (by omega)
  obtain ⟨u1, o1⟩ := H4.out.2.2.1.cell 1 (by omega)
  obtain ⟨u2, o2⟩ := H4.out.2.2.1.cell 2 (by omega)
  obtain ⟨u3, o3⟩ := H4.out.2.2.1.cell 3 (by omega)
  have hBC : C ≠ B := by have := H4.out.2.2.2.2; omega
  go_wp2
  have c4 := four_at H4.out.2.1 (.slice (some ⟨b3, 0, none⟩) r.verbs.length c3) (.string r.kind) (.string r.team) (.string r.pre)
  obtain ⟨W5, hW5⟩ : ∃ W5, W5 = (((W4.setCell ⟨B, 0, none⟩ (.slice (some ⟨b3, 0, none⟩) r.verbs.length c3)).setCell ⟨B, 1, none⟩ (.string r.kind)).setCell ⟨B, 2, none⟩ (.string r.team)).setCell ⟨B, 3, none⟩ (.string r.pre) := ⟨_, rfl⟩
  rw [← hW5] at c4
  have oC : OwnBlk W5 C 32 4 := by rw [hW5]; exact (((H4.out.2.2.1.sc_other hBC _ _).sc_other hBC _ _).sc_other hBC _ _).sc_other hBC _ _
  have b5 : Below W.heap.size W W5 := by
    obtain ⟨e1, e2, e3, e4, e5⟩ := H4.out
    rw [hW5]
    exact (((e1.setCell (p := ⟨B, 0, none⟩) (by show _ ≤ B; omega) _).setCell (p := ⟨B, 1, none⟩) (by show _ ≤ B; omega) _).setCell (p := ⟨B, 2, none⟩) (by show _ ≤ B; omega) _).setCell (p := ⟨B, 3, none⟩) (by show _ ≤ B; omega) _
  have c6 := four_at oC (.int .i64 x) (.string s1) (.string s2) (.string s3)
  obtain ⟨W6, hW6⟩ : ∃ W6, W6 = (((W5.setCell ⟨C, 0, none⟩ (.int .i64 x)).setCell ⟨C, 1, none⟩ (.string s1)).setCell ⟨C, 2, none⟩ (.string s2)).setCell ⟨C, 3, none⟩ (.string s3) := ⟨_, rfl⟩
  rw [← hW6] at c6
  have bb : ∀ o, W6.cell? ⟨B, o, none⟩ = W5.cell? ⟨B, o, none⟩ := fun o => by rw [hW6, sc_ne _ _ _ _ _ _ (Or.inl hBC.symm), sc_ne _ _ _ _ _ _ (Or.inl hBC.symm), sc_ne _ _ _ _ _ _ (Or.inl hBC.symm), sc_ne _ _ _ _ _ _ (Or.inl hBC.symm)]
  obtain ⟨p0, p1, p2', p3'⟩ := c4
  have r0 := (bb 0).trans p0
  have r1 := (bb 1).trans p1
  have r2 := (bb 2).trans p2'
  have r3 := (bb 3).trans p3'
  obtain ⟨q0, q1, q2, q3⟩ := c6
  rw [← hW5, ← hW6]
  have hb6 : Below W.heap.size W W6 := by
    obtain ⟨e1, e2, e3, e4, e5⟩ := H4.out
    rw [hW6]
    exact (((b5.setCell (p := ⟨C, 0, none⟩) (by show _ ≤ C; omega) _).setCell (p := ⟨C, 1, none⟩) (by show _ ≤ C; omega) _).setCell (p := ⟨C, 2, none⟩) (by show _ ≤ C; omega) _).setCell (p := ⟨C, 3, none⟩) (by show _ ≤ C; omega) _
  refine bodyPost_ret (v := .tuple #[.slice (some ⟨b, 0, none⟩) ts.length c, .agg #[.slice (some ⟨b3, 0, none⟩) r.verbs.length c3, .string r.kind, .string r.team, .string r.pre], .agg #[.int .i64 x, .string s1, .string s2, .string s3]]) (by simp only [results, Tryd.results10]; simp [go_sem, q0, q1, q2, q3, r0, r1, r2, r3]) rfl ⟨⟨b, ts.length, c, b3, r.verbs.length, c3, r.kind, r.team, r.pre, ⟨x, s1, s2, s3⟩, rfl, hs1, hs2, hs3⟩, hb6⟩

end Go.Proofs.YtfmidkdpclfffaaDoor
