/-
  Draws: a rule that is copied.
-/
import Derived.Test.YtfmidkdpclfffaaDoorDrD
namespace Go.Proofs.YtfmidkdpclfffaaDoor
open Go.RowKit Go.Deep

set_option maxRecDepth 8000 in
set_option maxHeartbeats 8000000 in
theorem rule5_any (b c : Nat) (r : Rul) (W : World) (h : IntsIn W b r.verbs) (hl : r.verbs.length ≤ 10) :
    Calls Tryd.prog 15 #[.agg #[.slice (some ⟨b, 0, none⟩) r.verbs.length c, .string r.kind, .string r.team, .string r.pre]] W fun e W' => (∃ b' c' : Nat, e = .returned (.agg #[.slice (some ⟨b', 0, none⟩) r.verbs.length c', .string r.kind, .string r.team, .string r.pre]) ∧ IntsIn W' b' r.verbs ∧ W.heap.size ≤ b' ∧ r.verbs.length ≤ c' ∧ c' ≤ maxLen) ∧ Below W.heap.size W W' := by
  obtain ⟨i0, hi, hz0, hz1, hz2⟩ := info_parts Tryd.info3
  obtain ⟨Wb, hWb⟩ : ∃ Wb, Wb = (W.alloc (.cells #[.slice (some ⟨b, 0, none⟩) r.verbs.length c, .string r.kind, .string r.team, .string r.pre] 27)).alloc (.cells #[.slice none 0 0, .string ⟨#[]⟩, .string ⟨#[]⟩, .string ⟨#[]⟩] 27) := ⟨_, rfl⟩
  obtain ⟨B, hB⟩ : ∃ B, B = W.heap.size + 1 := ⟨_, rfl⟩
  obtain ⟨P, hP⟩ : ∃ P, P = W.heap.size := ⟨_, rfl⟩
  have hbb : Below W.heap.size W Wb := by rw [hWb]; exact blw_alloc (blw_alloc (Below.refl _ _) _) _
  have HB : Hid (Below W.heap.size W Wb ∧ OwnBlk Wb P 27 4 ∧ OwnBlk Wb B 27 4 ∧ IntsIn Wb b r.verbs ∧ P = W.heap.size ∧ B = P + 1 ∧ b < P) := by
    refine ⟨hbb, ?_, ?_, h.later hbb, hP, by omega, by rw [hP]; exact h.lt⟩
    · rw [hWb, hP]; exact (OwnBlk.alloc _ _ _ _ rfl).past _
    · rw [hWb]
      have := OwnBlk.alloc (W.alloc (.cells #[.slice (some ⟨b, 0, none⟩) r.verbs.length c, .string r.kind, .string r.team, .string r.pre] 27)) #[.slice none 0 0, .string ⟨#[]⟩, .string ⟨#[]⟩, .string ⟨#[]⟩] 27 4 rfl
      have e : (W.alloc (.cells #[.slice (some ⟨b, 0, none⟩) r.verbs.length c, .string r.kind, .string r.team, .string r.pre] 27)).heap.size = B := by simp [hB]
      rwa [e] at this
  have cc : ∀ j, Wb.cell? ⟨P, j, none⟩ = (#[.slice (some ⟨b, 0, none⟩) r.verbs.length c, .string r.kind, .string r.team, .string r.pre] : Array Value)[j]? := fun j => by
    rw [hWb, hP]
    refine ((blw_alloc (Below.refl _ _) _ : Below (W.alloc _).heap.size (W.alloc _) _).cell (p := ⟨W.heap.size, j, none⟩) (by simp)).trans ?_
    exact World.cell?_alloc_at _ _ _ _ rfl
  have y0 : Wb.cell? ⟨P, 0, none⟩ = some (.slice (some ⟨b, 0, none⟩) r.verbs.length c) := cc 0
  have HY : Hid (Wb.cell? ⟨P, 1, none⟩ = some (.string r.kind) ∧ Wb.cell? ⟨P, 2, none⟩ = some (.string r.team) ∧ Wb.cell? ⟨P, 3, none⟩ = some (.string r.pre)) := ⟨cc 1, cc 2, cc 3⟩
  have hPz := HB.out.2.1.lt
  clear h hbb cc
  go_enter Tryd.func15, Tryd.ntmps15
  go_upto_region 1 with fail
  rw [← hWb, ← hB, ← hP]
  clear hWb hB hP
  go_wp2_with (at_builtin; refine wpList_append_own _ rfl _ _ 25 rfl Wb.heap.size 3 i0 (.int .i64 0) 1 8 Tryd.underlying25 hi hz0 hz1 hz2 rfl (by decide) (.slice (some ⟨Wb.heap.size, 0, none⟩) 0 0) 0 [] rfl ?c0 ⟨b, 0, none⟩ r.verbs.length c (r.verbs.map (Value.int .i64)) rfl ?c1 ?c2 ?c3 ?c4 ?c5 ?c6 ?_)
  case c0 =>
    refine ⟨rfl, Or.inr ⟨Wb.heap.size, 0, #[], rfl, Nat.le_refl _, ?_, Nat.le_refl _, by decide, rfl, rfl⟩⟩
    show (Wb.heap.push _)[Wb.heap.size]? = _
    simp
  case c1 => simp
  case c2 =>
    intro j u hj
    have hjl : j < r.verbs.length := by have := (List.getElem?_eq_some_iff.1 hj).1; simpa using this
    have hb := HB.out.2.2.2.1
    rw [Addr.add_lit, Nat.zero_add]
    refine ((blw_alloc (Below.refl _ _) _ : Below Wb.heap.size Wb _).cell (p := ⟨b, j, none⟩) hb.lt).trans ((hb.at_ j hjl).trans ?_)
    rw [← hj]
    simp [hjl]
  case c3 => intro u hu; simp at hu; obtain ⟨x, _, rfl⟩ := hu; rfl
  case c4 => unfold maxLen; omega
  case c5 => omega
  case c6 => simp
  intro v' w5 hown hgrow hnn
  rcases hown.2 with ⟨e, _⟩ | ⟨g, cap, cur, rfl, hg0, hg1, hg2⟩
  · exact absurd e hnn
  have hbt : Below Wb.heap.size Wb (Wb.alloc (.cells #[] 3)) := blw_alloc (Below.refl _ _) _
  have hb5 : Below Wb.heap.size Wb w5 := Below.grown hbt hgrow (by simp) (fun x hx => by simp [Value.ownBlock] at hx; omega)
  have hI5 : IntsIn w5 g r.verbs := by
    have hcs := World.ownsRow.cells hown rfl
    refine ⟨(Array.getElem?_eq_some_iff.1 hg1).1, by omega, fun i hi' => ?_⟩
    have := hcs i (.int .i64 (r.verbs.getD i 0)) (by simp [hi'])
    rw [Addr.add_lit, Nat.zero_add] at this
    exact this
  have H5 : Hid (Below W.heap.size W w5 ∧ OwnBlk w5 P 27 4 ∧ OwnBlk w5 B 27 4 ∧ IntsIn w5 g r.verbs ∧ P = W.heap.size ∧ B = P + 1 ∧ B < g) := ⟨blw_trans HB.out.1 hb5, HB.out.2.1.later hb5, HB.out.2.2.1.later hb5, hI5, HB.out.2.2.2.2.1, HB.out.2.2.2.2.2.1, Nat.lt_of_lt_of_le HB.out.2.2.1.lt hg0⟩
  have HY5 : Hid (w5.cell? ⟨P, 1, none⟩ = some (.string r.kind) ∧ w5.cell? ⟨P, 2, none⟩ = some (.string r.team) ∧ w5.cell? ⟨P, 3, none⟩ = some (.string r.pre)) := ⟨(hb5.cell (p := ⟨P, 1, none⟩) hPz).trans HY.out.1, (hb5.cell (p := ⟨P, 2, none⟩) hPz).trans HY.out.2.1, (hb5.cell (p := ⟨P, 3, none⟩) hPz).trans HY.out.2.2⟩
  have hlen : (0 + r.verbs.length) = r.verbs.length := Nat.zero_add _
  have HCAP : Hid (r.verbs.length ≤ cap ∧ cap ≤ maxLen) := ⟨by have := hg2.1; omega, hg2.2.1⟩
  clear hown hgrow hnn hg0 hg1 hg2 hbt hb5 hI5 HB HY y0 hPz
  have hfz := H5.out.2.1.frozen
  have hPz := H5.out.2.1.lt
  obtain ⟨z0, u0⟩ := H5.out.2.1.cell 0 (by omega)
  obtain ⟨W6, hW6⟩ : ∃ W6, W6 = w5.setCell ⟨P, 0, none⟩ (.slice (some ⟨g, 0, none⟩) r.verbs.length cap) := ⟨_, rfl⟩
  have H6 : Hid (Below W.heap.size W W6 ∧ OwnBlk W6 P 27 4 ∧ OwnBlk W6 B 27 4 ∧ IntsIn W6 g r.verbs ∧ P = W.heap.size ∧ B = P + 1 ∧ B < g) := by
    obtain ⟨e1, e2, e3, e4, e5, e6, e7⟩ := H5.out
    show _ ∧ _
    rw [hW6]
    exact ⟨e1.setCell (p := ⟨P, 0, none⟩) (by show _ ≤ P; omega) _, e2.setCell _ _, e3.sc_other (by omega) _ _, ints_sc e4 (by omega) _ _, e5, e6, e7⟩
  have HY6 : Hid (W6.cell? ⟨P, 0, none⟩ = some (.slice (some ⟨g, 0, none⟩) r.verbs.length cap) ∧ W6.cell? ⟨P, 1, none⟩ = some (.string r.kind) ∧ W6.cell? ⟨P, 2, none⟩ = some (.string r.team) ∧ W6.cell? ⟨P, 3, none⟩ = some (.string r.pre)) := by
    obtain ⟨e1, e2, e3⟩ := HY5.out
    show _ ∧ _
    rw [hW6]
    exact ⟨sc_eq H5.out.2.1 _ (by omega) _, (sc_ne _ _ _ _ _ _ (Or.inr (by omega))).trans e1, (sc_ne _ _ _ _ _ _ (Or.inr (by omega))).trans e2, (sc_ne _ _ _ _ _ _ (Or.inr (by omega))).trans e3⟩
  go_upto_region 2 with fail
  rw [← hW6]
  clear hW6 H5 HY5 hfz hPz u0 hlen
  have hfz := H6.out.2.2.1.frozen
  have hz := H6.out.2.2.1.lt
  have hPz := H6.out.2.1.lt
  obtain ⟨y0, y1, y2, y3⟩ := HY6.out
  obtain ⟨u0, o0⟩ := H6.out.2.2.1.cell 0 (by omega)
  obtain ⟨u1, o1⟩ := H6.out.2.2.1.cell 1 (by omega)
  obtain ⟨u2, o2⟩ := H6.out.2.2.1.cell 2 (by omega)
  obtain ⟨u3, o3⟩ := H6.out.2.2.1.cell 3 (by omega)
  go_wp2
  obtain ⟨g0, g1, g2, g3⟩ := four_at H6.out.2.2.1 (.slice (some ⟨g, 0, none⟩) r.verbs.length cap) (.string r.kind) (.string r.team) (.string r.pre)
  obtain ⟨e1, e2, e3, e4, e5, e6, e7⟩ := H6.out
  refine bodyPost_ret (v := .agg #[.slice (some ⟨g, 0, none⟩) r.verbs.length cap, .string r.kind, .string r.team, .string r.pre]) (by simp only [results, Tryd.results15]; simp [go_sem, g0, g1, g2, g3]) rfl ⟨⟨g, cap, rfl, ints_four e4 (by omega) _ _ _ _, by omega, HCAP.out⟩, ?_⟩
  exact (((e1.setCell (p := ⟨B, 0, none⟩) (by show _ ≤ B; omega) _).setCell (p := ⟨B, 1, none⟩) (by show _ ≤ B; omega) _).setCell (p := ⟨B, 2, none⟩) (by show _ ≤ B; omega) _).setCell (p := ⟨B, 3, none⟩) (by show _ ≤ B; omega) _

end Go.Proofs.YtfmidkdpclfffaaDoor
