/-
  Sheets: what need not be said, left out: plain.
-/
import Derived.Test.YtfmhfacaemfhlaaEFp
namespace Go.Proofs.Ytfmhfacaemfhlaa
open Go.RowKit Go.Deep


namespace Pl
def keepLn (kind : ByteArray) (x : Ln) : Bool := match ruIx (rulesOf kind) x.key with
  | none => true
  | some j => ((rulesOf kind).getD j ruNo).many || !wordsEq ((rulesOf kind).getD j ruNo).dflt x.ws
def trimBl (b : Bl) : Bl := ⟨b.kind, b.name, b.lines.filter (keepLn b.kind)⟩
def trimOut (s : List Bl) : List Bl := if validS s then s.map trimBl else []
theorem fits_rule {kind key : ByteArray} {ws : List ByteArray} (h : sheetFits kind key ws = true) : ∃ j, ruIx (rulesOf kind) key = some j := by
  unfold sheetFits at h
  cases hj : ruIx (rulesOf kind) key with
  | none => rw [hj] at h; simp at h
  | some j => exact ⟨j, rfl⟩
theorem valid_line {s : List Bl} (h : validS s = true) {i k : Nat} (hi : i < s.length) (hk : k < (s.getD i blNo).lines.length) : ∃ j, ruIx (rulesOf (s.getD i blNo).kind) ((s.getD i blNo).lines.getD k lnNo).key = some j := by
  unfold validS at h
  rw [Bool.and_eq_true, List.all_eq_true] at h
  have h1 := h.2 i (List.mem_range.2 hi)
  unfold blockOkAt at h1
  simp only [Bool.and_eq_true] at h1
  have h2 := h1.1.2
  unfold linesOk at h2
  rw [List.all_eq_true] at h2
  have h3 := h2 k (List.mem_range.2 hk)
  unfold lineOkAt at h3
  simp only [Bool.and_eq_true] at h3
  exact fits_rule h3.1.1
end Pl
/-- Another list of lines in the place of one. -/
theorem RowX.putL {W : World} {p o lo N : Nat} {l : List Pl.Bl} (h : RowX W p o lo l) {k : Nat} (hk : k < l.length) (ls : List Pl.Ln) {lv : Value} (hD : Dat (fun b => lo ≤ b ∧ b ≠ p) N N W shLns [lnsD ls] [lv]) (hN : p < N) : RowX (W.setCell ⟨p, o + k * 3 + 2, none⟩ lv) p o lo (l.set k ⟨(l.getD k Pl.blNo).kind, (l.getD k Pl.blNo).name, ls⟩) := by
  obtain ⟨u, m, vs, G, h1, h2, h3, h4, h5, h6⟩ := h
  obtain ⟨FD, rD, fD⟩ := hD
  have hfD : ∀ b ∈ FD, lo ≤ b ∧ b ≠ p := fun b hb => by
    rcases fD b hb with q | q
    · exact q.1
    · exact ⟨by omega, by omega⟩
  have hm : Marks (fun b => b = p) W (W.setCell ⟨p, o + k * 3 + 2, none⟩ lv) := Marks.sc (S := fun b => b = p) W rfl _ _
  have hvl : vs.length = l.length * 3 := by rw [h4.len, reps_len]; rfl
  rw [reps_cut hk] at h4
  obtain ⟨F1, F2, d1, d2, c1, c2, hF, hd, hvs, r1, r2⟩ := Rep.cut _ h4
  obtain ⟨F3, F4, d3, d4, c3, c4, hF2, hd2, hc2, r3, r4⟩ := Rep.cut _ r2
  subst hF; subst hvs; subst hF2; subst hc2; subst hd2
  have hc1 : c1.length = k * 3 := by rw [r1.len, reps_len]; rfl
  have hd1 : d1.length = k * 3 := by rw [r1.raw.typ.len, reps_len]; rfl
  have hd3 : d3.length = 3 := by rw [r3.raw.typ.len]; rfl
  have hsp : l = l.take k ++ (l.getD k Pl.blNo :: l.drop (k + 1)) := by
    have e : l.getD k Pl.blNo = l[k] := by simp [hk]
    rw [e, ← List.drop_eq_getElem_cons hk, List.take_append_drop]
  have ht : ((l.take k).flatMap blD).length = k * 3 := by rw [flat_len2 blD 3 blD_len, List.length_take, Nat.min_eq_left (by omega)]
  have hs : l.flatMap blD = (l.take k).flatMap blD ++ (blD (l.getD k Pl.blNo) ++ (l.drop (k + 1)).flatMap blD) := by
    conv => lhs; rw [hsp]
    rw [List.flatMap_append, List.flatMap_cons]
  obtain ⟨g1, g2⟩ := List.append_inj (hd.symm.trans hs) (by rw [hd1, ht])
  obtain ⟨g3, g4⟩ := List.append_inj g2 (by rw [hd3]; rfl)
  subst g1; subst g4
  rw [g3] at r3
  obtain ⟨Fb, vb, hFb, hcb, rb⟩ := repSheetBlock r3
  subst hcb
  have hset : (l.set k ⟨(l.getD k Pl.blNo).kind, (l.getD k Pl.blNo).name, ls⟩).flatMap blD = (l.take k).flatMap blD ++ (blD ⟨(l.getD k Pl.blNo).kind, (l.getD k Pl.blNo).name, ls⟩ ++ (l.drop (k + 1)).flatMap blD) := by
    rw [List.set_eq_take_append_cons_drop, if_pos hk, List.flatMap_append, List.flatMap_cons]
  refine ⟨u, m, c1 ++ ([.string (l.getD k Pl.blNo).kind, .string (l.getD k Pl.blNo).name, lv] ++ c4), F1 ++ ((FD ++ []) ++ F4), h1.setCell _ _, by rw [List.length_set]; exact h2, ?_, ?_, fun b hb => ?_, h6⟩
  · have e1 : c1 ++ ([.string (l.getD k Pl.blNo).kind, .string (l.getD k Pl.blNo).name, vb] ++ c4) = (c1 ++ [.string (l.getD k Pl.blNo).kind, .string (l.getD k Pl.blNo).name]) ++ ([vb] ++ c4) := by simp
    have e2 : c1 ++ ([.string (l.getD k Pl.blNo).kind, .string (l.getD k Pl.blNo).name, lv] ++ c4) = (c1 ++ [.string (l.getD k Pl.blNo).kind, .string (l.getD k Pl.blNo).name]) ++ ([lv] ++ c4) := by simp
    rw [e1] at h3 hvl
    have := rA_puts h1 h3 [lv] rfl (by rw [hvl]; exact h2)
    rw [e2]
    have e3 : o + (c1 ++ ([.string (l.getD k Pl.blNo).kind, .string (l.getD k Pl.blNo).name] : List Value)).length = o + k * 3 + 2 := by rw [List.length_append, hc1]; rfl
    rw [e3] at this
    exact this
  · rw [List.length_set, hset, reps_cut hk]
    have hx : Rep W false shSheetBlock (FD ++ []) (blD ⟨(l.getD k Pl.blNo).kind, (l.getD k Pl.blNo).name, ls⟩) [.string (l.getD k Pl.blNo).kind, .string (l.getD k Pl.blNo).name, lv] := repSheetBlock_mk _ _ rD
    exact (r1.app (hx.app r4)).keep hm fun b hb e => by
      simp only [List.mem_append, List.not_mem_nil, or_false] at hb
      rcases hb with hb | hb | hb
      · exact (h5 b (by simp [hb])).2 e
      · exact (hfD b hb).2 e
      · exact (h5 b (by simp [hb])).2 e
  · simp only [List.mem_append, List.not_mem_nil, or_false] at hb
    rcases hb with hb | hb | hb
    · exact h5 b (by simp [hb])
    · exact hfD b hb
    · exact h5 b (by simp [hb])
theorem RowX.cell2 {W : World} {p o lo : Nat} {l : List Pl.Bl} (h : RowX W p o lo l) {k : Nat} (hk : k < l.length) : ∃ v, W.cell? ⟨p, o + k * 3 + 2, none⟩ = some v := by
  obtain ⟨a, m, hg, _⟩ := h.at_ hk (Nat.le_refl _)
  exact ⟨_, hg 2 _ rfl⟩
theorem RowX.frozen {W : World} {p o lo : Nat} {l : List Pl.Bl} (h : RowX W p o lo l) (j : Nat) : W.frozen? ⟨p, j, none⟩ = false := by
  obtain ⟨u, m, vs, G, h1, _⟩ := h
  exact h1.frozen j

/-- A rule of a list of rules, with its default's memory. -/
theorem rule_rep {Q : Nat → Prop} {F : List Nat} {W : World} {l : List Pl.Ru} {v : Value} (h : Rep W false [.row 44 shSheetRule] F [rulesD l] [v]) (hQ : ∀ b ∈ F, Q b) {k : Nat} (hk : k < l.length) : ∃ p o c a1 c1 a3 c3 F', v = .slice (some ⟨p, o, none⟩) l.length c ∧ p < W.heap.size ∧ W.rangeAt p (o + k * 4) [.string (l.getD k Pl.ruNo).key, .slice a1 (l.getD k Pl.ruNo).args.length c1, .bool (l.getD k Pl.ruNo).many, .slice a3 (l.getD k Pl.ruNo).dflt.length c3] ∧ Rep W false shTxs F' [.row (l.getD k Pl.ruNo).dflt.length (txD (l.getD k Pl.ruNo).dflt)] [.slice a3 (l.getD k Pl.ruNo).dflt.length c3] ∧ ∀ b ∈ F', Q b := by
  obtain ⟨p, o, c, a1, c1, a3, c3, hv, hp, hg, F', r', f'⟩ := dat_rule (S := Q) (B := W.heap.size) (lo := W.heap.size) ⟨F, h, fun b hb => Or.inl ⟨hQ b hb, h.lt b hb⟩⟩ hk
  refine ⟨p, o, c, a1, c1, a3, c3, F', hv, hp, hg, r', fun b hb => ?_⟩
  rcases f' b hb with q | q
  · exact q.1
  · have := r'.lt b hb; omega
/-- A line of such a list, with its words' memory. -/
theorem line_free {lo p N : Nat} {W : World} {l : List Pl.Ln} {v : Value} (h : Dat (fun b => lo ≤ b ∧ b ≠ p) N N W shLns [lnsD l] [v]) (hN : W.heap.size ≤ N) {k : Nat} (hk : k < l.length) : ∃ p2 o2 c2 aw cw G, v = .slice (some ⟨p2, o2, none⟩) l.length c2 ∧ p2 < W.heap.size ∧ W.rangeAt p2 (o2 + k * 2) [.string (l.getD k Pl.lnNo).key, .slice aw (l.getD k Pl.lnNo).ws.length cw] ∧ Rep W false shSheetLine G (lnD (l.getD k Pl.lnNo)) [.string (l.getD k Pl.lnNo).key, .slice aw (l.getD k Pl.lnNo).ws.length cw] ∧ ∀ b ∈ G, lo ≤ b ∧ b ≠ p := by
  obtain ⟨p2, o2, c2, aw, cw, hv, hp, _, hg, F, r, f⟩ := dat_lns h hk
  refine ⟨p2, o2, c2, aw, cw, F ++ [], hv, hp, hg, repSheetLine_mk _ r, fun b hb => ?_⟩
  rw [List.append_nil] at hb
  rcases f b hb with q | q
  · exact q.1
  · have := r.lt b hb; omega

end Go.Proofs.Ytfmhfacaemfhlaa
