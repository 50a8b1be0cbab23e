/-
  Sheets: what is left out, said: plain.
-/
import Derived.Test.YtojcopamegmeeaaEOp
namespace Go.Proofs.Ytojcopamegmeeaa
open Go.RowKit Go.Deep

theorem rA_puts {W : World} {p o m : Nat} {u : TypeId} {x y z : List Value} (ho : OwnBlk W p u m) (h : W.rangeAt p o (x ++ (y ++ z))) (y' : List Value) (hl : y'.length = y.length) (hm : o + (x ++ (y ++ z)).length ≤ m) : (W.setCells p (o + x.length) y').rangeAt p o (x ++ (y' ++ z)) := by
  obtain ⟨h1, h2⟩ := rA_cut h
  obtain ⟨_, h3⟩ := rA_cut h2
  simp only [List.length_append] at hm
  refine rA_app ?_ (rA_app ?_ ?_)
  · exact World.rangeAt_setCells_apart h1 _ _ _ (Or.inr (Or.inl (by omega)))
  · exact World.rangeAt_setCells_same _ _ _ _ (uthere ho _ _ (by omega))
  · rw [hl]; exact World.rangeAt_setCells_apart h3 _ _ _ (Or.inr (Or.inr (by omega)))
/-- Blocks in a row of their own (block p, from o on); what they lead to lies from lo on, and not in p. -/
def RowX (W : World) (p o lo : Nat) (l : List Pl.Bl) : Prop := ∃ u m vs G, OwnBlk W p u m ∧ o + l.length * 3 ≤ m ∧ W.rangeAt p o vs ∧ Rep W false (reps l.length shSheetBlock) G (l.flatMap blD) vs ∧ (∀ b ∈ G, lo ≤ b ∧ b ≠ p) ∧ lo ≤ p
theorem RowX.later {W W' : World} {p o lo : Nat} {l : List Pl.Bl} (h : RowX W p o lo l) (hb : Below W.heap.size W W') : RowX W' p o lo l := by
  obtain ⟨u, m, vs, G, h1, h2, h3, h4, h5, h6⟩ := h
  exact ⟨u, m, vs, G, h1.later hb, h2, rA_later h3 h1.lt hb, h4.later hb, h5, h6⟩
theorem RowX.keep {W W' : World} {T : Nat → Prop} {p o lo : Nat} {l : List Pl.Bl} (h : RowX W p o lo l) (hb : Marks T W W') (hT : ∀ b, T b → b < lo) : RowX W' p o lo l := by
  obtain ⟨u, m, vs, G, h1, h2, h3, h4, h5, h6⟩ := h
  have hp : ¬ T p := fun e => by have := hT p e; omega
  exact ⟨u, m, vs, G, hb.own _ _ _ h1, h2, rA_same h3 fun j _ => hb.cell h1.lt hp _, h4.keep hb fun b hb' e => by have := hT b e; have := (h5 b hb').1; omega, h5, h6⟩
theorem RowX.lt {W : World} {p o lo : Nat} {l : List Pl.Bl} (h : RowX W p o lo l) : p < W.heap.size := by
  obtain ⟨u, m, vs, G, h1, _⟩ := h
  exact h1.lt
theorem RowX.lo {W : World} {p o lo : Nat} {l : List Pl.Bl} (h : RowX W p o lo l) : lo ≤ p := by
  obtain ⟨u, m, vs, G, _, _, _, _, _, h6⟩ := h
  exact h6
/-- One of them. -/
theorem RowX.at_ {W : World} {p o lo : Nat} {l : List Pl.Bl} (h : RowX W p o lo l) {k : Nat} (hk : k < l.length) {N : Nat} (hN : W.heap.size ≤ N) : ∃ a m, W.rangeAt p (o + k * 3) [.string (l.getD k Pl.blNo).kind, .string (l.getD k Pl.blNo).name, .slice a (l.getD k Pl.blNo).lines.length m] ∧ Dat (fun b => lo ≤ b ∧ b ≠ p) N N W shLns [lnsD (l.getD k Pl.blNo).lines] [.slice a (l.getD k Pl.blNo).lines.length m] := by
  obtain ⟨u, m, vs, G, h1, h2, h3, h4, h5, h6⟩ := h
  obtain ⟨ve, G', hE, hg, hG⟩ := h4.elE hk h3
  have e : el shSheetBlock.length k (l.flatMap blD) = blD (l.getD k Pl.blNo) := el_flat Pl.blNo blD 3 blD_len l k hk
  rw [e] at hE
  obtain ⟨F2, v2, hF2, hc, r2⟩ := repSheetBlock hE
  subst hc
  obtain ⟨a, m', hv2⟩ := r2.raw.len0
  subst hv2
  exact ⟨a, m', hg, F2, r2, fun b hb => Or.inl ⟨h5 b (hG b (by rw [hF2]; simp [hb])), Nat.lt_of_lt_of_le (r2.lt b hb) hN⟩⟩
theorem RowX.raw {W : World} {p o lo : Nat} {l : List Pl.Bl} (h : RowX W p o lo l) {c : Nat} (hc : l.length ≤ maxLen ∧ l.length ≤ c) : Raw W shBls [blsD l] [.slice (some ⟨p, o, none⟩) l.length c] := by
  obtain ⟨u, m, vs, G, h1, h2, h3, h4, h5, h6⟩ := h
  exact .row _ _ p o l.length c vs (l.flatMap blD) h1.lt ⟨hc.1, hc.2⟩ h3 h4.raw .nil
/-- Another block in the place of one. -/
theorem RowX.put {W : World} {p o lo N : Nat} {l : List Pl.Bl} (h : RowX W p o lo l) {k : Nat} (hk : k < l.length) (x : Pl.Bl) {lv : Value} (hD : Dat (fun b => lo ≤ b ∧ b ≠ p) N N W shLns [lnsD x.lines] [lv]) (hN : p < N) : RowX (W.setCells p (o + k * 3) [.string x.kind, .string x.name, lv]) p o lo (l.set k x) := by
  obtain ⟨u, m, vs, G, h1, h2, h3, h4, h5, h6⟩ := h
  obtain ⟨FD, rD, fD⟩ := hD
  have hfD : ∀ b ∈ FD, lo ≤ b ∧ b ≠ p := fun b hb => by
    rcases fD b hb with q | q
    · exact q.1
    · exact ⟨by omega, by omega⟩
  have hm : Marks (fun b => b = p) W (W.setCells p (o + k * 3) [.string x.kind, .string x.name, lv]) := mks_scs (S := fun b => b = p) rfl _ _ _
  have hvl : vs.length = l.length * 3 := by rw [h4.len, reps_len]; rfl
  have hrc := h4
  rw [reps_cut hk] at h4
  obtain ⟨F1, F2, d1, d2, c1, c2, hF, hd, hvs, r1, r2⟩ := Rep.cut _ h4
  obtain ⟨F3, F4, d3, d4, c3, c4, hF2, hd2, hc2, r3, r4⟩ := Rep.cut _ r2
  subst hF; subst hvs; subst hF2; subst hc2; subst hd2
  have hc1 : c1.length = k * 3 := by rw [r1.len, reps_len]; rfl
  have hc3 : c3.length = 3 := by rw [r3.len]; rfl
  have hd1 : d1.length = k * 3 := by rw [r1.raw.typ.len, reps_len]; rfl
  have hd3 : d3.length = 3 := by rw [r3.raw.typ.len]; rfl
  have hsp : l = l.take k ++ (l.getD k Pl.blNo :: l.drop (k + 1)) := by
    have e : l.getD k Pl.blNo = l[k] := by simp [hk]
    rw [e, ← List.drop_eq_getElem_cons hk, List.take_append_drop]
  have ht : ((l.take k).flatMap blD).length = k * 3 := by rw [flat_len2 blD 3 blD_len, List.length_take, Nat.min_eq_left (by omega)]
  have hs : l.flatMap blD = (l.take k).flatMap blD ++ (blD (l.getD k Pl.blNo) ++ (l.drop (k + 1)).flatMap blD) := by
    conv => lhs; rw [hsp]
    rw [List.flatMap_append, List.flatMap_cons]
  obtain ⟨g1, g2⟩ := List.append_inj (hd.symm.trans hs) (by rw [hd1, ht])
  obtain ⟨g3, g4⟩ := List.append_inj g2 (by rw [hd3]; rfl)
  subst g1; subst g4
  have hset : (l.set k x).flatMap blD = (l.take k).flatMap blD ++ (blD x ++ (l.drop (k + 1)).flatMap blD) := by
    rw [List.set_eq_take_append_cons_drop, if_pos hk, List.flatMap_append, List.flatMap_cons]
  refine ⟨u, m, c1 ++ ([.string x.kind, .string x.name, lv] ++ c4), F1 ++ ((FD ++ []) ++ F4), own_scs _ _ _ h1, by rw [List.length_set]; exact h2, ?_, ?_, fun b hb => ?_, h6⟩
  · have := rA_puts h1 h3 [.string x.kind, .string x.name, lv] (by rw [hc3]; rfl) (by rw [hvl]; exact h2)
    rw [hc1] at this
    exact this
  · rw [List.length_set, hset, reps_cut hk]
    have hx : Rep W false shSheetBlock (FD ++ []) (blD x) [.string x.kind, .string x.name, lv] := repSheetBlock_mk x.kind x.name rD
    exact (r1.app (hx.app r4)).keep hm fun b hb e => by
      simp only [List.mem_append, List.not_mem_nil, or_false] at hb
      rcases hb with hb | hb | hb
      · exact (h5 b (by simp [hb])).2 e
      · exact (hfD b hb).2 e
      · exact (h5 b (by simp [hb])).2 e
  · simp only [List.mem_append, List.not_mem_nil, or_false] at hb
    rcases hb with hb | hb | hb
    · exact h5 b (by simp [hb])
    · exact hfD b hb
    · exact h5 b (by simp [hb])
/-- From a copy. -/
theorem rowX_of {W : World} {F : List Nat} {l : List Pl.Bl} {v : Value} {lo : Nat} (h : Rep W false shBls F [blsD l] [v]) (nd : F.Nodup) (hlo : ∀ b ∈ F, lo ≤ b) (hl : 0 < l.length) : ∃ p o c, v = .slice (some ⟨p, o, none⟩) l.length c ∧ l.length ≤ c ∧ RowX W p o lo l := by
  rcases h.slice with ⟨_, h0, _⟩ | ⟨p, o, c, u, m, G, hv, hF, hn, ho, hm, _, vs, hr, hR⟩
  · omega
  subst hF
  rw [List.nodup_cons] at nd
  exact ⟨p, o, c, hv, hn.2.1, u, m, vs, G, ho, hm, hr, hR, fun b hb => ⟨hlo b (by simp [hb]), fun e => nd.1 (e ▸ hb)⟩, hlo p (by simp)⟩
namespace Pl
theorem set_mid {α : Type} (l : List α) (k : Nat) (d x : α) (hk : k < l.length) : (l.set k x).getD k d = x := by
  simp [hk]
theorem set_set' {α : Type} (l : List α) (k : Nat) (x y : α) : (l.set k x).set k y = l.set k y := by simp
end Pl
end Go.Proofs.Ytojcopamegmeeaa

namespace Go.Proofs.Ytojcopamegmeeaa
open Go.RowKit Go.Deep


/-- Data that lie from lo on, and not in p. -/
def Free (lo p : Nat) (W : World) (sh : List Sh) (A : List Dt) (c : List Value) : Prop := ∃ F, Rep W false sh F A c ∧ ∀ b ∈ F, lo ≤ b ∧ b ≠ p
theorem Free.later {lo p : Nat} {W W' : World} {sh : List Sh} {A : List Dt} {c : List Value} (h : Free lo p W sh A c) (hb : Below W.heap.size W W') : Free lo p W' sh A c := by
  obtain ⟨F, r, f⟩ := h
  exact ⟨F, r.later hb, f⟩
theorem Free.keep {lo p : Nat} {W W' : World} {sh : List Sh} {A : List Dt} {c : List Value} (h : Free lo p W sh A c) (hb : Marks (fun b => b = p) W W') : Free lo p W' sh A c := by
  obtain ⟨F, r, f⟩ := h
  exact ⟨F, r.keep hb fun b hb' e => (f b hb').2 e, f⟩
theorem Free.dat {lo p N : Nat} {W : World} {sh : List Sh} {A : List Dt} {c : List Value} (h : Free lo p W sh A c) (hN : W.heap.size ≤ N) : Dat (fun b => lo ≤ b ∧ b ≠ p) N N W sh A c := by
  obtain ⟨F, r, f⟩ := h
  exact ⟨F, r, fun b hb => Or.inl ⟨f b hb, Nat.lt_of_lt_of_le (r.lt b hb) hN⟩⟩
theorem RowX.there {W : World} {p o lo : Nat} {l : List Pl.Bl} (h : RowX W p o lo l) {k : Nat} (hk : k < l.length) : W.there p (o + k * 3) 3 := by
  obtain ⟨u, m, vs, G, h1, h2, _⟩ := h
  exact uthere h1 _ _ (by omega)
namespace Pl
def curG (g : Bl → Bl) (s : List Bl) (i : Nat) : List Bl := (s.map g).take i ++ s.drop i
theorem curG_len (g : Bl → Bl) (s : List Bl) (i : Nat) (hi : i ≤ s.length) : (curG g s i).length = s.length := by
  unfold curG; rw [List.length_append, List.length_take, List.length_drop, List.length_map]; omega
theorem curG_zero (g : Bl → Bl) (s : List Bl) : curG g s 0 = s := by simp [curG]
theorem curG_end (g : Bl → Bl) (s : List Bl) : curG g s s.length = s.map g := by
  unfold curG; rw [List.take_of_length_le (by simp), List.drop_length, List.append_nil]
theorem curG_split (g : Bl → Bl) (s : List Bl) (i : Nat) (hi : i < s.length) : curG g s i = (s.map g).take i ++ s.getD i blNo :: s.drop (i + 1) := by
  have e : s.getD i blNo = s[i] := by simp [hi]
  unfold curG; rw [e, ← List.drop_eq_getElem_cons hi]
theorem curG_tl (g : Bl → Bl) (s : List Bl) (i : Nat) (hi : i < s.length) : ((s.map g).take i).length = i := by rw [List.length_take, List.length_map]; omega
theorem curG_get (g : Bl → Bl) (s : List Bl) (i : Nat) (hi : i < s.length) : (curG g s i).getD i blNo = s.getD i blNo := by
  rw [curG_split g s i hi]
  have h := curG_tl g s i hi
  rw [List.getD_eq_getElem?_getD, List.getElem?_append_right (by omega), h]; simp
theorem curG_set (g : Bl → Bl) (s : List Bl) (i : Nat) (hi : i < s.length) (x : Bl) : (curG g s i).set i x = (s.map g).take i ++ x :: s.drop (i + 1) := by
  rw [curG_split g s i hi]
  have h := curG_tl g s i hi
  rw [List.set_append_right _ _ (by omega), h]; simp
theorem curG_set0 (g : Bl → Bl) (s : List Bl) (i : Nat) (hi : i < s.length) : (curG g s i).set i (s.getD i blNo) = curG g s i := by rw [curG_set g s i hi, curG_split g s i hi]
theorem curG_step (g : Bl → Bl) (s : List Bl) (i : Nat) (hi : i < s.length) : (curG g s i).set i (g (s.getD i blNo)) = curG g s (i + 1) := by
  have e : s.getD i blNo = s[i] := by simp [hi]
  rw [curG_set g s i hi]
  unfold curG
  rw [List.take_succ_eq_append_getElem (by simpa using hi), List.append_assoc, e]; simp
def fillStep (kind : ByteArray) (acc : List Ln) (r : Ru) : List Ln := if !r.many && decide ((linesOf acc r.key).length = 0) then putLn kind acc ⟨r.key, r.dflt⟩ else acc
def fillLs (kind : ByteArray) (l : List Ln) (rs : List Ru) : List Ln := rs.foldl (fillStep kind) l
def fillBl (b : Bl) : Bl := ⟨b.kind, b.name, fillLs b.kind b.lines (rulesOf b.kind)⟩
def fillOut (s : List Bl) : List Bl := if validS s then s.map fillBl else []
theorem take_snocR (l : List Ru) (k : Nat) (h : k < l.length) : l.take (k + 1) = l.take k ++ [l.getD k ruNo] := by
  have e : l.getD k ruNo = l[k] := by simp [h]
  rw [e, List.take_succ_eq_append_getElem h]
theorem fillLs_step (kind : ByteArray) (l : List Ln) (rs : List Ru) (k : Nat) (hk : k < rs.length) : fillLs kind l (rs.take (k + 1)) = fillStep kind (fillLs kind l (rs.take k)) (rs.getD k ruNo) := by
  rw [take_snocR rs k hk]; simp [fillLs]
theorem fillStep_len (kind : ByteArray) (l : List Ln) (r : Ru) : (fillStep kind l r).length ≤ l.length + 1 := by
  unfold fillStep
  split
  · rw [putLn_len]; exact Nat.le_refl _
  · omega
theorem fillLs_len (kind : ByteArray) : ∀ (rs : List Ru) (l : List Ln), (fillLs kind l rs).length ≤ l.length + rs.length
  | [], l => Nat.le_refl _
  | r :: rs, l => by
    have := fillLs_len kind rs (fillStep kind l r)
    have h2 := fillStep_len kind l r
    rw [fillLs] at this
    rw [fillLs, List.foldl_cons, List.length_cons]; omega
theorem fillStep_mem (kind : ByteArray) (l : List Ln) (r : Ru) (y : Ln) (h : y ∈ fillStep kind l r) : y ∈ l ∨ y = ⟨r.key, r.dflt⟩ := by
  unfold fillStep at h
  split at h
  · rw [putLn_mem] at h; exact h.symm
  · exact Or.inl h
theorem fillLs_mem (kind : ByteArray) : ∀ (rs : List Ru) (l : List Ln) (y : Ln), y ∈ fillLs kind l rs → y ∈ l ∨ ∃ r ∈ rs, y = ⟨r.key, r.dflt⟩
  | [], l, y, h => Or.inl h
  | r :: rs, l, y, h => by
    rw [fillLs, List.foldl_cons] at h
    rcases fillLs_mem kind rs (fillStep kind l r) y (by rw [fillLs]; exact h) with h | ⟨q, hq, e⟩
    · rcases fillStep_mem kind l r y h with h | h
      · exact Or.inl h
      · exact Or.inr ⟨r, by simp, h⟩
    · exact Or.inr ⟨q, by simp [hq], e⟩
end Pl
theorem rules_len (kind : ByteArray) : (Pl.rulesOf kind).length ≤ 12 := by
  unfold Pl.rulesOf
  split
  · decide
  · split
    · decide
    · split <;> decide
theorem fill_ws {m : Nat} {b : Pl.Bl} (h : Sm m b) (k : Nat) : (Pl.fillLs b.kind b.lines ((Pl.rulesOf b.kind).take k)).length ≤ m + 12 ∧ ∀ x ∈ Pl.fillLs b.kind b.lines ((Pl.rulesOf b.kind).take k), x.ws.length ≤ 4194304 := by
  refine ⟨?_, fun x hx => ?_⟩
  · have h1 := Pl.fillLs_len b.kind ((Pl.rulesOf b.kind).take k) b.lines
    have h2 := h.ln
    have h3 := rules_len b.kind
    rw [List.length_take] at h1
    omega
  · rcases Pl.fillLs_mem _ _ _ _ hx with h1 | ⟨r, hr, e⟩
    · exact (h.ws x h1).1
    · rw [e]; exact dflt_small b.kind r (List.mem_of_mem_take hr)
/-- A rule of a list of rules. -/
theorem dat_rule {S : Nat → Prop} {B lo : Nat} {W : World} {l : List Pl.Ru} {v : Value} (h : Dat S B lo W [.row 73 shSheetRule] [rulesD l] [v]) {k : Nat} (hk : k < l.length) : ∃ p o c a1 c1 a3 c3, v = .slice (some ⟨p, o, none⟩) l.length c ∧ p < W.heap.size ∧ W.rangeAt p (o + k * 4) [.string (l.getD k Pl.ruNo).key, .slice a1 (l.getD k Pl.ruNo).args.length c1, .bool (l.getD k Pl.ruNo).many, .slice a3 (l.getD k Pl.ruNo).dflt.length c3] ∧ Dat S B lo W shTxs [.row (l.getD k Pl.ruNo).dflt.length (txD (l.getD k Pl.ruNo).dflt)] [.slice a3 (l.getD k Pl.ruNo).dflt.length c3] := by
  obtain ⟨F, r, f⟩ := h
  rcases r.slice with ⟨_, h0, _⟩ | ⟨p, o, c, u, m, G, hv, hF, hn, ho, hm, _, vs, hr, hR⟩
  · omega
  obtain ⟨ve, G', hE, hg, hG⟩ := hR.elE hk hr
  have e : el shSheetRule.length k (l.flatMap ruD) = ruD (l.getD k Pl.ruNo) := el_flat Pl.ruNo ruD 4 ruD_len l k hk
  rw [e] at hE
  obtain ⟨F1, v1, F3, v3, hF2, hc, r1, r3⟩ := repSheetRule hE
  subst hc
  obtain ⟨a1, m1, hv1⟩ := r1.raw.len0
  subst hv1
  obtain ⟨a3, m3, hv3⟩ := r3.raw.len0
  subst hv3
  exact ⟨p, o, c, a1, m1, a3, m3, hv, ho.lt, hg, F3, r3, fun b hb => f b (by rw [hF]; exact List.mem_cons_of_mem _ (hG b (by rw [hF2]; simp [hb])))⟩

end Go.Proofs.Ytojcopamegmeeaa
