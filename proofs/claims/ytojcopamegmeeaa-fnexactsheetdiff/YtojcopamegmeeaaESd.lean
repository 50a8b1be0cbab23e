/-
  Sheets: lines, blocks and sheets as data, and in memory.
-/
import Derived.Test.YtojcopamegmeeaaESs
import Derived.Test.YtojcopamegmeeaaEPs
import Derived.Test.YtojcopamegmeeaaETx
namespace Go.Proofs.Ytojcopamegmeeaa
open Go.RowKit Go.Deep

def lnD (x : Pl.Ln) : List Dt := [.s x.key, .row x.ws.length (txD x.ws)]
def lnsD (l : List Pl.Ln) : Dt := .row l.length (l.flatMap lnD)
def blD (b : Pl.Bl) : List Dt := [.s b.kind, .s b.name, lnsD b.lines]
def blsD (s : List Pl.Bl) : Dt := .row s.length (s.flatMap blD)
theorem lnD_len (x : Pl.Ln) : (lnD x).length = 2 := rfl
theorem blD_len (x : Pl.Bl) : (blD x).length = 3 := rfl
abbrev shTxs : List Sh := [.row 9 [.s]]
abbrev shLns : List Sh := [.row 69 shSheetLine]
abbrev shBls : List Sh := [.row 42 shSheetBlock]
/-- A list of texts that is read. -/
theorem txs_open {W : World} {ws : List ByteArray} {v : Value} (h : Raw W shTxs [.row ws.length (txD ws)] [v]) : (ws.length = 0 ∧ ∃ a c, v = .slice a 0 c) ∨ ∃ p o c, v = .slice (some ⟨p, o, none⟩) ws.length c ∧ p < W.heap.size ∧ ws.length ≤ maxLen ∧ ∀ k, k < ws.length → W.cell? ⟨p, o + k, none⟩ = some (.string (ws.getD k Pl.txNo)) := by
  rcases h.slice with ⟨e0, _, a, c, e⟩ | ⟨p, o, c, hv, hp, hml, vs, hr, hR⟩
  · exact Or.inl ⟨e0, a, c, e⟩
  · refine Or.inr ⟨p, o, c, hv, hp, hml.1, fun k hk => ?_⟩
    obtain ⟨ve, hE, hg⟩ := hR.el hk hr
    have e : el ([Sh.s] : List Sh).length k (txD ws) = [.s (ws.getD k Pl.txNo)] := el_map1 Pl.txNo Dt.s ws k hk
    rw [e] at hE
    obtain rfl := rawT1 hE
    have := rA_get hg 0 _ rfl
    simpa using this
/-- A list of lines that is read. -/
theorem lns_open {W : World} {l : List Pl.Ln} {v : Value} (h : Raw W shLns [lnsD l] [v]) : (l.length = 0 ∧ ∃ a c, v = .slice a 0 c) ∨ ∃ p o c, v = .slice (some ⟨p, o, none⟩) l.length c ∧ p < W.heap.size ∧ l.length ≤ maxLen ∧ ∀ k, k < l.length → ∃ a c', W.rangeAt p (o + k * 2) [.string (l.getD k Pl.lnNo).key, .slice a (l.getD k Pl.lnNo).ws.length c'] ∧ Raw W shTxs [.row (l.getD k Pl.lnNo).ws.length (txD (l.getD k Pl.lnNo).ws)] [.slice a (l.getD k Pl.lnNo).ws.length c'] := by
  rcases h.slice with ⟨e0, _, a, c, e⟩ | ⟨p, o, c, hv, hp, hml, vs, hr, hR⟩
  · exact Or.inl ⟨e0, a, c, e⟩
  · refine Or.inr ⟨p, o, c, hv, hp, hml.1, fun k hk => ?_⟩
    obtain ⟨ve, hE, hg⟩ := hR.el hk hr
    have e : el shSheetLine.length k (l.flatMap lnD) = lnD (l.getD k Pl.lnNo) := el_flat Pl.lnNo lnD 2 lnD_len l k hk
    rw [e] at hE
    obtain ⟨v1, hc, r1⟩ := rawSheetLine hE
    subst hc
    obtain ⟨a1, c1, h1⟩ := r1.len0
    subst h1
    exact ⟨a1, c1, hg, r1⟩
/-- A list of blocks that is read. -/
theorem bls_open {W : World} {s : List Pl.Bl} {v : Value} (h : Raw W shBls [blsD s] [v]) : (s.length = 0 ∧ ∃ a c, v = .slice a 0 c) ∨ ∃ p o c, v = .slice (some ⟨p, o, none⟩) s.length c ∧ p < W.heap.size ∧ s.length ≤ maxLen ∧ ∀ k, k < s.length → ∃ a c', W.rangeAt p (o + k * 3) [.string (s.getD k Pl.blNo).kind, .string (s.getD k Pl.blNo).name, .slice a (s.getD k Pl.blNo).lines.length c'] ∧ Raw W shLns [lnsD (s.getD k Pl.blNo).lines] [.slice a (s.getD k Pl.blNo).lines.length c'] := by
  rcases h.slice with ⟨e0, _, a, c, e⟩ | ⟨p, o, c, hv, hp, hml, vs, hr, hR⟩
  · exact Or.inl ⟨e0, a, c, e⟩
  · refine Or.inr ⟨p, o, c, hv, hp, hml.1, fun k hk => ?_⟩
    obtain ⟨ve, hE, hg⟩ := hR.el hk hr
    have e : el shSheetBlock.length k (s.flatMap blD) = blD (s.getD k Pl.blNo) := el_flat Pl.blNo blD 3 blD_len s k hk
    rw [e] at hE
    obtain ⟨v1, hc, r1⟩ := rawSheetBlock hE
    subst hc
    obtain ⟨a1, c1, h1⟩ := r1.len0
    subst h1
    exact ⟨a1, c1, hg, r1⟩

end Go.Proofs.Ytojcopamegmeeaa
