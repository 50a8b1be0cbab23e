/-
  Sheets: the rules of a kind: the program.
-/
import Derived.Test.YtikacjpbnoihjaaEIk
namespace Go.Proofs.Ytikacjpbnoihjaa
open Go.RowKit Go.Deep

theorem ans_nil (w W : World) (hb : Below w.heap.size w W) : AnsL [.row 48 shSheetRule] (rulesD []) w (.returned (.slice none 0 0)) W :=
  ⟨_, [], rfl, .emp _ _ none rfl .nil, List.nodup_nil, by simp, hb⟩
/-- What stands in the table for a kind. -/
def kindV (kind : ByteArray) (vt vb vs : Value) : Value :=
  if kind.toList == [116, 101, 97, 109] then vt else if kind.toList == [98, 101, 114, 116, 104] then vb else if kind.toList == [115, 101, 114, 118, 105, 99, 101] then vs else .slice none 0 0
theorem beq_text (a : ByteArray) (x : List UInt8) (y : ByteArray) (h : y.toList = x) : (a == y) = (a.toList == x) := by
  subst h
  cases a with
  | mk a =>
    cases y with
    | mk y =>
      rw [Pl.tl, Pl.tl]
      show (a == y) = (a.toList == y.toList)
      rw [Bool.eq_iff_iff, beq_iff_eq, beq_iff_eq]
      exact ⟨fun h => by rw [h], fun h => Array.toList_inj.1 h⟩
theorem look_kind {W : World} {mb : Nat} {vt vb vs : Value} (hb : W.heap[mb]? = some (.map #[⟨.string { data := #[116, 101, 97, 109] }, .agg #[vt], 0⟩, ⟨.string { data := #[98, 101, 114, 116, 104] }, .agg #[vb], 1⟩, ⟨.string { data := #[115, 101, 114, 118, 105, 99, 101] }, .agg #[vs], 2⟩] 3)) (kind : ByteArray) :
    (Instr.lookup 60 (.map (some mb)) (.string kind) false).run Try.prog W = .ok (.agg #[kindV kind vt vb vs]) W := by
  have hz : (zeroValue 59).run Try.prog W = .ok (.agg #[.slice none 0 0]) W := by kernel_rfl
  have e1 := beq_text kind [116, 101, 97, 109] { data := #[116, 101, 97, 109] } (by decide +kernel)
  have e2 := beq_text kind [98, 101, 114, 116, 104] { data := #[98, 101, 114, 116, 104] } (by decide +kernel)
  have e3 := beq_text kind [115, 101, 114, 118, 105, 99, 101] { data := #[115, 101, 114, 118, 105, 99, 101] } (by decide +kernel)
  obtain ⟨r, hr, hv⟩ : ∃ r, Instr.findNow .string (.string kind) [⟨.string { data := #[116, 101, 97, 109] }, .agg #[vt], 0⟩, ⟨.string { data := #[98, 101, 114, 116, 104] }, .agg #[vb], 1⟩, ⟨.string { data := #[115, 101, 114, 118, 105, 99, 101] }, .agg #[vs], 2⟩] 0 = some r ∧ (match r with | some (_, v) => v | none => .agg #[.slice none 0 0]) = .agg #[kindV kind vt vb vs] := by
    simp only [Instr.findNow, Instr.sameNow, e1, e2, e3, kindV]
    cases (kind.toList == [116, 101, 97, 109]) <;> cases (kind.toList == [98, 101, 114, 116, 104]) <;> cases (kind.toList == [115, 101, 114, 118, 105, 99, 101]) <;> exact ⟨_, rfl, rfl⟩
  have hf := find_text W kind _ r hr
  cases r with
  | none =>
    simp only at hv
    simp [Instr.lookup, run_underlying Try.und_kinds, MapKept.run_getObj_map hb, check_text, hf, hz, Result.andThen, hv]
  | some p =>
    obtain ⟨j, v⟩ := p
    simp only at hv
    subst hv
    simp [Instr.lookup, run_underlying Try.und_kinds, MapKept.run_getObj_map hb, check_text, hf, Result.andThen]
theorem kind_ans {w w0 W : World} {vt vb vs : Value} (kind : ByteArray) (h0 : w.heap.size ≤ w0.heap.size) (ht : Kp w0 Pl.kTeamR vt W) (hb : Kp w0 Pl.kBerthR vb W) (hs : Kp w0 Pl.kServiceR vs W) (hB : Below w.heap.size w W) :
    AnsL [.row 48 shSheetRule] (rulesD (Pl.rulesOf kind)) w (.returned (kindV kind vt vb vs)) W := by
  unfold kindV Pl.rulesOf
  split
  · exact ht.ans h0 hB
  · split
    · exact hb.ans h0 hB
    · split
      · exact hs.ans h0 hB
      · exact ans_nil w W hB

end Go.Proofs.Ytikacjpbnoihjaa
