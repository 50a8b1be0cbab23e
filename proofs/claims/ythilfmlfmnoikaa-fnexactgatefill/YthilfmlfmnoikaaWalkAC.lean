/-
  Walks: copies of lists of texts.
-/
import Derived.Test.YthilfmlfmnoikaaMarks
import Derived.Test.YthilfmlfmnoikaaWalkK
namespace Go.Proofs.Ythilfmlfmnoikaa
open Go.RowKit Go.Deep

/-- A list of texts in a block of the call's own from lo on, below hi, or nil. -/
def CT (w : World) (lo hi : Nat) (v : Value) (ss : List ByteArray) : Prop :=
  (v = .slice none 0 0 ∧ ss = []) ∨ ∃ g cap, v = .slice (some ⟨g, 0, none⟩) ss.length cap ∧ lo ≤ g ∧ g < hi ∧ OwnBlk w g 9 cap ∧ ss.length ≤ cap ∧ ∀ i, i < ss.length → w.cell? ⟨g, i, none⟩ = some (.string (ss.getD i ByteArray.empty))

theorem CT.of_owns {w : World} {lo : Nat} {v : Value} {ss : List ByteArray} (h : w.ownsRow lo 9 1 v ss.length (ss.map Value.string)) : CT w lo w.heap.size v ss := by
  rcases h with ⟨_, ⟨rfl, hn⟩ | ⟨g, cap, cur, rfl, hg, hb, hn, _, hcs, ht⟩⟩
  · exact Or.inl ⟨rfl, List.length_eq_zero_iff.1 hn⟩
  · have hO : OwnBlk w g 9 cap := ⟨cur, hb, by omega⟩
    refine Or.inr ⟨g, cap, rfl, hg, hO.lt, hO, hn, fun i hi => ?_⟩
    have hc : w.cell? ⟨g, i, none⟩ = cur[i]? := by simp [World.cell?, hb]
    rw [hc]
    have e : (cur.toList.take (ss.length * 1))[i]? = (ss.map Value.string)[i]? := by rw [ht]
    rw [List.getElem?_take, if_pos (by omega)] at e
    rw [← Array.getElem?_toList, e]
    simp [hi]

theorem CT.later {w w' : World} {lo hi : Nat} {v : Value} {ss : List ByteArray} (h : CT w lo hi v ss) (hb : Below w.heap.size w w') : CT w' lo hi v ss := by
  rcases h with h | ⟨g, cap, rfl, h1, h1', h2, h3, h4⟩
  · exact Or.inl h
  · exact Or.inr ⟨g, cap, rfl, h1, h1', h2.later hb, h3, fun i hi => (hb.cell (p := ⟨g, i, none⟩) h2.lt).trans (h4 i hi)⟩

theorem CT.sc {w : World} {lo hi : Nat} {v : Value} {ss : List ByteArray} (h : CT w lo hi v ss) {B : Nat} (hB : B < lo ∨ hi ≤ B) (o : Nat) (x : Value) : CT (w.setCell ⟨B, o, none⟩ x) lo hi v ss := by
  rcases h with h | ⟨g, cap, rfl, h1, h1', h2, h3, h4⟩
  · exact Or.inl h
  · exact Or.inr ⟨g, cap, rfl, h1, h1', h2.sc_other (by omega) o x, h3, fun i hi => (sc_ne w B o x g i (Or.inl (by omega))).trans (h4 i hi)⟩

theorem CT.mono {w : World} {lo hi lo' hi' : Nat} {v : Value} {ss : List ByteArray} (h : CT w lo hi v ss) (h1 : lo' ≤ lo) (h2 : hi ≤ hi') : CT w lo' hi' v ss := by
  rcases h with h | ⟨g, cap, rfl, g1, g2, g3, g4, g5⟩
  · exact Or.inl h
  · exact Or.inr ⟨g, cap, rfl, by omega, by omega, g3, g4, g5⟩

theorem below_of_grown {w w' : World} (hg : w.grownBy w' none) : Below w.heap.size w w' := Below.grown (Below.refl _ _) hg (Nat.le_refl _) (fun k e => by cases e)

set_option maxHeartbeats 1000000 in
theorem copyTexts (b c : Nat) (ss : List ByteArray) (w : World) (hl : ss.length ≤ 1048576) (hc : ∀ i, i < ss.length → w.cell? ⟨b, i, none⟩ = some (.string (ss.getD i ByteArray.empty))) :
    Calls Try.prog 38 #[.slice (some ⟨b, 0, none⟩) ss.length c] w fun e w' => (∃ a n c, e = .returned (.slice a n c) ∧ CT w' w.heap.size w'.heap.size (.slice a n c) ss) ∧ Below w.heap.size w w' := by
  obtain ⟨i0, hi, hz0, hz1, hz2⟩ := info_parts Try.info9
  go_enter Try.func38, Try.ntmps38
  go_wp2_with (at_builtin; refine wpList_append_own _ rfl _ _ 23 rfl w.heap.size 9 i0 (.string ByteArray.empty) 1 16 Try.underlying23 hi hz0 hz1 hz2 rfl (by decide) _ 0 [] rfl (World.ownsRow_nil _ _ _ _) ⟨b, 0, none⟩ ss.length c (ss.map Value.string) rfl ?c1 ?c2 ?c3 ?c4 ?c5 ?c6 ?_)
  case c1 => simp
  case c2 =>
    intro j u hj
    rw [List.getElem?_map] at hj
    cases hq : ss[j]? with
    | none => rw [hq] at hj; cases hj
    | some s =>
      rw [hq] at hj
      have hjl : j < ss.length := by
        by_cases hjl : j < ss.length
        · exact hjl
        · rw [List.getElem?_eq_none (by omega)] at hq; cases hq
      have := hc j hjl
      have e : ss.getD j ByteArray.empty = s := by simp [hq]
      rw [e] at this
      injection hj with hj
      rw [← hj]
      by_cases h0 : j = 0
      · subst h0; simpa [Addr.add] using this
      · simpa [Addr.add, h0] using this
  case c3 => intro u hu; simp at hu; obtain ⟨s, _, rfl⟩ := hu; rfl
  case c4 => unfold maxLen; omega
  case c5 => omega
  case c6 => exact Nat.le_refl _
  intro v' w1 hown hgrow hnil
  have hct : CT w1 w.heap.size w1.heap.size v' ss := CT.of_owns (by simpa using hown)
  have hB : Below w.heap.size w w1 := below_of_grown hgrow
  obtain ⟨a1, n1, c1, hv1⟩ : ∃ a n c, v' = .slice a n c := by
    rcases hct with ⟨h, _⟩ | ⟨g, cap, h, _⟩
    · exact ⟨_, _, _, h⟩
    · exact ⟨_, _, _, h⟩
  rw [hv1] at hct ⊢
  have HC : Hid (CT w1 w.heap.size w1.heap.size (.slice a1 n1 c1) ss) := hct
  clear hct hown hgrow hnil hv1
  go_wp2
  go_ret
  exact ⟨⟨_, _, _, rfl, HC.out⟩, hB⟩
end Go.Proofs.Ythilfmlfmnoikaa
