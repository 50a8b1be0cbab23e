/-
  Walks: the first numbered name that is none of some: the specification.
-/
import Derived.Test.YtikfcnmhfoknlaaDoorWalkVA
namespace Go.Proofs.YtikfcnmhfoknlaaDoor
open Go.RowKit Go.Deep

/-- A slice of texts. -/
def TextsAt (w : World) (v : Value) (l : List ByteArray) : Prop :=
  (l = [] ∧ ∃ a c, v = .slice a 0 c) ∨ ∃ g c, v = .slice (some ⟨g, 0, none⟩) l.length c ∧ g < w.heap.size ∧ l.length ≤ 4000000 ∧ ∀ i, i < l.length → w.cell? ⟨g, i, none⟩ = some (.string (l.getD i ByteArray.empty))

theorem TextsAt.later {w w' : World} {v : Value} {l : List ByteArray} (h : TextsAt w v l) (hb : Below w.heap.size w w') : TextsAt w' v l := by
  rcases h with h | ⟨g, c, rfl, h1, h2, h3⟩
  · exact Or.inl h
  · exact Or.inr ⟨g, c, rfl, Nat.lt_of_lt_of_le h1 hb.size, h2, fun i hi => (hb.cell (p := ⟨g, i, none⟩) h1).trans (h3 i hi)⟩

set_option maxHeartbeats 1000000 in
theorem l1Has_row (g c : Nat) (l : List ByteArray) (s : ByteArray) (w : World) (hl : l.length ≤ 4000000) (hc : ∀ i, i < l.length → w.cell? ⟨g, i, none⟩ = some (.string (l.getD i ByteArray.empty))) :
    Calls Tryd.prog 39 #[.slice (some ⟨g, 0, none⟩) l.length c, .string s] w fun e w' => e = .returned (.bool (Pl.has l s)) ∧ w = w' := by
  obtain ⟨R, hR⟩ : ∃ R, R = Pl.has l s := ⟨_, rfl⟩
  have HR : Hid (R = Pl.has l s) := hR
  rw [← hR]
  clear hR
  go_enter Tryd.func39, Tryd.ntmps39
  go_wp2
  go_loop [5] (fun i => ∃ k : Nat, k ≤ l.length ∧ i = .int .i64 k ∧ Pl.has (l.take k) s = false) (fun i => l.length - (intOf i).toNat)
  case atStart => exact ⟨0, Nat.zero_le _, rfl, rfl⟩
  case round =>
    obtain ⟨k, hk, rfl, hq⟩ := hrel
    have HQ : Hid (Pl.has (l.take k) s = false) := hq
    clear hq
    by_cases hlt : k < l.length
    · have c0 := hc k hlt
      have e : l.getD k ByteArray.empty = l[k] := by simp [hlt]
      rw [e] at c0
      obtain ⟨y, hy⟩ : ∃ y, y = l[k] := ⟨_, rfl⟩
      have HT : Hid ((y.toList == s.toList) = true → Pl.has l s = true) := fun h => Pl.has_true l s k hlt (by rw [← hy]; exact h)
      have HN : Hid ((y.toList == s.toList) = false → Pl.has (l.take (k + 1)) s = false) := fun h => by rw [Pl.has_snoc l s k hlt, HQ.out, ← hy, h]; rfl
      rw [← hy] at c0
      clear hy e hc
      cases hn : (y.toList == s.toList)
      · have HE := HN.out hn
        have HEE : Hid (Pl.has (l.take (k + 1)) s = false) := HE
        clear HE
        go_wp2
        go_round
        case rel => exact ⟨k + 1, by omega, by go_num, HEE.out⟩
        case measure => simp [intOf]; omega
      · have HE : Hid (R = true) := by show R = true; rw [HR.out]; exact HT.out hn
        go_wp2
        go_ret
        exact ⟨Pl.ret_bool HE.out.symm, rfl⟩
    · have HE : Hid (R = false) := by show R = false; rw [HR.out, ← Pl.has_whole l s k (by omega)]; exact HQ.out
      clear hc
      go_wp2
      go_ret
      exact ⟨Pl.ret_bool HE.out.symm, rfl⟩

set_option maxHeartbeats 400000 in
theorem l1Has_nil (a : Option Addr) (c : Nat) (s : ByteArray) (w : World) :
    Calls Tryd.prog 39 #[.slice a 0 c, .string s] w fun e w' => e = .returned (.bool false) ∧ w = w' := by
  go_enter Tryd.func39, Tryd.ntmps39
  go_wp2
  refine wp_loop_rounds 1 ?_
  rw [rounds_succ]
  go_wp2
  go_ret
  exact ⟨rfl, rfl⟩

theorem l1Has (v : Value) (l : List ByteArray) (s : ByteArray) (w : World) (h : TextsAt w v l) :
    Calls Tryd.prog 39 #[v, .string s] w fun e w' => e = .returned (.bool (Pl.has l s)) ∧ w = w' := by
  rcases h with ⟨rfl, a, c, rfl⟩ | ⟨g, c, rfl, _, h2, h3⟩
  · exact l1Has_nil a c s w
  · exact l1Has_row g c l s w h2 h3

theorem numb_eq (letter : ByteArray) (n : Nat) : letter ++ (⟨(Lib.decDigits n).toArray⟩ : ByteArray) = numb letter n := rfl

set_option maxHeartbeats 2000000 in
theorem l4New (letter : ByteArray) (a : Option Addr) (m c : Nat) (used : List ByteArray) (w : World) (hls : letter.size ≤ 16) (hu : used.length ≤ 4000000) (h : TextsAt w (.slice a m c) used) :
    Calls Tryd.prog 20 #[.string letter, .slice a m c] w fun e w' => e = .returned (.string (fresh letter used)) ∧ Below w.heap.size w w' := by
  have HH : Hid (TextsAt w (.slice a m c) used) := h
  obtain ⟨F, hF⟩ : ∃ F, F = freshN letter used := ⟨_, rfl⟩
  have hF4 : F ≤ 4000000 := by rw [hF]; have := fresh_lt letter used; omega
  have HF : Hid (F = freshN letter used) := hF
  clear h hF
  go_enter Tryd.func20, Tryd.ntmps20
  go_wp2
  go_loopw [5] (fun i wr => ∃ k : Nat, k ≤ F ∧ i = .int .i64 k ∧ Below w.heap.size w wr) (fun i _ => F + 1 - (intOf i).toNat)
  case atStart => exact ⟨0, Nat.zero_le _, rfl, Below.refl _ _⟩
  case round =>
    obtain ⟨k, hk, rfl, hW⟩ := hrel
    have hlen : ¬ (9223372036854775807 < letter.size + (Lib.decDigits k).length) := by have := dec_len k (by omega); omega
    go_wp2_with fail
    refine (l4Dec k (by omega) wr).mono ?_
    rintro e w2 ⟨rfl, hb2⟩
    have hW2 := blw_trans hW hb2
    clear hb2
    go_wp2_with fail
    rw [numb_eq]
    refine (l1Has _ used _ w2 (HH.out.later hW2)).mono ?_
    rintro e w3 ⟨rfl, rfl⟩
    cases hp : Pl.has used (numb letter k)
    · have HE : Hid (k = F) := by show k = F; rw [HF.out]; exact fresh_end (by rw [← HF.out]; exact hk) hp
      clear hp
      go_wp2_with fail
      refine (l4Dec k (by omega) _).mono ?_
      rintro e w4 ⟨rfl, hb4⟩
      have hW4 := blw_trans hW2 hb4
      clear hb4
      go_wp2
      go_ret
      refine ⟨?_, hW4⟩
      rw [fresh, ← HF.out, ← HE.out]
      rfl
    · have HE : Hid (k + 1 ≤ F) := by show k + 1 ≤ F; rw [HF.out]; exact fresh_on (by rw [← HF.out]; exact hk) hp
      clear hp
      go_wp2
      go_roundw
      case rel => exact ⟨k + 1, HE.out, by go_num, hW2⟩
      case measure => have := HE.out; simp [intOf]; omega

end Go.Proofs.YtikfcnmhfoknlaaDoor
