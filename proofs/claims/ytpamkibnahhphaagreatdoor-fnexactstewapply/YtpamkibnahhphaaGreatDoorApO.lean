/-
  An append onto an own row.
-/
import Derived.Test.YtpamkibnahhphaaGreatDoorOwS
import Derived.Test.YtpamkibnahhphaaGreatDoorRegT
namespace Go.Proofs.YtpamkibnahhphaaGreatDoor
open Go.RowKit Go.Deep

theorem app_own {P : Program} (base : Nat) (t ty e : TypeId) (size bytes : Nat) (z : Value) (ht : P.underlying t = some (.slice e)) (hinf : (P.info? e).map (fun i => (i.zero, i.size, i.bytes)) = some (some z, size, bytes)) (hzs : z.cells.size = size) (hsz : 0 < size)
    (W : World) (g n cap : Nat) (xs : List Value) (hown : W.ownsRow base e size (.slice (some ⟨g, 0, none⟩) n cap) n xs) (a : Option Addr) (m c : Nat) (news : List Value) (hl : news.length = m * size)
    (hnews : ∀ ad, a = some ad → ∀ j u, news[j]? = some u → W.cell? (ad.add j) = some u) (hnone : a = none → m = 0) (h1 : ∀ u ∈ news, u.oneCell' = true) (hm : n + m ≤ 1048576) (hb : bytes ≤ 1000) (hbase : base ≤ W.heap.size) :
    ∃ g' cap' W', (Builtin.append_ #[t, t] ty #[.slice (some ⟨g, 0, none⟩) n cap, .slice a m c]).run P W = .ok (.slice (some ⟨g', 0, none⟩) (n + m) cap') W' ∧ W'.ownsRow base e size (.slice (some ⟨g', 0, none⟩) (n + m) cap') (n + m) (xs ++ news) ∧ BelX g W W' := by
  obtain ⟨i, hi, ei⟩ := Option.map_eq_some_iff.1 hinf
  simp only [Prod.mk.injEq] at ei
  obtain ⟨hz, hs, hby⟩ := ei
  cases a with
  | none =>
    have h0 : m = 0 := hnone rfl
    subst h0
    obtain rfl : news = [] := List.eq_nil_of_length_eq_zero (by simpa using hl)
    have hcap : n ≤ cap := by
      rcases hown.2 with ⟨hv, _⟩ | ⟨g', cap', cur, hv, _, _, hc, _⟩
      · cases hv
      · cases hv; exact hc
    have hr := run_append_room_src (P := P) W t t ty e i ht hi g 0 n cap (.slice none 0 c) 0 [] (Src.ofNil W ht c) (by omega) (fun j h => by simp at h) (fun j h => by simp at h)
    refine ⟨g, cap, W, hr, ?_, BelX.refl g W⟩
    rw [List.append_nil]; exact hown
  | some ad =>
    have hmb : (n + m) * bytes ≤ 1048576 * 1000 := Nat.mul_le_mul hm hb
    obtain ⟨v', W', hr, ho, hg, hne⟩ := run_append_own (P := P) (w := W) base t ty e i z size bytes ht hi hz hs hby hzs hsz _ n xs hown ad m c news hl (hnews ad rfl) h1 (by unfold maxLen; omega) (by omega) hbase
    rcases ho.2 with ⟨hv, _⟩ | ⟨g', cap', cur, hv, hrest⟩
    · cases (hne.1 hv).1
    · subst hv
      exact ⟨g', cap', W', hr, ho, hg.os, hg.tape, hg.output, hg.size, fun q hq hne' => hg.block q hq (fun e => by cases e; exact hne' rfl)⟩

theorem flat_take {α : Type} (f : α → List Value) (n : Nat) (hf : ∀ x, (f x).length = n) : ∀ (l : List α) (m : Nat), (l.flatMap f).take (m * n) = (l.take m).flatMap f
  | [], m => by simp
  | x :: l, 0 => by simp
  | x :: l, m + 1 => by
    rw [List.take_succ_cons, List.flatMap_cons, List.flatMap_cons, ← flat_take f n hf l m, List.take_append, hf]
    rw [List.take_of_length_le (by rw [hf, Nat.add_mul]; omega)]
    congr 2
    rw [Nat.add_mul]; omega
theorem flat_drop {α : Type} (f : α → List Value) (n : Nat) (hf : ∀ x, (f x).length = n) : ∀ (l : List α) (m : Nat), (l.flatMap f).drop (m * n) = (l.drop m).flatMap f
  | [], m => by simp
  | x :: l, 0 => by simp
  | x :: l, m + 1 => by
    rw [List.drop_succ_cons, List.flatMap_cons, ← flat_drop f n hf l m, List.drop_append, hf]
    rw [List.drop_eq_nil_of_le (by rw [hf, Nat.add_mul]; omega), List.nil_append]
    congr 1
    rw [Nat.add_mul]; omega

end Go.Proofs.YtpamkibnahhphaaGreatDoor
