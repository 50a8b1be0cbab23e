/-
  Two lists of words that are the same.
-/
import Derived.Test.YtfhobegepiijhaaETx
import Derived.Test.YtfhobegepiijhaaECs
namespace Go.Proofs.Ytfhobegepiijhaa
open Go.RowKit Go.Deep

theorem tx_cell {W : World} {ws : List ByteArray} {a : Option Addr} {c : Nat} (h : Raw W [.row 9 [.s]] [.row ws.length (txD ws)] [.slice a ws.length c]) {k : Nat} (hk : k < ws.length) : ∃ p o, a = some ⟨p, o, none⟩ ∧ p < W.heap.size ∧ W.cell? ⟨p, o + k, none⟩ = some (.string (ws.getD k ⟨#[]⟩)) := by
  rcases h.slice with ⟨e0, _⟩ | ⟨p, o, c', hv, hp, _, vs, hr, hR⟩
  · omega
  · injection hv with g1 _ _
    obtain ⟨ve, hE, hg⟩ := hR.el hk hr
    have hel : el 1 k (txD ws) = [.s (ws.getD k ⟨#[]⟩)] := by exact el_map1 ({ data := #[] } : ByteArray) Dt.s ws k hk
    have hE' : Raw W [.s] [.s (ws.getD k ⟨#[]⟩)] ve := by rw [← hel]; exact hE
    obtain rfl := rawT1 hE'
    exact ⟨p, o, g1, hp, by have := rA_get hg 0 _ rfl; simpa using this⟩
set_option maxRecDepth 8000 in
set_option maxHeartbeats 4000000 in
theorem wtWordsL (ws : List ByteArray) (a1 a2 : Option Addr) (c1 c2 : Nat) (W : World) (h1 : Raw W [.row 9 [.s]] [.row ws.length (txD ws)] [.slice a1 ws.length c1]) (h2 : Raw W [.row 9 [.s]] [.row ws.length (txD ws)] [.slice a2 ws.length c2]) (hl : ws.length ≤ 100000) :
    Calls Try.prog 7 #[.slice a1 ws.length c1, .slice a2 ws.length c2] W fun e W' => e = .returned (.bool true) ∧ Below W.heap.size W W' := by
  have H1 := uh h1
  have H2 := uh h2
  clear h1 h2
  obtain ⟨n, hn⟩ : ∃ n, n = ws.length := ⟨_, rfl⟩
  have HN := uh hn
  rw [← hn] at hl ⊢
  have d0 : ((n : Int) != (n : Int)) = false := by simp
  clear hn
  go_enter Try.func7, Try.ntmps7
  go_wp2
  go_loopw [5] (fun i wr => ∃ k : Nat, k ≤ n ∧ i = .int .i64 k ∧ Hid (Below W.heap.size W wr)) (fun i _ => n - (intOf i).toNat)
  case atStart => exact ⟨0, Nat.zero_le _, rfl, Below.refl _ _⟩
  case round =>
    obtain ⟨k, hk, rfl, HB⟩ := hrel
    by_cases hlt : k < n
    · obtain ⟨p1, o1, e1, hp1, hc1⟩ := tx_cell (H1.out.later HB.out) (k := k) (by have := HN.out; omega)
      obtain ⟨p2, o2, e2, hp2, hc2⟩ := tx_cell (H2.out.later HB.out) (k := k) (by have := HN.out; omega)
      subst e1; subst e2
      obtain ⟨x, hx⟩ : ∃ x, x = ws.getD k ⟨#[]⟩ := ⟨_, rfl⟩
      rw [← hx] at hc1 hc2
      clear hx
      have hk0 : (0 : Int) ≤ (k : Int) := by omega
      have hkn : (k : Int) < (n : Int) := by omega
      have hd1 : (wr.drew).cell? ⟨p1, o1 + k, none⟩ = some (.string x) := hc1
      have hd2 : (wr.drew).cell? ⟨p2, o2 + k, none⟩ = some (.string x) := hc2
      have hxx : (x.toList == x.toList) = true := by simp
      go_wp2
      go_region
      all_goals go_wp2
      all_goals go_roundw
      all_goals first
        | (case rel => exact ⟨k + 1, by omega, by go_num, Below.drew HB.out⟩)
        | (case measure => simp [intOf]; omega)
    · obtain rfl : k = n := by omega
      go_wp2
      go_ret
      exact ⟨rfl, HB.out⟩

end Go.Proofs.Ytfhobegepiijhaa
