/-
  Walks over copies of shapes.
-/
import Derived.Test.YthilfmlfmnoikaaWalkN
namespace Go.Proofs.Ythilfmlfmnoikaa
open Go.RowKit Go.Deep

set_option maxHeartbeats 1000000 in
theorem toShapes_row (b off cap : Nat) (ss : List Shp) (w : World) (hl : ss.length ≤ 1048576) (hsm : ∀ s ∈ ss, s.small) (hb : b < w.heap.size)
    (hc : ∀ i, i < ss.length → ∃ x, ShpIs w b (off + i * 2) (ss.getD i Shp.none) x) :
    Calls Try.prog 7 #[.slice (some ⟨b, off, none⟩) ss.length cap] w fun e w' => e = .returned (.slice (some ⟨w.heap.size, 0, none⟩) ss.length ss.length) ∧ Below w.heap.size w w' ∧ OwnBlk w' w.heap.size 47 (ss.length * 2) ∧
      ∀ i, i < ss.length → OwnShp w' w.heap.size (i * 2) (ss.getD i Shp.none) := by
  obtain ⟨cs, hcs, hmk⟩ := make_shps ss.length hl
  go_enter Try.func7, Try.ntmps7
  go_wp2
  go_loopw [4] (fun i wr => ∃ k : Nat, k ≤ ss.length ∧ i = .int .i64 k ∧ Below w.heap.size w wr ∧ OwnBlk wr w.heap.size 47 (ss.length * 2) ∧ ∀ i, i < k → OwnShp wr w.heap.size (i * 2) (ss.getD i Shp.none)) (fun i _ => ss.length - (intOf i).toNat)
  case atStart => exact ⟨0, Nat.zero_le _, rfl, blw_alloc (Below.refl _ _) _, OwnBlk.alloc w cs 47 _ hcs, fun i hi => absurd hi (Nat.not_lt_zero i)⟩
  case round =>
    obtain ⟨k, hk, rfl, hB, hO, hall⟩ := hrel
    have HA : Hid (∀ i, i < k → OwnShp wr w.heap.size (i * 2) (ss.getD i Shp.none)) := hall
    have HO : Hid (OwnBlk wr w.heap.size 47 (ss.length * 2)) := hO
    clear hall hmk hcs hO
    by_cases hlt : k < ss.length
    · obtain ⟨vs, hf⟩ := hc k hlt
      have hf' := hf.later hB hb
      obtain ⟨s, hss⟩ : ∃ s, s = ss.getD k Shp.none := ⟨_, rfl⟩
      rw [← hss] at hf'
      have hs : s.small := hsm s (by rw [hss]; simp [hlt])
      have HX : Hid (s.small ∧ FldsAt wr vs s.fields ∧ s.kind.size ≤ maxLen) := ⟨hs, hf'.fields, hf'.sized⟩
      obtain ⟨c0, c1, _, _⟩ := hf'
      have HFF : Hid (s = ss.getD k Shp.none) := hss
      clear hss hf hc hs hsm
      go_wp2_with fail
      refine (toShape s vs wr HX.out.1 HX.out.2.1).mono ?_
      rintro e w2 ⟨b2, rfl, hb2, hge, hlt2, hc2⟩
      have hB2 := blw_trans hB hb2
      have hO2 := HO.out.later hb2
      have HP : Hid (∀ v, v = [.string s.kind, .slice (some ⟨b2, 0, none⟩) s.fields.length s.fields.length] →
          Below w.heap.size w (puts w2 w.heap.size (k * 2) 0 v) ∧ OwnBlk (puts w2 w.heap.size (k * 2) 0 v) w.heap.size 47 (ss.length * 2) ∧ ∀ i, i < k + 1 → OwnShp (puts w2 w.heap.size (k * 2) 0 v) w.heap.size (i * 2) (ss.getD i Shp.none)) := by
        intro v hv
        subst hv
        refine ⟨puts_below (a := w) _ (Nat.le_refl _) _ _ _ hB2, puts_own _ _ _ _ hO2, fun i hi => ?_⟩
        by_cases hik : i < k
        · exact ((HA.out i hik).later hb2 HO.out.lt).puts (k * 2) _ (by omega)
        · obtain rfl : i = k := by omega
          rw [← HFF.out]
          have := HO.out.lt
          exact own_put_shp hO2 (i * 2) (by omega) s b2 (by omega) hge.2 hlt2 HX.out.2.2 HX.out.1.1 hc2
      clear hc2 c0 c1 HX
      have hfz := hO2.frozen
      obtain ⟨v0, o0⟩ := hO2.cell (k * 2) (by omega)
      obtain ⟨v1, o1⟩ := hO2.cell (k * 2 + 1) (by omega)
      clear hO2 hB2 hb2 hge hlt2
      go_wp2
      go_roundw
      case rel => exact ⟨k + 1, by omega, by go_num, (HP.out _ rfl).1, (HP.out _ rfl).2.1, (HP.out _ rfl).2.2⟩
      case measure => simp [intOf]; omega
    · obtain rfl : k = ss.length := by omega
      go_wp2
      go_ret
      exact ⟨rfl, hB, HO.out, HA.out⟩

set_option maxHeartbeats 400000 in
theorem toShapes_nil (a : Option Addr) (cap : Nat) (w : World) :
    Calls Try.prog 7 #[.slice a 0 cap] w fun e w' => e = .returned (.slice (some ⟨w.heap.size, 0, none⟩) 0 0) ∧ ∃ cs : Array Value, cs.size = 0 ∧ w' = w.alloc (.cells cs 47) := by
  obtain ⟨cs, hcs0, hmk0⟩ := make_shps 0 (by omega)
  have hmk : ∀ W : World, (Instr.makeSlice 30 (.int .i64 0) (.int .i64 0)).run Try.prog W = .ok (.slice (some ⟨W.heap.size, 0, none⟩) 0 0) (W.alloc (.cells cs 47)) := hmk0
  clear hmk0
  go_enter Try.func7, Try.ntmps7
  go_wp2
  refine wp_loop_rounds 1 ?_
  rw [rounds_succ]
  go_wp2
  go_ret
  exact ⟨rfl, _, by omega, rfl⟩

theorem toShapes (v : Value) (ss : List Shp) (w : World) (hl : ss.length ≤ 1048576) (hsm : ∀ s ∈ ss, s.small) (h : ShpsAt w v ss) :
    Calls Try.prog 7 #[v] w fun e w' => e = .returned (.slice (some ⟨w.heap.size, 0, none⟩) ss.length ss.length) ∧ Below w.heap.size w w' ∧ OwnBlk w' w.heap.size 47 (ss.length * 2) ∧
      ∀ i, i < ss.length → OwnShp w' w.heap.size (i * 2) (ss.getD i Shp.none) := by
  rcases h with ⟨a, cap, rfl, rfl⟩ | ⟨b, off, cap, rfl, hb, _, hc⟩
  · refine (toShapes_nil a cap w).mono ?_
    rintro e w' ⟨rfl, cs, hcs, rfl⟩
    exact ⟨rfl, blw_alloc (Below.refl _ _) _, OwnBlk.alloc w cs 47 _ (by simpa using hcs), fun i hi => absurd hi (Nat.not_lt_zero i)⟩
  · exact toShapes_row b off cap ss w hl hsm hb hc

end Go.Proofs.Ythilfmlfmnoikaa
