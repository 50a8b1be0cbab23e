/-
  Walks: the row of a shape's fields.
-/
import Derived.Test.YtliaibdbcaglnaaGreatWalkMH
namespace Go.Proofs.YtliaibdbcaglnaaGreat
open Go.RowKit Go.Deep

set_option maxRecDepth 8000 in
set_option maxHeartbeats 2000000 in
theorem mendRowI (K : ByteArray) (n : Nat) (af : Option Addr) (cf : Nat) (a : Option Addr) (q c : Nat) (L : List Mng) (w : World) (hn : n ≤ 1048576) (h : MngsAt w (.slice a q c) L) (hl : L.length ≤ 12) (h2 : ∀ x ∈ L, x.needs.length ≤ 2) :
    Calls Tryz.prog 65 #[.agg #[.string K, .slice af n cf], .slice a q c] w fun e w' => (∃ a k d, e = .returned (.tuple #[.slice a k d, .bool (rowOk (rdOf L) n)]) ∧ (rowOk (rdOf L) n = true → IntsAt w' (.slice a k d) (rowG (rdOf L) n n))) ∧ Below w.heap.size w w' := by
  have HH : Hid (MngsAt w (.slice a q c) L ∧ L.length ≤ 12 ∧ ∀ x ∈ L, x.needs.length ≤ 2) := ⟨h, hl, h2⟩
  have hmk := make_ints n hn
  clear h hl h2
  go_enter Tryz.func65, Tryz.ntmps65
  go_wp2
  obtain ⟨wb, hwb⟩ : ∃ wb, wb = (w.alloc (.cells #[.string K, .slice af n cf] 96)).alloc (.cells #[.slice a q c] 110) := ⟨_, rfl⟩
  have hsb : wb.heap.size = w.heap.size + 1 + 1 := by rw [hwb]; simp
  have HB0 : Hid (Below w.heap.size w wb) := by show Below _ _ _; rw [hwb]; exact blw_alloc (blw_alloc (Below.refl _ _) _) _
  have HC0 : Hid (wb.cell? ⟨w.heap.size + 1, 0, none⟩ = some (.slice a q c)) := by show wb.cell? _ = _; rw [hwb]; simp
  rw [← hsb, ← hwb]
  have HSB : Hid (wb.heap.size = w.heap.size + 1 + 1) := hsb
  clear hwb hsb
  go_loopw [14] (fun i wr => ∃ (k : Nat) (cs : Array Value), k ≤ n ∧ i = .int .i64 k ∧ wr = wb.alloc (.cells cs 3) ∧ cs.size = n ∧ ∀ j, j < k → cs[j]? = some (.int .i64 (j : Nat))) (fun i _ => n - (intOf i).toNat)
  case atStart => exact ⟨0, _, Nat.zero_le _, rfl, rfl, size_madeCells _ _, fun j hj => absurd hj (Nat.not_lt_zero j)⟩
  case round =>
    obtain ⟨k, cs, hk, rfl, rfl, hsz, hall⟩ := hrel
    have HA : Hid (cs.size = n ∧ ∀ j, j < k → cs[j]? = some (.int .i64 (j : Nat))) := ⟨hsz, hall⟩
    clear hall hsz hmk
    by_cases hlt : k < n
    · obtain ⟨v, hv⟩ : ∃ v, cs[k]? = some v := ⟨_, Array.getElem?_eq_getElem (by rw [HA.out.1]; exact hlt)⟩
      have HP := put_ints cs n k HA.out.1 hlt HA.out.2
      have HP' : Hid ((cs.setIfInBounds k (.int .i64 (k : Nat))).size = n ∧ ∀ j, j < k + 1 → (cs.setIfInBounds k (.int .i64 (k : Nat)))[j]? = some (.int .i64 (j : Nat))) := HP
      clear HP
      go_wp2
      go_roundw
      case rel => exact ⟨k + 1, _, by omega, by go_num, rfl, HP'.out.1, HP'.out.2⟩
      case measure => simp [intOf]; omega
    · obtain rfl : k = n := by omega
      have hB1 : Below w.heap.size w (wb.alloc (.cells cs 3)) := blw_alloc HB0.out _
      have HX : Hid (Calls Tryz.prog 122 #[.slice (some ⟨wb.heap.size, 0, none⟩) k k, .func (.func 123) #[] #[.pointer (some ⟨w.heap.size + 1, 0, none⟩)]] (wb.alloc (.cells cs 3)) fun e w' => (∃ a j d, e = .returned (.tuple #[.slice a j d, .bool (rowOk (rdOf L) k)]) ∧ (rowOk (rdOf L) k = true → IntsAt w' (.slice a j d) (rowG (rdOf L) k k))) ∧ Below (wb.alloc (.cells cs 3)).heap.size (wb.alloc (.cells cs 3)) w') := by
        refine rowI wb.heap.size k (w.heap.size + 1) k (rdOf L) (wb.alloc (.cells cs 3)) hn (by simp) (fun i hi => ?_) (fun x W _ hW => ?_)
        · rw [World.cell?_alloc_new]; exact HA.out.2 i hi
        have hbw : Below wb.heap.size wb W := blw_trans (blw_alloc (Below.refl _ _) _) hW
        exact readsI (w.heap.size + 1) x (.slice a q c) L W ((hbw.cell (p := ⟨w.heap.size + 1, 0, none⟩) (by have := HSB.out; show w.heap.size + 1 < _; omega)).trans HC0.out) (HH.out.1.later (blw_trans HB0.out hbw)) HH.out.2.1 HH.out.2.2
      go_wp2_with fail
      refine HX.out.mono ?_
      rintro e w3 ⟨⟨a3, k3, d3, rfl, hi3⟩, hb3⟩
      have hB3 := blw_trans hB1 hb3
      have HI3 : Hid (rowOk (rdOf L) k = true → IntsAt w3 (.slice a3 k3 d3) (rowG (rdOf L) k k)) := hi3
      obtain ⟨R, hR⟩ : ∃ R, R = rowOk (rdOf L) k := ⟨_, rfl⟩
      rw [← hR] at HI3 ⊢
      have HRR : Hid (R = rowOk (rdOf L) k) := hR
      clear hb3 hi3 hR
      go_wp2
      go_ret2
      exact ⟨⟨a3, k3, d3, by rw [← HRR.out]; rfl, by rw [← HRR.out]; exact HI3.out⟩, hB3⟩

end Go.Proofs.YtliaibdbcaglnaaGreat
