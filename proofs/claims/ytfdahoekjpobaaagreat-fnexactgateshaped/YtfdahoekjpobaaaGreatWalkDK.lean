/-
  Mends: copies with the block they lie in; marks.
-/
import Derived.Deep.DeepCutAuto
import Derived.Test.YtfdahoekjpobaaaGreatWalkMB
import Derived.Test.YtfdahoekjpobaaaGreatWalkAB
namespace Go.Proofs.YtfdahoekjpobaaaGreat
open Go.RowKit Go.Deep

theorem toMendsO (v : Value) (ms : List Mnd) (w : World) (hl : ms.length ≤ 1048576) (h : MndsAt w v ms) :
    Calls Tryz.prog 9 #[v] w fun e w' => e = .returned (.slice (some ⟨w.heap.size, 0, none⟩) ms.length ms.length) ∧ Below w.heap.size w w' ∧ MndsIn w' w.heap.size ms ∧ OwnBlk w' w.heap.size 58 (ms.length * 6) := by
  rcases h with ⟨a, cap, rfl, rfl⟩ | ⟨b, off, cap, rfl, hb, _, hc⟩
  · refine (toMends_nil a cap w).mono ?_
    rintro e w' ⟨rfl, cs, hcs, rfl⟩
    exact ⟨rfl, blw_alloc (Below.refl _ _) _, ⟨by simp, by simp, fun i hi => absurd hi (Nat.not_lt_zero i)⟩, OwnBlk.alloc w cs _ _ (by simpa using hcs)⟩
  · refine (toMends_row b off cap ms w hl hb hc).mono ?_
    rintro e w' ⟨rfl, h1, h2, h3⟩
    exact ⟨rfl, h1, ⟨h2.lt, hl, h3⟩, h2⟩

set_option maxRecDepth 8000 in
set_option maxHeartbeats 8000000 in
theorem markMends (S : Nat → Prop) (B n : Nat) (k : Nat) (w : World) (hS : S B) (hn : n ≤ 1048576) (hO : OwnBlk w B 58 (n * 6)) (hk : k ≤ 1500000000000000000) (h1 : 1 ≤ k) :
    Calls Tryz.prog 16 #[.slice (some ⟨B, 0, none⟩) n n, .int .i64 (k : Int)] w fun e w' => (∃ q : Nat, e = .returned (.int .i64 (q : Int)) ∧ k ≤ q ∧ q ≤ k + n * 6) ∧ Marks S w w' := by
  have HO : Hid (OwnBlk w B 58 (n * 6) ∧ S B) := ⟨hO, hS⟩
  clear hO hS
  go_enter Tryz.func16, Tryz.ntmps16
  go_wp2
  go_loopw [1, 5] (fun kk i wr => ∃ (q kq : Nat), q ≤ n ∧ i = .int .i64 (q : Int) ∧ kk = .int .i64 (kq : Int) ∧ kq = k + q * 6 ∧ Marks S w wr) (fun _ i _ => n - (intOf i).toNat)
  case atStart => exact ⟨0, k, Nat.zero_le _, rfl, rfl, by omega, Marks.refl _ _⟩
  case round =>
    obtain ⟨q, kq, hq, rfl, rfl, hkq, hM⟩ := hrel
    have HM : Hid (Marks S w wr) := hM
    have HKQ : Hid (kq = k + q * 6) := hkq
    have hks : kq ≤ 1500000000007000000 := by omega
    have hk1 : 1 ≤ kq := by omega
    clear hM hkq
    by_cases hlt : q < n
    · have HW : Hid (OwnBlk wr B 58 (n * 6)) := HM.out.own _ _ _ HO.out.1
      go_wp2_with fail
      refine (markText kq _ (by omega) (by omega)).mono ?_
      rintro e w0 ⟨rfl, hb⟩
      have HA0 : Hid (Marks S wr w0) := (Marks.refl S wr).trans (Marks.of_below S hb)
      have hO := HA0.out.own _ _ _ HW.out
      have HB0 : Hid (Marks S wr (w0.setCell ⟨B, q * 6, none⟩ (.string (mt kq)))) := HA0.out.trans (Marks.sc hO HO.out.2 _ _ (fun e => absurd e (by decide)) (fun e => absurd e (by decide)))
      have hfz := hO.frozen
      have hz := hO.lt
      obtain ⟨x, hx⟩ := hO.cell (q * 6) (by omega)
      clear hb hO
      go_upto_region 5 with fail
      clear hfz hz hx x
      go_wp2_with fail
      first | rw [show ((kq : Int) + 0 + 1) = ((kq + 1 : Nat) : Int) from by omega] | rw [show ((kq : Int) + 1) = ((kq + 1 : Nat) : Int) from by omega]
      refine (markText (kq + 1) _ (by omega) (by omega)).mono ?_
      rintro e w1 ⟨rfl, hb⟩
      have HA1 : Hid (Marks S wr w1) := HB0.out.trans (Marks.of_below S hb)
      have hO := HA1.out.own _ _ _ HW.out
      have HB1 : Hid (Marks S wr (w1.setCell ⟨B, q * 6 + 1, none⟩ (.string (mt (kq + 1))))) := HA1.out.trans (Marks.sc hO HO.out.2 _ _ (fun e => absurd e (by decide)) (fun e => absurd e (by decide)))
      have hfz := hO.frozen
      have hz := hO.lt
      obtain ⟨x, hx⟩ := hO.cell (q * 6 + 1) (by omega)
      clear hb hO
      go_upto_region 7 with fail
      clear hfz hz hx x
      go_wp2_with fail
      first | rw [show ((kq : Int) + 1 + 1) = ((kq + 2 : Nat) : Int) from by omega] | rw [show ((kq : Int) + 1 + 1) = ((kq + 2 : Nat) : Int) from by omega]
      refine (markText (kq + 2) _ (by omega) (by omega)).mono ?_
      rintro e w2 ⟨rfl, hb⟩
      have HA2 : Hid (Marks S wr w2) := HB1.out.trans (Marks.of_below S hb)
      have hO := HA2.out.own _ _ _ HW.out
      have HB2 : Hid (Marks S wr (w2.setCell ⟨B, q * 6 + 2, none⟩ (.string (mt (kq + 2))))) := HA2.out.trans (Marks.sc hO HO.out.2 _ _ (fun e => absurd e (by decide)) (fun e => absurd e (by decide)))
      have hfz := hO.frozen
      have hz := hO.lt
      obtain ⟨x, hx⟩ := hO.cell (q * 6 + 2) (by omega)
      clear hb hO
      go_upto_region 9 with fail
      clear hfz hz hx x
      go_wp2_with fail
      first | rw [show ((kq : Int) + 2 + 1) = ((kq + 3 : Nat) : Int) from by omega] | rw [show ((kq : Int) + 1 + 1 + 1) = ((kq + 3 : Nat) : Int) from by omega]
      refine (markText (kq + 3) _ (by omega) (by omega)).mono ?_
      rintro e w3 ⟨rfl, hb⟩
      have HA3 : Hid (Marks S wr w3) := HB2.out.trans (Marks.of_below S hb)
      have hO := HA3.out.own _ _ _ HW.out
      have HB3 : Hid (Marks S wr (w3.setCell ⟨B, q * 6 + 3, none⟩ (.string (mt (kq + 3))))) := HA3.out.trans (Marks.sc hO HO.out.2 _ _ (fun e => absurd e (by decide)) (fun e => absurd e (by decide)))
      have hfz := hO.frozen
      have hz := hO.lt
      obtain ⟨x, hx⟩ := hO.cell (q * 6 + 3) (by omega)
      clear hb hO
      go_upto_region 11 with fail
      clear hfz hz hx x
      go_wp2_with fail
      first | rw [show ((kq : Int) + 3 + 1) = ((kq + 4 : Nat) : Int) from by omega] | rw [show ((kq : Int) + 1 + 1 + 1 + 1) = ((kq + 4 : Nat) : Int) from by omega]
      refine (markText (kq + 4) _ (by omega) (by omega)).mono ?_
      rintro e w4 ⟨rfl, hb⟩
      have HA4 : Hid (Marks S wr w4) := HB3.out.trans (Marks.of_below S hb)
      have hO := HA4.out.own _ _ _ HW.out
      have HB4 : Hid (Marks S wr (w4.setCell ⟨B, q * 6 + 4, none⟩ (.string (mt (kq + 4))))) := HA4.out.trans (Marks.sc hO HO.out.2 _ _ (fun e => absurd e (by decide)) (fun e => absurd e (by decide)))
      have hfz := hO.frozen
      have hz := hO.lt
      obtain ⟨x, hx⟩ := hO.cell (q * 6 + 4) (by omega)
      clear hb hO
      go_upto_region 13 with fail
      clear hfz hz hx x
      go_wp2_with fail
      first | rw [show ((kq : Int) + 4 + 1) = ((kq + 5 : Nat) : Int) from by omega] | rw [show ((kq : Int) + 1 + 1 + 1 + 1 + 1) = ((kq + 5 : Nat) : Int) from by omega]
      refine (markText (kq + 5) _ (by omega) (by omega)).mono ?_
      rintro e w5 ⟨rfl, hb⟩
      have HA5 : Hid (Marks S wr w5) := HB4.out.trans (Marks.of_below S hb)
      have hO := HA5.out.own _ _ _ HW.out
      have HB5 : Hid (Marks S wr (w5.setCell ⟨B, q * 6 + 5, none⟩ (.string (mt (kq + 5))))) := HA5.out.trans (Marks.sc hO HO.out.2 _ _ (fun e => absurd e (by decide)) (fun e => absurd e (by decide)))
      have hfz := hO.frozen
      have hz := hO.lt
      obtain ⟨x, hx⟩ := hO.cell (q * 6 + 5) (by omega)
      clear hb hO
      go_wp2
      go_roundw
      case rel => exact ⟨q + 1, kq + 6, by omega, by go_num, by go_num, by have := HKQ.out; omega, HM.out.trans HB5.out⟩
      case measure => simp [intOf]; omega
    · obtain rfl : q = n := by omega
      go_wp2
      go_ret
      exact ⟨⟨kq, rfl, by have := HKQ.out; omega, by have := HKQ.out; omega⟩, HM.out⟩

end Go.Proofs.YtfdahoekjpobaaaGreat
