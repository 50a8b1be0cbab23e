/-
  Walks: the marks of fields and shapes.
-/
import Derived.Test.YthilfmlfmnoikaaWalkAA
import Derived.Test.YthilfmlfmnoikaaSums
namespace Go.Proofs.Ythilfmlfmnoikaa
open Go.RowKit Go.Deep

theorem Marks.set {S : Nat → Prop} {w0 w : World} (h : Marks S w0 w) {b m : Nat} (ho : OwnBlk w0 b 61 m) (hS : S b) (o : Nat) (v : Value) (h27 : o % 11 ≠ 4) : Marks S w0 (w.setCell ⟨b, o, none⟩ v) :=
  h.trans (Marks.sc (h.own _ _ _ ho) hS o v (fun _ => h27) (fun e => absurd e (by decide)))
theorem Marks.set66 {S : Nat → Prop} {w0 w : World} (h : Marks S w0 w) {b m : Nat} (ho : OwnBlk w0 b 47 m) (hS : S b) (o : Nat) (v : Value) (h66 : o % 2 ≠ 1) : Marks S w0 (w.setCell ⟨b, o, none⟩ v) :=
  h.trans (Marks.sc (h.own _ _ _ ho) hS o v (fun e => absurd e (by decide)) (fun _ => h66))
theorem Marks.bel {S : Nat → Prop} {w0 w w' : World} (h : Marks S w0 w) (hb : Below w.heap.size w w') : Marks S w0 w' := h.trans (Marks.of_below S hb)

set_option maxRecDepth 100000 in
set_option maxHeartbeats 4000000 in
theorem markFields (S : Nat → Prop) (v : Value) (k : Nat) (w : World) (h : FldsSk w S v) (hk : k ≤ 2000000000000000000) (h1 : 1 ≤ k) :
    Calls Try.prog 28 #[v, .int .i64 (k : Int)] w fun e w' => (∃ q : Nat, e = .returned (.int .i64 (q : Int)) ∧ k ≤ q ∧ q ≤ fTop k) ∧ Marks S w w' := by
  have HH : Hid (FldsSk w S v) := h
  obtain ⟨b, n, rfl, hS, hn, _, _⟩ := h
  have HS : Hid (S b) := hS
  clear hS
  go_enter Try.func28, Try.ntmps28
  go_wp2
  go_loopw [1, 5] (fun kk i wr => ∃ (q kq : Nat), q ≤ n ∧ i = .int .i64 (q : Int) ∧ kk = .int .i64 (kq : Int) ∧ k ≤ kq ∧ kq ≤ fB k q ∧ Marks S w wr) (fun _ i _ => n - (intOf i).toNat)
  case atStart => exact ⟨0, k, Nat.zero_le _, rfl, rfl, Nat.le_refl _, by rw [fB_zero]; exact Nat.le_refl _, Marks.refl _ _⟩
  case round =>
    obtain ⟨q, kq, hq, rfl, rfl, hk1, hk2, hM⟩ := hrel
    have HM : Hid (Marks S w wr) := hM
    have HB : Hid (kq ≤ fB k q) := hk2
    have hks : kq ≤ 2100000000000000000 := fB_small hk2 hk (by omega)
    clear hM hk2
    by_cases hlt : q < n
    · have HF : Hid (FldsSk wr S (.slice (some ⟨b, 0, none⟩) n n)) := HH.out.marks HM.out
      have HW : Hid (OwnBlk wr b 61 (n * 11) ∧ ∃ v', wr.cell? ⟨b, q * 11 + 4, none⟩ = some v' ∧ TxSk wr S v') := by
        obtain ⟨b', n', e, _, _, h3, h4⟩ := HF.out
        injection e with e1 e2 e3
        injection e1 with e1
        injection e1 with e1 _ _
        subst e1 e2
        exact ⟨h3, h4 q hlt⟩
      obtain ⟨v', hv', ht'⟩ := HW.out.2
      have HT : Hid (TxSk wr S v') := ht'
      clear ht'
      go_wp2_with fail
      refine (markText kq wr (by omega) (by omega)).mono ?_
      rintro e w2 ⟨rfl, hb2⟩
      have HM2 : Hid (Marks S wr w2) := Marks.of_below S hb2
      have hv2 : w2.cell? ⟨b, q * 11 + 4, none⟩ = some v' := (hb2.cell (p := ⟨b, q * 11 + 4, none⟩) HW.out.1.lt).trans hv'
      have hO2 := HM2.out.own b 61 _ HW.out.1
      have hfz2 := hO2.frozen
      obtain ⟨x2_0, hx2_0⟩ := hO2.cell (q * 11) (by omega)
      obtain ⟨x2_1, hx2_1⟩ := hO2.cell (q * 11 + 1) (by omega)
      obtain ⟨x2_2, hx2_2⟩ := hO2.cell (q * 11 + 2) (by omega)
      obtain ⟨x2_3, hx2_3⟩ := hO2.cell (q * 11 + 3) (by omega)
      obtain ⟨x2_5, hx2_5⟩ := hO2.cell (q * 11 + 5) (by omega)
      obtain ⟨x2_6, hx2_6⟩ := hO2.cell (q * 11 + 6) (by omega)
      obtain ⟨x2_7, hx2_7⟩ := hO2.cell (q * 11 + 7) (by omega)
      obtain ⟨x2_8, hx2_8⟩ := hO2.cell (q * 11 + 8) (by omega)
      obtain ⟨x2_9, hx2_9⟩ := hO2.cell (q * 11 + 9) (by omega)
      obtain ⟨x2_10, hx2_10⟩ := hO2.cell (q * 11 + 10) (by omega)
      clear hb2 hO2 hv'
      go_wp2_with fail
      rw [show ((kq : Int) + 1 + 1 + 1 + 1) = ((kq + 4 : Nat) : Int) from by omega]
      refine (markTexts S v' (kq + 4) _ ?_ (by omega) (by omega)).mono ?_
      · exact HT.out.marks (by repeat (first | exact HM2.out | refine Marks.set ?_ HW.out.1 HS.out _ _ (by omega)))
      rintro e w3 ⟨⟨k3, rfl, hk3, hk4⟩, hm3⟩
      have HM3 : Hid (Marks S wr w3) := by
        refine Marks.trans ?_ hm3
        repeat (first | exact HM2.out | refine Marks.set ?_ HW.out.1 HS.out _ _ (by omega))
      have hO3 := HM3.out.own b 61 _ HW.out.1
      have hfz3 := hO3.frozen
      obtain ⟨x3_0, hx3_0⟩ := hO3.cell (q * 11) (by omega)
      obtain ⟨x3_1, hx3_1⟩ := hO3.cell (q * 11 + 1) (by omega)
      obtain ⟨x3_2, hx3_2⟩ := hO3.cell (q * 11 + 2) (by omega)
      obtain ⟨x3_3, hx3_3⟩ := hO3.cell (q * 11 + 3) (by omega)
      obtain ⟨x3_5, hx3_5⟩ := hO3.cell (q * 11 + 5) (by omega)
      obtain ⟨x3_6, hx3_6⟩ := hO3.cell (q * 11 + 6) (by omega)
      obtain ⟨x3_7, hx3_7⟩ := hO3.cell (q * 11 + 7) (by omega)
      obtain ⟨x3_8, hx3_8⟩ := hO3.cell (q * 11 + 8) (by omega)
      obtain ⟨x3_9, hx3_9⟩ := hO3.cell (q * 11 + 9) (by omega)
      obtain ⟨x3_10, hx3_10⟩ := hO3.cell (q * 11 + 10) (by omega)
      clear hm3 hO3 hv2
      clear hfz2 hx2_0 hx2_1 hx2_2 hx2_3 hx2_5 hx2_6 hx2_7 hx2_8 hx2_9 hx2_10
      go_wp2_with fail
      refine (markText k3 _ (by omega) (by omega)).mono ?_
      rintro e w4 ⟨rfl, hb4⟩
      have HM4 : Hid (Marks S wr w4) := HM3.out.bel hb4
      have hO4 := HM4.out.own b 61 _ HW.out.1
      have hfz4 := hO4.frozen
      obtain ⟨x4_0, hx4_0⟩ := hO4.cell (q * 11) (by omega)
      obtain ⟨x4_1, hx4_1⟩ := hO4.cell (q * 11 + 1) (by omega)
      obtain ⟨x4_2, hx4_2⟩ := hO4.cell (q * 11 + 2) (by omega)
      obtain ⟨x4_3, hx4_3⟩ := hO4.cell (q * 11 + 3) (by omega)
      obtain ⟨x4_5, hx4_5⟩ := hO4.cell (q * 11 + 5) (by omega)
      obtain ⟨x4_6, hx4_6⟩ := hO4.cell (q * 11 + 6) (by omega)
      obtain ⟨x4_7, hx4_7⟩ := hO4.cell (q * 11 + 7) (by omega)
      obtain ⟨x4_8, hx4_8⟩ := hO4.cell (q * 11 + 8) (by omega)
      obtain ⟨x4_9, hx4_9⟩ := hO4.cell (q * 11 + 9) (by omega)
      obtain ⟨x4_10, hx4_10⟩ := hO4.cell (q * 11 + 10) (by omega)
      clear hb4 hO4
      clear hfz3 hx3_0 hx3_1 hx3_2 hx3_3 hx3_5 hx3_6 hx3_7 hx3_8 hx3_9 hx3_10
      go_wp2_with fail
      rw [show ((k3 : Int) + 1 + 1 + 1 + 1) = ((k3 + 4 : Nat) : Int) from by omega]
      refine (markText (k3 + 4) _ (by omega) (by omega)).mono ?_
      rintro e w5 ⟨rfl, hb5⟩
      have HM5 : Hid (Marks S wr w5) := by
        refine Marks.bel ?_ hb5
        repeat (first | exact HM4.out | refine Marks.set ?_ HW.out.1 HS.out _ _ (by omega))
      have hO5 := HM5.out.own b 61 _ HW.out.1
      have hfz5 := hO5.frozen
      obtain ⟨x5_0, hx5_0⟩ := hO5.cell (q * 11) (by omega)
      obtain ⟨x5_1, hx5_1⟩ := hO5.cell (q * 11 + 1) (by omega)
      obtain ⟨x5_2, hx5_2⟩ := hO5.cell (q * 11 + 2) (by omega)
      obtain ⟨x5_3, hx5_3⟩ := hO5.cell (q * 11 + 3) (by omega)
      obtain ⟨x5_5, hx5_5⟩ := hO5.cell (q * 11 + 5) (by omega)
      obtain ⟨x5_6, hx5_6⟩ := hO5.cell (q * 11 + 6) (by omega)
      obtain ⟨x5_7, hx5_7⟩ := hO5.cell (q * 11 + 7) (by omega)
      obtain ⟨x5_8, hx5_8⟩ := hO5.cell (q * 11 + 8) (by omega)
      obtain ⟨x5_9, hx5_9⟩ := hO5.cell (q * 11 + 9) (by omega)
      obtain ⟨x5_10, hx5_10⟩ := hO5.cell (q * 11 + 10) (by omega)
      clear hb5 hO5
      clear hfz4 hx4_0 hx4_1 hx4_2 hx4_3 hx4_5 hx4_6 hx4_7 hx4_8 hx4_9 hx4_10
      go_wp2_with fail
      rw [show ((k3 : Int) + 4 + 1) = ((k3 + 5 : Nat) : Int) from by omega]
      refine (markText (k3 + 5) _ (by omega) (by omega)).mono ?_
      rintro e w6 ⟨rfl, hb6⟩
      have HM6 : Hid (Marks S wr w6) := by
        refine Marks.bel ?_ hb6
        repeat (first | exact HM5.out | refine Marks.set ?_ HW.out.1 HS.out _ _ (by omega))
      have hO6 := HM6.out.own b 61 _ HW.out.1
      have hfz6 := hO6.frozen
      obtain ⟨x6_0, hx6_0⟩ := hO6.cell (q * 11) (by omega)
      obtain ⟨x6_1, hx6_1⟩ := hO6.cell (q * 11 + 1) (by omega)
      obtain ⟨x6_2, hx6_2⟩ := hO6.cell (q * 11 + 2) (by omega)
      obtain ⟨x6_3, hx6_3⟩ := hO6.cell (q * 11 + 3) (by omega)
      obtain ⟨x6_5, hx6_5⟩ := hO6.cell (q * 11 + 5) (by omega)
      obtain ⟨x6_6, hx6_6⟩ := hO6.cell (q * 11 + 6) (by omega)
      obtain ⟨x6_7, hx6_7⟩ := hO6.cell (q * 11 + 7) (by omega)
      obtain ⟨x6_8, hx6_8⟩ := hO6.cell (q * 11 + 8) (by omega)
      obtain ⟨x6_9, hx6_9⟩ := hO6.cell (q * 11 + 9) (by omega)
      obtain ⟨x6_10, hx6_10⟩ := hO6.cell (q * 11 + 10) (by omega)
      clear hb6 hO6
      clear hfz5 hx5_0 hx5_1 hx5_2 hx5_3 hx5_5 hx5_6 hx5_7 hx5_8 hx5_9 hx5_10
      go_wp2
      go_roundw
      case rel =>
        refine ⟨q + 1, k3 + 6, by omega, by go_num, by go_num, by omega, fB_step HB.out (by omega), HM.out.trans ?_⟩
        repeat (first | exact HM6.out | refine Marks.set ?_ HW.out.1 HS.out _ _ (by omega))
      case measure => simp [intOf]; omega
    · obtain rfl : q = n := by omega
      go_wp2
      go_ret
      exact ⟨⟨kq, rfl, hk1, fB_top HB.out hn⟩, HM.out⟩

set_option maxHeartbeats 4000000 in
theorem markShapes (S : Nat → Prop) (B n : Nat) (k : Nat) (w : World) (h : ShpsSk w S B n) (hk : k ≤ 1048576) (h1 : 1 ≤ k) :
    Calls Try.prog 12 #[.slice (some ⟨B, 0, none⟩) n n, .int .i64 (k : Int)] w fun e w' => (∃ q : Nat, e = .returned (.int .i64 (q : Int)) ∧ k ≤ q ∧ q ≤ sTop k) ∧ Marks S w w' := by
  have HH : Hid (ShpsSk w S B n) := h
  have hn := h.2.1
  have HS : Hid (S B) := h.1
  clear h
  go_enter Try.func12, Try.ntmps12
  go_wp2
  go_loopw [1, 5] (fun kk i wr => ∃ (q kq : Nat), q ≤ n ∧ i = .int .i64 (q : Int) ∧ kk = .int .i64 (kq : Int) ∧ k ≤ kq ∧ kq ≤ sB k q ∧ Marks S w wr) (fun _ i _ => n - (intOf i).toNat)
  case atStart => exact ⟨0, k, Nat.zero_le _, rfl, rfl, Nat.le_refl _, by rw [sB_zero]; exact Nat.le_refl _, Marks.refl _ _⟩
  case round =>
    obtain ⟨q, kq, hq, rfl, rfl, hk1, hk2, hM⟩ := hrel
    have HM : Hid (Marks S w wr) := hM
    have HB : Hid (kq ≤ sB k q) := hk2
    have hks : kq ≤ 1200000000000000000 := sB_small hk2 hk (by omega)
    clear hM hk2
    by_cases hlt : q < n
    · have HF : Hid (ShpsSk wr S B n) := HH.out.marks HM.out
      obtain ⟨v', hv', hf'⟩ := HF.out.2.2.2 q hlt
      have HT : Hid (FldsSk wr S v') := hf'
      have HW : Hid (OwnBlk wr B 47 (n * 2)) := HF.out.2.2.1
      obtain ⟨a1, n1, c1, rfl⟩ : ∃ a n c, v' = .slice a n c := by obtain ⟨b, m, e, _⟩ := hf'; exact ⟨_, _, _, e⟩
      clear hf'
      go_wp2_with fail
      refine (markText kq wr (by omega) (by omega)).mono ?_
      rintro e w2 ⟨rfl, hb2⟩
      have HM2 : Hid (Marks S wr w2) := Marks.of_below S hb2
      have hv2 : w2.cell? ⟨B, q * 2 + 1, none⟩ = some (.slice a1 n1 c1) := (hb2.cell (p := ⟨B, q * 2 + 1, none⟩) HW.out.lt).trans hv'
      have hO2 := HM2.out.own B 47 _ HW.out
      have hfz2 := hO2.frozen
      obtain ⟨x2, hx2⟩ := hO2.cell (q * 2) (by omega)
      clear hb2 hO2 hv'
      go_wp2_with fail
      rw [show ((kq : Int) + 1) = ((kq + 1 : Nat) : Int) from by omega]
      refine (markFields S _ (kq + 1) _ ?_ (by omega) (by omega)).mono ?_
      · exact HT.out.marks (Marks.set66 HM2.out HW.out HS.out _ _ (by omega))
      rintro e w3 ⟨⟨k3, rfl, hk3, hk4⟩, hm3⟩
      have HB3 : Hid (k3 ≤ sB k (q + 1)) := sB_step HB.out hk4
      clear hk4
      have HM3 : Hid (Marks S wr w3) := (Marks.set66 HM2.out HW.out HS.out _ _ (by omega)).trans hm3
      clear hm3 hv2 hx2 hfz2
      go_wp2
      go_roundw
      case rel => exact ⟨q + 1, k3, by omega, by go_num, rfl, by omega, HB3.out, HM.out.trans HM3.out⟩
      case measure => simp [intOf]; omega
    · obtain rfl : q = n := by omega
      go_wp2
      go_ret
      exact ⟨⟨kq, rfl, hk1, sB_top HB.out hn⟩, HM.out⟩

end Go.Proofs.Ythilfmlfmnoikaa
