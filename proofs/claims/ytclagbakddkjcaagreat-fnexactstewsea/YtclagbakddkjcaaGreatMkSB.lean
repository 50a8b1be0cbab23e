/-
  Marks of a steward's book.
-/
import Derived.Test.YtclagbakddkjcaaGreatCls
import Derived.Test.YtclagbakddkjcaaGreatMkSv
import Derived.Test.YtclagbakddkjcaaGreatMemSB
namespace Go.Proofs.YtclagbakddkjcaaGreat
open Go.RowKit Go.Deep

/-- One that bears the marks from k on. -/
def CpMk (w : World) (b o k : Nat) : Prop := w.cell? ⟨b, o, none⟩ = some (.string (mt (k))) ∧ w.cell? ⟨b, o + 1, none⟩ = some (.int .i64 ((k + 1 : Nat) : Int)) ∧ w.cell? ⟨b, o + 2, none⟩ = some (.int .i64 ((k + 2 : Nat) : Int)) ∧ w.cell? ⟨b, o + 3, none⟩ = some (.int .i64 ((k + 3 : Nat) : Int)) ∧ w.cell? ⟨b, o + 4, none⟩ = some (.int .i64 ((k + 4 : Nat) : Int)) ∧ w.cell? ⟨b, o + 5, none⟩ = some (.bool (markB (k + 5))) ∧ w.cell? ⟨b, o + 6, none⟩ = some (.string (mt (k + 6)))

set_option maxRecDepth 8000 in
set_option maxHeartbeats 8000000 in
theorem markCps (b n c m k : Nat) (w : World) (hO : OwnBlk w b 81 m) (hn : n * 7 ≤ m) (hn2 : n ≤ 1048576) (hk : k ≤ 1000000000000) (h1 : 1 ≤ k) :
    Calls Tryz.prog 33 #[.slice (some ⟨b, 0, none⟩) n c, .int .i64 (k : Int)] w fun e w' => e = .returned (.int .i64 ((k + n * 7 : Nat) : Int)) ∧ Marks (fun p => p = b) w w' ∧ ∀ i, i < n → CpMk w' b (i * 7) (k + i * 7) := by
  have HO : Hid (OwnBlk w b 81 m) := hO
  clear hO
  go_enter Tryz.func33, Tryz.ntmps33
  go_wp2
  go_loopw [1, 5] (fun kk i wr => ∃ q : Nat, q ≤ n ∧ i = .int .i64 (q : Int) ∧ kk = .int .i64 ((k + q * 7 : Nat) : Int) ∧ Marks (fun p => p = b) w wr ∧ ∀ i, i < q → CpMk wr b (i * 7) (k + i * 7)) (fun _ i _ => n - (intOf i).toNat)
  case atStart => exact ⟨0, Nat.zero_le _, rfl, by simp, Marks.refl _ _, fun i hi => absurd hi (Nat.not_lt_zero i)⟩
  case round =>
    obtain ⟨q, hq, rfl, rfl, hM, hall⟩ := hrel
    have HM : Hid (Marks (fun p => p = b) w wr ∧ ∀ i, i < q → CpMk wr b (i * 7) (k + i * 7)) := ⟨hM, hall⟩
    clear hM hall
    by_cases hlt : q < n
    · obtain ⟨kq, hkq⟩ : ∃ kq : Nat, kq = k + q * 7 := ⟨_, rfl⟩
      rw [← hkq]
      have hkq1 : 1 ≤ kq := by omega
      have hkq2 : kq ≤ 1000000000000 + 1048576 * 7 := by omega
      have HK : Hid (kq = k + q * 7) := hkq
      have hm0 : (0 : Int) ≤ (q : Int) := by omega
      have hm3 : (q : Int) < (n : Int) := by omega
      clear hkq
      go_wp2_with fail
      refine (markText kq wr (by omega) (by omega)).mono ?_
      rintro e x0 ⟨rfl, hb0⟩
      have HO0 : Hid (OwnBlk x0 b 81 m) := (HM.out.1.own b 81 m HO.out).later hb0
      obtain ⟨y0, hz0⟩ : ∃ y0, y0 = ((((((((((((x0).setCell ⟨b, q * 7, none⟩ (.string (mt (kq))))).setCell ⟨b, q * 7 + 1, none⟩ (.int .i64 ((kq : Int) + 1)))).setCell ⟨b, q * 7 + 2, none⟩ (.int .i64 ((kq : Int) + 1 + 1)))).setCell ⟨b, q * 7 + 3, none⟩ (.int .i64 ((kq : Int) + 1 + 1 + 1)))).setCell ⟨b, q * 7 + 4, none⟩ (.int .i64 ((kq : Int) + 1 + 1 + 1 + 1)))).setCell ⟨b, q * 7 + 5, none⟩ (.bool (((kq : Int) + 1 + 1 + 1 + 1 + 1) % 3 == 0))) := ⟨_, rfl⟩
      have hy0 : y0 = puts x0 b (q * 7) 0 [.string (mt (kq)), .int .i64 ((kq + 1 : Nat) : Int), .int .i64 ((kq + 2 : Nat) : Int), .int .i64 ((kq + 3 : Nat) : Int), .int .i64 ((kq + 4 : Nat) : Int), .bool (markB (kq + 5))] := hz0
      have HP0 : Hid (OwnBlk y0 b 81 m ∧ Marks (fun p => p = b) wr y0) := by
        show _ ∧ _
        rw [hy0]
        exact ⟨puts_own _ _ _ _ HO0.out, (Marks.of_below _ hb0).trans (Marks.puts (S := fun p => p = b) rfl _ _ _ _)⟩
      have HC0 : Hid (∀ o', (o' < q * 7 + 0 ∨ q * 7 + 0 + 6 ≤ o') → y0.cell? ⟨b, o', none⟩ = wr.cell? ⟨b, o', none⟩) := by
        intro o' ho'
        rw [hy0, puts_other b _ b o' _ _ _ (Or.inr (by simp only [List.length_cons, List.length_nil]; omega))]
        exact hb0.cell (p := ⟨b, o', none⟩) (HM.out.1.own b 81 m HO.out).lt
      have HV0 : Hid (y0.cell? ⟨b, q * 7, none⟩ = some (.string (mt (kq))) ∧ y0.cell? ⟨b, q * 7 + 1, none⟩ = some (.int .i64 ((kq + 1 : Nat) : Int)) ∧ y0.cell? ⟨b, q * 7 + 2, none⟩ = some (.int .i64 ((kq + 2 : Nat) : Int)) ∧ y0.cell? ⟨b, q * 7 + 3, none⟩ = some (.int .i64 ((kq + 3 : Nat) : Int)) ∧ y0.cell? ⟨b, q * 7 + 4, none⟩ = some (.int .i64 ((kq + 4 : Nat) : Int)) ∧ y0.cell? ⟨b, q * 7 + 5, none⟩ = some (.bool (markB (kq + 5)))) := by
        show _ ∧ _ ∧ _ ∧ _ ∧ _ ∧ _
        rw [hy0]
        have p := fun i hi => puts_at (q * 7) [.string (mt (kq)), .int .i64 ((kq + 1 : Nat) : Int), .int .i64 ((kq + 2 : Nat) : Int), .int .i64 ((kq + 3 : Nat) : Int), .int .i64 ((kq + 4 : Nat) : Int), .bool (markB (kq + 5))] x0 0 HO0.out (by simp only [List.length_cons, List.length_nil]; omega) i hi
        exact ⟨p 0 (by simp), p 1 (by simp), p 2 (by simp), p 3 (by simp), p 4 (by simp), p 5 (by simp)⟩
      have hfz := HO0.out.frozen
      have hbz := HO0.out.lt
      obtain ⟨u0, eu0⟩ := HO0.out.cell (q * 7) (by omega)
      obtain ⟨u1, eu1⟩ := HO0.out.cell (q * 7 + 1) (by omega)
      obtain ⟨u2, eu2⟩ := HO0.out.cell (q * 7 + 2) (by omega)
      obtain ⟨u3, eu3⟩ := HO0.out.cell (q * 7 + 3) (by omega)
      obtain ⟨u4, eu4⟩ := HO0.out.cell (q * 7 + 4) (by omega)
      obtain ⟨u5, eu5⟩ := HO0.out.cell (q * 7 + 5) (by omega)
      go_upto_region 16 with fail
      rw [← hz0]
      clear hz0 hy0 hfz hbz eu0 eu1 eu2 eu3 eu4 eu5
      go_wp2_with fail
      refine (markText (kq + 6) y0 (by omega) (by omega)).mono ?_
      rintro e x1 ⟨rfl, hb1⟩
      have HO1 : Hid (OwnBlk x1 b 81 m) := HP0.out.1.later hb1
      obtain ⟨y1, hz1⟩ : ∃ y1, y1 = ((x1).setCell ⟨b, q * 7 + 6, none⟩ (.string (mt (kq + 6)))) := ⟨_, rfl⟩
      have hy1 : y1 = puts x1 b (q * 7) 6 [.string (mt (kq + 6))] := hz1
      have HP1 : Hid (OwnBlk y1 b 81 m ∧ Marks (fun p => p = b) y0 y1) := by
        show _ ∧ _
        rw [hy1]
        exact ⟨puts_own _ _ _ _ HO1.out, (Marks.of_below _ hb1).trans (Marks.puts (S := fun p => p = b) rfl _ _ _ _)⟩
      have HC1 : Hid (∀ o', (o' < q * 7 + 6 ∨ q * 7 + 6 + 1 ≤ o') → y1.cell? ⟨b, o', none⟩ = y0.cell? ⟨b, o', none⟩) := by
        intro o' ho'
        rw [hy1, puts_other b _ b o' _ _ _ (Or.inr (by simp only [List.length_cons, List.length_nil]; omega))]
        exact hb1.cell (p := ⟨b, o', none⟩) HP0.out.1.lt
      have HV1 : Hid (y1.cell? ⟨b, q * 7 + 6, none⟩ = some (.string (mt (kq + 6)))) := by
        show _ = _
        rw [hy1]
        have p := fun i hi => puts_at (q * 7) [.string (mt (kq + 6))] x1 6 HO1.out (by simp only [List.length_cons, List.length_nil]; omega) i hi
        exact p 0 (by simp)
      have hfz := HO1.out.frozen
      have hbz := HO1.out.lt
      obtain ⟨u6, eu6⟩ := HO1.out.cell (q * 7 + 6) (by omega)
      have HF : Hid (∀ W, W = y1 → Marks (fun p => p = b) w W ∧ ∀ i, i < q + 1 → CpMk W b (i * 7) (k + i * 7)) := by
        intro W hW
        subst hW
        refine ⟨((HM.out.1).trans HP0.out.2).trans HP1.out.2, fun i hi => ?_⟩
        by_cases e : i = q
        · subst e
          rw [← HK.out]
          exact ⟨(HC1.out _ (by omega)).trans (HV0.out.1), (HC1.out _ (by omega)).trans (HV0.out.2.1), (HC1.out _ (by omega)).trans (HV0.out.2.2.1), (HC1.out _ (by omega)).trans (HV0.out.2.2.2.1), (HC1.out _ (by omega)).trans (HV0.out.2.2.2.2.1), (HC1.out _ (by omega)).trans (HV0.out.2.2.2.2.2), HV1.out⟩
        · have h := HM.out.2 i (by omega)
          exact ⟨(HC1.out _ (by omega)).trans ((HC0.out _ (by omega)).trans (h.1)), (HC1.out _ (by omega)).trans ((HC0.out _ (by omega)).trans (h.2.1)), (HC1.out _ (by omega)).trans ((HC0.out _ (by omega)).trans (h.2.2.1)), (HC1.out _ (by omega)).trans ((HC0.out _ (by omega)).trans (h.2.2.2.1)), (HC1.out _ (by omega)).trans ((HC0.out _ (by omega)).trans (h.2.2.2.2.1)), (HC1.out _ (by omega)).trans ((HC0.out _ (by omega)).trans (h.2.2.2.2.2.1)), (HC1.out _ (by omega)).trans ((HC0.out _ (by omega)).trans (h.2.2.2.2.2.2))⟩
      clear HP0 HC0 HV0 HO0 HP1 HC1 HV1 HO1 hb0 hb1
      go_wp2
      go_roundw
      case rel =>
        have hf := HF.out _ hz1.symm
        exact ⟨q + 1, by omega, by go_num, by rw [HK.out]; go_num, hf.1, hf.2⟩
      case measure => simp [intOf]; omega
    · obtain rfl : q = n := by omega
      go_wp2
      go_ret
      exact ⟨rfl, HM.out.1, HM.out.2⟩

theorem CpMk.later {w w' : World} {b o k : Nat} (h : CpMk w b o k) (hb : Below w.heap.size w w') (hlt : b < w.heap.size) : CpMk w' b o k := by
  have c : ∀ j, w'.cell? ⟨b, j, none⟩ = w.cell? ⟨b, j, none⟩ := fun j => hb.cell (p := ⟨b, j, none⟩) hlt
  exact ⟨(c _).trans h.1, (c _).trans h.2.1, (c _).trans h.2.2.1, (c _).trans h.2.2.2.1, (c _).trans h.2.2.2.2.1, (c _).trans h.2.2.2.2.2.1, (c _).trans h.2.2.2.2.2.2⟩

set_option maxRecDepth 8000 in
set_option maxHeartbeats 8000000 in
theorem heldCps (b n c k : Nat) (w : World) (hb : b < w.heap.size) (hn2 : n ≤ 1048576) (hk : k ≤ 1000000000000) (h1 : 1 ≤ k) (hc : ∀ i, i < n → CpMk w b (i * 7) (k + i * 7)) :
    Calls Tryz.prog 36 #[.slice (some ⟨b, 0, none⟩) n c, .int .i64 (k : Int)] w fun e w' => e = .returned (.int .i64 ((k + n * 7 : Nat) : Int)) ∧ Below w.heap.size w w' := by
  have HC := hid hc
  clear hc
  go_enter Tryz.func36, Tryz.ntmps36
  go_wp2
  go_loopw [1, 5] (fun kk i wr => ∃ q : Nat, q ≤ n ∧ i = .int .i64 (q : Int) ∧ kk = .int .i64 ((k + q * 7 : Nat) : Int) ∧ Below w.heap.size w wr) (fun _ i _ => n - (intOf i).toNat)
  case atStart => exact ⟨0, Nat.zero_le _, rfl, by simp, Below.refl _ _⟩
  case round =>
    obtain ⟨q, hq, rfl, rfl, hW⟩ := hrel
    have HW0 := hid hW
    clear hW
    by_cases hlt : q < n
    · obtain ⟨kq, hkq⟩ : ∃ kq : Nat, kq = k + q * 7 := ⟨_, rfl⟩
      have hm := HC.out q hlt
      rw [← hkq] at hm ⊢
      have HX0 := hid (hm.later HW0.out hb)
      have hkq1 : 1 ≤ kq := by omega
      have hkq2 : kq ≤ 1000000000000 + 1048576 * 7 := by omega
      have HK : Hid (kq = k + q * 7) := hkq
      have hm0 : (0 : Int) ≤ (q : Int) := by omega
      have hm3 : (q : Int) < (n : Int) := by omega
      have hbr : b < wr.heap.size := Nat.lt_of_lt_of_le hb HW0.out.size
      clear hkq hm
      have hNE := pst_some wr
      have hbz : ∀ px : Pst wr, b < px.W.heap.size := fun px => px.size hbr
      have S0 : ∀ px : Pst wr, px.W.cell? ⟨b, q * 7, none⟩ = some (.string (mt (kq))) := fun px => px.cell (HX0.out.1) hbr
      go_wp2_with fail
      refine region_class wr (Below.refl _ _) (by kernel_rfl) (by kernel_rfl) ?_
      repeat (first
        | go_big_quiet_skip
        | (go_big_quiet_want; go_big_quiet_op; first | go_big_quiet_on | (apply Exists.intro; refine ⟨fun px => ?_, ?_⟩; (focus ((go_at_call 65; refine (markText kq _ (by omega) (by omega)).mono ?_; rintro e w' ⟨he, hb⟩; exact ⟨he, ⟨w', blw_trans px.ok hb⟩, rfl⟩))); go_big_quiet_on)))
      refine wpQuiet_nil ?_
      intro _ hw'
      obtain ⟨x6, hw''⟩ := hw'
      subst hw''
      have hbr2 : b < x6.W.heap.size := hbz x6
      have HX1 := hid (HX0.out.later x6.ok hbr)
      have HW1 := hid (blw_trans HW0.out x6.ok)
      clear S0 hbz hbr hNE
      have hbr := hbr2
      clear hbr2
      obtain ⟨f0, f1, f2, f3, f4, f5, f6⟩ := HX1.out
      replace f1 : x6.W.cell? ⟨b, q * 7 + 1, none⟩ = some (.int .i64 ((kq : Int) + 1)) := f1
      replace f2 : x6.W.cell? ⟨b, q * 7 + 2, none⟩ = some (.int .i64 ((kq : Int) + 1 + 1)) := f2
      replace f3 : x6.W.cell? ⟨b, q * 7 + 3, none⟩ = some (.int .i64 ((kq : Int) + 1 + 1 + 1)) := f3
      replace f4 : x6.W.cell? ⟨b, q * 7 + 4, none⟩ = some (.int .i64 ((kq : Int) + 1 + 1 + 1 + 1)) := f4
      replace f5 : x6.W.cell? ⟨b, q * 7 + 5, none⟩ = some (.bool (((kq : Int) + 1 + 1 + 1 + 1 + 1) % 3 == 0)) := f5
      obtain ⟨z0, hz0⟩ : ∃ z0, z0 = x6.W := ⟨_, rfl⟩
      skip
      go_upto_region 22 with fail
      clear f0 f1 f2 f3 f4 f5 f6
      have hNE := pst_some x6.W
      have hbz : ∀ px : Pst x6.W, b < px.W.heap.size := fun px => px.size hbr
      have S1 : ∀ px : Pst x6.W, px.W.cell? ⟨b, q * 7 + 6, none⟩ = some (.string (mt (kq + 6))) := fun px => px.cell (HX1.out.2.2.2.2.2.2) hbr
      go_wp2_with fail
      refine region_class x6.W (Below.refl _ _) (by kernel_rfl) (by kernel_rfl) ?_
      repeat (first
        | go_big_quiet_skip
        | (go_big_quiet_want; go_big_quiet_op; first | go_big_quiet_on | (apply Exists.intro; refine ⟨fun px => ?_, ?_⟩; (focus ((go_at_call 65; refine (markText (kq + 6) _ (by omega) (by omega)).mono ?_; rintro e w' ⟨he, hb⟩; exact ⟨he, ⟨w', blw_trans px.ok hb⟩, rfl⟩))); go_big_quiet_on)))
      refine wpQuiet_nil ?_
      intro _ hw'
      obtain ⟨x6, hw''⟩ := hw'
      subst hw''
      have hbr2 : b < x6.W.heap.size := hbz x6
      have HX2 := hid (HX1.out.later x6.ok hbr)
      have HW2 := hid (blw_trans HW1.out x6.ok)
      clear S1 hbz hbr hNE
      have hbr := hbr2
      clear hbr2
      obtain ⟨f0, f1, f2, f3, f4, f5, f6⟩ := HX2.out
      replace f1 : x6.W.cell? ⟨b, q * 7 + 1, none⟩ = some (.int .i64 ((kq : Int) + 1)) := f1
      replace f2 : x6.W.cell? ⟨b, q * 7 + 2, none⟩ = some (.int .i64 ((kq : Int) + 1 + 1)) := f2
      replace f3 : x6.W.cell? ⟨b, q * 7 + 3, none⟩ = some (.int .i64 ((kq : Int) + 1 + 1 + 1)) := f3
      replace f4 : x6.W.cell? ⟨b, q * 7 + 4, none⟩ = some (.int .i64 ((kq : Int) + 1 + 1 + 1 + 1)) := f4
      replace f5 : x6.W.cell? ⟨b, q * 7 + 5, none⟩ = some (.bool (((kq : Int) + 1 + 1 + 1 + 1 + 1) % 3 == 0)) := f5
      go_wp2
      go_roundw
      case rel => exact ⟨q + 1, by omega, by go_num, by rw [HK.out]; go_num, HW2.out⟩
      case measure => simp [intOf]; omega
    · obtain rfl : q = n := by omega
      go_wp2
      go_ret
      exact ⟨rfl, HW0.out⟩

end Go.Proofs.YtclagbakddkjcaaGreat

namespace Go.Proofs.YtclagbakddkjcaaGreat
open Go.RowKit Go.Deep

/-- A list that may be marked. -/
def SvsSk (w : World) (S : Nat → Prop) (v : Value) (n : Nat) : Prop := (n = 0 ∧ ∃ a c, v = .slice a 0 c) ∨ ∃ b c m, v = .slice (some ⟨b, 0, none⟩) n c ∧ S b ∧ OwnBlk w b 41 m ∧ n * 13 ≤ m ∧ n ≤ 1048576
/-- A list that bears the marks from k on. -/
def SvsHd (w : World) (v : Value) (n k : Nat) : Prop := (n = 0 ∧ ∃ a c, v = .slice a 0 c) ∨ ∃ b c m, v = .slice (some ⟨b, 0, none⟩) n c ∧ OwnBlk w b 41 m ∧ n ≤ 1048576 ∧ ∀ i, i < n → SvMk w b (i * 13) (k + i * 13)
theorem SvsSk.marks {S : Nat → Prop} {w w' : World} {v : Value} {n : Nat} (h : SvsSk w S v n) {S' : Nat → Prop} (hm : Marks S' w w') : SvsSk w' S v n := by
  rcases h with h | ⟨b, c, m, h1, h2, h3, h4⟩
  · exact Or.inl h
  · exact Or.inr ⟨b, c, m, h1, h2, hm.own _ _ _ h3, h4⟩
theorem SvsHd.later {w w' : World} {v : Value} {n k : Nat} (h : SvsHd w v n k) (hb : Below w.heap.size w w') : SvsHd w' v n k := by
  rcases h with h | ⟨b, c, m, h1, h2, h3, h4⟩
  · exact Or.inl h
  · exact Or.inr ⟨b, c, m, h1, h2.later hb, h3, fun i hi => (h4 i hi).later hb h2.lt⟩
/-- Marks elsewhere leave it. -/
theorem SvsHd.marks {w w' : World} {v : Value} {n k : Nat} (h : SvsHd w v n k) {S : Nat → Prop} (hm : Marks S w w') (hs : ∀ b m, OwnBlk w b 41 m → ¬ S b) : SvsHd w' v n k := by
  rcases h with h | ⟨b, c, m, h1, h2, h3, h4⟩
  · exact Or.inl h
  · refine Or.inr ⟨b, c, m, h1, hm.own _ _ _ h2, h3, fun i hi => ?_⟩
    have q := h4 i hi
    have e := fun o => hm.cell h2.lt (hs b m h2) o
    exact ⟨(e _).trans q.1, (e _).trans q.2.1, (e _).trans q.2.2.1, (e _).trans q.2.2.2.1, (e _).trans q.2.2.2.2.1, (e _).trans q.2.2.2.2.2.1, (e _).trans q.2.2.2.2.2.2.1, (e _).trans q.2.2.2.2.2.2.2.1, (e _).trans q.2.2.2.2.2.2.2.2.1, (e _).trans q.2.2.2.2.2.2.2.2.2.1, (e _).trans q.2.2.2.2.2.2.2.2.2.2.1, (e _).trans q.2.2.2.2.2.2.2.2.2.2.2.1, (e _).trans q.2.2.2.2.2.2.2.2.2.2.2.2⟩

set_option maxHeartbeats 400000 in
theorem markSvs_nil (a : Option Addr) (c k : Nat) (w : World) :
    Calls Tryz.prog 32 #[.slice a 0 c, .int .i64 (k : Int)] w fun e w' => e = .returned (.int .i64 (k : Int)) ∧ w = w' := by
  go_enter Tryz.func32, Tryz.ntmps32
  go_wp2
  refine wp_loop_rounds 1 ?_
  rw [rounds_succ]
  go_wp2
  go_ret
  exact ⟨rfl, rfl⟩
set_option maxHeartbeats 400000 in
theorem heldSvs_nil (a : Option Addr) (c k : Nat) (w : World) :
    Calls Tryz.prog 35 #[.slice a 0 c, .int .i64 (k : Int)] w fun e w' => e = .returned (.int .i64 (k : Int)) ∧ w = w' := by
  go_enter Tryz.func35, Tryz.ntmps35
  go_wp2
  refine wp_loop_rounds 1 ?_
  rw [rounds_succ]
  go_wp2
  go_ret
  exact ⟨rfl, rfl⟩

theorem markSvsA (S : Nat → Prop) (v : Value) (n k : Nat) (w : World) (h : SvsSk w S v n) (hk : k ≤ 1000000000000) (h1 : 1 ≤ k) :
    Calls Tryz.prog 32 #[v, .int .i64 (k : Int)] w fun e w' => e = .returned (.int .i64 ((k + n * 13 : Nat) : Int)) ∧ Marks (fun p => S p ∧ ∃ m, OwnBlk w p 41 m) w w' ∧ SvsHd w' v n k := by
  rcases h with ⟨rfl, a, c, rfl⟩ | ⟨b, c, m, rfl, hS, hO, hn, hn2⟩
  · refine (markSvs_nil a c k w).mono ?_
    rintro e w' ⟨rfl, rfl⟩
    exact ⟨by simp, Marks.refl _ _, Or.inl ⟨rfl, a, c, rfl⟩⟩
  · refine (markSvs b n c m k w hO hn hn2 hk h1).mono ?_
    rintro e w' ⟨rfl, hm, hh⟩
    exact ⟨rfl, hm.mono (fun p e => by rw [e]; exact ⟨hS, m, hO⟩), Or.inr ⟨b, c, m, rfl, hm.own _ _ _ hO, hn2, hh⟩⟩
theorem heldSvsA (v : Value) (n k : Nat) (w : World) (h : SvsHd w v n k) (hk : k ≤ 1000000000000) (h1 : 1 ≤ k) :
    Calls Tryz.prog 35 #[v, .int .i64 (k : Int)] w fun e w' => e = .returned (.int .i64 ((k + n * 13 : Nat) : Int)) ∧ Below w.heap.size w w' := by
  rcases h with ⟨rfl, a, c, rfl⟩ | ⟨b, c, m, rfl, hO, hn2, hh⟩
  · refine (heldSvs_nil a c k w).mono ?_
    rintro e w' ⟨rfl, rfl⟩
    exact ⟨by simp, Below.refl _ _⟩
  · exact heldSvs b n c k w hO.lt hn2 hk h1 hh

/-- A list that may be marked. -/
def CpsSk (w : World) (S : Nat → Prop) (v : Value) (n : Nat) : Prop := (n = 0 ∧ ∃ a c, v = .slice a 0 c) ∨ ∃ b c m, v = .slice (some ⟨b, 0, none⟩) n c ∧ S b ∧ OwnBlk w b 81 m ∧ n * 7 ≤ m ∧ n ≤ 1048576
/-- A list that bears the marks from k on. -/
def CpsHd (w : World) (v : Value) (n k : Nat) : Prop := (n = 0 ∧ ∃ a c, v = .slice a 0 c) ∨ ∃ b c m, v = .slice (some ⟨b, 0, none⟩) n c ∧ OwnBlk w b 81 m ∧ n ≤ 1048576 ∧ ∀ i, i < n → CpMk w b (i * 7) (k + i * 7)
theorem CpsSk.marks {S : Nat → Prop} {w w' : World} {v : Value} {n : Nat} (h : CpsSk w S v n) {S' : Nat → Prop} (hm : Marks S' w w') : CpsSk w' S v n := by
  rcases h with h | ⟨b, c, m, h1, h2, h3, h4⟩
  · exact Or.inl h
  · exact Or.inr ⟨b, c, m, h1, h2, hm.own _ _ _ h3, h4⟩
theorem CpsHd.later {w w' : World} {v : Value} {n k : Nat} (h : CpsHd w v n k) (hb : Below w.heap.size w w') : CpsHd w' v n k := by
  rcases h with h | ⟨b, c, m, h1, h2, h3, h4⟩
  · exact Or.inl h
  · exact Or.inr ⟨b, c, m, h1, h2.later hb, h3, fun i hi => (h4 i hi).later hb h2.lt⟩
/-- Marks elsewhere leave it. -/
theorem CpsHd.marks {w w' : World} {v : Value} {n k : Nat} (h : CpsHd w v n k) {S : Nat → Prop} (hm : Marks S w w') (hs : ∀ b m, OwnBlk w b 81 m → ¬ S b) : CpsHd w' v n k := by
  rcases h with h | ⟨b, c, m, h1, h2, h3, h4⟩
  · exact Or.inl h
  · refine Or.inr ⟨b, c, m, h1, hm.own _ _ _ h2, h3, fun i hi => ?_⟩
    have q := h4 i hi
    have e := fun o => hm.cell h2.lt (hs b m h2) o
    exact ⟨(e _).trans q.1, (e _).trans q.2.1, (e _).trans q.2.2.1, (e _).trans q.2.2.2.1, (e _).trans q.2.2.2.2.1, (e _).trans q.2.2.2.2.2.1, (e _).trans q.2.2.2.2.2.2⟩

set_option maxHeartbeats 400000 in
theorem markCps_nil (a : Option Addr) (c k : Nat) (w : World) :
    Calls Tryz.prog 33 #[.slice a 0 c, .int .i64 (k : Int)] w fun e w' => e = .returned (.int .i64 (k : Int)) ∧ w = w' := by
  go_enter Tryz.func33, Tryz.ntmps33
  go_wp2
  refine wp_loop_rounds 1 ?_
  rw [rounds_succ]
  go_wp2
  go_ret
  exact ⟨rfl, rfl⟩
set_option maxHeartbeats 400000 in
theorem heldCps_nil (a : Option Addr) (c k : Nat) (w : World) :
    Calls Tryz.prog 36 #[.slice a 0 c, .int .i64 (k : Int)] w fun e w' => e = .returned (.int .i64 (k : Int)) ∧ w = w' := by
  go_enter Tryz.func36, Tryz.ntmps36
  go_wp2
  refine wp_loop_rounds 1 ?_
  rw [rounds_succ]
  go_wp2
  go_ret
  exact ⟨rfl, rfl⟩

theorem markCpsA (S : Nat → Prop) (v : Value) (n k : Nat) (w : World) (h : CpsSk w S v n) (hk : k ≤ 1000000000000) (h1 : 1 ≤ k) :
    Calls Tryz.prog 33 #[v, .int .i64 (k : Int)] w fun e w' => e = .returned (.int .i64 ((k + n * 7 : Nat) : Int)) ∧ Marks (fun p => S p ∧ ∃ m, OwnBlk w p 81 m) w w' ∧ CpsHd w' v n k := by
  rcases h with ⟨rfl, a, c, rfl⟩ | ⟨b, c, m, rfl, hS, hO, hn, hn2⟩
  · refine (markCps_nil a c k w).mono ?_
    rintro e w' ⟨rfl, rfl⟩
    exact ⟨by simp, Marks.refl _ _, Or.inl ⟨rfl, a, c, rfl⟩⟩
  · refine (markCps b n c m k w hO hn hn2 hk h1).mono ?_
    rintro e w' ⟨rfl, hm, hh⟩
    exact ⟨rfl, hm.mono (fun p e => by rw [e]; exact ⟨hS, m, hO⟩), Or.inr ⟨b, c, m, rfl, hm.own _ _ _ hO, hn2, hh⟩⟩
theorem heldCpsA (v : Value) (n k : Nat) (w : World) (h : CpsHd w v n k) (hk : k ≤ 1000000000000) (h1 : 1 ≤ k) :
    Calls Tryz.prog 36 #[v, .int .i64 (k : Int)] w fun e w' => e = .returned (.int .i64 ((k + n * 7 : Nat) : Int)) ∧ Below w.heap.size w w' := by
  rcases h with ⟨rfl, a, c, rfl⟩ | ⟨b, c, m, rfl, hO, hn2, hh⟩
  · refine (heldCps_nil a c k w).mono ?_
    rintro e w' ⟨rfl, rfl⟩
    exact ⟨by simp, Below.refl _ _⟩
  · exact heldCps b n c k w hO.lt hn2 hk h1 hh

/-- A list that may be marked. -/
def BtsSk (w : World) (S : Nat → Prop) (v : Value) (n : Nat) : Prop := (n = 0 ∧ ∃ a c, v = .slice a 0 c) ∨ ∃ b c m, v = .slice (some ⟨b, 0, none⟩) n c ∧ S b ∧ OwnBlk w b 79 m ∧ n * 2 ≤ m ∧ n ≤ 1048576
/-- A list that bears the marks from k on. -/
def BtsHd (w : World) (v : Value) (n k : Nat) : Prop := (n = 0 ∧ ∃ a c, v = .slice a 0 c) ∨ ∃ b c m, v = .slice (some ⟨b, 0, none⟩) n c ∧ OwnBlk w b 79 m ∧ n ≤ 1048576 ∧ ∀ i, i < n → BtMk w b (i * 2) (k + i * 2)
theorem BtsSk.marks {S : Nat → Prop} {w w' : World} {v : Value} {n : Nat} (h : BtsSk w S v n) {S' : Nat → Prop} (hm : Marks S' w w') : BtsSk w' S v n := by
  rcases h with h | ⟨b, c, m, h1, h2, h3, h4⟩
  · exact Or.inl h
  · exact Or.inr ⟨b, c, m, h1, h2, hm.own _ _ _ h3, h4⟩
theorem BtsHd.later {w w' : World} {v : Value} {n k : Nat} (h : BtsHd w v n k) (hb : Below w.heap.size w w') : BtsHd w' v n k := by
  rcases h with h | ⟨b, c, m, h1, h2, h3, h4⟩
  · exact Or.inl h
  · exact Or.inr ⟨b, c, m, h1, h2.later hb, h3, fun i hi => (h4 i hi).later hb h2.lt⟩
/-- Marks elsewhere leave it. -/
theorem BtsHd.marks {w w' : World} {v : Value} {n k : Nat} (h : BtsHd w v n k) {S : Nat → Prop} (hm : Marks S w w') (hs : ∀ b m, OwnBlk w b 79 m → ¬ S b) : BtsHd w' v n k := by
  rcases h with h | ⟨b, c, m, h1, h2, h3, h4⟩
  · exact Or.inl h
  · refine Or.inr ⟨b, c, m, h1, hm.own _ _ _ h2, h3, fun i hi => ?_⟩
    have q := h4 i hi
    have e := fun o => hm.cell h2.lt (hs b m h2) o
    exact ⟨(e _).trans q.1, (e _).trans q.2⟩

set_option maxHeartbeats 400000 in
theorem markBts_nil (a : Option Addr) (c k : Nat) (w : World) :
    Calls Tryz.prog 34 #[.slice a 0 c, .int .i64 (k : Int)] w fun e w' => e = .returned (.int .i64 (k : Int)) ∧ w = w' := by
  go_enter Tryz.func34, Tryz.ntmps34
  go_wp2
  refine wp_loop_rounds 1 ?_
  rw [rounds_succ]
  go_wp2
  go_ret
  exact ⟨rfl, rfl⟩
set_option maxHeartbeats 400000 in
theorem heldBts_nil (a : Option Addr) (c k : Nat) (w : World) :
    Calls Tryz.prog 37 #[.slice a 0 c, .int .i64 (k : Int)] w fun e w' => e = .returned (.int .i64 (k : Int)) ∧ w = w' := by
  go_enter Tryz.func37, Tryz.ntmps37
  go_wp2
  refine wp_loop_rounds 1 ?_
  rw [rounds_succ]
  go_wp2
  go_ret
  exact ⟨rfl, rfl⟩

theorem markBtsA (S : Nat → Prop) (v : Value) (n k : Nat) (w : World) (h : BtsSk w S v n) (hk : k ≤ 1000000000000) (h1 : 1 ≤ k) :
    Calls Tryz.prog 34 #[v, .int .i64 (k : Int)] w fun e w' => e = .returned (.int .i64 ((k + n * 2 : Nat) : Int)) ∧ Marks (fun p => S p ∧ ∃ m, OwnBlk w p 79 m) w w' ∧ BtsHd w' v n k := by
  rcases h with ⟨rfl, a, c, rfl⟩ | ⟨b, c, m, rfl, hS, hO, hn, hn2⟩
  · refine (markBts_nil a c k w).mono ?_
    rintro e w' ⟨rfl, rfl⟩
    exact ⟨by simp, Marks.refl _ _, Or.inl ⟨rfl, a, c, rfl⟩⟩
  · refine (markBts b n c m k w hO hn hn2 hk h1).mono ?_
    rintro e w' ⟨rfl, hm, hh⟩
    exact ⟨rfl, hm.mono (fun p e => by rw [e]; exact ⟨hS, m, hO⟩), Or.inr ⟨b, c, m, rfl, hm.own _ _ _ hO, hn2, hh⟩⟩
theorem heldBtsA (v : Value) (n k : Nat) (w : World) (h : BtsHd w v n k) (hk : k ≤ 1000000000000) (h1 : 1 ≤ k) :
    Calls Tryz.prog 37 #[v, .int .i64 (k : Int)] w fun e w' => e = .returned (.int .i64 ((k + n * 2 : Nat) : Int)) ∧ Below w.heap.size w w' := by
  rcases h with ⟨rfl, a, c, rfl⟩ | ⟨b, c, m, rfl, hO, hn2, hh⟩
  · refine (heldBts_nil a c k w).mono ?_
    rintro e w' ⟨rfl, rfl⟩
    exact ⟨by simp, Below.refl _ _⟩
  · exact heldBts b n c k w hO.lt hn2 hk h1 hh

structure SBkSk (w : World) (S : Nat → Prop) (v0 v1 v2 : Value) (n0 n1 n2 : Nat) : Prop where
  l0 : SvsSk w S v0 n0
  l1 : CpsSk w S v1 n1
  l2 : BtsSk w S v2 n2
structure SBkHd (w : World) (v0 v1 v2 : Value) (n0 n1 n2 k : Nat) : Prop where
  l0 : SvsHd w v0 n0 k
  l1 : CpsHd w v1 n1 (k + n0 * 13)
  l2 : BtsHd w v2 n2 (k + n0 * 13 + n1 * 7)
theorem SBkHd.later {w w' : World} {v0 v1 v2 : Value} {n0 n1 n2 k : Nat} (h : SBkHd w v0 v1 v2 n0 n1 n2 k) (hb : Below w.heap.size w w') : SBkHd w' v0 v1 v2 n0 n1 n2 k := ⟨h.l0.later hb, h.l1.later hb, h.l2.later hb⟩
theorem SBkSk.marks {S S' : Nat → Prop} {w w' : World} {v0 v1 v2 : Value} {n0 n1 n2 : Nat} (h : SBkSk w S v0 v1 v2 n0 n1 n2) (hm : Marks S' w w') : SBkSk w' S v0 v1 v2 n0 n1 n2 := ⟨h.l0.marks hm, h.l1.marks hm, h.l2.marks hm⟩
theorem SBkIn.sk {w : World} {b0 b1 b2 : Nat} {K : SBk} (h : SBkIn w b0 b1 b2 K) (S : Nat → Prop) (h0 : S b0) (h1 : S b1) (h2 : S b2) : SBkSk w S (.slice (some ⟨b0, 0, none⟩) K.svcs.length K.svcs.length) (.slice (some ⟨b1, 0, none⟩) K.cps.length K.cps.length) (.slice (some ⟨b2, 0, none⟩) K.bts.length K.bts.length) K.svcs.length K.cps.length K.bts.length :=
  ⟨Or.inr ⟨b0, _, _, rfl, h0, h.l0.own, Nat.le_refl _, h.l0.len⟩, Or.inr ⟨b1, _, _, rfl, h1, h.l1.own, Nat.le_refl _, h.l1.len⟩, Or.inr ⟨b2, _, _, rfl, h2, h.l2.own, Nat.le_refl _, h.l2.len⟩⟩

set_option maxHeartbeats 8000000 in
theorem markSB (S : Nat → Prop) (now : Int) (v0 v1 v2 : Value) (n0 n1 n2 k : Nat) (w : World) (h : SBkSk w S v0 v1 v2 n0 n1 n2) (hS : ∀ p, S p → p < w.heap.size) (hk : k ≤ 100000000000) (h1 : 1 ≤ k) (m0 : n0 ≤ 1048576) (m1 : n1 ≤ 1048576) (_m2 : n2 ≤ 1048576) :
    Calls Tryz.prog 11 #[.agg #[.int .i64 now, v0, v1, v2], .int .i64 (k : Int)] w fun e w' => e = .returned (.int .i64 ((k + n0 * 13 + n1 * 7 + n2 * 2 : Nat) : Int)) ∧ Marks S w w' ∧ SBkHd w' v0 v1 v2 n0 n1 n2 k := by
  have HH := hid h
  have HSS := hid hS
  clear h hS
  obtain ⟨wa, hwa⟩ : ∃ wa, wa = w.alloc (.cells #[.int .i64 now, v0, v1, v2] 37) := ⟨_, rfl⟩
  have HBa : Hid (Below w.heap.size w wa) := by show Below _ _ _; rw [hwa]; exact blw_alloc (Below.refl _ _) _
  have HXa : Hid (Box4 wa w.heap.size (.int .i64 now) v0 v1 v2) := by show Box4 _ _ _ _ _ _; rw [hwa]; exact Box4.new' w _ _ _ _ _ _ rfl
  go_enter Tryz.func11, Tryz.ntmps11
  go_upto_region 1 with fail
  rw [← hwa]
  clear hwa
  have HMa : Hid (Marks S w wa) := Marks.of_below _ HBa.out
  clear HBa
  obtain ⟨yz, y0, y1, y2, y3⟩ := HXa.out
  go_wp2_with fail
  refine (markSvsA S v0 n0 (k) wa (HH.out.marks HMa.out).l0 (by omega) (by omega)).mono ?_
  rintro e wb ⟨rfl, hm, hh⟩
  have HMb : Hid (Marks S w wb) := HMa.out.trans (hm.mono fun p hp => hp.1)
  have HXb : Hid (Box4 wb w.heap.size (.int .i64 now) v0 v1 v2) := by
    have e := fun o => hm.cell yz (fun hp => by have := HSS.out _ hp.1; omega) o
    exact ⟨Nat.lt_of_lt_of_le yz hm.size, (e _).trans y0, (e _).trans y1, (e _).trans y2, (e _).trans y3⟩
  have HD0b : Hid (SvsHd wb v0 n0 (k)) := hh
  clear hm hh yz y0 y1 y2 y3 HMa HXa
  obtain ⟨yz, y0, y1, y2, y3⟩ := HXb.out
  go_wp2_with fail
  refine (markCpsA S v1 n1 (k + n0 * 13) wb (HH.out.marks HMb.out).l1 (by omega) (by omega)).mono ?_
  rintro e wc ⟨rfl, hm, hh⟩
  have HMc : Hid (Marks S w wc) := HMb.out.trans (hm.mono fun p hp => hp.1)
  have HXc : Hid (Box4 wc w.heap.size (.int .i64 now) v0 v1 v2) := by
    have e := fun o => hm.cell yz (fun hp => by have := HSS.out _ hp.1; omega) o
    exact ⟨Nat.lt_of_lt_of_le yz hm.size, (e _).trans y0, (e _).trans y1, (e _).trans y2, (e _).trans y3⟩
  have HD0c : Hid (SvsHd wc v0 n0 (k)) := HD0b.out.marks hm (fun b m ho hp => by obtain ⟨m2, ho2⟩ := hp.2; have := ho.kind ho2; revert this; decide)
  have HD1c : Hid (CpsHd wc v1 n1 (k + n0 * 13)) := hh
  clear hm hh yz y0 y1 y2 y3 HMb HXb HD0b
  obtain ⟨yz, y0, y1, y2, y3⟩ := HXc.out
  go_wp2_with fail
  refine (markBtsA S v2 n2 (k + n0 * 13 + n1 * 7) wc (HH.out.marks HMc.out).l2 (by omega) (by omega)).mono ?_
  rintro e wd ⟨rfl, hm, hh⟩
  have HMd : Hid (Marks S w wd) := HMc.out.trans (hm.mono fun p hp => hp.1)
  have HXd : Hid (Box4 wd w.heap.size (.int .i64 now) v0 v1 v2) := by
    have e := fun o => hm.cell yz (fun hp => by have := HSS.out _ hp.1; omega) o
    exact ⟨Nat.lt_of_lt_of_le yz hm.size, (e _).trans y0, (e _).trans y1, (e _).trans y2, (e _).trans y3⟩
  have HD0d : Hid (SvsHd wd v0 n0 (k)) := HD0c.out.marks hm (fun b m ho hp => by obtain ⟨m2, ho2⟩ := hp.2; have := ho.kind ho2; revert this; decide)
  have HD1d : Hid (CpsHd wd v1 n1 (k + n0 * 13)) := HD1c.out.marks hm (fun b m ho hp => by obtain ⟨m2, ho2⟩ := hp.2; have := ho.kind ho2; revert this; decide)
  have HD2d : Hid (BtsHd wd v2 n2 (k + n0 * 13 + n1 * 7)) := hh
  clear hm hh yz y0 y1 y2 y3 HMc HXc HD0c HD1c
  go_wp2
  go_ret
  exact ⟨rfl, HMd.out, HD0d.out, HD1d.out, HD2d.out⟩

set_option maxHeartbeats 8000000 in
theorem heldSB (now : Int) (v0 v1 v2 : Value) (n0 n1 n2 k : Nat) (w : World) (h : SBkHd w v0 v1 v2 n0 n1 n2 k) (hk : k ≤ 100000000000) (h1 : 1 ≤ k) (m0 : n0 ≤ 1048576) (m1 : n1 ≤ 1048576) (_m2 : n2 ≤ 1048576) :
    Calls Tryz.prog 12 #[.agg #[.int .i64 now, v0, v1, v2], .int .i64 (k : Int)] w fun e w' => e = .returned (.int .i64 ((k + n0 * 13 + n1 * 7 + n2 * 2 : Nat) : Int)) ∧ Below w.heap.size w w' := by
  have HH := hid h
  clear h
  obtain ⟨wa, hwa⟩ : ∃ wa, wa = w.alloc (.cells #[.int .i64 now, v0, v1, v2] 37) := ⟨_, rfl⟩
  have HBa : Hid (Below w.heap.size w wa) := by show Below _ _ _; rw [hwa]; exact blw_alloc (Below.refl _ _) _
  have HXa : Hid (Box4 wa w.heap.size (.int .i64 now) v0 v1 v2) := by show Box4 _ _ _ _ _ _; rw [hwa]; exact Box4.new' w _ _ _ _ _ _ rfl
  go_enter Tryz.func12, Tryz.ntmps12
  go_upto_region 1 with fail
  rw [← hwa]
  clear hwa
  obtain ⟨yz, y0, y1, y2, y3⟩ := HXa.out
  go_wp2_with fail
  refine (heldSvsA v0 n0 (k) wa (HH.out.later HBa.out).l0 (by omega) (by omega)).mono ?_
  rintro e wb ⟨rfl, hb⟩
  have HBb := hid (blw_trans HBa.out hb)
  have HXb := hid (HXa.out.later hb)
  have hnn0 : ¬ (((k + n0 * 13 : Nat) : Int) < 0) := by omega
  clear hb yz y0 y1 y2 y3 HXa HBa
  obtain ⟨yz, y0, y1, y2, y3⟩ := HXb.out
  go_wp2_with fail
  refine (heldCpsA v1 n1 (k + n0 * 13) wb (HH.out.later HBb.out).l1 (by omega) (by omega)).mono ?_
  rintro e wc ⟨rfl, hb⟩
  have HBc := hid (blw_trans HBb.out hb)
  have HXc := hid (HXb.out.later hb)
  have hnn1 : ¬ (((k + n0 * 13 + n1 * 7 : Nat) : Int) < 0) := by omega
  clear hb yz y0 y1 y2 y3 HXb HBb
  obtain ⟨yz, y0, y1, y2, y3⟩ := HXc.out
  go_wp2_with fail
  refine (heldBtsA v2 n2 (k + n0 * 13 + n1 * 7) wc (HH.out.later HBc.out).l2 (by omega) (by omega)).mono ?_
  rintro e wd ⟨rfl, hb⟩
  have HBd := hid (blw_trans HBc.out hb)
  have HXd := hid (HXc.out.later hb)
  have hnn2 : ¬ (((k + n0 * 13 + n1 * 7 + n2 * 2 : Nat) : Int) < 0) := by omega
  clear hb yz y0 y1 y2 y3 HXc HBc
  go_wp2
  go_ret
  exact ⟨rfl, HBd.out⟩

end Go.Proofs.YtclagbakddkjcaaGreat
