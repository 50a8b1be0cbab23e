/-
  Marks of a list: slots.
-/
import Derived.Test.YtejhknclhdbgfaaMkr
import Derived.Test.YtejhknclhdbgfaaClr
namespace Go.Proofs.Ytejhknclhdbgfaa
open Go.RowKit Go.Deep

/-- One that bears the marks from k on. -/
def RsMk (w : World) (b o k : Nat) : Prop := w.cell? ⟨b, o, none⟩ = some (.int .i64 ((k : Nat) : Int)) ∧ w.cell? ⟨b, o + 1, none⟩ = some (.string (mt (k + 1)))

set_option maxRecDepth 8000 in
set_option maxHeartbeats 8000000 in
theorem markRss (b n c m k : Nat) (w : World) (hO : OwnBlk w b 69 m) (hn : n * 2 ≤ m) (hn2 : n ≤ 1048576) (hk : k ≤ 1000000000000) (h1 : 1 ≤ k) :
    Calls Try.prog 18 #[.slice (some ⟨b, 0, none⟩) n c, .int .i64 (k : Int)] w fun e w' => e = .returned (.int .i64 ((k + n * 2 : Nat) : Int)) ∧ Marks (fun p => p = b) w w' ∧ ∀ i, i < n → RsMk w' b (i * 2) (k + i * 2) := by
  have HO : Hid (OwnBlk w b 69 m) := hO
  clear hO
  go_enter Try.func18, Try.ntmps18
  go_wp2
  go_loopw [1, 5] (fun kk i wr => ∃ q : Nat, q ≤ n ∧ i = .int .i64 (q : Int) ∧ kk = .int .i64 ((k + q * 2 : Nat) : Int) ∧ Marks (fun p => p = b) w wr ∧ ∀ i, i < q → RsMk wr b (i * 2) (k + i * 2)) (fun _ i _ => n - (intOf i).toNat)
  case atStart => exact ⟨0, Nat.zero_le _, rfl, by simp, Marks.refl _ _, fun i hi => absurd hi (Nat.not_lt_zero i)⟩
  case round =>
    obtain ⟨q, hq, rfl, rfl, hM, hall⟩ := hrel
    have HM : Hid (Marks (fun p => p = b) w wr ∧ ∀ i, i < q → RsMk wr b (i * 2) (k + i * 2)) := ⟨hM, hall⟩
    clear hM hall
    by_cases hlt : q < n
    · obtain ⟨kq, hkq⟩ : ∃ kq : Nat, kq = k + q * 2 := ⟨_, rfl⟩
      rw [← hkq]
      have hkq1 : 1 ≤ kq := by omega
      have hkq2 : kq ≤ 1000000000000 + 1048576 * 2 := by omega
      have HK : Hid (kq = k + q * 2) := hkq
      have hm0 : (0 : Int) ≤ (q : Int) := by omega
      have hm3 : (q : Int) < (n : Int) := by omega
      clear hkq
      have HOr : Hid (OwnBlk wr b 69 m) := HM.out.1.own b 69 m HO.out
      obtain ⟨y0, hz0⟩ : ∃ y0, y0 = wr.setCell ⟨b, q * 2, none⟩ (.int .i64 (kq : Int)) := ⟨_, rfl⟩
      have HO0 : Hid (OwnBlk y0 b 69 m) := by show OwnBlk _ _ _ _; rw [hz0]; exact HOr.out.setCell _ _
      have HM0 : Hid (Marks (fun p => p = b) wr y0) := by show Marks _ _ _; rw [hz0]; exact Marks.sc (S := fun p => p = b) wr rfl _ _
      have HV0 : Hid (y0.cell? ⟨b, q * 2, none⟩ = some (.int .i64 (kq : Int)) ∧ ∀ o', o' ≠ q * 2 → y0.cell? ⟨b, o', none⟩ = wr.cell? ⟨b, o', none⟩) := by
        show _ ∧ _
        rw [hz0]
        exact ⟨sc_eq HOr.out (q * 2) (by omega) _, fun o' ho => sc_ne _ _ _ _ _ _ (Or.inr ho)⟩
      have hfz := HOr.out.frozen
      have hbz := HOr.out.lt
      obtain ⟨u0, eu0⟩ := HOr.out.cell (q * 2) (by omega)
      go_upto_region 6 with fail
      rw [← hz0]
      clear hz0 hfz hbz eu0
      go_wp2_with fail
      refine (markText (kq + 1) y0 (by omega) (by omega)).mono ?_
      rintro e x1 ⟨rfl, hb1⟩
      have HO1 : Hid (OwnBlk x1 b 69 m) := HO0.out.later hb1
      obtain ⟨y1, hz1⟩ : ∃ y1, y1 = x1.setCell ⟨b, q * 2 + 1, none⟩ (.string (mt (kq + 1))) := ⟨_, rfl⟩
      have HF : Hid (Marks (fun p => p = b) w y1 ∧ ∀ i, i < q + 1 → RsMk y1 b (i * 2) (k + i * 2)) := by
        have c1 : ∀ o', o' ≠ q * 2 + 1 → y1.cell? ⟨b, o', none⟩ = y0.cell? ⟨b, o', none⟩ := fun o' ho => by
          rw [hz1]; exact (sc_ne _ _ _ _ _ _ (Or.inr ho)).trans (hb1.cell (p := ⟨b, o', none⟩) HO0.out.lt)
        refine ⟨((HM.out.1.trans HM0.out).trans (Marks.of_below _ hb1)).trans (by rw [hz1]; exact Marks.sc (S := fun p => p = b) x1 rfl _ _), fun i hi => ?_⟩
        by_cases e : i = q
        · subst e
          rw [← HK.out]
          exact ⟨(c1 _ (by omega)).trans HV0.out.1, by rw [hz1]; exact sc_eq HO1.out _ (by omega) _⟩
        · have h := HM.out.2 i (by omega)
          exact ⟨(c1 _ (by omega)).trans ((HV0.out.2 _ (by omega)).trans h.1), (c1 _ (by omega)).trans ((HV0.out.2 _ (by omega)).trans h.2)⟩
      have hfz := HO1.out.frozen
      have hbz := HO1.out.lt
      obtain ⟨u1, eu1⟩ := HO1.out.cell (q * 2 + 1) (by omega)
      clear hb1 HV0 HM0 HO0 HO1 HOr
      go_upto_region 7 with fail
      rw [← hz1]
      clear hz1 hfz hbz eu1
      go_wp2
      go_roundw
      case rel => exact ⟨q + 1, by omega, by go_num, by rw [HK.out]; go_num, HF.out.1, HF.out.2⟩
      case measure => simp [intOf]; omega
    · obtain rfl : q = n := by omega
      go_wp2
      go_ret
      exact ⟨rfl, HM.out.1, HM.out.2⟩

theorem RsMk.later {w w' : World} {b o k : Nat} (h : RsMk w b o k) (hb : Below w.heap.size w w') (hlt : b < w.heap.size) : RsMk w' b o k := by
  have c : ∀ j, w'.cell? ⟨b, j, none⟩ = w.cell? ⟨b, j, none⟩ := fun j => hb.cell (p := ⟨b, j, none⟩) hlt
  exact ⟨(c _).trans h.1, (c _).trans h.2⟩

set_option maxRecDepth 8000 in
set_option maxHeartbeats 8000000 in
theorem heldRss (b n c k : Nat) (w : World) (hb : b < w.heap.size) (hn2 : n ≤ 1048576) (hk : k ≤ 1000000000000) (h1 : 1 ≤ k) (hc : ∀ i, i < n → RsMk w b (i * 2) (k + i * 2)) :
    Calls Try.prog 19 #[.slice (some ⟨b, 0, none⟩) n c, .int .i64 (k : Int)] w fun e w' => e = .returned (.int .i64 ((k + n * 2 : Nat) : Int)) ∧ Below w.heap.size w w' := by
  have HC := hid hc
  clear hc
  go_enter Try.func19, Try.ntmps19
  go_wp2
  go_loopw [1, 5] (fun kk i wr => ∃ q : Nat, q ≤ n ∧ i = .int .i64 (q : Int) ∧ kk = .int .i64 ((k + q * 2 : Nat) : Int) ∧ Below w.heap.size w wr) (fun _ i _ => n - (intOf i).toNat)
  case atStart => exact ⟨0, Nat.zero_le _, rfl, by simp, Below.refl _ _⟩
  case round =>
    obtain ⟨q, hq, rfl, rfl, hW⟩ := hrel
    have HW0 := hid hW
    clear hW
    by_cases hlt : q < n
    · obtain ⟨kq, hkq⟩ : ∃ kq : Nat, kq = k + q * 2 := ⟨_, rfl⟩
      have hm := HC.out q hlt
      rw [← hkq] at hm ⊢
      obtain ⟨g0, g1⟩ := hm.later HW0.out hb
      have hkq1 : 1 ≤ kq := by omega
      have hkq2 : kq ≤ 1000000000000 + 1048576 * 2 := by omega
      have HK : Hid (kq = k + q * 2) := hkq
      have hm0 : (0 : Int) ≤ (q : Int) := by omega
      have hm3 : (q : Int) < (n : Int) := by omega
      have hbr : b < wr.heap.size := Nat.lt_of_lt_of_le hb HW0.out.size
      clear hkq hm
      have hNE := pst_some wr
      have hbz : ∀ px : Pst wr, b < px.W.heap.size := fun px => px.size hbr
      have S1 : ∀ px : Pst wr, px.W.cell? ⟨b, q * 2 + 1, none⟩ = some (.string (mt (kq + 1))) := fun px => px.cell g1 hbr
      go_upto_region 7 with fail
      clear g0 g1
      refine region_class wr (Below.refl _ _) (by kernel_rfl) (by kernel_rfl) ?_
      repeat (first
        | go_big_quiet_skip
        | (go_big_quiet_want; go_big_quiet_op; first | go_big_quiet_on | (apply Exists.intro; refine ⟨fun px => ?_, ?_⟩; (focus ((go_at_call 46; refine (markText (kq + 1) _ (by omega) (by omega)).mono ?_; rintro e w' ⟨he, hb⟩; exact ⟨he, ⟨w', blw_trans px.ok hb⟩, rfl⟩))); go_big_quiet_on)))
      refine wpQuiet_nil ?_
      intro _ hw'
      obtain ⟨x6, hw''⟩ := hw'
      subst hw''
      have HW1 := hid (blw_trans HW0.out x6.ok)
      go_wp2
      go_roundw
      case rel => exact ⟨q + 1, by omega, by go_num, by rw [HK.out]; go_num, HW1.out⟩
      case measure => simp [intOf]; omega
    · obtain rfl : q = n := by omega
      go_wp2
      go_ret
      exact ⟨rfl, HW0.out⟩

end Go.Proofs.Ytejhknclhdbgfaa
