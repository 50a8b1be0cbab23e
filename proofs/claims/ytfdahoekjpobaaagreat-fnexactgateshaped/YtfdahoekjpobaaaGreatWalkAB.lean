/-
  Walks: the marks of fields and shapes.
-/
import Derived.Laws.IdiomStrings
import Derived.Laws.BytesString
import Derived.Deep.RegionWith
import Derived.Test.YtfdahoekjpobaaaGreatMarks
namespace Go.Proofs.YtfdahoekjpobaaaGreat
open Go.RowKit Go.Deep

theorem conv1 (W : World) (n : Int) : (convert 82 9 (.slice (some ⟨W.heap.size, 0, none⟩) 1 1)).run Tryz.prog (W.alloc (.cells #[.int .u8 n] 5)) = .ok (.string ⟨#[UInt8.ofNat n.toNat]⟩) (W.alloc (.cells #[.int .u8 n] 5)) := by
  rw [run_convert_bytes_string _ 82 9 5 _ 1 1 Tryz.underlying82 Tryz.underlying5 Tryz.underlying9]
  have h := run_bytesToString (P := Tryz.prog) (W.alloc (.cells #[.int .u8 n] 5)) ⟨W.heap.size, 0, none⟩ 1 1 [n]
    (run_loadCells_list (P := Tryz.prog) (W.alloc (.cells #[.int .u8 n] 5)) ⟨W.heap.size, 0, none⟩ [.int .u8 n] (fun j v hj => by
      match j, hj with
      | 0, hj => simp at hj; subst hj; simp [Addr.add]))
  rw [h]
  rfl

theorem ret_str {a b : ByteArray} (h : a = b) : Ending.returned (.string a) = .returned (.string b) := by rw [h]

set_option maxHeartbeats 1000000 in
theorem markText (k : Nat) (w : World) (hk : k ≤ 4611686018427387904) (h1 : 1 ≤ k) :
    Calls Tryz.prog 34 #[.int .i64 (k : Int)] w fun e w' => e = .returned (.string (mt k)) ∧ Below w.heap.size w w' := by
  have hcv := conv1
  go_enter Tryz.func34, Tryz.ntmps34
  go_wp2
  go_loopw [0, 3] (fun n o wr => ∃ (j f : Nat) (out : ByteArray), n = .int .i64 (j : Int) ∧ o = .string out ∧ j ≤ f ∧ mtF f j out = mt k ∧ out.size + j ≤ k ∧ Below w.heap.size w wr) (fun n _ _ => (intOf n).toNat)
  case atStart => exact ⟨k, k, ByteArray.empty, rfl, rfl, Nat.le_refl _, rfl, by simp, Below.refl _ _⟩
  case round =>
    obtain ⟨j, f, out, rfl, rfl, hjf, hmt, hj, hW⟩ := hrel
    have HM : Hid (mtF f j out = mt k) := hmt
    clear hmt
    by_cases h0 : 0 < j
    · obtain ⟨f', rfl⟩ : ∃ f', f = f' + 1 := ⟨f - 1, by omega⟩
      have HM' : Hid (mtF f' (j / 10) (⟨#[48 + UInt8.ofNat (j % 10)]⟩ ++ out) = mt k) := by
        have := HM.out
        rw [mtF_step f' j out h0] at this
        exact this
      have HZ : Hid ((ByteArray.mk #[48 + UInt8.ofNat (j % 10)] ++ out).size + j / 10 ≤ k) := by
        show (ByteArray.mk #[48 + UInt8.ofNat (j % 10)] ++ out).size + j / 10 ≤ k
        rw [ByteArray.size_append]
        have : (ByteArray.mk #[48 + UInt8.ofNat (j % 10)]).size = 1 := rfl
        omega
      clear HM
      go_wp2
      go_roundw
      case rel => exact ⟨j / 10, f', _, by go_num, rfl, by omega, HM'.out, HZ.out, blw_alloc hW _⟩
      case measure => simp [intOf]; omega
    · obtain rfl : j = 0 := by omega
      have HE : Hid (ByteArray.mk #[109] ++ out = mt k) := by have := HM.out; rw [mtF_zero] at this; exact this
      go_wp2
      go_ret
      exact ⟨ret_str HE.out, hW⟩
set_option maxHeartbeats 1000000 in
theorem markRow (b n c m k : Nat) (w : World) (hO : OwnBlk w b 9 m) (hn : n ≤ m) (hn2 : n ≤ 1048576) (hk : k ≤ 2305843009213693952) (h1 : 1 ≤ k) :
    Calls Tryz.prog 36 #[.slice (some ⟨b, 0, none⟩) n c, .int .i64 (k : Int)] w fun e w' => e = .returned (.int .i64 ((k + n : Nat) : Int)) ∧ Marks (fun p => p = b) w w' ∧ ∀ i, i < n → w'.cell? ⟨b, i, none⟩ = some (.string (mt (k + i))) := by
  have HO : Hid (OwnBlk w b 9 m) := hO
  clear hO
  go_enter Tryz.func36, Tryz.ntmps36
  go_wp2
  go_loopw [1, 5] (fun kk i wr => ∃ q : Nat, q ≤ n ∧ i = .int .i64 (q : Int) ∧ kk = .int .i64 ((k + q : Nat) : Int) ∧ Marks (fun p => p = b) w wr ∧ ∀ i, i < q → wr.cell? ⟨b, i, none⟩ = some (.string (mt (k + i)))) (fun _ i _ => n - (intOf i).toNat)
  case atStart => exact ⟨0, Nat.zero_le _, rfl, rfl, Marks.refl _ _, fun i hi => absurd hi (Nat.not_lt_zero i)⟩
  case round =>
    obtain ⟨q, hq, rfl, rfl, hM, hall⟩ := hrel
    have HM : Hid (Marks (fun p => p = b) w wr ∧ ∀ i, i < q → wr.cell? ⟨b, i, none⟩ = some (.string (mt (k + i)))) := ⟨hM, hall⟩
    clear hM hall
    by_cases hlt : q < n
    · obtain ⟨kq, hkq⟩ : ∃ kq : Nat, kq = k + q := ⟨_, rfl⟩
      rw [← hkq]
      have hkq1 : 1 ≤ kq := by omega
      have hkq2 : kq ≤ 2305843009213693952 + 1048576 := by omega
      have HK : Hid (kq = k + q) := hkq
      clear hkq
      go_wp2_with fail
      refine (markText kq wr (by omega) hkq1).mono ?_
      rintro e w2 ⟨rfl, hb2⟩
      have hO2 := (HM.out.1.own b 9 m HO.out).later hb2
      have hfz := hO2.frozen
      obtain ⟨x, hx⟩ := hO2.cell q (by omega)
      have HP : Hid (Marks (fun p => p = b) w (w2.setCell ⟨b, q, none⟩ (.string (mt kq))) ∧ ∀ i, i < q + 1 → (w2.setCell ⟨b, q, none⟩ (.string (mt kq))).cell? ⟨b, i, none⟩ = some (.string (mt (k + i)))) := by
        refine ⟨(HM.out.1.trans (Marks.of_below _ hb2)).trans (Marks.sc (S := fun p => p = b) hO2 rfl q _ (fun e => absurd e (by decide)) (fun e => absurd e (by decide))), fun i hi => ?_⟩
        by_cases hiq : i = q
        · subst hiq; rw [sc_eq hO2 i (by omega), HK.out]
        · rw [sc_ne _ _ _ _ _ _ (Or.inr hiq), hb2.cell (p := ⟨b, i, none⟩) (HM.out.1.own b 9 m HO.out).lt]
          exact HM.out.2 i (by omega)
      clear hO2 hb2
      go_wp2
      go_roundw
      case rel => exact ⟨q + 1, by omega, by go_num, by rw [HK.out]; go_num, HP.out.1, HP.out.2⟩
      case measure => simp [intOf]; omega
    · obtain rfl : q = n := by omega
      go_wp2
      go_ret
      exact ⟨rfl, HM.out.1, HM.out.2⟩

set_option maxHeartbeats 400000 in
theorem markNil (a : Option Addr) (c k : Nat) (w : World) :
    Calls Tryz.prog 36 #[.slice a 0 c, .int .i64 (k : Int)] w fun e w' => e = .returned (.int .i64 (k : Int)) ∧ w = w' := by
  go_enter Tryz.func36, Tryz.ntmps36
  go_wp2
  refine wp_loop_rounds 1 ?_
  rw [rounds_succ]
  go_wp2
  go_ret
  exact ⟨rfl, rfl⟩

theorem markTexts (S : Nat → Prop) (v : Value) (k : Nat) (w : World) (h : TxSk w S v) (hk : k ≤ 2305843009213693952) (h1 : 1 ≤ k) :
    Calls Tryz.prog 36 #[v, .int .i64 (k : Int)] w fun e w' => (∃ q : Nat, e = .returned (.int .i64 (q : Int)) ∧ k ≤ q ∧ q ≤ k + 1048576) ∧ Marks S w w' := by
  rcases h with ⟨a, c, rfl⟩ | ⟨b, n, c, m, rfl, hS, hO, hn, hn2⟩
  · refine (markNil a c k w).mono ?_
    rintro e w' ⟨rfl, rfl⟩
    exact ⟨⟨k, rfl, by omega, by omega⟩, Marks.refl _ _⟩
  · refine (markRow b n c m k w hO hn hn2 hk h1).mono ?_
    rintro e w' ⟨rfl, hm, _⟩
    exact ⟨⟨k + n, rfl, by omega, by omega⟩, hm.mono (fun p e => by rw [e]; exact hS)⟩

set_option maxHeartbeats 1000000 in
theorem heldRow (b n c k : Nat) (w : World) (hb : b < w.heap.size) (hn2 : n ≤ 1048576) (hk : k ≤ 2305843009213693952) (h1 : 1 ≤ k) (hc : ∀ i, i < n → w.cell? ⟨b, i, none⟩ = some (.string (mt (k + i)))) :
    Calls Tryz.prog 37 #[.slice (some ⟨b, 0, none⟩) n c, .int .i64 (k : Int)] w fun e w' => e = .returned (.int .i64 ((k + n : Nat) : Int)) ∧ Below w.heap.size w w' := by
  have HC : Hid (∀ i, i < n → w.cell? ⟨b, i, none⟩ = some (.string (mt (k + i)))) := hc
  clear hc
  go_enter Tryz.func37, Tryz.ntmps37
  go_wp2
  go_loopw [1, 5] (fun kk i wr => ∃ q : Nat, q ≤ n ∧ i = .int .i64 (q : Int) ∧ kk = .int .i64 ((k + q : Nat) : Int) ∧ Below w.heap.size w wr) (fun _ i _ => n - (intOf i).toNat)
  case atStart => exact ⟨0, Nat.zero_le _, rfl, rfl, Below.refl _ _⟩
  case round =>
    obtain ⟨q, hq, rfl, rfl, hW⟩ := hrel
    by_cases hlt : q < n
    · obtain ⟨kq, hkq⟩ : ∃ kq : Nat, kq = k + q := ⟨_, rfl⟩
      rw [← hkq]
      have hkq1 : 1 ≤ kq := by omega
      have hkq2 : kq ≤ 2305843009213693952 + 1048576 := by omega
      have hcq : wr.cell? ⟨b, q, none⟩ = some (.string (mt kq)) := by rw [hkq, hW.cell (p := ⟨b, q, none⟩) hb]; exact HC.out q hlt
      have HK : Hid (kq = k + q) := hkq
      have HX : Hid (∀ W, Below wr.heap.size wr W → Calls Tryz.prog 34 #[.int .i64 (kq : Int)] W fun e w' => e = .returned (.string (mt kq)) ∧ Below W.heap.size W w' ∧ w'.cell? ⟨b, q, none⟩ = some (.string (mt kq))) := by
        intro W h3
        refine (markText kq W (by omega) hkq1).mono ?_
        rintro e w' ⟨rfl, h4⟩
        exact ⟨rfl, h4, ((blw_trans h3 h4).cell (p := ⟨b, q, none⟩) (Nat.lt_of_lt_of_le hb hW.size)).trans hcq⟩
      clear hkq
      go_wp2_with fail
      go_region_with (go_at_call 34; refine (HX.out _ ?_).mono ?_; (repeat (first | exact Below.refl _ _ | refine Below.drew ?_)); rintro e w2 ⟨rfl, hb2, hcq2⟩)
      all_goals
        go_wp2
        go_roundw
        case rel =>
          refine ⟨q + 1, by omega, by go_num, by rw [HK.out]; go_num, ?_⟩
          repeat (first | exact blw_trans hW hb2 | exact blw_trans hW.drew hb2 | exact blw_trans hW.drew.drew hb2 | refine Below.drew ?_)
        case measure => simp [intOf]; omega
    · obtain rfl : q = n := by omega
      go_wp2
      go_ret
      exact ⟨rfl, hW⟩

set_option maxHeartbeats 400000 in
theorem heldNil (a : Option Addr) (c k : Nat) (w : World) :
    Calls Tryz.prog 37 #[.slice a 0 c, .int .i64 (k : Int)] w fun e w' => e = .returned (.int .i64 (k : Int)) ∧ w = w' := by
  go_enter Tryz.func37, Tryz.ntmps37
  go_wp2
  refine wp_loop_rounds 1 ?_
  rw [rounds_succ]
  go_wp2
  go_ret
  exact ⟨rfl, rfl⟩

end Go.Proofs.YtfdahoekjpobaaaGreat

namespace Go.Proofs.YtfdahoekjpobaaaGreat

def fB (k q : Nat) : Nat := k + q * 1048596
def sB (k q : Nat) : Nat := k + q * 1099600000000
def fTop (k : Nat) : Nat := fB k 1048576
def sTop (k : Nat) : Nat := sB k 1048576
theorem fB_zero (k : Nat) : fB k 0 = k := by simp [fB]
theorem sB_zero (k : Nat) : sB k 0 = k := by simp [sB]
theorem fB_step {k q a b : Nat} (h : a ≤ fB k q) (hb : b ≤ a + 1048596) : b ≤ fB k (q + 1) := by unfold fB at h ⊢; omega
theorem fB_small {k q a : Nat} (h : a ≤ fB k q) (hk : k ≤ 2000000000000000000) (hq : q ≤ 1048576) : a ≤ 2100000000000000000 := by unfold fB at h; omega
theorem fB_top {k q a : Nat} (h : a ≤ fB k q) (hq : q ≤ 1048576) : a ≤ fTop k := Nat.le_trans h (Nat.add_le_add_left (Nat.mul_le_mul_right _ hq) k)
theorem fTop_le (k : Nat) : fTop k ≤ k + 1099550000000 := by unfold fTop fB; omega
theorem sB_step {k q a b : Nat} (h : a ≤ sB k q) (hb : b ≤ fTop (a + 1)) : b ≤ sB k (q + 1) := by have := fTop_le (a + 1); unfold sB at h ⊢; omega
theorem sB_small {k q a : Nat} (h : a ≤ sB k q) (hk : k ≤ 1048576) (hq : q ≤ 1048576) : a ≤ 1200000000000000000 := by unfold sB at h; omega
theorem sB_top {k q a : Nat} (h : a ≤ sB k q) (hq : q ≤ 1048576) : a ≤ sTop k := Nat.le_trans h (Nat.add_le_add_left (Nat.mul_le_mul_right _ hq) k)
theorem sTop_le {k : Nat} (hk : k ≤ 1048576) : sTop k ≤ 1200000000000000000 := by unfold sTop sB; omega
end Go.Proofs.YtfdahoekjpobaaaGreat

namespace Go.Proofs.YtfdahoekjpobaaaGreat
open Go.RowKit Go.Deep

theorem Marks.set {S : Nat → Prop} {w0 w : World} (h : Marks S w0 w) {b m : Nat} (ho : OwnBlk w0 b 84 m) (hS : S b) (o : Nat) (v : Value) (h27 : o % 11 ≠ 4) : Marks S w0 (w.setCell ⟨b, o, none⟩ v) :=
  h.trans (Marks.sc (h.own _ _ _ ho) hS o v (fun _ => h27) (fun e => absurd e (by decide)))
theorem Marks.set66 {S : Nat → Prop} {w0 w : World} (h : Marks S w0 w) {b m : Nat} (ho : OwnBlk w0 b 56 m) (hS : S b) (o : Nat) (v : Value) (h66 : o % 2 ≠ 1) : Marks S w0 (w.setCell ⟨b, o, none⟩ v) :=
  h.trans (Marks.sc (h.own _ _ _ ho) hS o v (fun e => absurd e (by decide)) (fun _ => h66))
theorem Marks.bel {S : Nat → Prop} {w0 w w' : World} (h : Marks S w0 w) (hb : Below w.heap.size w w') : Marks S w0 w' := h.trans (Marks.of_below S hb)

set_option maxRecDepth 100000 in
set_option maxHeartbeats 4000000 in
theorem markFields (S : Nat → Prop) (v : Value) (k : Nat) (w : World) (h : FldsSk w S v) (hk : k ≤ 2000000000000000000) (h1 : 1 ≤ k) :
    Calls Tryz.prog 35 #[v, .int .i64 (k : Int)] w fun e w' => (∃ q : Nat, e = .returned (.int .i64 (q : Int)) ∧ k ≤ q ∧ q ≤ fTop k) ∧ Marks S w w' := by
  have HH : Hid (FldsSk w S v) := h
  obtain ⟨b, n, rfl, hS, hn, _, _⟩ := h
  have HS : Hid (S b) := hS
  clear hS
  go_enter Tryz.func35, Tryz.ntmps35
  go_wp2
  go_loopw [1, 5] (fun kk i wr => ∃ (q kq : Nat), q ≤ n ∧ i = .int .i64 (q : Int) ∧ kk = .int .i64 (kq : Int) ∧ k ≤ kq ∧ kq ≤ fB k q ∧ Marks S w wr) (fun _ i _ => n - (intOf i).toNat)
  case atStart => exact ⟨0, k, Nat.zero_le _, rfl, rfl, Nat.le_refl _, by rw [fB_zero]; exact Nat.le_refl _, Marks.refl _ _⟩
  case round =>
    obtain ⟨q, kq, hq, rfl, rfl, hk1, hk2, hM⟩ := hrel
    have HM : Hid (Marks S w wr) := hM
    have HB : Hid (kq ≤ fB k q) := hk2
    have hks : kq ≤ 2100000000000000000 := fB_small hk2 hk (by omega)
    clear hM hk2
    by_cases hlt : q < n
    · have HF : Hid (FldsSk wr S (.slice (some ⟨b, 0, none⟩) n n)) := HH.out.marks HM.out
      have HW : Hid (OwnBlk wr b 84 (n * 11) ∧ ∃ v', wr.cell? ⟨b, q * 11 + 4, none⟩ = some v' ∧ TxSk wr S v') := by
        obtain ⟨b', n', e, _, _, h3, h4⟩ := HF.out
        injection e with e1 e2 e3
        injection e1 with e1
        injection e1 with e1 _ _
        subst e1 e2
        exact ⟨h3, h4 q hlt⟩
      obtain ⟨v', hv', ht'⟩ := HW.out.2
      have HT : Hid (TxSk wr S v') := ht'
      clear ht'
      go_wp2_with fail
      refine (markText kq wr (by omega) (by omega)).mono ?_
      rintro e w2 ⟨rfl, hb2⟩
      have HM2 : Hid (Marks S wr w2) := Marks.of_below S hb2
      have hv2 : w2.cell? ⟨b, q * 11 + 4, none⟩ = some v' := (hb2.cell (p := ⟨b, q * 11 + 4, none⟩) HW.out.1.lt).trans hv'
      have hO2 := HM2.out.own b 84 _ HW.out.1
      have hfz2 := hO2.frozen
      obtain ⟨x2_0, hx2_0⟩ := hO2.cell (q * 11) (by omega)
      obtain ⟨x2_1, hx2_1⟩ := hO2.cell (q * 11 + 1) (by omega)
      obtain ⟨x2_2, hx2_2⟩ := hO2.cell (q * 11 + 2) (by omega)
      obtain ⟨x2_3, hx2_3⟩ := hO2.cell (q * 11 + 3) (by omega)
      obtain ⟨x2_5, hx2_5⟩ := hO2.cell (q * 11 + 5) (by omega)
      obtain ⟨x2_6, hx2_6⟩ := hO2.cell (q * 11 + 6) (by omega)
      obtain ⟨x2_7, hx2_7⟩ := hO2.cell (q * 11 + 7) (by omega)
      obtain ⟨x2_8, hx2_8⟩ := hO2.cell (q * 11 + 8) (by omega)
      obtain ⟨x2_9, hx2_9⟩ := hO2.cell (q * 11 + 9) (by omega)
      obtain ⟨x2_10, hx2_10⟩ := hO2.cell (q * 11 + 10) (by omega)
      clear hb2 hO2 hv'
      go_wp2_with fail
      rw [show ((kq : Int) + 1 + 1 + 1 + 1) = ((kq + 4 : Nat) : Int) from by omega]
      refine (markTexts S v' (kq + 4) _ ?_ (by omega) (by omega)).mono ?_
      · exact HT.out.marks (by repeat (first | exact HM2.out | refine Marks.set ?_ HW.out.1 HS.out _ _ (by omega)))
      rintro e w3 ⟨⟨k3, rfl, hk3, hk4⟩, hm3⟩
      have HM3 : Hid (Marks S wr w3) := by
        refine Marks.trans ?_ hm3
        repeat (first | exact HM2.out | refine Marks.set ?_ HW.out.1 HS.out _ _ (by omega))
      have hO3 := HM3.out.own b 84 _ HW.out.1
      have hfz3 := hO3.frozen
      obtain ⟨x3_0, hx3_0⟩ := hO3.cell (q * 11) (by omega)
      obtain ⟨x3_1, hx3_1⟩ := hO3.cell (q * 11 + 1) (by omega)
      obtain ⟨x3_2, hx3_2⟩ := hO3.cell (q * 11 + 2) (by omega)
      obtain ⟨x3_3, hx3_3⟩ := hO3.cell (q * 11 + 3) (by omega)
      obtain ⟨x3_5, hx3_5⟩ := hO3.cell (q * 11 + 5) (by omega)
      obtain ⟨x3_6, hx3_6⟩ := hO3.cell (q * 11 + 6) (by omega)
      obtain ⟨x3_7, hx3_7⟩ := hO3.cell (q * 11 + 7) (by omega)
      obtain ⟨x3_8, hx3_8⟩ := hO3.cell (q * 11 + 8) (by omega)
      obtain ⟨x3_9, hx3_9⟩ := hO3.cell (q * 11 + 9) (by omega)
      obtain ⟨x3_10, hx3_10⟩ := hO3.cell (q * 11 + 10) (by omega)
      clear hm3 hO3 hv2
      clear hfz2 hx2_0 hx2_1 hx2_2 hx2_3 hx2_5 hx2_6 hx2_7 hx2_8 hx2_9 hx2_10
      go_wp2_with fail
      refine (markText k3 _ (by omega) (by omega)).mono ?_
      rintro e w4 ⟨rfl, hb4⟩
      have HM4 : Hid (Marks S wr w4) := HM3.out.bel hb4
      have hO4 := HM4.out.own b 84 _ HW.out.1
      have hfz4 := hO4.frozen
      obtain ⟨x4_0, hx4_0⟩ := hO4.cell (q * 11) (by omega)
      obtain ⟨x4_1, hx4_1⟩ := hO4.cell (q * 11 + 1) (by omega)
      obtain ⟨x4_2, hx4_2⟩ := hO4.cell (q * 11 + 2) (by omega)
      obtain ⟨x4_3, hx4_3⟩ := hO4.cell (q * 11 + 3) (by omega)
      obtain ⟨x4_5, hx4_5⟩ := hO4.cell (q * 11 + 5) (by omega)
      obtain ⟨x4_6, hx4_6⟩ := hO4.cell (q * 11 + 6) (by omega)
      obtain ⟨x4_7, hx4_7⟩ := hO4.cell (q * 11 + 7) (by omega)
      obtain ⟨x4_8, hx4_8⟩ := hO4.cell (q * 11 + 8) (by omega)
      obtain ⟨x4_9, hx4_9⟩ := hO4.cell (q * 11 + 9) (by omega)
      obtain ⟨x4_10, hx4_10⟩ := hO4.cell (q * 11 + 10) (by omega)
      clear hb4 hO4
      clear hfz3 hx3_0 hx3_1 hx3_2 hx3_3 hx3_5 hx3_6 hx3_7 hx3_8 hx3_9 hx3_10
      go_wp2_with fail
      rw [show ((k3 : Int) + 1 + 1 + 1 + 1) = ((k3 + 4 : Nat) : Int) from by omega]
      refine (markText (k3 + 4) _ (by omega) (by omega)).mono ?_
      rintro e w5 ⟨rfl, hb5⟩
      have HM5 : Hid (Marks S wr w5) := by
        refine Marks.bel ?_ hb5
        repeat (first | exact HM4.out | refine Marks.set ?_ HW.out.1 HS.out _ _ (by omega))
      have hO5 := HM5.out.own b 84 _ HW.out.1
      have hfz5 := hO5.frozen
      obtain ⟨x5_0, hx5_0⟩ := hO5.cell (q * 11) (by omega)
      obtain ⟨x5_1, hx5_1⟩ := hO5.cell (q * 11 + 1) (by omega)
      obtain ⟨x5_2, hx5_2⟩ := hO5.cell (q * 11 + 2) (by omega)
      obtain ⟨x5_3, hx5_3⟩ := hO5.cell (q * 11 + 3) (by omega)
      obtain ⟨x5_5, hx5_5⟩ := hO5.cell (q * 11 + 5) (by omega)
      obtain ⟨x5_6, hx5_6⟩ := hO5.cell (q * 11 + 6) (by omega)
      obtain ⟨x5_7, hx5_7⟩ := hO5.cell (q * 11 + 7) (by omega)
      obtain ⟨x5_8, hx5_8⟩ := hO5.cell (q * 11 + 8) (by omega)
      obtain ⟨x5_9, hx5_9⟩ := hO5.cell (q * 11 + 9) (by omega)
      obtain ⟨x5_10, hx5_10⟩ := hO5.cell (q * 11 + 10) (by omega)
      clear hb5 hO5
      clear hfz4 hx4_0 hx4_1 hx4_2 hx4_3 hx4_5 hx4_6 hx4_7 hx4_8 hx4_9 hx4_10
      go_wp2_with fail
      rw [show ((k3 : Int) + 4 + 1) = ((k3 + 5 : Nat) : Int) from by omega]
      refine (markText (k3 + 5) _ (by omega) (by omega)).mono ?_
      rintro e w6 ⟨rfl, hb6⟩
      have HM6 : Hid (Marks S wr w6) := by
        refine Marks.bel ?_ hb6
        repeat (first | exact HM5.out | refine Marks.set ?_ HW.out.1 HS.out _ _ (by omega))
      have hO6 := HM6.out.own b 84 _ HW.out.1
      have hfz6 := hO6.frozen
      obtain ⟨x6_0, hx6_0⟩ := hO6.cell (q * 11) (by omega)
      obtain ⟨x6_1, hx6_1⟩ := hO6.cell (q * 11 + 1) (by omega)
      obtain ⟨x6_2, hx6_2⟩ := hO6.cell (q * 11 + 2) (by omega)
      obtain ⟨x6_3, hx6_3⟩ := hO6.cell (q * 11 + 3) (by omega)
      obtain ⟨x6_5, hx6_5⟩ := hO6.cell (q * 11 + 5) (by omega)
      obtain ⟨x6_6, hx6_6⟩ := hO6.cell (q * 11 + 6) (by omega)
      obtain ⟨x6_7, hx6_7⟩ := hO6.cell (q * 11 + 7) (by omega)
      obtain ⟨x6_8, hx6_8⟩ := hO6.cell (q * 11 + 8) (by omega)
      obtain ⟨x6_9, hx6_9⟩ := hO6.cell (q * 11 + 9) (by omega)
      obtain ⟨x6_10, hx6_10⟩ := hO6.cell (q * 11 + 10) (by omega)
      clear hb6 hO6
      clear hfz5 hx5_0 hx5_1 hx5_2 hx5_3 hx5_5 hx5_6 hx5_7 hx5_8 hx5_9 hx5_10
      go_wp2
      go_roundw
      case rel =>
        refine ⟨q + 1, k3 + 6, by omega, by go_num, by go_num, by omega, fB_step HB.out (by omega), HM.out.trans ?_⟩
        repeat (first | exact HM6.out | refine Marks.set ?_ HW.out.1 HS.out _ _ (by omega))
      case measure => simp [intOf]; omega
    · obtain rfl : q = n := by omega
      go_wp2
      go_ret
      exact ⟨⟨kq, rfl, hk1, fB_top HB.out hn⟩, HM.out⟩

set_option maxHeartbeats 4000000 in
theorem markShapes (S : Nat → Prop) (B n : Nat) (k : Nat) (w : World) (h : ShpsSk w S B n) (hk : k ≤ 1048576) (h1 : 1 ≤ k) :
    Calls Tryz.prog 15 #[.slice (some ⟨B, 0, none⟩) n n, .int .i64 (k : Int)] w fun e w' => (∃ q : Nat, e = .returned (.int .i64 (q : Int)) ∧ k ≤ q ∧ q ≤ sTop k) ∧ Marks S w w' := by
  have HH : Hid (ShpsSk w S B n) := h
  have hn := h.2.1
  have HS : Hid (S B) := h.1
  clear h
  go_enter Tryz.func15, Tryz.ntmps15
  go_wp2
  go_loopw [1, 5] (fun kk i wr => ∃ (q kq : Nat), q ≤ n ∧ i = .int .i64 (q : Int) ∧ kk = .int .i64 (kq : Int) ∧ k ≤ kq ∧ kq ≤ sB k q ∧ Marks S w wr) (fun _ i _ => n - (intOf i).toNat)
  case atStart => exact ⟨0, k, Nat.zero_le _, rfl, rfl, Nat.le_refl _, by rw [sB_zero]; exact Nat.le_refl _, Marks.refl _ _⟩
  case round =>
    obtain ⟨q, kq, hq, rfl, rfl, hk1, hk2, hM⟩ := hrel
    have HM : Hid (Marks S w wr) := hM
    have HB : Hid (kq ≤ sB k q) := hk2
    have hks : kq ≤ 1200000000000000000 := sB_small hk2 hk (by omega)
    clear hM hk2
    by_cases hlt : q < n
    · have HF : Hid (ShpsSk wr S B n) := HH.out.marks HM.out
      obtain ⟨v', hv', hf'⟩ := HF.out.2.2.2 q hlt
      have HT : Hid (FldsSk wr S v') := hf'
      have HW : Hid (OwnBlk wr B 56 (n * 2)) := HF.out.2.2.1
      obtain ⟨a1, n1, c1, rfl⟩ : ∃ a n c, v' = .slice a n c := by obtain ⟨b, m, e, _⟩ := hf'; exact ⟨_, _, _, e⟩
      clear hf'
      go_wp2_with fail
      refine (markText kq wr (by omega) (by omega)).mono ?_
      rintro e w2 ⟨rfl, hb2⟩
      have HM2 : Hid (Marks S wr w2) := Marks.of_below S hb2
      have hv2 : w2.cell? ⟨B, q * 2 + 1, none⟩ = some (.slice a1 n1 c1) := (hb2.cell (p := ⟨B, q * 2 + 1, none⟩) HW.out.lt).trans hv'
      have hO2 := HM2.out.own B 56 _ HW.out
      have hfz2 := hO2.frozen
      obtain ⟨x2, hx2⟩ := hO2.cell (q * 2) (by omega)
      clear hb2 hO2 hv'
      go_wp2_with fail
      rw [show ((kq : Int) + 1) = ((kq + 1 : Nat) : Int) from by omega]
      refine (markFields S _ (kq + 1) _ ?_ (by omega) (by omega)).mono ?_
      · exact HT.out.marks (Marks.set66 HM2.out HW.out HS.out _ _ (by omega))
      rintro e w3 ⟨⟨k3, rfl, hk3, hk4⟩, hm3⟩
      have HB3 : Hid (k3 ≤ sB k (q + 1)) := sB_step HB.out hk4
      clear hk4
      have HM3 : Hid (Marks S wr w3) := (Marks.set66 HM2.out HW.out HS.out _ _ (by omega)).trans hm3
      clear hm3 hv2 hx2 hfz2
      go_wp2
      go_roundw
      case rel => exact ⟨q + 1, k3, by omega, by go_num, rfl, by omega, HB3.out, HM.out.trans HM3.out⟩
      case measure => simp [intOf]; omega
    · obtain rfl : q = n := by omega
      go_wp2
      go_ret
      exact ⟨⟨kq, rfl, hk1, sB_top HB.out hn⟩, HM.out⟩

end Go.Proofs.YtfdahoekjpobaaaGreat
