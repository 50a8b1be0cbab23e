/-
  Walks: the marks of texts.
-/
import Derived.Test.YthilfmlfmnoikaaMarks
import Derived.Laws.IdiomStrings
import Derived.Laws.BytesString
import Derived.Deep.RegionWith
namespace Go.Proofs.Ythilfmlfmnoikaa
open Go.RowKit Go.Deep

theorem conv1 (W : World) (n : Int) : (convert 66 9 (.slice (some ⟨W.heap.size, 0, none⟩) 1 1)).run Try.prog (W.alloc (.cells #[.int .u8 n] 5)) = .ok (.string ⟨#[UInt8.ofNat n.toNat]⟩) (W.alloc (.cells #[.int .u8 n] 5)) := by
  rw [run_convert_bytes_string _ 66 9 5 _ 1 1 Try.underlying66 Try.underlying5 Try.underlying9]
  have h := run_bytesToString (P := Try.prog) (W.alloc (.cells #[.int .u8 n] 5)) ⟨W.heap.size, 0, none⟩ 1 1 [n]
    (run_loadCells_list (P := Try.prog) (W.alloc (.cells #[.int .u8 n] 5)) ⟨W.heap.size, 0, none⟩ [.int .u8 n] (fun j v hj => by
      match j, hj with
      | 0, hj => simp at hj; subst hj; simp [Addr.add]))
  rw [h]
  rfl

theorem ret_str {a b : ByteArray} (h : a = b) : Ending.returned (.string a) = .returned (.string b) := by rw [h]

set_option maxHeartbeats 1000000 in
theorem markText (k : Nat) (w : World) (hk : k ≤ 4611686018427387904) (h1 : 1 ≤ k) :
    Calls Try.prog 27 #[.int .i64 (k : Int)] w fun e w' => e = .returned (.string (mt k)) ∧ Below w.heap.size w w' := by
  have hcv := conv1
  go_enter Try.func27, Try.ntmps27
  go_wp2
  go_loopw [0, 3] (fun n o wr => ∃ (j f : Nat) (out : ByteArray), n = .int .i64 (j : Int) ∧ o = .string out ∧ j ≤ f ∧ mtF f j out = mt k ∧ out.size + j ≤ k ∧ Below w.heap.size w wr) (fun n _ _ => (intOf n).toNat)
  case atStart => exact ⟨k, k, ByteArray.empty, rfl, rfl, Nat.le_refl _, rfl, by simp, Below.refl _ _⟩
  case round =>
    obtain ⟨j, f, out, rfl, rfl, hjf, hmt, hj, hW⟩ := hrel
    have HM : Hid (mtF f j out = mt k) := hmt
    clear hmt
    by_cases h0 : 0 < j
    · obtain ⟨f', rfl⟩ : ∃ f', f = f' + 1 := ⟨f - 1, by omega⟩
      have HM' : Hid (mtF f' (j / 10) (⟨#[48 + UInt8.ofNat (j % 10)]⟩ ++ out) = mt k) := by
        have := HM.out
        rw [mtF_step f' j out h0] at this
        exact this
      have HZ : Hid ((ByteArray.mk #[48 + UInt8.ofNat (j % 10)] ++ out).size + j / 10 ≤ k) := by
        show (ByteArray.mk #[48 + UInt8.ofNat (j % 10)] ++ out).size + j / 10 ≤ k
        rw [ByteArray.size_append]
        have : (ByteArray.mk #[48 + UInt8.ofNat (j % 10)]).size = 1 := rfl
        omega
      clear HM
      go_wp2
      go_roundw
      case rel => exact ⟨j / 10, f', _, by go_num, rfl, by omega, HM'.out, HZ.out, blw_alloc hW _⟩
      case measure => simp [intOf]; omega
    · obtain rfl : j = 0 := by omega
      have HE : Hid (ByteArray.mk #[109] ++ out = mt k) := by have := HM.out; rw [mtF_zero] at this; exact this
      go_wp2
      go_ret
      exact ⟨ret_str HE.out, hW⟩
set_option maxHeartbeats 1000000 in
theorem markRow (b n c m k : Nat) (w : World) (hO : OwnBlk w b 9 m) (hn : n ≤ m) (hn2 : n ≤ 1048576) (hk : k ≤ 2305843009213693952) (h1 : 1 ≤ k) :
    Calls Try.prog 29 #[.slice (some ⟨b, 0, none⟩) n c, .int .i64 (k : Int)] w fun e w' => e = .returned (.int .i64 ((k + n : Nat) : Int)) ∧ Marks (fun p => p = b) w w' ∧ ∀ i, i < n → w'.cell? ⟨b, i, none⟩ = some (.string (mt (k + i))) := by
  have HO : Hid (OwnBlk w b 9 m) := hO
  clear hO
  go_enter Try.func29, Try.ntmps29
  go_wp2
  go_loopw [1, 5] (fun kk i wr => ∃ q : Nat, q ≤ n ∧ i = .int .i64 (q : Int) ∧ kk = .int .i64 ((k + q : Nat) : Int) ∧ Marks (fun p => p = b) w wr ∧ ∀ i, i < q → wr.cell? ⟨b, i, none⟩ = some (.string (mt (k + i)))) (fun _ i _ => n - (intOf i).toNat)
  case atStart => exact ⟨0, Nat.zero_le _, rfl, rfl, Marks.refl _ _, fun i hi => absurd hi (Nat.not_lt_zero i)⟩
  case round =>
    obtain ⟨q, hq, rfl, rfl, hM, hall⟩ := hrel
    have HM : Hid (Marks (fun p => p = b) w wr ∧ ∀ i, i < q → wr.cell? ⟨b, i, none⟩ = some (.string (mt (k + i)))) := ⟨hM, hall⟩
    clear hM hall
    by_cases hlt : q < n
    · obtain ⟨kq, hkq⟩ : ∃ kq : Nat, kq = k + q := ⟨_, rfl⟩
      rw [← hkq]
      have hkq1 : 1 ≤ kq := by omega
      have hkq2 : kq ≤ 2305843009213693952 + 1048576 := by omega
      have HK : Hid (kq = k + q) := hkq
      clear hkq
      go_wp2_with fail
      refine (markText kq wr (by omega) hkq1).mono ?_
      rintro e w2 ⟨rfl, hb2⟩
      have hO2 := (HM.out.1.own b 9 m HO.out).later hb2
      have hfz := hO2.frozen
      obtain ⟨x, hx⟩ := hO2.cell q (by omega)
      have HP : Hid (Marks (fun p => p = b) w (w2.setCell ⟨b, q, none⟩ (.string (mt kq))) ∧ ∀ i, i < q + 1 → (w2.setCell ⟨b, q, none⟩ (.string (mt kq))).cell? ⟨b, i, none⟩ = some (.string (mt (k + i)))) := by
        refine ⟨(HM.out.1.trans (Marks.of_below _ hb2)).trans (Marks.sc (S := fun p => p = b) hO2 rfl q _ (fun e => absurd e (by decide)) (fun e => absurd e (by decide))), fun i hi => ?_⟩
        by_cases hiq : i = q
        · subst hiq; rw [sc_eq hO2 i (by omega), HK.out]
        · rw [sc_ne _ _ _ _ _ _ (Or.inr hiq), hb2.cell (p := ⟨b, i, none⟩) (HM.out.1.own b 9 m HO.out).lt]
          exact HM.out.2 i (by omega)
      clear hO2 hb2
      go_wp2
      go_roundw
      case rel => exact ⟨q + 1, by omega, by go_num, by rw [HK.out]; go_num, HP.out.1, HP.out.2⟩
      case measure => simp [intOf]; omega
    · obtain rfl : q = n := by omega
      go_wp2
      go_ret
      exact ⟨rfl, HM.out.1, HM.out.2⟩

set_option maxHeartbeats 400000 in
theorem markNil (a : Option Addr) (c k : Nat) (w : World) :
    Calls Try.prog 29 #[.slice a 0 c, .int .i64 (k : Int)] w fun e w' => e = .returned (.int .i64 (k : Int)) ∧ w = w' := by
  go_enter Try.func29, Try.ntmps29
  go_wp2
  refine wp_loop_rounds 1 ?_
  rw [rounds_succ]
  go_wp2
  go_ret
  exact ⟨rfl, rfl⟩

theorem markTexts (S : Nat → Prop) (v : Value) (k : Nat) (w : World) (h : TxSk w S v) (hk : k ≤ 2305843009213693952) (h1 : 1 ≤ k) :
    Calls Try.prog 29 #[v, .int .i64 (k : Int)] w fun e w' => (∃ q : Nat, e = .returned (.int .i64 (q : Int)) ∧ k ≤ q ∧ q ≤ k + 1048576) ∧ Marks S w w' := by
  rcases h with ⟨a, c, rfl⟩ | ⟨b, n, c, m, rfl, hS, hO, hn, hn2⟩
  · refine (markNil a c k w).mono ?_
    rintro e w' ⟨rfl, rfl⟩
    exact ⟨⟨k, rfl, by omega, by omega⟩, Marks.refl _ _⟩
  · refine (markRow b n c m k w hO hn hn2 hk h1).mono ?_
    rintro e w' ⟨rfl, hm, _⟩
    exact ⟨⟨k + n, rfl, by omega, by omega⟩, hm.mono (fun p e => by rw [e]; exact hS)⟩

set_option maxHeartbeats 1000000 in
theorem heldRow (b n c k : Nat) (w : World) (hb : b < w.heap.size) (hn2 : n ≤ 1048576) (hk : k ≤ 2305843009213693952) (h1 : 1 ≤ k) (hc : ∀ i, i < n → w.cell? ⟨b, i, none⟩ = some (.string (mt (k + i)))) :
    Calls Try.prog 30 #[.slice (some ⟨b, 0, none⟩) n c, .int .i64 (k : Int)] w fun e w' => e = .returned (.int .i64 ((k + n : Nat) : Int)) ∧ Below w.heap.size w w' := by
  have HC : Hid (∀ i, i < n → w.cell? ⟨b, i, none⟩ = some (.string (mt (k + i)))) := hc
  clear hc
  go_enter Try.func30, Try.ntmps30
  go_wp2
  go_loopw [1, 5] (fun kk i wr => ∃ q : Nat, q ≤ n ∧ i = .int .i64 (q : Int) ∧ kk = .int .i64 ((k + q : Nat) : Int) ∧ Below w.heap.size w wr) (fun _ i _ => n - (intOf i).toNat)
  case atStart => exact ⟨0, Nat.zero_le _, rfl, rfl, Below.refl _ _⟩
  case round =>
    obtain ⟨q, hq, rfl, rfl, hW⟩ := hrel
    by_cases hlt : q < n
    · obtain ⟨kq, hkq⟩ : ∃ kq : Nat, kq = k + q := ⟨_, rfl⟩
      rw [← hkq]
      have hkq1 : 1 ≤ kq := by omega
      have hkq2 : kq ≤ 2305843009213693952 + 1048576 := by omega
      have hcq : wr.cell? ⟨b, q, none⟩ = some (.string (mt kq)) := by rw [hkq, hW.cell (p := ⟨b, q, none⟩) hb]; exact HC.out q hlt
      have HK : Hid (kq = k + q) := hkq
      have HX : Hid (∀ W, Below wr.heap.size wr W → Calls Try.prog 27 #[.int .i64 (kq : Int)] W fun e w' => e = .returned (.string (mt kq)) ∧ Below W.heap.size W w' ∧ w'.cell? ⟨b, q, none⟩ = some (.string (mt kq))) := by
        intro W h3
        refine (markText kq W (by omega) hkq1).mono ?_
        rintro e w' ⟨rfl, h4⟩
        exact ⟨rfl, h4, ((blw_trans h3 h4).cell (p := ⟨b, q, none⟩) (Nat.lt_of_lt_of_le hb hW.size)).trans hcq⟩
      clear hkq
      go_wp2_with fail
      go_region_with (go_at_call 27; refine (HX.out _ ?_).mono ?_; (repeat (first | exact Below.refl _ _ | refine Below.drew ?_)); rintro e w2 ⟨rfl, hb2, hcq2⟩)
      all_goals
        go_wp2
        go_roundw
        case rel =>
          refine ⟨q + 1, by omega, by go_num, by rw [HK.out]; go_num, ?_⟩
          repeat (first | exact blw_trans hW hb2 | exact blw_trans hW.drew hb2 | exact blw_trans hW.drew.drew hb2 | refine Below.drew ?_)
        case measure => simp [intOf]; omega
    · obtain rfl : q = n := by omega
      go_wp2
      go_ret
      exact ⟨rfl, hW⟩

set_option maxHeartbeats 400000 in
theorem heldNil (a : Option Addr) (c k : Nat) (w : World) :
    Calls Try.prog 30 #[.slice a 0 c, .int .i64 (k : Int)] w fun e w' => e = .returned (.int .i64 (k : Int)) ∧ w = w' := by
  go_enter Try.func30, Try.ntmps30
  go_wp2
  refine wp_loop_rounds 1 ?_
  rw [rounds_succ]
  go_wp2
  go_ret
  exact ⟨rfl, rfl⟩

end Go.Proofs.Ythilfmlfmnoikaa
