/-
  Marks of a list: StewService.
-/
import Derived.Laws.IdiomStrings
import Derived.Laws.BytesString
import Derived.Deep.RegionWith
import Derived.Test.YtclagbakddkjcaaGreatMemBt
import Derived.Test.YtclagbakddkjcaaGreatMemSv
import Derived.Test.YtclagbakddkjcaaGreatCls
namespace Go.Proofs.YtclagbakddkjcaaGreat
open Go.RowKit Go.Deep

/-- Behind marks in blocks of S: other blocks are as they were; blocks of the call's own stay such. -/
structure Marks (S : Nat → Prop) (w w' : World) : Prop where
  os : w'.os = w.os
  tape : w'.tape = w.tape
  output : w'.output = w.output
  size : w.heap.size ≤ w'.heap.size
  block : ∀ p, p < w.heap.size → ¬ S p → w'.heap[p]? = w.heap[p]?
  own : ∀ b t m, OwnBlk w b t m → OwnBlk w' b t m

theorem Marks.refl (S : Nat → Prop) (w : World) : Marks S w w := ⟨rfl, rfl, rfl, Nat.le_refl _, fun _ _ _ => rfl, fun _ _ _ h => h⟩
theorem Marks.trans {S : Nat → Prop} {a b c : World} (h : Marks S a b) (k : Marks S b c) : Marks S a c :=
  ⟨k.os.trans h.os, k.tape.trans h.tape, k.output.trans h.output, Nat.le_trans h.size k.size, fun p hp hS => (k.block p (Nat.lt_of_lt_of_le hp h.size) hS).trans (h.block p hp hS), fun b t m ho => k.own b t m (h.own b t m ho)⟩
theorem Marks.mono {S S' : Nat → Prop} {w w' : World} (h : Marks S w w') (hs : ∀ p, S p → S' p) : Marks S' w w' :=
  ⟨h.os, h.tape, h.output, h.size, fun p hp hn => h.block p hp (fun e => hn (hs p e)), h.own⟩
theorem Marks.of_below (S : Nat → Prop) {w w' : World} (h : Below w.heap.size w w') : Marks S w w' :=
  ⟨h.os, h.tape, h.output, h.size, fun p hp _ => h.block p hp, fun _ _ _ ho => ho.later h⟩
theorem Marks.sc {S : Nat → Prop} (w : World) {b : Nat} (hS : S b) (o : Nat) (v : Value) : Marks S w (w.setCell ⟨b, o, none⟩ v) := by
  refine ⟨rfl, rfl, rfl, by simp [World.setCell], fun p _ hn => Below.heap_setCell w ⟨b, o, none⟩ v p (fun e => hn (by rw [show p = b from e]; exact hS)), fun b' t' m' h' => ?_⟩
  by_cases e : b' = b
  · subst e; exact h'.setCell o v
  · exact h'.sc_other e o v
theorem Marks.puts {S : Nat → Prop} {b : Nat} (hS : S b) (o : Nat) : ∀ (vs : List Value) (w : World) (j : Nat), Marks S w (puts w b o j vs)
  | [], w, _ => Marks.refl S w
  | v :: vs, w, j => (Marks.sc w hS (o + j) v).trans (Marks.puts hS o vs _ (j + 1))
theorem Marks.below {S : Nat → Prop} {a w w' : World} (h : Marks S w w') (hs : ∀ p, S p → a.heap.size ≤ p) (ha : Below a.heap.size a w) : Below a.heap.size a w' :=
  ⟨h.os.trans ha.os, h.tape.trans ha.tape, h.output.trans ha.output, Nat.le_trans ha.size h.size, fun p hp => (h.block p (Nat.lt_of_lt_of_le hp ha.size) (fun e => by have := hs p e; omega)).trans (ha.block p hp)⟩
theorem Marks.cell {S : Nat → Prop} {w w' : World} (h : Marks S w w') {b : Nat} (hb : b < w.heap.size) (hn : ¬ S b) (o : Nat) : w'.cell? ⟨b, o, none⟩ = w.cell? ⟨b, o, none⟩ :=
  World.cell?_of_block (w := w) (h.block b hb hn)

def mtF : Nat → Nat → ByteArray → ByteArray
  | 0, _, out => ⟨#[109]⟩ ++ out
  | f + 1, n, out => if n = 0 then ⟨#[109]⟩ ++ out else mtF f (n / 10) (⟨#[48 + UInt8.ofNat (n % 10)]⟩ ++ out)
def mt (k : Nat) : ByteArray := mtF k k ByteArray.empty
theorem mtF_zero (f : Nat) (out : ByteArray) : mtF f 0 out = ⟨#[109]⟩ ++ out := by cases f <;> simp [mtF]
theorem mtF_step (f n : Nat) (out : ByteArray) (h : 0 < n) : mtF (f + 1) n out = mtF f (n / 10) (⟨#[48 + UInt8.ofNat (n % 10)]⟩ ++ out) := by
  rw [mtF, if_neg (by omega)]
theorem conv1 (W : World) (n : Int) : (convert 140 9 (.slice (some ⟨W.heap.size, 0, none⟩) 1 1)).run Tryz.prog (W.alloc (.cells #[.int .u8 n] 5)) = .ok (.string ⟨#[UInt8.ofNat n.toNat]⟩) (W.alloc (.cells #[.int .u8 n] 5)) := by
  rw [run_convert_bytes_string _ 140 9 5 _ 1 1 Tryz.underlying140 Tryz.underlying5 Tryz.underlying9]
  have h := run_bytesToString (P := Tryz.prog) (W.alloc (.cells #[.int .u8 n] 5)) ⟨W.heap.size, 0, none⟩ 1 1 [n]
    (run_loadCells_list (P := Tryz.prog) (W.alloc (.cells #[.int .u8 n] 5)) ⟨W.heap.size, 0, none⟩ [.int .u8 n] (fun j v hj => by
      match j, hj with
      | 0, hj => simp at hj; subst hj; simp [Addr.add]))
  rw [h]
  rfl

theorem ret_str {a b : ByteArray} (h : a = b) : Ending.returned (.string a) = .returned (.string b) := by rw [h]

set_option maxHeartbeats 1000000 in
theorem markText (k : Nat) (w : World) (hk : k ≤ 4611686018427387904) (h1 : 1 ≤ k) :
    Calls Tryz.prog 65 #[.int .i64 (k : Int)] w fun e w' => e = .returned (.string (mt k)) ∧ Below w.heap.size w w' := by
  have hcv := conv1
  go_enter Tryz.func65, Tryz.ntmps65
  go_wp2
  go_loopw [0, 3] (fun n o wr => ∃ (j f : Nat) (out : ByteArray), n = .int .i64 (j : Int) ∧ o = .string out ∧ j ≤ f ∧ mtF f j out = mt k ∧ out.size + j ≤ k ∧ Below w.heap.size w wr) (fun n _ _ => (intOf n).toNat)
  case atStart => exact ⟨k, k, ByteArray.empty, rfl, rfl, Nat.le_refl _, rfl, by simp, Below.refl _ _⟩
  case round =>
    obtain ⟨j, f, out, rfl, rfl, hjf, hmt, hj, hW⟩ := hrel
    have HM : Hid (mtF f j out = mt k) := hmt
    clear hmt
    by_cases h0 : 0 < j
    · obtain ⟨f', rfl⟩ : ∃ f', f = f' + 1 := ⟨f - 1, by omega⟩
      have HM' : Hid (mtF f' (j / 10) (⟨#[48 + UInt8.ofNat (j % 10)]⟩ ++ out) = mt k) := by
        have := HM.out
        rw [mtF_step f' j out h0] at this
        exact this
      have HZ : Hid ((ByteArray.mk #[48 + UInt8.ofNat (j % 10)] ++ out).size + j / 10 ≤ k) := by
        show (ByteArray.mk #[48 + UInt8.ofNat (j % 10)] ++ out).size + j / 10 ≤ k
        rw [ByteArray.size_append]
        have : (ByteArray.mk #[48 + UInt8.ofNat (j % 10)]).size = 1 := rfl
        omega
      clear HM
      go_wp2
      go_roundw
      case rel => exact ⟨j / 10, f', _, by go_num, rfl, by omega, HM'.out, HZ.out, blw_alloc hW _⟩
      case measure => simp [intOf]; omega
    · obtain rfl : j = 0 := by omega
      have HE : Hid (ByteArray.mk #[109] ++ out = mt k) := by have := HM.out; rw [mtF_zero] at this; exact this
      go_wp2
      go_ret
      exact ⟨ret_str HE.out, hW⟩
end Go.Proofs.YtclagbakddkjcaaGreat

namespace Go.Proofs.YtclagbakddkjcaaGreat
open Go.RowKit Go.Deep

def markB (k : Nat) : Bool := ((k : Int) % 3 == 0)

/-- One that bears the marks from k on. -/
def BtMk (w : World) (b o k : Nat) : Prop := w.cell? ⟨b, o, none⟩ = some (.string (mt (k))) ∧ w.cell? ⟨b, o + 1, none⟩ = some (.bool (markB (k + 1)))

set_option maxRecDepth 8000 in
set_option maxHeartbeats 8000000 in
theorem markBts (b n c m k : Nat) (w : World) (hO : OwnBlk w b 79 m) (hn : n * 2 ≤ m) (hn2 : n ≤ 1048576) (hk : k ≤ 1000000000000) (h1 : 1 ≤ k) :
    Calls Tryz.prog 34 #[.slice (some ⟨b, 0, none⟩) n c, .int .i64 (k : Int)] w fun e w' => e = .returned (.int .i64 ((k + n * 2 : Nat) : Int)) ∧ Marks (fun p => p = b) w w' ∧ ∀ i, i < n → BtMk w' b (i * 2) (k + i * 2) := by
  have HO : Hid (OwnBlk w b 79 m) := hO
  clear hO
  go_enter Tryz.func34, Tryz.ntmps34
  go_wp2
  go_loopw [1, 5] (fun kk i wr => ∃ q : Nat, q ≤ n ∧ i = .int .i64 (q : Int) ∧ kk = .int .i64 ((k + q * 2 : Nat) : Int) ∧ Marks (fun p => p = b) w wr ∧ ∀ i, i < q → BtMk wr b (i * 2) (k + i * 2)) (fun _ i _ => n - (intOf i).toNat)
  case atStart => exact ⟨0, Nat.zero_le _, rfl, by simp, Marks.refl _ _, fun i hi => absurd hi (Nat.not_lt_zero i)⟩
  case round =>
    obtain ⟨q, hq, rfl, rfl, hM, hall⟩ := hrel
    have HM : Hid (Marks (fun p => p = b) w wr ∧ ∀ i, i < q → BtMk wr b (i * 2) (k + i * 2)) := ⟨hM, hall⟩
    clear hM hall
    by_cases hlt : q < n
    · obtain ⟨kq, hkq⟩ : ∃ kq : Nat, kq = k + q * 2 := ⟨_, rfl⟩
      rw [← hkq]
      have hkq1 : 1 ≤ kq := by omega
      have hkq2 : kq ≤ 1000000000000 + 1048576 * 2 := by omega
      have HK : Hid (kq = k + q * 2) := hkq
      have hm0 : (0 : Int) ≤ (q : Int) := by omega
      have hm3 : (q : Int) < (n : Int) := by omega
      clear hkq
      go_wp2_with fail
      refine (markText kq wr (by omega) (by omega)).mono ?_
      rintro e x0 ⟨rfl, hb0⟩
      have HO0 : Hid (OwnBlk x0 b 79 m) := (HM.out.1.own b 79 m HO.out).later hb0
      obtain ⟨y0, hz0⟩ : ∃ y0, y0 = ((((x0).setCell ⟨b, q * 2, none⟩ (.string (mt (kq))))).setCell ⟨b, q * 2 + 1, none⟩ (.bool (((kq : Int) + 1) % 3 == 0))) := ⟨_, rfl⟩
      have hy0 : y0 = puts x0 b (q * 2) 0 [.string (mt (kq)), .bool (markB (kq + 1))] := hz0
      have HP0 : Hid (OwnBlk y0 b 79 m ∧ Marks (fun p => p = b) wr y0) := by
        show _ ∧ _
        rw [hy0]
        exact ⟨puts_own _ _ _ _ HO0.out, (Marks.of_below _ hb0).trans (Marks.puts (S := fun p => p = b) rfl _ _ _ _)⟩
      have HC0 : Hid (∀ o', (o' < q * 2 + 0 ∨ q * 2 + 0 + 2 ≤ o') → y0.cell? ⟨b, o', none⟩ = wr.cell? ⟨b, o', none⟩) := by
        intro o' ho'
        rw [hy0, puts_other b _ b o' _ _ _ (Or.inr (by simp only [List.length_cons, List.length_nil]; omega))]
        exact hb0.cell (p := ⟨b, o', none⟩) (HM.out.1.own b 79 m HO.out).lt
      have HV0 : Hid (y0.cell? ⟨b, q * 2, none⟩ = some (.string (mt (kq))) ∧ y0.cell? ⟨b, q * 2 + 1, none⟩ = some (.bool (markB (kq + 1)))) := by
        show _ ∧ _
        rw [hy0]
        have p := fun i hi => puts_at (q * 2) [.string (mt (kq)), .bool (markB (kq + 1))] x0 0 HO0.out (by simp only [List.length_cons, List.length_nil]; omega) i hi
        exact ⟨p 0 (by simp), p 1 (by simp)⟩
      have hfz := HO0.out.frozen
      have hbz := HO0.out.lt
      obtain ⟨u0, eu0⟩ := HO0.out.cell (q * 2) (by omega)
      obtain ⟨u1, eu1⟩ := HO0.out.cell (q * 2 + 1) (by omega)
      have HF : Hid (∀ W, W = y0 → Marks (fun p => p = b) w W ∧ ∀ i, i < q + 1 → BtMk W b (i * 2) (k + i * 2)) := by
        intro W hW
        subst hW
        refine ⟨(HM.out.1).trans HP0.out.2, fun i hi => ?_⟩
        by_cases e : i = q
        · subst e
          rw [← HK.out]
          exact ⟨HV0.out.1, HV0.out.2⟩
        · have h := HM.out.2 i (by omega)
          exact ⟨(HC0.out _ (by omega)).trans (h.1), (HC0.out _ (by omega)).trans (h.2)⟩
      clear HP0 HC0 HV0 HO0 hb0
      go_wp2
      go_roundw
      case rel =>
        have hf := HF.out _ hz0.symm
        exact ⟨q + 1, by omega, by go_num, by rw [HK.out]; go_num, hf.1, hf.2⟩
      case measure => simp [intOf]; omega
    · obtain rfl : q = n := by omega
      go_wp2
      go_ret
      exact ⟨rfl, HM.out.1, HM.out.2⟩

theorem BtMk.later {w w' : World} {b o k : Nat} (h : BtMk w b o k) (hb : Below w.heap.size w w') (hlt : b < w.heap.size) : BtMk w' b o k := by
  have c : ∀ j, w'.cell? ⟨b, j, none⟩ = w.cell? ⟨b, j, none⟩ := fun j => hb.cell (p := ⟨b, j, none⟩) hlt
  exact ⟨(c _).trans h.1, (c _).trans h.2⟩

set_option maxRecDepth 8000 in
set_option maxHeartbeats 8000000 in
theorem heldBts (b n c k : Nat) (w : World) (hb : b < w.heap.size) (hn2 : n ≤ 1048576) (hk : k ≤ 1000000000000) (h1 : 1 ≤ k) (hc : ∀ i, i < n → BtMk w b (i * 2) (k + i * 2)) :
    Calls Tryz.prog 37 #[.slice (some ⟨b, 0, none⟩) n c, .int .i64 (k : Int)] w fun e w' => e = .returned (.int .i64 ((k + n * 2 : Nat) : Int)) ∧ Below w.heap.size w w' := by
  have HC := hid hc
  clear hc
  go_enter Tryz.func37, Tryz.ntmps37
  go_wp2
  go_loopw [1, 5] (fun kk i wr => ∃ q : Nat, q ≤ n ∧ i = .int .i64 (q : Int) ∧ kk = .int .i64 ((k + q * 2 : Nat) : Int) ∧ Below w.heap.size w wr) (fun _ i _ => n - (intOf i).toNat)
  case atStart => exact ⟨0, Nat.zero_le _, rfl, by simp, Below.refl _ _⟩
  case round =>
    obtain ⟨q, hq, rfl, rfl, hW⟩ := hrel
    have HW0 := hid hW
    clear hW
    by_cases hlt : q < n
    · obtain ⟨kq, hkq⟩ : ∃ kq : Nat, kq = k + q * 2 := ⟨_, rfl⟩
      have hm := HC.out q hlt
      rw [← hkq] at hm ⊢
      have HX0 := hid (hm.later HW0.out hb)
      have hkq1 : 1 ≤ kq := by omega
      have hkq2 : kq ≤ 1000000000000 + 1048576 * 2 := by omega
      have HK : Hid (kq = k + q * 2) := hkq
      have hm0 : (0 : Int) ≤ (q : Int) := by omega
      have hm3 : (q : Int) < (n : Int) := by omega
      have hbr : b < wr.heap.size := Nat.lt_of_lt_of_le hb HW0.out.size
      clear hkq hm
      have hNE := pst_some wr
      have hbz : ∀ px : Pst wr, b < px.W.heap.size := fun px => px.size hbr
      have S0 : ∀ px : Pst wr, px.W.cell? ⟨b, q * 2, none⟩ = some (.string (mt (kq))) := fun px => px.cell (HX0.out.1) hbr
      go_wp2_with fail
      refine region_class wr (Below.refl _ _) (by kernel_rfl) (by kernel_rfl) ?_
      repeat (first
        | go_big_quiet_skip
        | (go_big_quiet_want; go_big_quiet_op; first | go_big_quiet_on | (apply Exists.intro; refine ⟨fun px => ?_, ?_⟩; (focus ((go_at_call 65; refine (markText kq _ (by omega) (by omega)).mono ?_; rintro e w' ⟨he, hb⟩; exact ⟨he, ⟨w', blw_trans px.ok hb⟩, rfl⟩))); go_big_quiet_on)))
      refine wpQuiet_nil ?_
      intro _ hw'
      obtain ⟨x6, hw''⟩ := hw'
      subst hw''
      have hbr2 : b < x6.W.heap.size := hbz x6
      have HX1 := hid (HX0.out.later x6.ok hbr)
      have HW1 := hid (blw_trans HW0.out x6.ok)
      clear S0 hbz hbr hNE
      have hbr := hbr2
      clear hbr2
      obtain ⟨f0, f1⟩ := HX1.out
      replace f1 : x6.W.cell? ⟨b, q * 2 + 1, none⟩ = some (.bool (((kq : Int) + 1) % 3 == 0)) := f1
      go_wp2
      go_roundw
      case rel => exact ⟨q + 1, by omega, by go_num, by rw [HK.out]; go_num, HW1.out⟩
      case measure => simp [intOf]; omega
    · obtain rfl : q = n := by omega
      go_wp2
      go_ret
      exact ⟨rfl, HW0.out⟩

end Go.Proofs.YtclagbakddkjcaaGreat

namespace Go.Proofs.YtclagbakddkjcaaGreat
open Go.RowKit Go.Deep

/-- One that bears the marks from k on. -/
def SvMk (w : World) (b o k : Nat) : Prop := w.cell? ⟨b, o, none⟩ = some (.string (mt (k))) ∧ w.cell? ⟨b, o + 1, none⟩ = some (.int .i64 ((k + 1 : Nat) : Int)) ∧ w.cell? ⟨b, o + 2, none⟩ = some (.bool (markB (k + 2))) ∧ w.cell? ⟨b, o + 3, none⟩ = some (.int .i64 ((k + 3 : Nat) : Int)) ∧ w.cell? ⟨b, o + 4, none⟩ = some (.int .i64 ((k + 4 : Nat) : Int)) ∧ w.cell? ⟨b, o + 5, none⟩ = some (.int .i64 ((k + 5 : Nat) : Int)) ∧ w.cell? ⟨b, o + 6, none⟩ = some (.int .i64 ((k + 6 : Nat) : Int)) ∧ w.cell? ⟨b, o + 7, none⟩ = some (.int .i64 ((k + 7 : Nat) : Int)) ∧ w.cell? ⟨b, o + 8, none⟩ = some (.int .i64 ((k + 8 : Nat) : Int)) ∧ w.cell? ⟨b, o + 9, none⟩ = some (.int .i64 ((k + 9 : Nat) : Int)) ∧ w.cell? ⟨b, o + 10, none⟩ = some (.int .i64 ((k + 10 : Nat) : Int)) ∧ w.cell? ⟨b, o + 11, none⟩ = some (.int .i64 ((k + 11 : Nat) : Int)) ∧ w.cell? ⟨b, o + 12, none⟩ = some (.int .i64 ((k + 12 : Nat) : Int))

set_option maxRecDepth 8000 in
set_option maxHeartbeats 8000000 in
theorem markSvs (b n c m k : Nat) (w : World) (hO : OwnBlk w b 41 m) (hn : n * 13 ≤ m) (hn2 : n ≤ 1048576) (hk : k ≤ 1000000000000) (h1 : 1 ≤ k) :
    Calls Tryz.prog 32 #[.slice (some ⟨b, 0, none⟩) n c, .int .i64 (k : Int)] w fun e w' => e = .returned (.int .i64 ((k + n * 13 : Nat) : Int)) ∧ Marks (fun p => p = b) w w' ∧ ∀ i, i < n → SvMk w' b (i * 13) (k + i * 13) := by
  have HO : Hid (OwnBlk w b 41 m) := hO
  clear hO
  go_enter Tryz.func32, Tryz.ntmps32
  go_wp2
  go_loopw [1, 5] (fun kk i wr => ∃ q : Nat, q ≤ n ∧ i = .int .i64 (q : Int) ∧ kk = .int .i64 ((k + q * 13 : Nat) : Int) ∧ Marks (fun p => p = b) w wr ∧ ∀ i, i < q → SvMk wr b (i * 13) (k + i * 13)) (fun _ i _ => n - (intOf i).toNat)
  case atStart => exact ⟨0, Nat.zero_le _, rfl, by simp, Marks.refl _ _, fun i hi => absurd hi (Nat.not_lt_zero i)⟩
  case round =>
    obtain ⟨q, hq, rfl, rfl, hM, hall⟩ := hrel
    have HM : Hid (Marks (fun p => p = b) w wr ∧ ∀ i, i < q → SvMk wr b (i * 13) (k + i * 13)) := ⟨hM, hall⟩
    clear hM hall
    by_cases hlt : q < n
    · obtain ⟨kq, hkq⟩ : ∃ kq : Nat, kq = k + q * 13 := ⟨_, rfl⟩
      rw [← hkq]
      have hkq1 : 1 ≤ kq := by omega
      have hkq2 : kq ≤ 1000000000000 + 1048576 * 13 := by omega
      have HK : Hid (kq = k + q * 13) := hkq
      have hm0 : (0 : Int) ≤ (q : Int) := by omega
      have hm3 : (q : Int) < (n : Int) := by omega
      clear hkq
      go_wp2_with fail
      refine (markText kq wr (by omega) (by omega)).mono ?_
      rintro e x0 ⟨rfl, hb0⟩
      have HO0 : Hid (OwnBlk x0 b 41 m) := (HM.out.1.own b 41 m HO.out).later hb0
      obtain ⟨y0, hz0⟩ : ∃ y0, y0 = ((((((((((((((((((((((((((x0).setCell ⟨b, q * 13, none⟩ (.string (mt (kq))))).setCell ⟨b, q * 13 + 1, none⟩ (.int .i64 ((kq : Int) + 1)))).setCell ⟨b, q * 13 + 2, none⟩ (.bool (((kq : Int) + 1 + 1) % 3 == 0)))).setCell ⟨b, q * 13 + 3, none⟩ (.int .i64 ((kq : Int) + 1 + 1 + 1)))).setCell ⟨b, q * 13 + 4, none⟩ (.int .i64 ((kq : Int) + 1 + 1 + 1 + 1)))).setCell ⟨b, q * 13 + 5, none⟩ (.int .i64 ((kq : Int) + 1 + 1 + 1 + 1 + 1)))).setCell ⟨b, q * 13 + 6, none⟩ (.int .i64 ((kq : Int) + 1 + 1 + 1 + 1 + 1 + 1)))).setCell ⟨b, q * 13 + 7, none⟩ (.int .i64 ((kq : Int) + 1 + 1 + 1 + 1 + 1 + 1 + 1)))).setCell ⟨b, q * 13 + 8, none⟩ (.int .i64 ((kq : Int) + 1 + 1 + 1 + 1 + 1 + 1 + 1 + 1)))).setCell ⟨b, q * 13 + 9, none⟩ (.int .i64 ((kq : Int) + 1 + 1 + 1 + 1 + 1 + 1 + 1 + 1 + 1)))).setCell ⟨b, q * 13 + 10, none⟩ (.int .i64 ((kq : Int) + 1 + 1 + 1 + 1 + 1 + 1 + 1 + 1 + 1 + 1)))).setCell ⟨b, q * 13 + 11, none⟩ (.int .i64 ((kq : Int) + 1 + 1 + 1 + 1 + 1 + 1 + 1 + 1 + 1 + 1 + 1)))).setCell ⟨b, q * 13 + 12, none⟩ (.int .i64 ((kq : Int) + 1 + 1 + 1 + 1 + 1 + 1 + 1 + 1 + 1 + 1 + 1 + 1))) := ⟨_, rfl⟩
      have hy0 : y0 = puts x0 b (q * 13) 0 [.string (mt (kq)), .int .i64 ((kq + 1 : Nat) : Int), .bool (markB (kq + 2)), .int .i64 ((kq + 3 : Nat) : Int), .int .i64 ((kq + 4 : Nat) : Int), .int .i64 ((kq + 5 : Nat) : Int), .int .i64 ((kq + 6 : Nat) : Int), .int .i64 ((kq + 7 : Nat) : Int), .int .i64 ((kq + 8 : Nat) : Int), .int .i64 ((kq + 9 : Nat) : Int), .int .i64 ((kq + 10 : Nat) : Int), .int .i64 ((kq + 11 : Nat) : Int), .int .i64 ((kq + 12 : Nat) : Int)] := hz0
      have HP0 : Hid (OwnBlk y0 b 41 m ∧ Marks (fun p => p = b) wr y0) := by
        show _ ∧ _
        rw [hy0]
        exact ⟨puts_own _ _ _ _ HO0.out, (Marks.of_below _ hb0).trans (Marks.puts (S := fun p => p = b) rfl _ _ _ _)⟩
      have HC0 : Hid (∀ o', (o' < q * 13 + 0 ∨ q * 13 + 0 + 13 ≤ o') → y0.cell? ⟨b, o', none⟩ = wr.cell? ⟨b, o', none⟩) := by
        intro o' ho'
        rw [hy0, puts_other b _ b o' _ _ _ (Or.inr (by simp only [List.length_cons, List.length_nil]; omega))]
        exact hb0.cell (p := ⟨b, o', none⟩) (HM.out.1.own b 41 m HO.out).lt
      have HV0 : Hid (y0.cell? ⟨b, q * 13, none⟩ = some (.string (mt (kq))) ∧ y0.cell? ⟨b, q * 13 + 1, none⟩ = some (.int .i64 ((kq + 1 : Nat) : Int)) ∧ y0.cell? ⟨b, q * 13 + 2, none⟩ = some (.bool (markB (kq + 2))) ∧ y0.cell? ⟨b, q * 13 + 3, none⟩ = some (.int .i64 ((kq + 3 : Nat) : Int)) ∧ y0.cell? ⟨b, q * 13 + 4, none⟩ = some (.int .i64 ((kq + 4 : Nat) : Int)) ∧ y0.cell? ⟨b, q * 13 + 5, none⟩ = some (.int .i64 ((kq + 5 : Nat) : Int)) ∧ y0.cell? ⟨b, q * 13 + 6, none⟩ = some (.int .i64 ((kq + 6 : Nat) : Int)) ∧ y0.cell? ⟨b, q * 13 + 7, none⟩ = some (.int .i64 ((kq + 7 : Nat) : Int)) ∧ y0.cell? ⟨b, q * 13 + 8, none⟩ = some (.int .i64 ((kq + 8 : Nat) : Int)) ∧ y0.cell? ⟨b, q * 13 + 9, none⟩ = some (.int .i64 ((kq + 9 : Nat) : Int)) ∧ y0.cell? ⟨b, q * 13 + 10, none⟩ = some (.int .i64 ((kq + 10 : Nat) : Int)) ∧ y0.cell? ⟨b, q * 13 + 11, none⟩ = some (.int .i64 ((kq + 11 : Nat) : Int)) ∧ y0.cell? ⟨b, q * 13 + 12, none⟩ = some (.int .i64 ((kq + 12 : Nat) : Int))) := by
        show _ ∧ _ ∧ _ ∧ _ ∧ _ ∧ _ ∧ _ ∧ _ ∧ _ ∧ _ ∧ _ ∧ _ ∧ _
        rw [hy0]
        have p := fun i hi => puts_at (q * 13) [.string (mt (kq)), .int .i64 ((kq + 1 : Nat) : Int), .bool (markB (kq + 2)), .int .i64 ((kq + 3 : Nat) : Int), .int .i64 ((kq + 4 : Nat) : Int), .int .i64 ((kq + 5 : Nat) : Int), .int .i64 ((kq + 6 : Nat) : Int), .int .i64 ((kq + 7 : Nat) : Int), .int .i64 ((kq + 8 : Nat) : Int), .int .i64 ((kq + 9 : Nat) : Int), .int .i64 ((kq + 10 : Nat) : Int), .int .i64 ((kq + 11 : Nat) : Int), .int .i64 ((kq + 12 : Nat) : Int)] x0 0 HO0.out (by simp only [List.length_cons, List.length_nil]; omega) i hi
        exact ⟨p 0 (by simp), p 1 (by simp), p 2 (by simp), p 3 (by simp), p 4 (by simp), p 5 (by simp), p 6 (by simp), p 7 (by simp), p 8 (by simp), p 9 (by simp), p 10 (by simp), p 11 (by simp), p 12 (by simp)⟩
      have hfz := HO0.out.frozen
      have hbz := HO0.out.lt
      obtain ⟨u0, eu0⟩ := HO0.out.cell (q * 13) (by omega)
      obtain ⟨u1, eu1⟩ := HO0.out.cell (q * 13 + 1) (by omega)
      obtain ⟨u2, eu2⟩ := HO0.out.cell (q * 13 + 2) (by omega)
      obtain ⟨u3, eu3⟩ := HO0.out.cell (q * 13 + 3) (by omega)
      obtain ⟨u4, eu4⟩ := HO0.out.cell (q * 13 + 4) (by omega)
      obtain ⟨u5, eu5⟩ := HO0.out.cell (q * 13 + 5) (by omega)
      obtain ⟨u6, eu6⟩ := HO0.out.cell (q * 13 + 6) (by omega)
      obtain ⟨u7, eu7⟩ := HO0.out.cell (q * 13 + 7) (by omega)
      obtain ⟨u8, eu8⟩ := HO0.out.cell (q * 13 + 8) (by omega)
      obtain ⟨u9, eu9⟩ := HO0.out.cell (q * 13 + 9) (by omega)
      obtain ⟨u10, eu10⟩ := HO0.out.cell (q * 13 + 10) (by omega)
      obtain ⟨u11, eu11⟩ := HO0.out.cell (q * 13 + 11) (by omega)
      obtain ⟨u12, eu12⟩ := HO0.out.cell (q * 13 + 12) (by omega)
      have HF : Hid (∀ W, W = y0 → Marks (fun p => p = b) w W ∧ ∀ i, i < q + 1 → SvMk W b (i * 13) (k + i * 13)) := by
        intro W hW
        subst hW
        refine ⟨(HM.out.1).trans HP0.out.2, fun i hi => ?_⟩
        by_cases e : i = q
        · subst e
          rw [← HK.out]
          exact ⟨HV0.out.1, HV0.out.2.1, HV0.out.2.2.1, HV0.out.2.2.2.1, HV0.out.2.2.2.2.1, HV0.out.2.2.2.2.2.1, HV0.out.2.2.2.2.2.2.1, HV0.out.2.2.2.2.2.2.2.1, HV0.out.2.2.2.2.2.2.2.2.1, HV0.out.2.2.2.2.2.2.2.2.2.1, HV0.out.2.2.2.2.2.2.2.2.2.2.1, HV0.out.2.2.2.2.2.2.2.2.2.2.2.1, HV0.out.2.2.2.2.2.2.2.2.2.2.2.2⟩
        · have h := HM.out.2 i (by omega)
          exact ⟨(HC0.out _ (by omega)).trans (h.1), (HC0.out _ (by omega)).trans (h.2.1), (HC0.out _ (by omega)).trans (h.2.2.1), (HC0.out _ (by omega)).trans (h.2.2.2.1), (HC0.out _ (by omega)).trans (h.2.2.2.2.1), (HC0.out _ (by omega)).trans (h.2.2.2.2.2.1), (HC0.out _ (by omega)).trans (h.2.2.2.2.2.2.1), (HC0.out _ (by omega)).trans (h.2.2.2.2.2.2.2.1), (HC0.out _ (by omega)).trans (h.2.2.2.2.2.2.2.2.1), (HC0.out _ (by omega)).trans (h.2.2.2.2.2.2.2.2.2.1), (HC0.out _ (by omega)).trans (h.2.2.2.2.2.2.2.2.2.2.1), (HC0.out _ (by omega)).trans (h.2.2.2.2.2.2.2.2.2.2.2.1), (HC0.out _ (by omega)).trans (h.2.2.2.2.2.2.2.2.2.2.2.2)⟩
      clear HP0 HC0 HV0 HO0 hb0
      go_wp2
      go_roundw
      case rel =>
        have hf := HF.out _ hz0.symm
        exact ⟨q + 1, by omega, by go_num, by rw [HK.out]; go_num, hf.1, hf.2⟩
      case measure => simp [intOf]; omega
    · obtain rfl : q = n := by omega
      go_wp2
      go_ret
      exact ⟨rfl, HM.out.1, HM.out.2⟩

theorem SvMk.later {w w' : World} {b o k : Nat} (h : SvMk w b o k) (hb : Below w.heap.size w w') (hlt : b < w.heap.size) : SvMk w' b o k := by
  have c : ∀ j, w'.cell? ⟨b, j, none⟩ = w.cell? ⟨b, j, none⟩ := fun j => hb.cell (p := ⟨b, j, none⟩) hlt
  exact ⟨(c _).trans h.1, (c _).trans h.2.1, (c _).trans h.2.2.1, (c _).trans h.2.2.2.1, (c _).trans h.2.2.2.2.1, (c _).trans h.2.2.2.2.2.1, (c _).trans h.2.2.2.2.2.2.1, (c _).trans h.2.2.2.2.2.2.2.1, (c _).trans h.2.2.2.2.2.2.2.2.1, (c _).trans h.2.2.2.2.2.2.2.2.2.1, (c _).trans h.2.2.2.2.2.2.2.2.2.2.1, (c _).trans h.2.2.2.2.2.2.2.2.2.2.2.1, (c _).trans h.2.2.2.2.2.2.2.2.2.2.2.2⟩

set_option maxRecDepth 8000 in
set_option maxHeartbeats 8000000 in
theorem heldSvs (b n c k : Nat) (w : World) (hb : b < w.heap.size) (hn2 : n ≤ 1048576) (hk : k ≤ 1000000000000) (h1 : 1 ≤ k) (hc : ∀ i, i < n → SvMk w b (i * 13) (k + i * 13)) :
    Calls Tryz.prog 35 #[.slice (some ⟨b, 0, none⟩) n c, .int .i64 (k : Int)] w fun e w' => e = .returned (.int .i64 ((k + n * 13 : Nat) : Int)) ∧ Below w.heap.size w w' := by
  have HC := hid hc
  clear hc
  go_enter Tryz.func35, Tryz.ntmps35
  go_wp2
  go_loopw [1, 5] (fun kk i wr => ∃ q : Nat, q ≤ n ∧ i = .int .i64 (q : Int) ∧ kk = .int .i64 ((k + q * 13 : Nat) : Int) ∧ Below w.heap.size w wr) (fun _ i _ => n - (intOf i).toNat)
  case atStart => exact ⟨0, Nat.zero_le _, rfl, by simp, Below.refl _ _⟩
  case round =>
    obtain ⟨q, hq, rfl, rfl, hW⟩ := hrel
    have HW0 := hid hW
    clear hW
    by_cases hlt : q < n
    · obtain ⟨kq, hkq⟩ : ∃ kq : Nat, kq = k + q * 13 := ⟨_, rfl⟩
      have hm := HC.out q hlt
      rw [← hkq] at hm ⊢
      have HX0 := hid (hm.later HW0.out hb)
      have hkq1 : 1 ≤ kq := by omega
      have hkq2 : kq ≤ 1000000000000 + 1048576 * 13 := by omega
      have HK : Hid (kq = k + q * 13) := hkq
      have hm0 : (0 : Int) ≤ (q : Int) := by omega
      have hm3 : (q : Int) < (n : Int) := by omega
      have hbr : b < wr.heap.size := Nat.lt_of_lt_of_le hb HW0.out.size
      clear hkq hm
      have hNE := pst_some wr
      have hbz : ∀ px : Pst wr, b < px.W.heap.size := fun px => px.size hbr
      have S0 : ∀ px : Pst wr, px.W.cell? ⟨b, q * 13, none⟩ = some (.string (mt (kq))) := fun px => px.cell (HX0.out.1) hbr
      go_wp2_with fail
      refine region_class wr (Below.refl _ _) (by kernel_rfl) (by kernel_rfl) ?_
      repeat (first
        | go_big_quiet_skip
        | (go_big_quiet_want; go_big_quiet_op; first | go_big_quiet_on | (apply Exists.intro; refine ⟨fun px => ?_, ?_⟩; (focus ((go_at_call 65; refine (markText kq _ (by omega) (by omega)).mono ?_; rintro e w' ⟨he, hb⟩; exact ⟨he, ⟨w', blw_trans px.ok hb⟩, rfl⟩))); go_big_quiet_on)))
      refine wpQuiet_nil ?_
      intro _ hw'
      obtain ⟨x6, hw''⟩ := hw'
      subst hw''
      have hbr2 : b < x6.W.heap.size := hbz x6
      have HX1 := hid (HX0.out.later x6.ok hbr)
      have HW1 := hid (blw_trans HW0.out x6.ok)
      clear S0 hbz hbr hNE
      have hbr := hbr2
      clear hbr2
      obtain ⟨f0, f1, f2, f3, f4, f5, f6, f7, f8, f9, f10, f11, f12⟩ := HX1.out
      replace f1 : x6.W.cell? ⟨b, q * 13 + 1, none⟩ = some (.int .i64 ((kq : Int) + 1)) := f1
      replace f2 : x6.W.cell? ⟨b, q * 13 + 2, none⟩ = some (.bool (((kq : Int) + 1 + 1) % 3 == 0)) := f2
      replace f3 : x6.W.cell? ⟨b, q * 13 + 3, none⟩ = some (.int .i64 ((kq : Int) + 1 + 1 + 1)) := f3
      replace f4 : x6.W.cell? ⟨b, q * 13 + 4, none⟩ = some (.int .i64 ((kq : Int) + 1 + 1 + 1 + 1)) := f4
      replace f5 : x6.W.cell? ⟨b, q * 13 + 5, none⟩ = some (.int .i64 ((kq : Int) + 1 + 1 + 1 + 1 + 1)) := f5
      replace f6 : x6.W.cell? ⟨b, q * 13 + 6, none⟩ = some (.int .i64 ((kq : Int) + 1 + 1 + 1 + 1 + 1 + 1)) := f6
      replace f7 : x6.W.cell? ⟨b, q * 13 + 7, none⟩ = some (.int .i64 ((kq : Int) + 1 + 1 + 1 + 1 + 1 + 1 + 1)) := f7
      replace f8 : x6.W.cell? ⟨b, q * 13 + 8, none⟩ = some (.int .i64 ((kq : Int) + 1 + 1 + 1 + 1 + 1 + 1 + 1 + 1)) := f8
      replace f9 : x6.W.cell? ⟨b, q * 13 + 9, none⟩ = some (.int .i64 ((kq : Int) + 1 + 1 + 1 + 1 + 1 + 1 + 1 + 1 + 1)) := f9
      replace f10 : x6.W.cell? ⟨b, q * 13 + 10, none⟩ = some (.int .i64 ((kq : Int) + 1 + 1 + 1 + 1 + 1 + 1 + 1 + 1 + 1 + 1)) := f10
      replace f11 : x6.W.cell? ⟨b, q * 13 + 11, none⟩ = some (.int .i64 ((kq : Int) + 1 + 1 + 1 + 1 + 1 + 1 + 1 + 1 + 1 + 1 + 1)) := f11
      replace f12 : x6.W.cell? ⟨b, q * 13 + 12, none⟩ = some (.int .i64 ((kq : Int) + 1 + 1 + 1 + 1 + 1 + 1 + 1 + 1 + 1 + 1 + 1 + 1)) := f12
      go_wp2
      go_roundw
      case rel => exact ⟨q + 1, by omega, by go_num, by rw [HK.out]; go_num, HW1.out⟩
      case measure => simp [intOf]; omega
    · obtain rfl : q = n := by omega
      go_wp2
      go_ret
      exact ⟨rfl, HW0.out⟩

end Go.Proofs.YtclagbakddkjcaaGreat
