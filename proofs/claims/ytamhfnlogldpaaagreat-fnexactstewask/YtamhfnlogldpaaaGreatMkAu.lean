/-
  Rows of acts: marks that are held.
-/
import Derived.Test.YtamhfnlogldpaaaGreatMkAr
namespace Go.Proofs.YtamhfnlogldpaaaGreat
open Go.RowKit Go.Deep

/-- Ends that bear the marks from k on. -/
def EndMk (w : World) (b n k : Nat) : Prop := ∀ t, t < n → w.cell? ⟨b, t * 2, none⟩ = some (.int .i64 ((k + t * 2 : Nat) : Int)) ∧ w.cell? ⟨b, t * 2 + 1, none⟩ = some (.int .i64 ((k + t * 2 + 1 : Nat) : Int))

set_option maxRecDepth 8000 in
set_option maxHeartbeats 8000000 in
theorem markEnsV (a : Option Addr) (b n c k : Nat) (w : World) (hO : 0 < n → a = some ⟨b, 0, none⟩ ∧ ∃ m, OwnBlk w b 114 m ∧ n * 2 ≤ m) (hn2 : n ≤ 1048576) (hk : k ≤ 1000000000000) :
    Calls Tryz.prog 38 #[.slice a n c, .int .i64 (k : Int)] w fun e w' => e = .returned (.int .i64 ((k + n * 2 : Nat) : Int)) ∧ Marks (fun p => 0 < n ∧ p = b) w w' ∧ EndMk w' b n k := by
  have HO := hidA hO
  clear hO
  go_enter Tryz.func38, Tryz.ntmps38
  go_wp2
  go_loopw [1, 5] (fun kk i wr => ∃ q : Nat, q ≤ n ∧ i = .int .i64 (q : Int) ∧ kk = .int .i64 ((k + q * 2 : Nat) : Int) ∧ Marks (fun p => 0 < n ∧ p = b) w wr ∧ EndMk wr b q k) (fun _ i _ => n - (intOf i).toNat)
  case atStart => exact ⟨0, Nat.zero_le _, rfl, by simp, Marks.refl _ _, fun t ht => absurd ht (Nat.not_lt_zero t)⟩
  case round =>
    obtain ⟨q, hq, rfl, rfl, hM, hE⟩ := hrel
    have HM := hidA hM
    have HE := hidA hE
    clear hM hE
    by_cases hlt : q < n
    · obtain ⟨ha, m, hO, hnm⟩ := HO.out (by omega)
      subst ha
      obtain ⟨kq, hkq⟩ : ∃ kq : Nat, kq = k + q * 2 := ⟨_, rfl⟩
      rw [← hkq]
      have hkq2 : kq ≤ 1000000000000 + 1048576 * 2 := by omega
      have HK : Hid (kq = k + q * 2) := hkq
      have hm0 : (0 : Int) ≤ (q : Int) := by omega
      have hm3 : (q : Int) < (n : Int) := by omega
      clear hkq
      have HO0 : Hid (OwnBlk wr b 114 m) := HM.out.own b 114 m hO
      have HF : Hid (∀ W, W = (wr.setCell ⟨b, q * 2, none⟩ (.int .i64 (kq : Int))).setCell ⟨b, q * 2 + 1, none⟩ (.int .i64 ((kq : Int) + 1)) → Marks (fun p => 0 < n ∧ p = b) w W ∧ EndMk W b (q + 1) k) := by
        intro W hW
        have e : W = puts wr b (q * 2) 0 [.int .i64 (kq : Int), .int .i64 ((kq : Int) + 1)] := hW
        rw [e]
        refine ⟨HM.out.trans (Marks.puts (S := fun p => 0 < n ∧ p = b) ⟨by omega, rfl⟩ _ _ _ _), fun t ht => ?_⟩
        by_cases et : t = q
        · subst et
          rw [← HK.out]
          have p := fun i hi => puts_at (t * 2) [.int .i64 (kq : Int), .int .i64 ((kq : Int) + 1)] wr 0 HO0.out (by simp only [List.length_cons, List.length_nil]; omega) i hi
          exact ⟨p 0 (by simp), p 1 (by simp)⟩
        · have h := HE.out t (by omega)
          exact ⟨(puts_other b _ b _ _ _ _ (Or.inr (Or.inl (by omega)))).trans h.1, (puts_other b _ b _ _ _ _ (Or.inr (Or.inl (by omega)))).trans h.2⟩
      have hfz := HO0.out.frozen
      have hbz := HO0.out.lt
      obtain ⟨u0, eu0⟩ := HO0.out.cell (q * 2) (by omega)
      obtain ⟨u1, eu1⟩ := HO0.out.cell (q * 2 + 1) (by omega)
      clear hO
      go_wp2
      go_roundw
      case rel =>
        have hf := HF.out _ rfl
        exact ⟨q + 1, by omega, by go_num, by rw [HK.out]; go_num, hf.1, hf.2⟩
      case measure => simp [intOf]; omega
    · obtain rfl : q = n := by omega
      go_wp2
      go_ret
      exact ⟨rfl, HM.out, HE.out⟩

set_option maxRecDepth 8000 in
set_option maxHeartbeats 8000000 in
theorem heldEnsV (a : Option Addr) (b n c k : Nat) (w : World) (hO : 0 < n → a = some ⟨b, 0, none⟩ ∧ b < w.heap.size) (hE : EndMk w b n k) (hn2 : n ≤ 1048576) (hk : k ≤ 1000000000000) :
    Calls Tryz.prog 39 #[.slice a n c, .int .i64 (k : Int)] w fun e w' => e = .returned (.int .i64 ((k + n * 2 : Nat) : Int)) ∧ Below w.heap.size w w' := by
  have HO := hidA hO
  have HE := hidA hE
  clear hO hE
  go_enter Tryz.func39, Tryz.ntmps39
  go_wp2
  go_loopw [1, 5] (fun kk i wr => ∃ q : Nat, q ≤ n ∧ i = .int .i64 (q : Int) ∧ kk = .int .i64 ((k + q * 2 : Nat) : Int) ∧ wr = w) (fun _ i _ => n - (intOf i).toNat)
  case atStart => exact ⟨0, Nat.zero_le _, rfl, by simp, rfl⟩
  case round =>
    obtain ⟨q, hq, rfl, rfl, rfl⟩ := hrel
    by_cases hlt : q < n
    · obtain ⟨ha, hbz⟩ := HO.out (by omega)
      subst ha
      obtain ⟨e1, e2⟩ := HE.out q hlt
      obtain ⟨kq, hkq⟩ : ∃ kq : Nat, kq = k + q * 2 := ⟨_, rfl⟩
      rw [← hkq] at e1 e2 ⊢
      replace e2 : wr.cell? ⟨b, q * 2 + 1, none⟩ = some (.int .i64 ((kq : Int) + 1)) := e2
      have hkq2 : kq ≤ 1000000000000 + 1048576 * 2 := by omega
      have HK := hidA hkq
      clear hkq
      have hm0 : (0 : Int) ≤ (q : Int) := by omega
      have hm3 : (q : Int) < (n : Int) := by omega
      go_wp2
      go_roundw
      case rel => exact ⟨q + 1, by omega, by go_num, by rw [HK.out]; go_num, by first | rfl | trivial⟩
      case measure => simp [intOf]; omega
    · obtain rfl : q = n := by omega
      go_wp2
      go_ret
      exact ⟨rfl, Below.refl _ _⟩


end Go.Proofs.YtamhfnlogldpaaaGreat

namespace Go.Proofs.YtamhfnlogldpaaaGreat
open Go.RowKit Go.Deep

/-- The mark at which an act begins. -/
def kA (L : List Ac) (k : Nat) : Nat → Nat
  | 0 => k
  | i + 1 => kA L k i + 7 + (L.getD i Ac.none).ends.length * 2
theorem kA_le {L : List Ac} (h : Short L) {k : Nat} (hk : k ≤ 1000) : ∀ i, k ≤ kA L k i ∧ kA L k i ≤ 1000 + i * 2007
  | 0 => ⟨Nat.le_refl _, by simp [kA, hk]⟩
  | i + 1 => by
    have := kA_le h hk i
    have := h.2 i
    rw [kA]
    omega
/-- An act that bears the marks from k on. -/
def MkC (k n : Nat) (e : Value) : List Value := [.string (mt k), .int .i64 ((k + 1 : Nat) : Int), .int .i64 ((k + 2 : Nat) : Int), .int .i64 ((k + 3 : Nat) : Int), .int .i64 ((k + 4 : Nat) : Int), .bool (markB (k + 5)), e, .bool (markB (k + 6 + n * 2))]
/-- A row of acts that bears marks. -/
structure RowM (W : World) (a : Option Addr) (b : Nat) (L : List Ac) (ae : Nat → Option Addr) (ce eb : Nat → Nat) (k n : Nat) : Prop where
  cells : ∀ i, i < n → W.rangeAt b (i * 8) (MkC (kA L k i) (L.getD i Ac.none).ends.length (.slice (ae i) (L.getD i Ac.none).ends.length (ce i)))
  ecells : ∀ i, i < n → EndMk W (eb i) (L.getD i Ac.none).ends.length (kA L k i + 6)

set_option maxRecDepth 8000 in
set_option maxHeartbeats 16000000 in
theorem markActs (L : List Ac) (hs : Short L) (lo hi : Nat) (a : Option Addr) (c b : Nat) (ae : Nat → Option Addr) (ce eb : Nat → Nat) (k : Nat) (w : World) (h : RowP w lo hi a b L ae ce eb) (hk : k ≤ 1000) (h1 : 1 ≤ k) :
    Calls Tryz.prog 11 #[.slice a L.length c, .int .i64 (k : Int)] w fun e w' => e = .returned (.int .i64 ((kA L k L.length : Nat) : Int)) ∧ Marks (fun p => lo ≤ p ∧ p < hi) w w' ∧ RowM w' a b L ae ce eb k L.length := by
  have HS := hidA hs
  have hl := hs.1
  have HH := hidA h
  have HKL := hidA (kA_le hs hk)
  clear h hs
  go_enter Tryz.func11, Tryz.ntmps11
  go_wp2
  go_loopw [1, 5] (fun kk i wr => ∃ q : Nat, q ≤ L.length ∧ i = .int .i64 (q : Int) ∧ kk = .int .i64 ((kA L k q : Nat) : Int) ∧ Marks (fun p => lo ≤ p ∧ p < hi) w wr ∧ RowM wr a b L ae ce eb k q ∧ ∀ i, q ≤ i → i < L.length → wr.cell? ⟨b, i * 8 + 6, none⟩ = some (.slice (ae i) (L.getD i Ac.none).ends.length (ce i))) (fun _ i _ => L.length - (intOf i).toNat)
  case atStart => exact ⟨0, Nat.zero_le _, rfl, rfl, Marks.refl _ _, ⟨fun i hi => absurd hi (Nat.not_lt_zero i), fun i hi => absurd hi (Nat.not_lt_zero i)⟩, fun i _ hi => HH.out.cells i hi 6 _ rfl⟩
  case round =>
    obtain ⟨q, hq, rfl, rfl, hM, hR, hN⟩ := hrel
    have HM := hidA hM
    have HR := hidA hR
    have HN := hidA hN
    clear hM hR hN
    by_cases hlt : q < L.length
    · obtain ⟨ha, hblo, hbhi, m, hO, hnm⟩ := HH.out.a_ (by omega)
      subst ha
      have HE := hidA (HH.out.e_ q hlt)
      obtain ⟨kq, hkq⟩ : ∃ kq : Nat, kq = kA L k q := ⟨_, rfl⟩
      have HKN : Hid (kA L k (q + 1) = kq + 7 + (L.getD q Ac.none).ends.length * 2) := by show _ = _; rw [kA, hkq]
      have hkb := HKL.out q
      rw [← hkq] at hkb ⊢
      have hkq1 : 1 ≤ kq := by omega
      have hkq2 : kq ≤ 1000 + 1000 * 2007 := by omega
      have HK : Hid (kq = kA L k q) := hkq
      have hm0 : (0 : Int) ≤ (q : Int) := by omega
      have hm3 : (q : Int) < (L.length : Int) := by omega
      have hnl := HS.out.2 q
      have HN6 := hidA (HN.out q (Nat.le_refl _) hlt)
      obtain ⟨ne, hne⟩ : ∃ ne, ne = (L.getD q Ac.none).ends.length := ⟨_, rfl⟩
      obtain ⟨aq, haq⟩ : ∃ aq, aq = ae q := ⟨_, rfl⟩
      obtain ⟨cq, hcq⟩ : ∃ cq, cq = ce q := ⟨_, rfl⟩
      have HAQ : Hid (ne = (L.getD q Ac.none).ends.length ∧ aq = ae q ∧ cq = ce q) := ⟨hne, haq, hcq⟩
      rw [← hne] at hnl HE HN6 HKN
      rw [← haq] at HE HN6
      rw [← hcq] at HN6
      clear hkq hkb hne haq hcq
      go_wp2_with fail
      refine (markText kq wr (by omega) (by omega)).mono ?_
      rintro e x0 ⟨rfl, hb0⟩
      have HOr : Hid (OwnBlk wr b 47 m) := HM.out.own b 47 m hO
      have HO0 : Hid (OwnBlk x0 b 47 m) := HOr.out.later hb0
      obtain ⟨y0, hz0⟩ : ∃ y0, y0 = ((((((((((((x0).setCell ⟨b, q * 8, none⟩ (.string (mt (kq))))).setCell ⟨b, q * 8 + 1, none⟩ (.int .i64 ((kq : Int) + 1)))).setCell ⟨b, q * 8 + 2, none⟩ (.int .i64 ((kq : Int) + 1 + 1)))).setCell ⟨b, q * 8 + 3, none⟩ (.int .i64 ((kq : Int) + 1 + 1 + 1)))).setCell ⟨b, q * 8 + 4, none⟩ (.int .i64 ((kq : Int) + 1 + 1 + 1 + 1)))).setCell ⟨b, q * 8 + 5, none⟩ (.bool (((kq : Int) + 1 + 1 + 1 + 1 + 1) % 3 == 0))) := ⟨_, rfl⟩
      have hy0 : y0 = puts x0 b (q * 8) 0 [.string (mt (kq)), .int .i64 ((kq + 1 : Nat) : Int), .int .i64 ((kq + 2 : Nat) : Int), .int .i64 ((kq + 3 : Nat) : Int), .int .i64 ((kq + 4 : Nat) : Int), .bool (markB (kq + 5))] := hz0
      have HP0 : Hid (OwnBlk y0 b 47 m ∧ Marks (fun p => p = b) wr y0) := by
        show _ ∧ _
        rw [hy0]
        exact ⟨puts_own _ _ _ _ HO0.out, (Marks.of_below _ hb0).trans (Marks.puts (S := fun p => p = b) rfl _ _ _ _)⟩
      have HC0 : Hid (∀ o', (o' < q * 8 + 0 ∨ q * 8 + 0 + 6 ≤ o') → y0.cell? ⟨b, o', none⟩ = wr.cell? ⟨b, o', none⟩) := by
        intro o' ho'
        rw [hy0, puts_other b _ b o' _ _ _ (Or.inr (by simp only [List.length_cons, List.length_nil]; omega))]
        exact hb0.cell (p := ⟨b, o', none⟩) HOr.out.lt
      have HV0 : Hid (y0.cell? ⟨b, q * 8, none⟩ = some (.string (mt (kq))) ∧ y0.cell? ⟨b, q * 8 + 1, none⟩ = some (.int .i64 ((kq + 1 : Nat) : Int)) ∧ y0.cell? ⟨b, q * 8 + 2, none⟩ = some (.int .i64 ((kq + 2 : Nat) : Int)) ∧ y0.cell? ⟨b, q * 8 + 3, none⟩ = some (.int .i64 ((kq + 3 : Nat) : Int)) ∧ y0.cell? ⟨b, q * 8 + 4, none⟩ = some (.int .i64 ((kq + 4 : Nat) : Int)) ∧ y0.cell? ⟨b, q * 8 + 5, none⟩ = some (.bool (markB (kq + 5)))) := by
        show _ ∧ _ ∧ _ ∧ _ ∧ _ ∧ _
        rw [hy0]
        have p := fun i hi => puts_at (q * 8) [.string (mt (kq)), .int .i64 ((kq + 1 : Nat) : Int), .int .i64 ((kq + 2 : Nat) : Int), .int .i64 ((kq + 3 : Nat) : Int), .int .i64 ((kq + 4 : Nat) : Int), .bool (markB (kq + 5))] x0 0 HO0.out (by simp only [List.length_cons, List.length_nil]; omega) i hi
        exact ⟨p 0 (by simp), p 1 (by simp), p 2 (by simp), p 3 (by simp), p 4 (by simp), p 5 (by simp)⟩
      have hfz := HO0.out.frozen
      have hbz := HO0.out.lt
      obtain ⟨u0, eu0⟩ := HO0.out.cell (q * 8) (by omega)
      obtain ⟨u1, eu1⟩ := HO0.out.cell (q * 8 + 1) (by omega)
      obtain ⟨u2, eu2⟩ := HO0.out.cell (q * 8 + 2) (by omega)
      obtain ⟨u3, eu3⟩ := HO0.out.cell (q * 8 + 3) (by omega)
      obtain ⟨u4, eu4⟩ := HO0.out.cell (q * 8 + 4) (by omega)
      obtain ⟨u5, eu5⟩ := HO0.out.cell (q * 8 + 5) (by omega)
      go_upto_region 16 with fail
      rw [← hz0]
      clear hz0 hy0 hfz hbz eu0 eu1 eu2 eu3 eu4 eu5 hO
      have z6 : y0.cell? ⟨b, q * 8 + 6, none⟩ = some (.slice aq ne cq) := (HC0.out _ (by omega)).trans HN6.out
      have hbz := HP0.out.1.lt
      go_wp2_with fail
      refine (markEnsV aq (eb q) ne cq (kq + 6) y0 ?_ (by omega) (by omega)).mono ?_
      · intro h0
        obtain ⟨g1, g2, g3, m', g4, g5⟩ := HE.out h0
        exact ⟨g1, m', HP0.out.2.own _ _ _ (HM.out.own _ _ _ g4), g5⟩
      rintro e x1 ⟨rfl, hm1, hE1⟩
      have hdis : ¬ (0 < ne ∧ b = eb q) := by
        rintro ⟨g0, g⟩
        obtain ⟨_, _, _, m', g4, _⟩ := HE.out g0
        have t1 := HM.out.own _ _ _ g4
        rw [← g] at t1
        have := t1.kind HOr.out
        exact absurd this (by decide)
      have HM1 := hidA hm1
      have HE1 := hidA hE1
      have HD := hidA hdis
      have HO1 : Hid (OwnBlk x1 b 47 m) := hm1.own _ _ _ HP0.out.1
      have HC1 : Hid (∀ o', x1.cell? ⟨b, o', none⟩ = y0.cell? ⟨b, o', none⟩) := fun o' => hm1.cell HP0.out.1.lt hdis o'
      clear hm1 hE1 hdis z6 hbz
      obtain ⟨y1, hz1⟩ : ∃ y1, y1 = ((x1).setCell ⟨b, q * 8 + 7, none⟩ (.bool (((kq + 6 + ne * 2 : Nat) : Int) % 3 == 0))) := ⟨_, rfl⟩
      have HF : Hid (∀ W, W = y1 → Marks (fun p => lo ≤ p ∧ p < hi) w W ∧ RowM W (some ⟨b, 0, none⟩) b L ae ce eb k (q + 1) ∧ ∀ i, q + 1 ≤ i → i < L.length → W.cell? ⟨b, i * 8 + 6, none⟩ = some (.slice (ae i) (L.getD i Ac.none).ends.length (ce i))) := by
        intro W hW
        subst hW
        have hx := fun o' (ho : o' ≠ q * 8 + 7) => (show W.cell? ⟨b, o', none⟩ = x1.cell? ⟨b, o', none⟩ by rw [hz1]; exact sc_ne _ _ _ _ _ _ (Or.inr ho))
        have h7 : W.cell? ⟨b, q * 8 + 7, none⟩ = some (.bool (markB (kq + 6 + ne * 2))) := by rw [hz1]; exact sc_eq HO1.out _ (by omega) _
        have hob : ∀ p, p ≠ b → p < x1.heap.size → ∀ j, W.cell? ⟨p, j, none⟩ = x1.cell? ⟨p, j, none⟩ := fun p hp _ j => by rw [hz1]; exact sc_ne _ _ _ _ _ _ (Or.inl hp)
        have mW : Marks (fun p => lo ≤ p ∧ p < hi) x1 W := by rw [hz1]; exact Marks.sc x1 (S := fun p => lo ≤ p ∧ p < hi) ⟨hblo, hbhi⟩ _ _
        have m0 : Marks (fun p => lo ≤ p ∧ p < hi) wr y0 := HP0.out.2.mono (fun p hp => by rw [hp]; exact ⟨hblo, hbhi⟩)
        have m1 : Marks (fun p => lo ≤ p ∧ p < hi) y0 x1 := HM1.out.mono (fun p hp => by
          obtain ⟨g0, g⟩ := hp
          obtain ⟨_, g2, g3, _⟩ := HE.out g0
          rw [g]; exact ⟨g2, g3⟩)
        obtain ⟨ene, eaq, ecq⟩ := HAQ.out
        refine ⟨((HM.out.trans m0).trans m1).trans mW, ⟨fun i hi => ?_, fun i hi => ?_⟩, fun i hi hil => ?_⟩
        · by_cases e : i = q
          · subst e
            rw [← HK.out, ← ene, ← eaq, ← ecq]
            intro j v hv
            match j, hv with
            | 0, hv => injection hv with hv; subst hv; exact (hx _ (by omega)).trans ((HC1.out _).trans HV0.out.1)
            | 1, hv => injection hv with hv; subst hv; exact (hx _ (by omega)).trans ((HC1.out _).trans HV0.out.2.1)
            | 2, hv => injection hv with hv; subst hv; exact (hx _ (by omega)).trans ((HC1.out _).trans HV0.out.2.2.1)
            | 3, hv => injection hv with hv; subst hv; exact (hx _ (by omega)).trans ((HC1.out _).trans HV0.out.2.2.2.1)
            | 4, hv => injection hv with hv; subst hv; exact (hx _ (by omega)).trans ((HC1.out _).trans HV0.out.2.2.2.2.1)
            | 5, hv => injection hv with hv; subst hv; exact (hx _ (by omega)).trans ((HC1.out _).trans HV0.out.2.2.2.2.2)
            | 6, hv => injection hv with hv; subst hv; exact (hx _ (by omega)).trans ((HC1.out _).trans ((HC0.out _ (by omega)).trans HN6.out))
            | 7, hv => injection hv with hv; subst hv; exact h7
            | n + 8, hv => simp [MkC] at hv
          · intro j v hv
            have hj : j < 8 := (List.getElem?_eq_some_iff.1 hv).1
            exact (hx _ (by omega)).trans ((HC1.out _).trans ((HC0.out _ (by omega)).trans (HR.out.cells i (by omega) j v hv)))
        · intro t ht
          by_cases e : i = q
          · subst e
            have hne : eb i ≠ b := fun g => HD.out ⟨by rw [ene]; omega, g.symm⟩
            have g4 := HE.out (by rw [ene]; omega)
            obtain ⟨_, _, _, m', g4, _⟩ := g4
            have hlt' : eb i < x1.heap.size := (HM1.out.own _ _ _ (HP0.out.2.own _ _ _ (HM.out.own _ _ _ g4))).lt
            have := HE1.out t (by rw [ene]; exact ht)
            rw [HK.out] at this
            exact ⟨(hob _ hne hlt' _).trans this.1, (hob _ hne hlt' _).trans this.2⟩
          · have hil : i < L.length := by omega
            obtain ⟨_, _, _, m', g4, _⟩ := HH.out.e_ i hil (by omega)
            have gw := HM.out.own _ _ _ g4
            have hne : eb i ≠ b := fun g => by
              rw [g] at gw
              exact absurd (gw.kind HOr.out) (by decide)
            have gy := HP0.out.2.own _ _ _ gw
            have hnq : ¬ (0 < ne ∧ eb i = eb q) := fun g => HH.out.apart i q (by omega) hlt (by omega) (by rw [← ene]; exact g.1) g.2
            have gx := HM1.out.own _ _ _ gy
            have cc : ∀ j, W.cell? ⟨eb i, j, none⟩ = wr.cell? ⟨eb i, j, none⟩ := fun j => (hob _ hne gx.lt j).trans ((HM1.out.cell gy.lt hnq j).trans (HP0.out.2.cell gw.lt hne j))
            have := HR.out.ecells i (by omega) t ht
            exact ⟨(cc _).trans this.1, (cc _).trans this.2⟩
        · exact (hx _ (by omega)).trans ((HC1.out _).trans ((HC0.out _ (by omega)).trans (HN.out i (by omega) hil)))
      have hfz := HO1.out.frozen
      have hbz := HO1.out.lt
      obtain ⟨u7, eu7⟩ := HO1.out.cell (q * 8 + 7) (by omega)
      clear HP0 HC0 HV0 HO0 HC1 HO1 HM1 HE1 hb0 HE HN6
      go_wp2
      go_roundw
      case rel =>
        have hf := HF.out _ hz1.symm
        exact ⟨q + 1, by omega, by go_num, by rw [HKN.out]; go_num, hf.1, hf.2.1, hf.2.2⟩
      case measure => simp [intOf]; omega
    · obtain rfl : q = L.length := by omega
      go_wp2
      go_ret
      exact ⟨rfl, HM.out, HR.out⟩


end Go.Proofs.YtamhfnlogldpaaaGreat

namespace Go.Proofs.YtamhfnlogldpaaaGreat
open Go.RowKit Go.Deep

/-- What a marked row wants to be read. -/
structure RowQ (W : World) (a : Option Addr) (b : Nat) (L : List Ac) (ae : Nat → Option Addr) (ce eb : Nat → Nat) (k : Nat) : Prop where
  r : RowM W a b L ae ce eb k L.length
  a_ : 0 < L.length → a = some ⟨b, 0, none⟩ ∧ b < W.heap.size
  e_ : ∀ i, i < L.length → 0 < (L.getD i Ac.none).ends.length → ae i = some ⟨eb i, 0, none⟩ ∧ eb i < W.heap.size
theorem RowQ.later {W W' : World} {a : Option Addr} {b : Nat} {L : List Ac} {ae : Nat → Option Addr} {ce eb : Nat → Nat} {k : Nat} (h : RowQ W a b L ae ce eb k) (hb : Below W.heap.size W W') : RowQ W' a b L ae ce eb k := by
  refine ⟨⟨fun i hi => ?_, fun i hi t ht => ?_⟩, fun h0 => ?_, fun i hi h0 => ?_⟩
  · obtain ⟨_, q⟩ := h.a_ (by omega)
    exact range_keep (h.r.cells i hi) fun j => hb.cell (p := ⟨b, j, none⟩) q
  · obtain ⟨_, q⟩ := h.e_ i hi (by omega)
    have c := fun j => hb.cell (p := ⟨eb i, j, none⟩) q
    have := h.r.ecells i hi t ht
    exact ⟨(c _).trans this.1, (c _).trans this.2⟩
  · obtain ⟨q1, q2⟩ := h.a_ h0
    exact ⟨q1, Nat.lt_of_lt_of_le q2 hb.size⟩
  · obtain ⟨q1, q2⟩ := h.e_ i hi h0
    exact ⟨q1, Nat.lt_of_lt_of_le q2 hb.size⟩
theorem RowP.q {S : Nat → Prop} {W W' : World} {lo hi : Nat} {a : Option Addr} {b : Nat} {L : List Ac} {ae : Nat → Option Addr} {ce eb : Nat → Nat} {k : Nat} (h : RowP W lo hi a b L ae ce eb) (hm : Marks S W W') (hr : RowM W' a b L ae ce eb k L.length) : RowQ W' a b L ae ce eb k :=
  ⟨hr, fun h0 => by
    obtain ⟨q1, _, _, m, q4, _⟩ := h.a_ h0
    exact ⟨q1, (hm.own _ _ _ q4).lt⟩, fun i hi h0 => by
    obtain ⟨q1, _, _, m, q4, _⟩ := h.e_ i hi h0
    exact ⟨q1, (hm.own _ _ _ q4).lt⟩⟩

set_option maxRecDepth 8000 in
set_option maxHeartbeats 16000000 in
theorem heldActs (L : List Ac) (hs : Short L) (a : Option Addr) (c b : Nat) (ae : Nat → Option Addr) (ce eb : Nat → Nat) (k : Nat) (w : World) (h : RowQ w a b L ae ce eb k) (hk : k ≤ 1000) (h1 : 1 ≤ k) :
    Calls Tryz.prog 12 #[.slice a L.length c, .int .i64 (k : Int)] w fun e w' => e = .returned (.int .i64 ((kA L k L.length : Nat) : Int)) ∧ Below w.heap.size w w' := by
  have HS := hidA hs
  have hl := hs.1
  have HH := hidA h
  have HKL := hidA (kA_le hs hk)
  clear h hs
  go_enter Tryz.func12, Tryz.ntmps12
  go_wp2
  go_loopw [1, 5] (fun kk i wr => ∃ q : Nat, q ≤ L.length ∧ i = .int .i64 (q : Int) ∧ kk = .int .i64 ((kA L k q : Nat) : Int) ∧ Below w.heap.size w wr) (fun _ i _ => L.length - (intOf i).toNat)
  case atStart => exact ⟨0, Nat.zero_le _, rfl, rfl, Below.refl _ _⟩
  case round =>
    obtain ⟨q, hq, rfl, rfl, hW⟩ := hrel
    have HW0 := hidA hW
    clear hW
    by_cases hlt : q < L.length
    · have HQ := hidA (HH.out.later HW0.out)
      obtain ⟨ha, hbr⟩ := HQ.out.a_ (by omega)
      subst ha
      have HE := hidA (HQ.out.e_ q hlt)
      have HX0 := hidA (HQ.out.r.cells q hlt)
      have HY0 := hidA (HQ.out.r.ecells q hlt)
      obtain ⟨kq, hkq⟩ : ∃ kq : Nat, kq = kA L k q := ⟨_, rfl⟩
      have HKN : Hid (kA L k (q + 1) = kq + 7 + (L.getD q Ac.none).ends.length * 2) := by show _ = _; rw [kA, hkq]
      have hkb := HKL.out q
      rw [← hkq] at hkb HX0 HY0 ⊢
      have hkq1 : 1 ≤ kq := by omega
      have hkq2 : kq ≤ 1000 + 1000 * 2007 := by omega
      have hm0 : (0 : Int) ≤ (q : Int) := by omega
      have hm3 : (q : Int) < (L.length : Int) := by omega
      have hnl := HS.out.2 q
      obtain ⟨ne, hne⟩ : ∃ ne, ne = (L.getD q Ac.none).ends.length := ⟨_, rfl⟩
      obtain ⟨aq, haq⟩ : ∃ aq, aq = ae q := ⟨_, rfl⟩
      obtain ⟨cq, hcq⟩ : ∃ cq, cq = ce q := ⟨_, rfl⟩
      rw [← hne] at hnl HE HKN HX0 HY0
      rw [← haq] at HE HX0
      rw [← hcq] at HX0
      clear hkq hkb hne haq hcq HQ
      have hNE := pst_some wr
      have hbz : ∀ px : Pst wr, b < px.W.heap.size := fun px => px.size hbr
      have S0 : ∀ px : Pst wr, px.W.cell? ⟨b, q * 8, none⟩ = some (.string (mt (kq))) := fun px => px.cell (HX0.out 0 _ rfl) hbr
      go_wp2_with fail
      refine region_class wr (Below.refl _ _) (by kernel_rfl) (by kernel_rfl) ?_
      repeat (first
        | go_big_quiet_skip
        | (go_big_quiet_want; go_big_quiet_op; first | go_big_quiet_on | (apply Exists.intro; refine ⟨fun px => ?_, ?_⟩; (focus ((go_at_call 37; refine (markText kq _ (by omega) (by omega)).mono ?_; rintro e w' ⟨he, hb⟩; exact ⟨he, ⟨w', blw_trans px.ok hb⟩, rfl⟩))); go_big_quiet_on)))
      refine wpQuiet_nil ?_
      intro _ hw'
      obtain ⟨x6, hw''⟩ := hw'
      subst hw''
      obtain ⟨z, hz⟩ : ∃ z, z = x6.W := ⟨_, rfl⟩
      have HBz : Hid (Below wr.heap.size wr z) := by show Below _ _ _; rw [hz]; exact x6.ok
      rw [← hz]
      clear S0 hbz hNE hz x6
      have hbz : b < z.heap.size := Nat.lt_of_lt_of_le hbr HBz.out.size
      have HX1 : Hid (z.rangeAt b (q * 8) (MkC kq ne (.slice aq ne cq))) := range_keep HX0.out fun j => HBz.out.cell (p := ⟨b, j, none⟩) hbr
      have HE1 : Hid ((0 < ne → aq = some ⟨eb q, 0, none⟩ ∧ eb q < z.heap.size) ∧ EndMk z (eb q) ne (kq + 6)) := by
        refine ⟨fun h0 => ?_, fun t ht => ?_⟩
        · obtain ⟨q1, q2⟩ := HE.out h0
          exact ⟨q1, Nat.lt_of_lt_of_le q2 HBz.out.size⟩
        · obtain ⟨q1, q2⟩ := HE.out (by omega)
          have cc := fun j => HBz.out.cell (p := ⟨eb q, j, none⟩) q2
          have := HY0.out t ht
          exact ⟨(cc _).trans this.1, (cc _).trans this.2⟩
      have f1 : z.cell? ⟨b, q * 8 + 1, none⟩ = some (.int .i64 ((kq : Int) + 1)) := HX1.out 1 _ rfl
      have f2 : z.cell? ⟨b, q * 8 + 2, none⟩ = some (.int .i64 ((kq : Int) + 1 + 1)) := HX1.out 2 _ rfl
      have f3 : z.cell? ⟨b, q * 8 + 3, none⟩ = some (.int .i64 ((kq : Int) + 1 + 1 + 1)) := HX1.out 3 _ rfl
      have f4 : z.cell? ⟨b, q * 8 + 4, none⟩ = some (.int .i64 ((kq : Int) + 1 + 1 + 1 + 1)) := HX1.out 4 _ rfl
      have f5 : z.cell? ⟨b, q * 8 + 5, none⟩ = some (.bool (((kq : Int) + 1 + 1 + 1 + 1 + 1) % 3 == 0)) := HX1.out 5 _ rfl
      have f6 : z.cell? ⟨b, q * 8 + 6, none⟩ = some (.slice aq ne cq) := HX1.out 6 _ rfl
      clear HX0 HY0 HE hbr
      go_wp2_with fail
      refine (heldEnsV aq (eb q) ne cq (kq + 6) z HE1.out.1 HE1.out.2 (by omega) (by omega)).mono ?_
      rintro e z2 ⟨rfl, hb2⟩
      have HB2 := hidA (blw_trans (blw_trans HW0.out HBz.out) hb2)
      have f7 : z2.cell? ⟨b, q * 8 + 7, none⟩ = some (.bool (((kq + 6 + ne * 2 : Nat) : Int) % 3 == 0)) := (hb2.cell (p := ⟨b, q * 8 + 7, none⟩) hbz).trans (HX1.out 7 _ rfl)
      have hbz2 : b < z2.heap.size := Nat.lt_of_lt_of_le hbz hb2.size
      obtain ⟨kz, hkz⟩ : ∃ kz : Nat, kz = kq + 6 + ne * 2 := ⟨_, rfl⟩
      rw [← hkz] at f7 ⊢
      have HKZ := hidA hkz
      have hkz2 : kz ≤ 1000 + 1000 * 2007 + 6 + 2000 := by omega
      have hkz0 : ¬ ((kz : Int) < 0) := by omega
      clear hb2 f1 f2 f3 f4 f5 f6 hkz
      go_wp2
      go_roundw
      case rel => exact ⟨q + 1, by omega, by go_num, by rw [HKN.out, show kq + 7 + ne * 2 = kz + 1 by have := HKZ.out; omega]; go_num, HB2.out⟩
      case measure => simp [intOf]; omega
    · obtain rfl : q = L.length := by omega
      go_wp2
      go_ret
      exact ⟨rfl, HW0.out⟩

end Go.Proofs.YtamhfnlogldpaaaGreat
