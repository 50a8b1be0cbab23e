/-
  Draws of sheets: a text with one place changed.
-/
import Derived.Test.YtkhhhogpkcggjaaDoorEDb
import Derived.Test.YtkhhhogpkcggjaaDoorEDr
namespace Go.Proofs.YtkhhhogpkcggjaaDoor
open Go.RowKit Go.Deep

def bend8 : List ByteArray := [{ data := #[32] }, { data := #[10] }, { data := #[34] }, { data := #[35] }, { data := #[92] }, { data := #[48] }, { data := #[101, 110, 100, 10] }, { data := #[120] }]
theorem wrap_u64 (z : Int) (h0 : 0 ≤ z) (h1 : z < 1000) : IntKind.u64.wrap z = z := by simp [IntKind.wrap, IntKind.bits, IntKind.signed]; omega
theorem wrap_u8_any (z : Int) : ∃ c : UInt8, IntKind.u8.wrap z = (c.toNat : Int) := by
  refine ⟨UInt8.ofNat (z % 256).toNat, ?_⟩
  rw [UInt8.toNat_ofNat']; simp [IntKind.wrap, IntKind.bits, IntKind.signed]; omega
theorem one_byte_str (X : World) (B : Nat) (c : UInt8) (h : X.cell? ⟨B, 0, none⟩ = some (.int .u8 (c.toNat : Int))) : (convert 22 9 (.slice (some ⟨B, 0, none⟩) 1 1)).run Tryd.prog X = .ok (.string ⟨#[c]⟩) X := by
  refine run_convert_bytes_back (P := Tryd.prog) X 22 9 5 ⟨B, 0, none⟩ 1 [c] Tryd.under_bytes (by kernel_rfl) (by kernel_rfl) fun j hj => ?_
  have : j = 0 := by simp at hj; omega
  subst this
  exact h
def VB6 (R : Nat) (s : ByteArray) (i : Nat) : Nat → Value → World → Prop
  | 0, u, _ => u = .string s
  | 1, u, _ => u = .int .i64 (i : Int)
  | 2, u, _ => u = .string (s.extract 0 i)
  | 3, u, W => ∃ B : Nat, u = .slice (some ⟨B, 0, none⟩) 8 8 ∧ R < B ∧ B < W.heap.size ∧ ∀ j, j < 8 → W.cell? ⟨B, j, none⟩ = some (.string (bend8.getD j ⟨#[]⟩))
  | 4, u, _ => u = .pointer (some ⟨R, 0, none⟩)
  | 5, u, _ => ∃ j : Nat, u = .int .i64 (j : Int) ∧ j < 8
  | 6, u, W => ∃ B j : Nat, u = .pointer (some ⟨B, j, none⟩) ∧ R < B ∧ B < W.heap.size ∧ ∃ x : ByteArray, W.cell? ⟨B, j, none⟩ = some (.string x) ∧ x.size ≤ 4
  | 7, u, _ => ∃ x : ByteArray, u = .string x ∧ x.size ≤ 4
  | 8, u, _ => ∃ x : ByteArray, u = .string x ∧ x.size ≤ i + 4
  | 9, u, _ => u = .string s
  | 10, u, _ => u = .int .i64 (i : Int)
  | 11, u, _ => u = .string (s.extract i s.size)
  | 12, u, _ => ∃ x : ByteArray, u = .string x ∧ x.size ≤ 2 * s.size + 10
  | 13, u, _ => ∃ x : ByteArray, u = .string x ∧ x.size ≤ 2 * s.size + 10
  | _, _, _ => True
theorem VB6_mono (R : Nat) (s : ByteArray) (i : Nat) : ∀ j u W W', Fr R W W' → R < W.heap.size → VB6 R s i j u W → VB6 R s i j u W' := by
  intro j u W W' hb hlt h
  match j with
  | 0 => exact h
  | 1 => exact h
  | 2 => exact h
  | 3 =>
    obtain ⟨B, e, h1, h2, hc⟩ := h
    exact ⟨B, e, h1, Nat.lt_of_lt_of_le h2 hb.bel.size, fun j hj => (hb.cell h1 h2).trans (hc j hj)⟩
  | 4 => exact h
  | 5 => exact h
  | 6 =>
    obtain ⟨B, j, e, h1, h2, x, hc, hx⟩ := h
    exact ⟨B, j, e, h1, Nat.lt_of_lt_of_le h2 hb.bel.size, x, (hb.cell h1 h2).trans hc, hx⟩
  | 7 => exact h
  | 8 => exact h
  | 9 => exact h
  | 10 => exact h
  | 11 => exact h
  | 12 => exact h
  | 13 => exact h
  | n + 14 => exact trivial
def VB12 (R : Nat) (s : ByteArray) (i b : Nat) : Nat → Value → World → Prop
  | 0, u, _ => u = .string s
  | 1, u, _ => u = .int .i64 (i : Int)
  | 2, u, _ => u = .string (s.extract 0 i)
  | 3, u, _ => u = .string s
  | 4, u, _ => u = .int .i64 (i : Int)
  | 5, u, _ => u = .int .u8 (b : Int)
  | 6, u, _ => u = .int .i64 (b : Int)
  | 7, u, _ => u = .pointer (some ⟨R, 0, none⟩)
  | 8, u, _ => ∃ j : Nat, u = .int .i64 (j : Int) ∧ j < 8
  | 9, u, _ => ∃ j : Nat, u = .int .u64 (j : Int) ∧ j < 8
  | 10, u, _ => ∃ z : Int, u = .int .i64 z
  | 11, u, _ => ∃ z : Int, u = .int .i64 z
  | 12, u, _ => ∃ c : UInt8, u = .int .u8 (c.toNat : Int)
  | 13, u, W => ∃ (B : Nat) (c : UInt8), u = .slice (some ⟨B, 0, none⟩) 1 1 ∧ R < B ∧ B < W.heap.size ∧ W.cell? ⟨B, 0, none⟩ = some (.int .u8 (c.toNat : Int))
  | 14, u, _ => ∃ x : ByteArray, u = .string x ∧ x.size ≤ 4
  | 15, u, _ => ∃ x : ByteArray, u = .string x ∧ x.size ≤ i + 4
  | 16, u, _ => u = .string s
  | 17, u, _ => u = .int .i64 (i : Int)
  | 18, u, _ => u = .int .i64 ((i : Int) + 1)
  | 19, u, _ => u = .string (s.extract (i + 1) s.size)
  | 20, u, _ => ∃ x : ByteArray, u = .string x ∧ x.size ≤ 2 * s.size + 10
  | 21, u, _ => ∃ x : ByteArray, u = .string x ∧ x.size ≤ 2 * s.size + 10
  | _, _, _ => True
theorem VB12_mono (R : Nat) (s : ByteArray) (i b : Nat) : ∀ j u W W', Fr R W W' → R < W.heap.size → VB12 R s i b j u W → VB12 R s i b j u W' := by
  intro j u W W' hb hlt h
  match j with
  | 0 => exact h
  | 1 => exact h
  | 2 => exact h
  | 3 => exact h
  | 4 => exact h
  | 5 => exact h
  | 6 => exact h
  | 7 => exact h
  | 8 => exact h
  | 9 => exact h
  | 10 => exact h
  | 11 => exact h
  | 12 => exact h
  | 13 =>
    obtain ⟨B, c, e, h1, h2, hc⟩ := h
    exact ⟨B, c, e, h1, Nat.lt_of_lt_of_le h2 hb.bel.size, (hb.cell h1 h2).trans hc⟩
  | 14 => exact h
  | 15 => exact h
  | 16 => exact h
  | 17 => exact h
  | 18 => exact h
  | 19 => exact h
  | 20 => exact h
  | 21 => exact h
  | n + 22 => exact trivial
set_option maxRecDepth 8000 in
set_option maxHeartbeats 4000000 in
theorem drawBend (R : Nat) (v : Value) (len p : Nat) (s : ByteArray) (W : World) (h : Rd W R v len p) (hp : p ≤ 900000) (hs : s.size ≤ 100000) :
    Calls Tryd.prog 15 #[.pointer (some ⟨R, 0, none⟩), .string s] W fun e W' => (∃ x : ByteArray, e = .returned (.string x) ∧ x.size ≤ 2 * s.size + 10) ∧ DrA R v len p W W' := by
  have HP := uh (pick_any R v len p 256 W h (by omega) (by omega))
  clear h
  go_enter Tryd.func15, Tryd.ntmps15
  go_wp2_with fail
  refine HP.out.mono ?_
  rintro e W1 ⟨⟨r, rfl, hr⟩, hF1, hR1⟩
  obtain ⟨k, rfl, hk⟩ := hr.nat
  have hk2 : k ≤ 255 := by have := hk (by omega); omega
  have HF1 := uh hF1
  have HR1 := uh hR1
  clear hr hk hF1 hR1 HP
  obtain ⟨q, hq⟩ : ∃ q : Nat, q = k * (s.size + 1) := ⟨_, rfl⟩
  have hq1 : q ≤ 255 * (s.size + 1) := by rw [hq]; exact Nat.mul_le_mul_right _ hk2
  have hq2 : (k : Int) * ((s.size : Int) + 1) = (q : Int) := by rw [hq]; norm_cast
  obtain ⟨i, hi⟩ : ∃ i : Nat, i = q / 256 := ⟨_, rfl⟩
  have hi1 : i ≤ s.size := by omega
  have hi2 : (q : Int) / 256 = (i : Int) := by omega
  clear hq hi hk2
  have HP := uh (pick_any R v len (p + 1) 5 W1 HR1.out (by omega) (by omega))
  go_wp2_with fail
  refine HP.out.mono ?_
  rintro e W2 ⟨⟨r, rfl, hr⟩, hF2, hR2⟩
  obtain ⟨m, rfl, hm⟩ := hr.nat
  have hm5 : m < 5 := by have := hm (by omega); omega
  have HF2 := uh (HF1.out.trans hF2)
  have HR2 := uh hR2
  clear hr hm hF2 hR2 HP HF1 HR1
  have HE : Hid (DrA R v len p W W2) := ⟨HF2.out, p + 1 + 1, by omega, HR2.out⟩
  have hi3 : (i : Int) ≤ (s.size : Int) := by omega
  have hi0 : (0 : Int) ≤ (i : Int) := by omega
  have HTAIL : Hid ((s ++ s.extract i s.size).size ≤ 2 * s.size + 10) := by show _ ≤ _; rw [ByteArray.size_append]; simp [ByteArray.size_extract]; omega
  have hc : m = 0 ∨ m = 1 ∨ m = 2 ∨ m = 3 ∨ m = 4 := by omega
  clear hm5
  rcases hc with rfl | rfl | rfl | rfl | rfl
  · go_wp2
    go_ret
    exact ⟨⟨_, rfl, by simp [ByteArray.size_extract]; omega⟩, HE.out⟩
  · go_upto_region 6 with fail
    refine RY.region_fr R v len (p + 1 + 1) HR2.out (VB6 R s i) (VB6_mono R _ _) (by kernel_rfl) (by kernel_rfl) (by kernel_rfl) (by kernel_rfl) ?_ ?_
    · intro i' o' ho a X pp hX hR hpp hk hd
      have hpq : pp ≤ p + 400 := by simp at hpp; omega
      match i', ho with
      | 0, ho =>
        injection ho with ho; subst ho
        have e1 : a.tmps[1]?.getD undef = .string s := (RY.ev_tmp a 1).trans ((hk 1 (by kernel_rfl)).trans rfl)
        exact Or.inl ⟨.string s, X, by simp [execOp, go_sem, e1], Below.refl _ _, rfl⟩
      | 1, ho =>
        injection ho with ho; subst ho
        have e5 : a.tmps[5]?.getD undef = .int .i64 (i : Int) := (RY.ev_tmp a 5).trans ((hk 5 (by kernel_rfl)).trans rfl)
        exact Or.inl ⟨.int .i64 (i : Int), X, by simp [execOp, go_sem, e5], Below.refl _ _, rfl⟩
      | 2, ho =>
        injection ho with ho; subst ho
        have e22 : a.tmps[22]?.getD undef = _ := (RY.ev_tmp a 22).trans (hd 0 _ 22 rfl rfl ⟨⟨0, .data⟩, by simp, rfl, rfl⟩)
        have e23 : a.tmps[23]?.getD undef = _ := (RY.ev_tmp a 23).trans (hd 1 _ 23 rfl rfl ⟨⟨1, .data⟩, by simp, rfl, rfl⟩)
        exact Or.inl ⟨.string (s.extract 0 i), X, by simp [execOp, go_sem, e22, e23, hi0, hi3], Below.refl _ _, rfl⟩
      | 3, ho =>
        injection ho with ho; subst ho
        refine Or.inl ⟨.slice (some ⟨X.heap.size, 0, none⟩) 8 8, X.alloc (.cells #[.string { data := #[32] }, .string { data := #[10] }, .string { data := #[34] }, .string { data := #[35] }, .string { data := #[92] }, .string { data := #[48] }, .string { data := #[101, 110, 100, 10] }, .string { data := #[120] }] 9), by simp [execOp, go_sem], blw_alloc (Below.refl _ _) _, X.heap.size, rfl, hR.own.lt, by simp, fun j hj => lit_at bend8 X j hj⟩
      | 4, ho =>
        injection ho with ho; subst ho
        have e0 : a.tmps[0]?.getD undef = .pointer (some ⟨R, 0, none⟩) := (RY.ev_tmp a 0).trans ((hk 0 (by kernel_rfl)).trans rfl)
        exact Or.inl ⟨.pointer (some ⟨R, 0, none⟩), X, by simp [execOp, go_sem, e0], Below.refl _ _, rfl⟩
      | 5, ho =>
        injection ho with ho; subst ho
        have e26 : a.tmps[26]?.getD undef = _ := (RY.ev_tmp a 26).trans (hd 4 _ 26 rfl rfl ⟨⟨4, .data⟩, by simp, rfl, rfl⟩)
        refine Or.inr ⟨12, #[.pointer (some ⟨R, 0, none⟩), .int .i64 8], by simp [go_sem, e26], (pick_any R v len pp 8 X hR (by omega) (by omega)).mono ?_⟩
        rintro e W' ⟨⟨r, rfl, hr⟩, hF, hR'⟩
        obtain ⟨j, rfl, hj⟩ := hr.nat
        exact ⟨_, rfl, hF, ⟨pp + 1, by omega, hR'⟩, j, rfl, by have := hj (by omega); omega⟩
      | 6, ho =>
        injection ho with ho; subst ho
        obtain ⟨B, e25, h1, h2, hc⟩ := hd 3 _ 25 rfl rfl ⟨⟨3, .data⟩, by simp, rfl, rfl⟩
        obtain ⟨j, e27, hj⟩ := hd 5 _ 27 rfl rfl ⟨⟨5, .data⟩, by simp, rfl, rfl⟩
        have f25 := (RY.ev_tmp a 25).trans e25
        have f27 := (RY.ev_tmp a 27).trans e27
        have hj1 : (j : Int) < 8 := by omega
        exact Or.inl ⟨.pointer (some ⟨B, j, none⟩), X, by simp [execOp, go_sem, f25, f27, hj1], Below.refl _ _, B, j, rfl, h1, h2, _, hc j hj, getD_mem bend8 j hj 4 (by decide)⟩
      | 7, ho =>
        injection ho with ho; subst ho
        obtain ⟨B, j, e28, h1, h2, x, hc, hx⟩ := hd 6 _ 28 rfl rfl ⟨⟨6, .data⟩, by simp, rfl, rfl⟩
        have f28 := (RY.ev_tmp a 28).trans e28
        exact Or.inl ⟨.string x, X, by simp [execOp, go_sem, f28, hc], Below.refl _ _, x, rfl, hx⟩
      | 8, ho =>
        injection ho with ho; subst ho
        have e24 : a.tmps[24]?.getD undef = _ := (RY.ev_tmp a 24).trans (hd 2 _ 24 rfl rfl ⟨⟨2, .data⟩, by simp, rfl, rfl⟩)
        obtain ⟨x, e29, hx⟩ := hd 7 _ 29 rfl rfl ⟨⟨7, .data⟩, by simp, rfl, rfl⟩
        have f29 := (RY.ev_tmp a 29).trans e29
        exact Or.inl ⟨.string (s.extract 0 i ++ x), X, by simp [execOp, go_sem, e24, f29]; omega, Below.refl _ _, _, rfl, by rw [ByteArray.size_append]; simp [ByteArray.size_extract]; omega⟩
      | 9, ho =>
        injection ho with ho; subst ho
        have e1 : a.tmps[1]?.getD undef = .string s := (RY.ev_tmp a 1).trans ((hk 1 (by kernel_rfl)).trans rfl)
        exact Or.inl ⟨.string s, X, by simp [execOp, go_sem, e1], Below.refl _ _, rfl⟩
      | 10, ho =>
        injection ho with ho; subst ho
        have e5 : a.tmps[5]?.getD undef = .int .i64 (i : Int) := (RY.ev_tmp a 5).trans ((hk 5 (by kernel_rfl)).trans rfl)
        exact Or.inl ⟨.int .i64 (i : Int), X, by simp [execOp, go_sem, e5], Below.refl _ _, rfl⟩
      | 11, ho =>
        injection ho with ho; subst ho
        have e31 : a.tmps[31]?.getD undef = _ := (RY.ev_tmp a 31).trans (hd 9 _ 31 rfl rfl ⟨⟨9, .data⟩, by simp, rfl, rfl⟩)
        have e32 : a.tmps[32]?.getD undef = _ := (RY.ev_tmp a 32).trans (hd 10 _ 32 rfl rfl ⟨⟨10, .data⟩, by simp, rfl, rfl⟩)
        exact Or.inl ⟨.string (s.extract i s.size), X, by simp [execOp, go_sem, e31, e32, hi0, hi3], Below.refl _ _, rfl⟩
      | 12, ho =>
        injection ho with ho; subst ho
        have e33 : a.tmps[33]?.getD undef = _ := (RY.ev_tmp a 33).trans (hd 11 _ 33 rfl rfl ⟨⟨11, .data⟩, by simp, rfl, rfl⟩)
        obtain ⟨x, e30, hx⟩ := hd 8 _ 30 rfl rfl ⟨⟨8, .data⟩, by simp, rfl, rfl⟩
        have f30 := (RY.ev_tmp a 30).trans e30
        exact Or.inl ⟨.string (x ++ s.extract i s.size), X, by simp [execOp, go_sem, e33, f30]; omega, Below.refl _ _, _, rfl, by rw [ByteArray.size_append]; simp [ByteArray.size_extract]; omega⟩
      | 13, ho =>
        injection ho with ho; subst ho
        obtain ⟨x, e34, hx⟩ := hd 12 _ 34 rfl rfl ⟨⟨12, .data⟩, by simp, rfl, rfl⟩
        have f34 := (RY.ev_tmp a 34).trans e34
        exact Or.inl ⟨.string x, X, by simp [execOp, go_sem, f34], Below.refl _ _, x, rfl, hx⟩
      | n + 14, ho => simp at ho
    intro X vs pp hX hR hpp hvs
    have q4 := hvs 13 _ 4 rfl rfl
    simp only [RY.putAll, Act.put, List.setIfInBounds_toArray, List.set_cons_zero, List.set_cons_succ]
    obtain ⟨x, e4, hx⟩ := q4
    rw [e4]
    generalize vs 22 = s22
    generalize vs 23 = s23
    generalize vs 24 = s24
    generalize vs 25 = s25
    generalize vs 26 = s26
    generalize vs 27 = s27
    generalize vs 28 = s28
    generalize vs 29 = s29
    generalize vs 30 = s30
    generalize vs 31 = s31
    generalize vs 32 = s32
    generalize vs 33 = s33
    generalize vs 34 = s34
    have HX : Hid (x.size ≤ 2 * s.size + 10 ∧ DrA R v len p W X) := ⟨hx, HF2.out.trans hX, pp, by simp at hpp; omega, hR⟩
    clear hvs e4 hx hX hR hpp
    go_wp2
    go_ret
    exact ⟨⟨x, rfl, HX.out.1⟩, HX.out.2⟩
  · by_cases hlt : (i : Int) < (s.size : Int)
    · have hi4 : (i : Int) + 1 ≤ (s.size : Int) := by omega
      have hi5 : (0 : Int) ≤ (i : Int) + 1 := by omega
      go_wp2
      go_region
      all_goals go_wp2
      all_goals go_ret
      all_goals exact ⟨⟨_, rfl, by rw [ByteArray.size_append]; simp [ByteArray.size_extract]; omega⟩, HF2.out.trans (Fr.of_below (Below.drew (Below.refl _ _)) HR2.out.own.lt), p + 1 + 1, by omega, HR2.out.later (Below.drew (Below.refl _ _))⟩
    · go_wp2
      go_ret
      exact ⟨⟨_, rfl, HTAIL.out⟩, HE.out⟩
  · by_cases hlt2 : (i : Int) < (s.size : Int)
    · have hi4 : (i : Int) + 1 ≤ (s.size : Int) := by omega
      have hi5 : (0 : Int) ≤ (i : Int) + 1 := by omega
      have hi6 : ((i : Int) + 1).toNat = i + 1 := by omega
      have hw1 : IntKind.i64.wrap ((i : Int) + 1) = (i : Int) + 1 := IntWalk.i64_in _ ⟨by omega, by omega⟩
      have hin : i < s.size := by omega
      obtain ⟨b, hb⟩ : ∃ b : Nat, b = s[i].toNat := ⟨_, rfl⟩
      have hb8 : b < 256 := by rw [hb]; exact Pl.u8lt _
      have HIX : Hid (∀ X, (Instr.index 9 (.string s) (.int .i64 (i : Int))).run Tryd.prog X = .ok (.int .u8 (b : Int)) X) := fun X => by
        rw [run_index_string X 9 _ .i64 (i : Int) (by kernel_rfl), dif_pos ⟨by omega, by omega⟩, hb]; rfl
      have hb1 : IntKind.i64.wrap (b : Int) = (b : Int) := IntWalk.i64_in _ ⟨by omega, by omega⟩
      clear hb
      go_upto_region 12 with fail
      refine RY.region_fr R v len (p + 1 + 1) HR2.out (VB12 R s i b) (VB12_mono R _ _ _) (by kernel_rfl) (by kernel_rfl) (by kernel_rfl) (by kernel_rfl) ?_ ?_
      · intro i' o' ho a X pp hX hR hpp hk hd
        have hpq : pp ≤ p + 400 := by simp at hpp; omega
        match i', ho with
        | 0, ho =>
          injection ho with ho; subst ho
          have e1 : a.tmps[1]?.getD undef = .string s := (RY.ev_tmp a 1).trans ((hk 1 (by kernel_rfl)).trans rfl)
          exact Or.inl ⟨.string s, X, by simp [execOp, go_sem, e1], Below.refl _ _, rfl⟩
        | 1, ho =>
          injection ho with ho; subst ho
          have e5 : a.tmps[5]?.getD undef = .int .i64 (i : Int) := (RY.ev_tmp a 5).trans ((hk 5 (by kernel_rfl)).trans rfl)
          exact Or.inl ⟨.int .i64 (i : Int), X, by simp [execOp, go_sem, e5], Below.refl _ _, rfl⟩
        | 2, ho =>
          injection ho with ho; subst ho
          have e55 : a.tmps[55]?.getD undef = _ := (RY.ev_tmp a 55).trans (hd 0 _ 55 rfl rfl ⟨⟨0, .data⟩, by simp, rfl, rfl⟩)
          have e56 : a.tmps[56]?.getD undef = _ := (RY.ev_tmp a 56).trans (hd 1 _ 56 rfl rfl ⟨⟨1, .data⟩, by simp, rfl, rfl⟩)
          exact Or.inl ⟨.string (s.extract 0 i), X, by simp [execOp, go_sem, e55, e56, hi0, hi3], Below.refl _ _, rfl⟩
        | 3, ho =>
          injection ho with ho; subst ho
          have e1 : a.tmps[1]?.getD undef = .string s := (RY.ev_tmp a 1).trans ((hk 1 (by kernel_rfl)).trans rfl)
          exact Or.inl ⟨.string s, X, by simp [execOp, go_sem, e1], Below.refl _ _, rfl⟩
        | 4, ho =>
          injection ho with ho; subst ho
          have e5 : a.tmps[5]?.getD undef = .int .i64 (i : Int) := (RY.ev_tmp a 5).trans ((hk 5 (by kernel_rfl)).trans rfl)
          exact Or.inl ⟨.int .i64 (i : Int), X, by simp [execOp, go_sem, e5], Below.refl _ _, rfl⟩
        | 5, ho =>
          injection ho with ho; subst ho
          have e58 : a.tmps[58]?.getD undef = _ := (RY.ev_tmp a 58).trans (hd 3 _ 58 rfl rfl ⟨⟨3, .data⟩, by simp, rfl, rfl⟩)
          have e59 : a.tmps[59]?.getD undef = _ := (RY.ev_tmp a 59).trans (hd 4 _ 59 rfl rfl ⟨⟨4, .data⟩, by simp, rfl, rfl⟩)
          exact Or.inl ⟨.int .u8 (b : Int), X, by simp [execOp, go_sem, e58, e59, HIX.out X], Below.refl _ _, rfl⟩
        | 6, ho =>
          injection ho with ho; subst ho
          have e60 : a.tmps[60]?.getD undef = _ := (RY.ev_tmp a 60).trans (hd 5 _ 60 rfl rfl ⟨⟨5, .data⟩, by simp, rfl, rfl⟩)
          exact Or.inl ⟨.int .i64 (b : Int), X, by simp [execOp, go_sem, e60, hb1], Below.refl _ _, rfl⟩
        | 7, ho =>
          injection ho with ho; subst ho
          have e0 : a.tmps[0]?.getD undef = .pointer (some ⟨R, 0, none⟩) := (RY.ev_tmp a 0).trans ((hk 0 (by kernel_rfl)).trans rfl)
          exact Or.inl ⟨.pointer (some ⟨R, 0, none⟩), X, by simp [execOp, go_sem, e0], Below.refl _ _, rfl⟩
        | 8, ho =>
          injection ho with ho; subst ho
          have e62 : a.tmps[62]?.getD undef = _ := (RY.ev_tmp a 62).trans (hd 7 _ 62 rfl rfl ⟨⟨7, .data⟩, by simp, rfl, rfl⟩)
          refine Or.inr ⟨12, #[.pointer (some ⟨R, 0, none⟩), .int .i64 8], by simp [go_sem, e62], (pick_any R v len pp 8 X hR (by omega) (by omega)).mono ?_⟩
          rintro e W' ⟨⟨r, rfl, hr⟩, hF, hR'⟩
          obtain ⟨j, rfl, hj⟩ := hr.nat
          exact ⟨_, rfl, hF, ⟨pp + 1, by omega, hR'⟩, j, rfl, by have := hj (by omega); omega⟩
        | 9, ho =>
          injection ho with ho; subst ho
          obtain ⟨j, e63, hj⟩ := hd 8 _ 63 rfl rfl ⟨⟨8, .data⟩, by simp, rfl, rfl⟩
          have f63 := (RY.ev_tmp a 63).trans e63
          have hw : IntKind.u64.wrap (j : Int) = (j : Int) := wrap_u64 _ (by omega) (by omega)
          exact Or.inl ⟨.int .u64 (j : Int), X, by simp [execOp, go_sem, f63, hw], Below.refl _ _, j, rfl, hj⟩
        | 10, ho =>
          injection ho with ho; subst ho
          obtain ⟨j, e64, hj⟩ := hd 9 _ 64 rfl rfl ⟨⟨9, .data⟩, by simp, rfl, rfl⟩
          have f64 := (RY.ev_tmp a 64).trans e64
          exact Or.inl ⟨_, X, by simp [execOp, go_sem, f64]; rfl, Below.refl _ _, _, rfl⟩
        | 11, ho =>
          injection ho with ho; subst ho
          have e61 : a.tmps[61]?.getD undef = _ := (RY.ev_tmp a 61).trans (hd 6 _ 61 rfl rfl ⟨⟨6, .data⟩, by simp, rfl, rfl⟩)
          obtain ⟨z, e65⟩ := hd 10 _ 65 rfl rfl ⟨⟨10, .data⟩, by simp, rfl, rfl⟩
          have f65 := (RY.ev_tmp a 65).trans e65
          exact Or.inl ⟨_, X, by simp [execOp, go_sem, e61, f65]; rfl, Below.refl _ _, _, rfl⟩
        | 12, ho =>
          injection ho with ho; subst ho
          obtain ⟨z, e66⟩ := hd 11 _ 66 rfl rfl ⟨⟨11, .data⟩, by simp, rfl, rfl⟩
          have f66 := (RY.ev_tmp a 66).trans e66
          obtain ⟨c, hc⟩ := wrap_u8_any z
          exact Or.inl ⟨.int .u8 (c.toNat : Int), X, by simp [execOp, go_sem, f66, hc], Below.refl _ _, c, rfl⟩
        | 13, ho =>
          injection ho with ho; subst ho
          obtain ⟨c, e67⟩ := hd 12 _ 67 rfl rfl ⟨⟨12, .data⟩, by simp, rfl, rfl⟩
          have f67 := (RY.ev_tmp a 67).trans e67
          exact Or.inl ⟨.slice (some ⟨X.heap.size, 0, none⟩) 1 1, X.alloc (.cells #[.int .u8 (c.toNat : Int)] 5), by simp [execOp, go_sem, f67], blw_alloc (Below.refl _ _) _, X.heap.size, c, rfl, hR.own.lt, by simp, (World.cell?_alloc_at _ _ _ _ rfl).trans rfl⟩
        | 14, ho =>
          injection ho with ho; subst ho
          obtain ⟨B, c, e68, h1, h2, hc⟩ := hd 13 _ 68 rfl rfl ⟨⟨13, .data⟩, by simp, rfl, rfl⟩
          have f68 := (RY.ev_tmp a 68).trans e68
          have hcv := one_byte_str X B c hc
          exact Or.inl ⟨.string ⟨#[c]⟩, X, by simp [execOp, go_sem, f68, hcv], Below.refl _ _, _, rfl, by show 1 ≤ 4; omega⟩
        | 15, ho =>
          injection ho with ho; subst ho
          have e57 : a.tmps[57]?.getD undef = _ := (RY.ev_tmp a 57).trans (hd 2 _ 57 rfl rfl ⟨⟨2, .data⟩, by simp, rfl, rfl⟩)
          obtain ⟨x, e69, hx⟩ := hd 14 _ 69 rfl rfl ⟨⟨14, .data⟩, by simp, rfl, rfl⟩
          have f69 := (RY.ev_tmp a 69).trans e69
          exact Or.inl ⟨.string (s.extract 0 i ++ x), X, by simp [execOp, go_sem, e57, f69]; omega, Below.refl _ _, _, rfl, by rw [ByteArray.size_append]; simp [ByteArray.size_extract]; omega⟩
        | 16, ho =>
          injection ho with ho; subst ho
          have e1 : a.tmps[1]?.getD undef = .string s := (RY.ev_tmp a 1).trans ((hk 1 (by kernel_rfl)).trans rfl)
          exact Or.inl ⟨.string s, X, by simp [execOp, go_sem, e1], Below.refl _ _, rfl⟩
        | 17, ho =>
          injection ho with ho; subst ho
          have e5 : a.tmps[5]?.getD undef = .int .i64 (i : Int) := (RY.ev_tmp a 5).trans ((hk 5 (by kernel_rfl)).trans rfl)
          exact Or.inl ⟨.int .i64 (i : Int), X, by simp [execOp, go_sem, e5], Below.refl _ _, rfl⟩
        | 18, ho =>
          injection ho with ho; subst ho
          have e72 : a.tmps[72]?.getD undef = _ := (RY.ev_tmp a 72).trans (hd 17 _ 72 rfl rfl ⟨⟨17, .data⟩, by simp, rfl, rfl⟩)
          exact Or.inl ⟨.int .i64 ((i : Int) + 1), X, by simp [execOp, go_sem, e72, hw1], Below.refl _ _, rfl⟩
        | 19, ho =>
          injection ho with ho; subst ho
          have e71 : a.tmps[71]?.getD undef = _ := (RY.ev_tmp a 71).trans (hd 16 _ 71 rfl rfl ⟨⟨16, .data⟩, by simp, rfl, rfl⟩)
          have e73 : a.tmps[73]?.getD undef = _ := (RY.ev_tmp a 73).trans (hd 18 _ 73 rfl rfl ⟨⟨18, .data⟩, by simp, rfl, rfl⟩)
          exact Or.inl ⟨.string (s.extract (i + 1) s.size), X, by simp [execOp, go_sem, e71, e73, hi5, hi4, hi6], Below.refl _ _, rfl⟩
        | 20, ho =>
          injection ho with ho; subst ho
          have e74 : a.tmps[74]?.getD undef = _ := (RY.ev_tmp a 74).trans (hd 19 _ 74 rfl rfl ⟨⟨19, .data⟩, by simp, rfl, rfl⟩)
          obtain ⟨x, e70, hx⟩ := hd 15 _ 70 rfl rfl ⟨⟨15, .data⟩, by simp, rfl, rfl⟩
          have f70 := (RY.ev_tmp a 70).trans e70
          exact Or.inl ⟨.string (x ++ s.extract (i + 1) s.size), X, by simp [execOp, go_sem, e74, f70]; omega, Below.refl _ _, _, rfl, by rw [ByteArray.size_append]; simp [ByteArray.size_extract]; omega⟩
        | 21, ho =>
          injection ho with ho; subst ho
          obtain ⟨x, e75, hx⟩ := hd 20 _ 75 rfl rfl ⟨⟨20, .data⟩, by simp, rfl, rfl⟩
          have f75 := (RY.ev_tmp a 75).trans e75
          exact Or.inl ⟨.string x, X, by simp [execOp, go_sem, f75], Below.refl _ _, x, rfl, hx⟩
        | n + 22, ho => simp at ho
      intro X vs pp hX hR hpp hvs
      have q4 := hvs 21 _ 4 rfl rfl
      simp only [RY.putAll, Act.put, List.setIfInBounds_toArray, List.set_cons_zero, List.set_cons_succ]
      obtain ⟨x, e4, hx⟩ := q4
      rw [e4]
      generalize vs 55 = s55
      generalize vs 56 = s56
      generalize vs 57 = s57
      generalize vs 58 = s58
      generalize vs 59 = s59
      generalize vs 60 = s60
      generalize vs 61 = s61
      generalize vs 62 = s62
      generalize vs 63 = s63
      generalize vs 64 = s64
      generalize vs 65 = s65
      generalize vs 66 = s66
      generalize vs 67 = s67
      generalize vs 68 = s68
      generalize vs 69 = s69
      generalize vs 70 = s70
      generalize vs 71 = s71
      generalize vs 72 = s72
      generalize vs 73 = s73
      generalize vs 74 = s74
      generalize vs 75 = s75
      have HX : Hid (x.size ≤ 2 * s.size + 10 ∧ DrA R v len p W X) := ⟨hx, HF2.out.trans hX, pp, by simp at hpp; omega, hR⟩
      clear hvs e4 hx hX hR hpp
      go_wp2
      go_ret
      exact ⟨⟨x, rfl, HX.out.1⟩, HX.out.2⟩
    · go_wp2
      go_ret
      exact ⟨⟨_, rfl, HTAIL.out⟩, HE.out⟩
  · go_wp2
    go_ret
    exact ⟨⟨_, rfl, HTAIL.out⟩, HE.out⟩

end Go.Proofs.YtkhhhogpkcggjaaDoor
