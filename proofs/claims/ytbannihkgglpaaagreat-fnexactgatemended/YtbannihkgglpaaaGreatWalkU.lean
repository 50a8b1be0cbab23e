/-
  Walks: the specification's l1FieldOk.
-/
import Derived.Test.YtbannihkgglpaaaGreatWalkT
import Derived.Test.YtbannihkgglpaaaGreatWalkE
namespace Go.Proofs.YtbannihkgglpaaaGreat
open Go.RowKit Go.Deep

set_option maxHeartbeats 2000000 in
theorem fieldOkI_0 (f : Fld) (b : Nat) (v : Value) (ss : List Shp) (w : World) (h1 : (f.kind == 1) = false) (h2 : (f.kind == 2) = false) (h3 : (f.kind == 3) = false) (h4 : (f.kind == 4) = false) :
    Calls Tryz.prog 87 #[v, .agg #[.string f.nm, .int .i64 f.kind, .int .i64 f.least, .int .i64 f.most, .slice (some ⟨b, 0, none⟩) f.words.length f.words.length, .string f.to, .int .i64 f.role, .bool f.must, .bool f.fixed, .string f.de, .string f.we]] w fun e w' => e = .returned (.bool (fieldOk ss f)) ∧ Below w.heap.size w w' := by
  have HF : Hid (fieldOk ss f = false) := by
    show fieldOk ss f = _
    simp only [beq_eq_false_iff_ne, ne_eq] at h1 h2 h3 h4
    have : isKind f.kind = false := by rw [Bool.eq_false_iff]; simp [isKind]; omega
    simp [fieldOk, this]
  have HX : Hid (∀ W, Calls Tryz.prog 88 #[.agg #[.string f.nm, .int .i64 f.kind, .int .i64 f.least, .int .i64 f.most, .slice (some ⟨b, 0, none⟩) f.words.length f.words.length, .string f.to, .int .i64 f.role, .bool f.must, .bool f.fixed, .string f.de, .string f.we]] W fun e w' => e = .returned (.tuple #[.nilIface, .bool false]) ∧ Below W.heap.size W w') := fun W => kindOf_0 f.nm f.kind f.least f.most _ f.to f.role f.must f.fixed f.de f.we W h1 h2 h3 h4
  clear h1 h2 h3 h4
  go_enter Tryz.func87, Tryz.ntmps87
  go_wp2_with fail
  refine (HX.out _).mono ?_
  rintro e w1 ⟨rfl, hb1⟩
  have hB1 := blw_trans (blw_alloc (Below.refl _ _) _) hb1
  clear hb1
  go_wp2
  go_ret
  exact ⟨Pl.ret_bool HF.out.symm, hB1⟩

theorem fieldOkI (f : Fld) (b B : Nat) (ss : List Shp) (w : World) (h : ShpsIn w B ss) (hp : FldArg w b f) :
    Calls Tryz.prog 87 #[.slice (some ⟨B, 0, none⟩) ss.length ss.length, .agg #[.string f.nm, .int .i64 f.kind, .int .i64 f.least, .int .i64 f.most, .slice (some ⟨b, 0, none⟩) f.words.length f.words.length, .string f.to, .int .i64 f.role, .bool f.must, .bool f.fixed, .string f.de, .string f.we]] w fun e w' => e = .returned (.bool (fieldOk ss f)) ∧ Below w.heap.size w w' := by
  by_cases h1 : f.kind = 1
  · have := fieldOkI_1 f b B ss w h1 h hp; rw [← h1] at this; exact this
  by_cases h2 : f.kind = 2
  · have := fieldOkI_2 f b B ss w h2 h hp; rw [← h2] at this; exact this
  by_cases h3 : f.kind = 3
  · have := fieldOkI_3 f b B ss w h3 h hp; rw [← h3] at this; exact this
  by_cases h4 : f.kind = 4
  · have := fieldOkI_4 f b B ss w h4 h hp; rw [← h4] at this; exact this
  exact fieldOkI_0 f b _ ss w (by simp [h1]) (by simp [h2]) (by simp [h3]) (by simp [h4])

set_option maxHeartbeats 4000000 in
theorem fieldOkS_1 (f : Fld) (b B : Nat) (ss : List Shp) (w : World) (hk : f.kind = 1) (h : ShpsIn w B ss) (hp : FldArg w b f) :
    Calls Tryz.prog 65 #[.slice (some ⟨B, 0, none⟩) ss.length ss.length, .agg #[.string f.nm, .int .i64 1, .int .i64 f.least, .int .i64 f.most, .slice (some ⟨b, 0, none⟩) f.words.length f.words.length, .string f.to, .int .i64 f.role, .bool f.must, .bool f.fixed, .string f.de, .string f.we]] w fun e w' => e = .returned (.bool (Pl.nameOk f.nm && fieldOk ss f)) ∧ Below w.heap.size w w' := by
  have HP : Hid (FldArg w b f) := hp
  have HL : Hid (ShpsIn w B ss) := h
  have HO : Hid (fieldOk ss f = (bareB f && boundB ss f && defB f)) := by show fieldOk ss f = _; simp [fieldOk, isKind, hk]
  have HBo : Hid (boundB ss f = (decide (0 ≤ f.least) && decide (f.least ≤ f.most) && decide (f.most ≤ 1000000) && (f.we.toList.isEmpty || Pl.nameOk f.we))) := by show boundB ss f = _; simp [boundB, hk, Pl.isEmp]
  have HBa : Hid (∀ W, Calls Tryz.prog 82 #[.agg #[.string f.nm, .int .i64 1, .int .i64 f.least, .int .i64 f.most, .slice (some ⟨b, 0, none⟩) f.words.length f.words.length, .string f.to, .int .i64 f.role, .bool f.must, .bool f.fixed, .string f.de, .string f.we]] W fun e w' => e = .returned (.bool (bareB f)) ∧ Below W.heap.size W w') := fun W => l1Bare_1 f b W HP.out.small hk
  have HFi : Hid (∀ W, Below w.heap.size w W → Calls Tryz.prog 67 #[.agg #[.string f.nm, .int .i64 1, .int .i64 f.least, .int .i64 f.most, .slice (some ⟨b, 0, none⟩) f.words.length f.words.length, .string f.to, .int .i64 f.role, .bool f.must, .bool f.fixed, .string f.de, .string f.we], .string f.de] W fun e w' => e = .returned (.bool (fitB f f.de)) ∧ Below W.heap.size W w') := by
    intro W hW
    have Q := HP.out.later hW
    have e : fitB f f.de = Pl.fits 1 f.least f.most f.words f.de := by rw [fitB, hk]
    rw [e]
    exact specFits_any f.nm 1 f.least f.most b 0 f.words.length f.to f.role f.must f.fixed f.de f.we f.de f.words W Q.sized.2.2.1 Q.lt (by have : f.words.length ≤ 1048576 := Q.small; unfold maxLen; omega) Q.cells
  clear hp h hk
  cases hnm : Pl.nameOk f.nm
  · have HN : Hid (f.nm.size ≤ maxLen) := HP.out.sized.1
    go_enter Tryz.func65, Tryz.ntmps65
    go_wp2_with (go_at_call 64; refine (l1NameOk_any _ _ HN.out).mono ?_; rintro e w' ⟨rfl, rfl⟩)
    go_ret
    exact ⟨rfl, blw_alloc (Below.refl _ _) _⟩
  have HN : Hid (f.nm.size ≤ maxLen) := HP.out.sized.1
  obtain ⟨R, hR⟩ : ∃ R, R = (true && fieldOk ss f) := ⟨_, rfl⟩
  rw [← hR]
  have HR : Hid (R = fieldOk ss f) := by rw [hR]; rfl
  clear hR
  go_enter Tryz.func65, Tryz.ntmps65
  go_wp2_with (go_at_call 64; refine (l1NameOk_any _ _ HN.out).mono ?_; rintro e w' ⟨rfl, rfl⟩)
  refine (HBa.out _).mono ?_
  rintro e w2 ⟨rfl, hb2⟩
  have hB2 := blw_trans (blw_alloc (Below.refl w.heap.size w) (.cells #[.string f.nm, .int .i64 1, .int .i64 f.least, .int .i64 f.most, .slice (some ⟨b, 0, none⟩) f.words.length f.words.length, .string f.to, .int .i64 f.role, .bool f.must, .bool f.fixed, .string f.de, .string f.we] 93)) hb2
  have k2 : ∀ o, w2.cell? ⟨w.heap.size, o, none⟩ = (w.alloc (.cells #[.string f.nm, .int .i64 1, .int .i64 f.least, .int .i64 f.most, .slice (some ⟨b, 0, none⟩) f.words.length f.words.length, .string f.to, .int .i64 f.role, .bool f.must, .bool f.fixed, .string f.de, .string f.we] 93)).cell? ⟨w.heap.size, o, none⟩ := fun o => hb2.cell (p := ⟨w.heap.size, o, none⟩) (by simp)
  have z2 : w.heap.size < w2.heap.size := by have := hb2.size; simp at this; omega
  clear hb2 HBa HN
  cases hba : bareB f
  · have HF : Hid (R = false) := by show R = false; rw [HR.out, HO.out, hba]; rfl
    go_wp2
    go_ret
    exact ⟨Pl.ret_bool HF.out.symm, hB2⟩
  cases hem : f.de.toList.isEmpty
  · cases hfi : fitB f f.de
    · have HF : Hid (R = false) := by show R = false; rw [HR.out, HO.out]; simp [defB, Pl.isEmp, hem, hfi]
      go_wp2_with fail
      refine (HFi.out _ hB2).mono ?_
      rintro e w3 ⟨rfl, hb3⟩
      have hB3 := blw_trans hB2 hb3
      go_wp2
      go_ret
      exact ⟨Pl.ret_bool HF.out.symm, hB3⟩
    go_wp2_with fail
    refine (HFi.out _ hB2).mono ?_
    rintro e w3 ⟨rfl, hb3⟩
    have hB3 := blw_trans hB2 hb3
    have k3 : ∀ o, w3.cell? ⟨w.heap.size, o, none⟩ = (w.alloc (.cells #[.string f.nm, .int .i64 1, .int .i64 f.least, .int .i64 f.most, .slice (some ⟨b, 0, none⟩) f.words.length f.words.length, .string f.to, .int .i64 f.role, .bool f.must, .bool f.fixed, .string f.de, .string f.we] 93)).cell? ⟨w.heap.size, o, none⟩ := fun o => (hb3.cell (p := ⟨w.heap.size, o, none⟩) z2).trans (k2 o)
    have HF : Hid (R = boundB ss f) := by show R = boundB ss f; rw [HR.out, HO.out, hba]; simp [defB, Pl.isEmp, hem, hfi]
    clear hb3 k2 hB2 z2 HFi HO HR
    have HQ : Hid (boundB ss f = (decide (0 ≤ f.least) && decide (f.least ≤ f.most) && decide (f.most ≤ 1000000) && (f.we.toList.isEmpty || Pl.nameOk f.we))) := HBo.out
    have HS : Hid (f.we.size ≤ maxLen) := HP.out.sized.2.2.2
    clear HP HL HBo
    go_wp2_with (go_at_call 64; refine (l1NameOk_any _ _ HS.out).mono ?_; rintro e w' ⟨rfl, rfl⟩)
    all_goals go_ret
    all_goals refine ⟨Pl.ret_bool ?_, hB3⟩
    all_goals rw [HF.out, HQ.out]
    all_goals clear HF HQ hB3 k3
    all_goals go_light
    all_goals first | (simp_all; done) | (simp_all; omega) | (rw [Bool.eq_iff_iff]; simp_all; done) | (rw [Bool.eq_iff_iff]; simp_all; omega)
  obtain ⟨w3, rfl⟩ : ∃ w3, w3 = w2 := ⟨_, rfl⟩
  have hB3 := hB2
  have k3 := k2
  have HF : Hid (R = boundB ss f) := by show R = boundB ss f; rw [HR.out, HO.out, hba]; simp [defB, Pl.isEmp, hem]
  clear k2 hB2 z2 HFi HO HR
  have HQ : Hid (boundB ss f = (decide (0 ≤ f.least) && decide (f.least ≤ f.most) && decide (f.most ≤ 1000000) && (f.we.toList.isEmpty || Pl.nameOk f.we))) := HBo.out
  have HS : Hid (f.we.size ≤ maxLen) := HP.out.sized.2.2.2
  clear HP HL HBo
  go_wp2_with (go_at_call 64; refine (l1NameOk_any _ _ HS.out).mono ?_; rintro e w' ⟨rfl, rfl⟩)
  all_goals go_ret
  all_goals refine ⟨Pl.ret_bool ?_, hB3⟩
  all_goals rw [HF.out, HQ.out]
  all_goals clear HF HQ hB3 k3
  all_goals go_light
  all_goals first | (simp_all; done) | (simp_all; omega) | (rw [Bool.eq_iff_iff]; simp_all; done) | (rw [Bool.eq_iff_iff]; simp_all; omega)

set_option maxHeartbeats 4000000 in
theorem fieldOkS_2 (f : Fld) (b B : Nat) (ss : List Shp) (w : World) (hk : f.kind = 2) (h : ShpsIn w B ss) (hp : FldArg w b f) :
    Calls Tryz.prog 65 #[.slice (some ⟨B, 0, none⟩) ss.length ss.length, .agg #[.string f.nm, .int .i64 2, .int .i64 f.least, .int .i64 f.most, .slice (some ⟨b, 0, none⟩) f.words.length f.words.length, .string f.to, .int .i64 f.role, .bool f.must, .bool f.fixed, .string f.de, .string f.we]] w fun e w' => e = .returned (.bool (Pl.nameOk f.nm && fieldOk ss f)) ∧ Below w.heap.size w w' := by
  have HP : Hid (FldArg w b f) := hp
  have HL : Hid (ShpsIn w B ss) := h
  have HO : Hid (fieldOk ss f = (bareB f && boundB ss f && defB f)) := by show fieldOk ss f = _; simp [fieldOk, isKind, hk]
  have HBo : Hid (boundB ss f = (decide (1 ≤ f.words.length) && decide (f.words.length ≤ 6) && Pl.asc f.words)) := by show boundB ss f = _; simp [boundB, hk]
  have HBa : Hid (∀ W, Calls Tryz.prog 82 #[.agg #[.string f.nm, .int .i64 2, .int .i64 f.least, .int .i64 f.most, .slice (some ⟨b, 0, none⟩) f.words.length f.words.length, .string f.to, .int .i64 f.role, .bool f.must, .bool f.fixed, .string f.de, .string f.we]] W fun e w' => e = .returned (.bool (bareB f)) ∧ Below W.heap.size W w') := fun W => l1Bare_2 f b W HP.out.small hk
  have HFi : Hid (∀ W, Below w.heap.size w W → Calls Tryz.prog 67 #[.agg #[.string f.nm, .int .i64 2, .int .i64 f.least, .int .i64 f.most, .slice (some ⟨b, 0, none⟩) f.words.length f.words.length, .string f.to, .int .i64 f.role, .bool f.must, .bool f.fixed, .string f.de, .string f.we], .string f.de] W fun e w' => e = .returned (.bool (fitB f f.de)) ∧ Below W.heap.size W w') := by
    intro W hW
    have Q := HP.out.later hW
    have e : fitB f f.de = Pl.fits 2 f.least f.most f.words f.de := by rw [fitB, hk]
    rw [e]
    exact specFits_any f.nm 2 f.least f.most b 0 f.words.length f.to f.role f.must f.fixed f.de f.we f.de f.words W Q.sized.2.2.1 Q.lt (by have : f.words.length ≤ 1048576 := Q.small; unfold maxLen; omega) Q.cells
  clear hp h hk
  cases hnm : Pl.nameOk f.nm
  · have HN : Hid (f.nm.size ≤ maxLen) := HP.out.sized.1
    go_enter Tryz.func65, Tryz.ntmps65
    go_wp2_with (go_at_call 64; refine (l1NameOk_any _ _ HN.out).mono ?_; rintro e w' ⟨rfl, rfl⟩)
    go_ret
    exact ⟨rfl, blw_alloc (Below.refl _ _) _⟩
  have HN : Hid (f.nm.size ≤ maxLen) := HP.out.sized.1
  obtain ⟨R, hR⟩ : ∃ R, R = (true && fieldOk ss f) := ⟨_, rfl⟩
  rw [← hR]
  have HR : Hid (R = fieldOk ss f) := by rw [hR]; rfl
  clear hR
  go_enter Tryz.func65, Tryz.ntmps65
  go_wp2_with (go_at_call 64; refine (l1NameOk_any _ _ HN.out).mono ?_; rintro e w' ⟨rfl, rfl⟩)
  refine (HBa.out _).mono ?_
  rintro e w2 ⟨rfl, hb2⟩
  have hB2 := blw_trans (blw_alloc (Below.refl w.heap.size w) (.cells #[.string f.nm, .int .i64 2, .int .i64 f.least, .int .i64 f.most, .slice (some ⟨b, 0, none⟩) f.words.length f.words.length, .string f.to, .int .i64 f.role, .bool f.must, .bool f.fixed, .string f.de, .string f.we] 93)) hb2
  have k2 : ∀ o, w2.cell? ⟨w.heap.size, o, none⟩ = (w.alloc (.cells #[.string f.nm, .int .i64 2, .int .i64 f.least, .int .i64 f.most, .slice (some ⟨b, 0, none⟩) f.words.length f.words.length, .string f.to, .int .i64 f.role, .bool f.must, .bool f.fixed, .string f.de, .string f.we] 93)).cell? ⟨w.heap.size, o, none⟩ := fun o => hb2.cell (p := ⟨w.heap.size, o, none⟩) (by simp)
  have z2 : w.heap.size < w2.heap.size := by have := hb2.size; simp at this; omega
  clear hb2 HBa HN
  cases hba : bareB f
  · have HF : Hid (R = false) := by show R = false; rw [HR.out, HO.out, hba]; rfl
    go_wp2
    go_ret
    exact ⟨Pl.ret_bool HF.out.symm, hB2⟩
  cases hem : f.de.toList.isEmpty
  · cases hfi : fitB f f.de
    · have HF : Hid (R = false) := by show R = false; rw [HR.out, HO.out]; simp [defB, Pl.isEmp, hem, hfi]
      go_wp2_with fail
      refine (HFi.out _ hB2).mono ?_
      rintro e w3 ⟨rfl, hb3⟩
      have hB3 := blw_trans hB2 hb3
      go_wp2
      go_ret
      exact ⟨Pl.ret_bool HF.out.symm, hB3⟩
    go_wp2_with fail
    refine (HFi.out _ hB2).mono ?_
    rintro e w3 ⟨rfl, hb3⟩
    have hB3 := blw_trans hB2 hb3
    have k3 : ∀ o, w3.cell? ⟨w.heap.size, o, none⟩ = (w.alloc (.cells #[.string f.nm, .int .i64 2, .int .i64 f.least, .int .i64 f.most, .slice (some ⟨b, 0, none⟩) f.words.length f.words.length, .string f.to, .int .i64 f.role, .bool f.must, .bool f.fixed, .string f.de, .string f.we] 93)).cell? ⟨w.heap.size, o, none⟩ := fun o => (hb3.cell (p := ⟨w.heap.size, o, none⟩) z2).trans (k2 o)
    have HF : Hid (R = boundB ss f) := by show R = boundB ss f; rw [HR.out, HO.out, hba]; simp [defB, Pl.isEmp, hem, hfi]
    clear hb3 k2 hB2 z2 HFi HO HR
    have HQ : Hid (boundB ss f = (decide ((1 : Int) ≤ (f.words.length : Int)) && decide ((f.words.length : Int) ≤ 6) && Pl.asc f.words)) := by
      show boundB ss f = _; rw [HBo.out, Bool.eq_iff_iff]; simp; omega
    have HX : Hid (Calls Tryz.prog 83 #[.slice (some ⟨b, 0, none⟩) f.words.length f.words.length] w3 fun e w' => e = .returned (.bool (Pl.asc f.words)) ∧ Below w3.heap.size w3 w') := by
      have Q := HP.out.later hB3
      exact l1Asc_row b _ f.words w3 Q.small Q.lt Q.sizes Q.cells
    have hs' : f.words.length ≤ 1048576 := HP.out.small
    clear HP HL HBo
    cases hin : (decide ((1 : Int) ≤ (f.words.length : Int)) && decide ((f.words.length : Int) ≤ 6))
    · have HG : Hid (boundB ss f = false) := by show boundB ss f = _; rw [HQ.out, hin]; rfl
      go_wp2_with (go_at_call 80; refine (l1In_any _ _ _ _).mono ?_; rintro e w' ⟨rfl, rfl⟩)
      go_ret
      exact ⟨Pl.ret_bool (by rw [HF.out, HG.out]), hB3⟩
    · have HG : Hid (boundB ss f = Pl.asc f.words) := by show boundB ss f = _; rw [HQ.out, hin]; rfl
      go_wp2_with (first | (go_at_call 80; refine (l1In_any _ _ _ _).mono ?_; rintro e w' ⟨rfl, rfl⟩) | (go_at_call 83; refine HX.out.mono ?_; rintro e w4 ⟨rfl, hb4⟩))
      go_ret
      exact ⟨Pl.ret_bool (by rw [HF.out, HG.out]), blw_trans hB3 hb4⟩
  obtain ⟨w3, rfl⟩ : ∃ w3, w3 = w2 := ⟨_, rfl⟩
  have hB3 := hB2
  have k3 := k2
  have HF : Hid (R = boundB ss f) := by show R = boundB ss f; rw [HR.out, HO.out, hba]; simp [defB, Pl.isEmp, hem]
  clear k2 hB2 z2 HFi HO HR
  have HQ : Hid (boundB ss f = (decide ((1 : Int) ≤ (f.words.length : Int)) && decide ((f.words.length : Int) ≤ 6) && Pl.asc f.words)) := by
    show boundB ss f = _; rw [HBo.out, Bool.eq_iff_iff]; simp; omega
  have HX : Hid (Calls Tryz.prog 83 #[.slice (some ⟨b, 0, none⟩) f.words.length f.words.length] w3 fun e w' => e = .returned (.bool (Pl.asc f.words)) ∧ Below w3.heap.size w3 w') := by
    have Q := HP.out.later hB3
    exact l1Asc_row b _ f.words w3 Q.small Q.lt Q.sizes Q.cells
  have hs' : f.words.length ≤ 1048576 := HP.out.small
  clear HP HL HBo
  cases hin : (decide ((1 : Int) ≤ (f.words.length : Int)) && decide ((f.words.length : Int) ≤ 6))
  · have HG : Hid (boundB ss f = false) := by show boundB ss f = _; rw [HQ.out, hin]; rfl
    go_wp2_with (go_at_call 80; refine (l1In_any _ _ _ _).mono ?_; rintro e w' ⟨rfl, rfl⟩)
    go_ret
    exact ⟨Pl.ret_bool (by rw [HF.out, HG.out]), hB3⟩
  · have HG : Hid (boundB ss f = Pl.asc f.words) := by show boundB ss f = _; rw [HQ.out, hin]; rfl
    go_wp2_with (first | (go_at_call 80; refine (l1In_any _ _ _ _).mono ?_; rintro e w' ⟨rfl, rfl⟩) | (go_at_call 83; refine HX.out.mono ?_; rintro e w4 ⟨rfl, hb4⟩))
    go_ret
    exact ⟨Pl.ret_bool (by rw [HF.out, HG.out]), blw_trans hB3 hb4⟩

set_option maxHeartbeats 4000000 in
theorem fieldOkS_3 (f : Fld) (b B : Nat) (ss : List Shp) (w : World) (hk : f.kind = 3) (h : ShpsIn w B ss) (hp : FldArg w b f) :
    Calls Tryz.prog 65 #[.slice (some ⟨B, 0, none⟩) ss.length ss.length, .agg #[.string f.nm, .int .i64 3, .int .i64 f.least, .int .i64 f.most, .slice (some ⟨b, 0, none⟩) f.words.length f.words.length, .string f.to, .int .i64 f.role, .bool f.must, .bool f.fixed, .string f.de, .string f.we]] w fun e w' => e = .returned (.bool (Pl.nameOk f.nm && fieldOk ss f)) ∧ Below w.heap.size w w' := by
  have HP : Hid (FldArg w b f) := hp
  have HL : Hid (ShpsIn w B ss) := h
  have HO : Hid (fieldOk ss f = (bareB f && boundB ss f && defB f)) := by show fieldOk ss f = _; simp [fieldOk, isKind, hk]
  have HBo : Hid (boundB ss f = (decide (1 ≤ f.least) && decide (f.least ≤ f.most) && decide (f.most ≤ 40))) := by show boundB ss f = _; simp [boundB, hk]
  have HBa : Hid (∀ W, Calls Tryz.prog 82 #[.agg #[.string f.nm, .int .i64 3, .int .i64 f.least, .int .i64 f.most, .slice (some ⟨b, 0, none⟩) f.words.length f.words.length, .string f.to, .int .i64 f.role, .bool f.must, .bool f.fixed, .string f.de, .string f.we]] W fun e w' => e = .returned (.bool (bareB f)) ∧ Below W.heap.size W w') := fun W => l1Bare_3 f b W HP.out.small hk
  have HFi : Hid (∀ W, Below w.heap.size w W → Calls Tryz.prog 67 #[.agg #[.string f.nm, .int .i64 3, .int .i64 f.least, .int .i64 f.most, .slice (some ⟨b, 0, none⟩) f.words.length f.words.length, .string f.to, .int .i64 f.role, .bool f.must, .bool f.fixed, .string f.de, .string f.we], .string f.de] W fun e w' => e = .returned (.bool (fitB f f.de)) ∧ Below W.heap.size W w') := by
    intro W hW
    have Q := HP.out.later hW
    have e : fitB f f.de = Pl.fits 3 f.least f.most f.words f.de := by rw [fitB, hk]
    rw [e]
    exact specFits_any f.nm 3 f.least f.most b 0 f.words.length f.to f.role f.must f.fixed f.de f.we f.de f.words W Q.sized.2.2.1 Q.lt (by have : f.words.length ≤ 1048576 := Q.small; unfold maxLen; omega) Q.cells
  clear hp h hk
  cases hnm : Pl.nameOk f.nm
  · have HN : Hid (f.nm.size ≤ maxLen) := HP.out.sized.1
    go_enter Tryz.func65, Tryz.ntmps65
    go_wp2_with (go_at_call 64; refine (l1NameOk_any _ _ HN.out).mono ?_; rintro e w' ⟨rfl, rfl⟩)
    go_ret
    exact ⟨rfl, blw_alloc (Below.refl _ _) _⟩
  have HN : Hid (f.nm.size ≤ maxLen) := HP.out.sized.1
  obtain ⟨R, hR⟩ : ∃ R, R = (true && fieldOk ss f) := ⟨_, rfl⟩
  rw [← hR]
  have HR : Hid (R = fieldOk ss f) := by rw [hR]; rfl
  clear hR
  go_enter Tryz.func65, Tryz.ntmps65
  go_wp2_with (go_at_call 64; refine (l1NameOk_any _ _ HN.out).mono ?_; rintro e w' ⟨rfl, rfl⟩)
  refine (HBa.out _).mono ?_
  rintro e w2 ⟨rfl, hb2⟩
  have hB2 := blw_trans (blw_alloc (Below.refl w.heap.size w) (.cells #[.string f.nm, .int .i64 3, .int .i64 f.least, .int .i64 f.most, .slice (some ⟨b, 0, none⟩) f.words.length f.words.length, .string f.to, .int .i64 f.role, .bool f.must, .bool f.fixed, .string f.de, .string f.we] 93)) hb2
  have k2 : ∀ o, w2.cell? ⟨w.heap.size, o, none⟩ = (w.alloc (.cells #[.string f.nm, .int .i64 3, .int .i64 f.least, .int .i64 f.most, .slice (some ⟨b, 0, none⟩) f.words.length f.words.length, .string f.to, .int .i64 f.role, .bool f.must, .bool f.fixed, .string f.de, .string f.we] 93)).cell? ⟨w.heap.size, o, none⟩ := fun o => hb2.cell (p := ⟨w.heap.size, o, none⟩) (by simp)
  have z2 : w.heap.size < w2.heap.size := by have := hb2.size; simp at this; omega
  clear hb2 HBa HN
  cases hba : bareB f
  · have HF : Hid (R = false) := by show R = false; rw [HR.out, HO.out, hba]; rfl
    go_wp2
    go_ret
    exact ⟨Pl.ret_bool HF.out.symm, hB2⟩
  cases hem : f.de.toList.isEmpty
  · cases hfi : fitB f f.de
    · have HF : Hid (R = false) := by show R = false; rw [HR.out, HO.out]; simp [defB, Pl.isEmp, hem, hfi]
      go_wp2_with fail
      refine (HFi.out _ hB2).mono ?_
      rintro e w3 ⟨rfl, hb3⟩
      have hB3 := blw_trans hB2 hb3
      go_wp2
      go_ret
      exact ⟨Pl.ret_bool HF.out.symm, hB3⟩
    go_wp2_with fail
    refine (HFi.out _ hB2).mono ?_
    rintro e w3 ⟨rfl, hb3⟩
    have hB3 := blw_trans hB2 hb3
    have k3 : ∀ o, w3.cell? ⟨w.heap.size, o, none⟩ = (w.alloc (.cells #[.string f.nm, .int .i64 3, .int .i64 f.least, .int .i64 f.most, .slice (some ⟨b, 0, none⟩) f.words.length f.words.length, .string f.to, .int .i64 f.role, .bool f.must, .bool f.fixed, .string f.de, .string f.we] 93)).cell? ⟨w.heap.size, o, none⟩ := fun o => (hb3.cell (p := ⟨w.heap.size, o, none⟩) z2).trans (k2 o)
    have HF : Hid (R = boundB ss f) := by show R = boundB ss f; rw [HR.out, HO.out, hba]; simp [defB, Pl.isEmp, hem, hfi]
    clear hb3 k2 hB2 z2 HFi HO HR
    have HQ : Hid (boundB ss f = (decide (1 ≤ f.least) && decide (f.least ≤ f.most) && decide (f.most ≤ 40))) := HBo.out
    clear HP HL HBo
    go_wp2
    all_goals go_ret
    all_goals refine ⟨Pl.ret_bool ?_, hB3⟩
    all_goals rw [HF.out, HQ.out]
    all_goals clear HF HQ hB3 k3
    all_goals go_light
    all_goals first | (simp_all; done) | (simp_all; omega) | (rw [Bool.eq_iff_iff]; simp_all; done) | (rw [Bool.eq_iff_iff]; simp_all; omega)
  obtain ⟨w3, rfl⟩ : ∃ w3, w3 = w2 := ⟨_, rfl⟩
  have hB3 := hB2
  have k3 := k2
  have HF : Hid (R = boundB ss f) := by show R = boundB ss f; rw [HR.out, HO.out, hba]; simp [defB, Pl.isEmp, hem]
  clear k2 hB2 z2 HFi HO HR
  have HQ : Hid (boundB ss f = (decide (1 ≤ f.least) && decide (f.least ≤ f.most) && decide (f.most ≤ 40))) := HBo.out
  clear HP HL HBo
  go_wp2
  all_goals go_ret
  all_goals refine ⟨Pl.ret_bool ?_, hB3⟩
  all_goals rw [HF.out, HQ.out]
  all_goals clear HF HQ hB3 k3
  all_goals go_light
  all_goals first | (simp_all; done) | (simp_all; omega) | (rw [Bool.eq_iff_iff]; simp_all; done) | (rw [Bool.eq_iff_iff]; simp_all; omega)

set_option maxHeartbeats 4000000 in
theorem fieldOkS_4 (f : Fld) (b B : Nat) (ss : List Shp) (w : World) (hk : f.kind = 4) (h : ShpsIn w B ss) (hp : FldArg w b f) :
    Calls Tryz.prog 65 #[.slice (some ⟨B, 0, none⟩) ss.length ss.length, .agg #[.string f.nm, .int .i64 4, .int .i64 f.least, .int .i64 f.most, .slice (some ⟨b, 0, none⟩) f.words.length f.words.length, .string f.to, .int .i64 f.role, .bool f.must, .bool f.fixed, .string f.de, .string f.we]] w fun e w' => e = .returned (.bool (Pl.nameOk f.nm && fieldOk ss f)) ∧ Below w.heap.size w w' := by
  have HP : Hid (FldArg w b f) := hp
  have HL : Hid (ShpsIn w B ss) := h
  have HO : Hid (fieldOk ss f = (bareB f && boundB ss f && defB f)) := by show fieldOk ss f = _; simp [fieldOk, isKind, hk]
  have HBo : Hid (boundB ss f = (hasKind ss f.to && (decide (1 ≤ f.role) && decide (f.role ≤ 3) && f.de.toList.isEmpty && (!decide (f.role = 2) || !f.must)))) := by show boundB ss f = _; simp [boundB, hk, Pl.isEmp, Bool.and_assoc]
  have HBa : Hid (∀ W, Calls Tryz.prog 82 #[.agg #[.string f.nm, .int .i64 4, .int .i64 f.least, .int .i64 f.most, .slice (some ⟨b, 0, none⟩) f.words.length f.words.length, .string f.to, .int .i64 f.role, .bool f.must, .bool f.fixed, .string f.de, .string f.we]] W fun e w' => e = .returned (.bool (bareB f)) ∧ Below W.heap.size W w') := fun W => l1Bare_4 f b W HP.out.small hk
  have HFi : Hid (∀ W, Below w.heap.size w W → Calls Tryz.prog 67 #[.agg #[.string f.nm, .int .i64 4, .int .i64 f.least, .int .i64 f.most, .slice (some ⟨b, 0, none⟩) f.words.length f.words.length, .string f.to, .int .i64 f.role, .bool f.must, .bool f.fixed, .string f.de, .string f.we], .string f.de] W fun e w' => e = .returned (.bool (fitB f f.de)) ∧ Below W.heap.size W w') := by
    intro W hW
    have Q := HP.out.later hW
    have e : fitB f f.de = Pl.fits 4 f.least f.most f.words f.de := by rw [fitB, hk]
    rw [e]
    exact specFits_any f.nm 4 f.least f.most b 0 f.words.length f.to f.role f.must f.fixed f.de f.we f.de f.words W Q.sized.2.2.1 Q.lt (by have : f.words.length ≤ 1048576 := Q.small; unfold maxLen; omega) Q.cells
  clear hp h hk
  cases hnm : Pl.nameOk f.nm
  · have HN : Hid (f.nm.size ≤ maxLen) := HP.out.sized.1
    go_enter Tryz.func65, Tryz.ntmps65
    go_wp2_with (go_at_call 64; refine (l1NameOk_any _ _ HN.out).mono ?_; rintro e w' ⟨rfl, rfl⟩)
    go_ret
    exact ⟨rfl, blw_alloc (Below.refl _ _) _⟩
  have HN : Hid (f.nm.size ≤ maxLen) := HP.out.sized.1
  obtain ⟨R, hR⟩ : ∃ R, R = (true && fieldOk ss f) := ⟨_, rfl⟩
  rw [← hR]
  have HR : Hid (R = fieldOk ss f) := by rw [hR]; rfl
  clear hR
  go_enter Tryz.func65, Tryz.ntmps65
  go_wp2_with (go_at_call 64; refine (l1NameOk_any _ _ HN.out).mono ?_; rintro e w' ⟨rfl, rfl⟩)
  refine (HBa.out _).mono ?_
  rintro e w2 ⟨rfl, hb2⟩
  have hB2 := blw_trans (blw_alloc (Below.refl w.heap.size w) (.cells #[.string f.nm, .int .i64 4, .int .i64 f.least, .int .i64 f.most, .slice (some ⟨b, 0, none⟩) f.words.length f.words.length, .string f.to, .int .i64 f.role, .bool f.must, .bool f.fixed, .string f.de, .string f.we] 93)) hb2
  have k2 : ∀ o, w2.cell? ⟨w.heap.size, o, none⟩ = (w.alloc (.cells #[.string f.nm, .int .i64 4, .int .i64 f.least, .int .i64 f.most, .slice (some ⟨b, 0, none⟩) f.words.length f.words.length, .string f.to, .int .i64 f.role, .bool f.must, .bool f.fixed, .string f.de, .string f.we] 93)).cell? ⟨w.heap.size, o, none⟩ := fun o => hb2.cell (p := ⟨w.heap.size, o, none⟩) (by simp)
  have z2 : w.heap.size < w2.heap.size := by have := hb2.size; simp at this; omega
  clear hb2 HBa HN
  cases hba : bareB f
  · have HF : Hid (R = false) := by show R = false; rw [HR.out, HO.out, hba]; rfl
    go_wp2
    go_ret
    exact ⟨Pl.ret_bool HF.out.symm, hB2⟩
  cases hem : f.de.toList.isEmpty
  · cases hfi : fitB f f.de
    · have HF : Hid (R = false) := by show R = false; rw [HR.out, HO.out]; simp [defB, Pl.isEmp, hem, hfi]
      go_wp2_with fail
      refine (HFi.out _ hB2).mono ?_
      rintro e w3 ⟨rfl, hb3⟩
      have hB3 := blw_trans hB2 hb3
      go_wp2
      go_ret
      exact ⟨Pl.ret_bool HF.out.symm, hB3⟩
    go_wp2_with fail
    refine (HFi.out _ hB2).mono ?_
    rintro e w3 ⟨rfl, hb3⟩
    have hB3 := blw_trans hB2 hb3
    have k3 : ∀ o, w3.cell? ⟨w.heap.size, o, none⟩ = (w.alloc (.cells #[.string f.nm, .int .i64 4, .int .i64 f.least, .int .i64 f.most, .slice (some ⟨b, 0, none⟩) f.words.length f.words.length, .string f.to, .int .i64 f.role, .bool f.must, .bool f.fixed, .string f.de, .string f.we] 93)).cell? ⟨w.heap.size, o, none⟩ := fun o => (hb3.cell (p := ⟨w.heap.size, o, none⟩) z2).trans (k2 o)
    have HF : Hid (R = boundB ss f) := by show R = boundB ss f; rw [HR.out, HO.out, hba]; simp [defB, Pl.isEmp, hem, hfi]
    clear hb3 k2 hB2 z2 HFi HO HR
    have HQ : Hid (boundB ss f = (hasKind ss f.to && (decide (1 ≤ f.role) && decide (f.role ≤ 3) && f.de.toList.isEmpty && (!decide (f.role = 2) || !f.must)))) := HBo.out
    obtain ⟨r, hr⟩ : ∃ r : Int, r = (if kindAt ss f.to < ss.length then (kindAt ss f.to : Int) else -1) := ⟨_, rfl⟩
    have HX : Hid (Calls Tryz.prog 48 #[.slice (some ⟨B, 0, none⟩) ss.length ss.length, .string f.to] w3 fun e w' => e = .returned (.int .i64 r) ∧ w3 = w') := by
      rw [hr]; exact l1Shape_any B ss f.to w3 (HL.out.later hB3)
    have hq : decide (0 ≤ r) = hasKind ss f.to := by rw [hr, hasKind]; split <;> simp_all
    clear HP HL HBo hr
    cases hh : hasKind ss f.to
    · rw [hh] at hq
      have hr0 : r < 0 := by simpa using hq
      have HG : Hid (boundB ss f = false) := by show boundB ss f = _; rw [HQ.out, hh]; rfl
      clear hq hh
      go_wp2_with fail
      refine HX.out.mono ?_
      rintro e w4 ⟨rfl, rfl⟩
      go_wp2
      go_ret
      exact ⟨Pl.ret_bool (by rw [HF.out, HG.out]), hB3⟩
    · rw [hh] at hq
      have hr0 : 0 ≤ r := by simpa using hq
      have HG : Hid (boundB ss f = ((decide (1 ≤ f.role) && decide (f.role ≤ 3)) && f.de.toList.isEmpty && (!decide (f.role = 2) || !f.must))) := by show boundB ss f = _; rw [HQ.out, hh]; rfl
      clear hq hh HQ
      cases hin : (decide (1 ≤ f.role) && decide (f.role ≤ 3))
      · go_wp2_with (first | (go_at_call 48; refine HX.out.mono ?_; rintro e w4 ⟨rfl, rfl⟩) | (go_at_call 80; refine (l1In_any _ _ _ _).mono ?_; rintro e w' ⟨rfl, rfl⟩))
        go_ret
        exact ⟨Pl.ret_bool (by rw [HF.out, HG.out, hin]; rfl), hB3⟩
      · have HG' : Hid (boundB ss f = (f.de.toList.isEmpty && (!decide (f.role = 2) || !f.must))) := by show boundB ss f = _; rw [HG.out, hin]; rfl
        clear HG
        go_wp2_with (first | (go_at_call 48; refine HX.out.mono ?_; rintro e w4 ⟨rfl, rfl⟩) | (go_at_call 80; refine (l1In_any _ _ _ _).mono ?_; rintro e w' ⟨rfl, rfl⟩))
        all_goals go_ret
        all_goals refine ⟨Pl.ret_bool ?_, hB3⟩
        all_goals rw [HF.out, HG'.out]
        all_goals clear HF HG' hB3 k3 HX
        all_goals go_light
        all_goals first | (simp_all; done) | (simp_all; omega) | (rw [Bool.eq_iff_iff]; simp_all; done) | (rw [Bool.eq_iff_iff]; simp_all; omega)
  obtain ⟨w3, rfl⟩ : ∃ w3, w3 = w2 := ⟨_, rfl⟩
  have hB3 := hB2
  have k3 := k2
  have HF : Hid (R = boundB ss f) := by show R = boundB ss f; rw [HR.out, HO.out, hba]; simp [defB, Pl.isEmp, hem]
  clear k2 hB2 z2 HFi HO HR
  have HQ : Hid (boundB ss f = (hasKind ss f.to && (decide (1 ≤ f.role) && decide (f.role ≤ 3) && f.de.toList.isEmpty && (!decide (f.role = 2) || !f.must)))) := HBo.out
  obtain ⟨r, hr⟩ : ∃ r : Int, r = (if kindAt ss f.to < ss.length then (kindAt ss f.to : Int) else -1) := ⟨_, rfl⟩
  have HX : Hid (Calls Tryz.prog 48 #[.slice (some ⟨B, 0, none⟩) ss.length ss.length, .string f.to] w3 fun e w' => e = .returned (.int .i64 r) ∧ w3 = w') := by
    rw [hr]; exact l1Shape_any B ss f.to w3 (HL.out.later hB3)
  have hq : decide (0 ≤ r) = hasKind ss f.to := by rw [hr, hasKind]; split <;> simp_all
  clear HP HL HBo hr
  cases hh : hasKind ss f.to
  · rw [hh] at hq
    have hr0 : r < 0 := by simpa using hq
    have HG : Hid (boundB ss f = false) := by show boundB ss f = _; rw [HQ.out, hh]; rfl
    clear hq hh
    go_wp2_with fail
    refine HX.out.mono ?_
    rintro e w4 ⟨rfl, rfl⟩
    go_wp2
    go_ret
    exact ⟨Pl.ret_bool (by rw [HF.out, HG.out]), hB3⟩
  · rw [hh] at hq
    have hr0 : 0 ≤ r := by simpa using hq
    have HG : Hid (boundB ss f = ((decide (1 ≤ f.role) && decide (f.role ≤ 3)) && f.de.toList.isEmpty && (!decide (f.role = 2) || !f.must))) := by show boundB ss f = _; rw [HQ.out, hh]; rfl
    clear hq hh HQ
    cases hin : (decide (1 ≤ f.role) && decide (f.role ≤ 3))
    · go_wp2_with (first | (go_at_call 48; refine HX.out.mono ?_; rintro e w4 ⟨rfl, rfl⟩) | (go_at_call 80; refine (l1In_any _ _ _ _).mono ?_; rintro e w' ⟨rfl, rfl⟩))
      go_ret
      exact ⟨Pl.ret_bool (by rw [HF.out, HG.out, hin]; rfl), hB3⟩
    · have HG' : Hid (boundB ss f = (f.de.toList.isEmpty && (!decide (f.role = 2) || !f.must))) := by show boundB ss f = _; rw [HG.out, hin]; rfl
      clear HG
      go_wp2_with (first | (go_at_call 48; refine HX.out.mono ?_; rintro e w4 ⟨rfl, rfl⟩) | (go_at_call 80; refine (l1In_any _ _ _ _).mono ?_; rintro e w' ⟨rfl, rfl⟩))
      all_goals go_ret
      all_goals refine ⟨Pl.ret_bool ?_, hB3⟩
      all_goals rw [HF.out, HG'.out]
      all_goals clear HF HG' hB3 k3 HX
      all_goals go_light
      all_goals first | (simp_all; done) | (simp_all; omega) | (rw [Bool.eq_iff_iff]; simp_all; done) | (rw [Bool.eq_iff_iff]; simp_all; omega)

end Go.Proofs.YtbannihkgglpaaaGreat
