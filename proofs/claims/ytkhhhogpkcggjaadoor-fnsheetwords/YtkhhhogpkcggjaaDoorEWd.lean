/-
  Sheets: what stands in quotes: the specification.
-/
import Derived.Test.YtkhhhogpkcggjaaDoorEWb
import Derived.Test.YtkhhhogpkcggjaaDoorEWc
import Derived.Test.YtkhhhogpkcggjaaDoorRgFc
namespace Go.Proofs.YtkhhhogpkcggjaaDoor
open Go.RowKit Go.Deep

theorem strRun (s : ByteArray) (n : Nat) (i : Int) (hi : i = (n : Int)) (h : n < s.size) (w : World) : (Instr.index 9 (.string s) (.int .i64 i)).run Tryd.prog w = .ok (.int .u8 (s[n].toNat : Int)) w := by
  subst hi
  rw [run_index_string w 9 _ .i64 (n : Int) (by kernel_rfl), dif_pos ⟨by omega, by omega⟩]
  simp only [Int.toNat_natCast]
theorem ret_si {a b : ByteArray} {c d : Int} (h : a = b) (g : c = d) : Ending.returned (.tuple #[.string a, .int .i64 c]) = .returned (.tuple #[.string b, .int .i64 d]) := by rw [h, g]
def VEqo (va : Value) (s : ByteArray) (k : Nat) (b1 b2 z : UInt8) : Nat → Value → World → Prop
  | 0, u, _ => u = va
  | 1, u, _ => u = .string s
  | 2, u, _ => u = .int .i64 (k : Int)
  | 3, u, _ => u = .int .i64 ((k : Int) + 1)
  | 4, u, _ => u = .int .u8 (b1.toNat : Int)
  | 5, u, _ => u = .int .i64 (Pl.hexV b1)
  | 6, u, _ => u = .int .i64 (16 * Pl.hexV b1)
  | 7, u, _ => u = .string s
  | 8, u, _ => u = .int .i64 (k : Int)
  | 9, u, _ => u = .int .i64 ((k : Int) + 2)
  | 10, u, _ => u = .int .u8 (b2.toNat : Int)
  | 11, u, _ => u = .int .i64 (Pl.hexV b2)
  | 12, u, _ => u = .int .i64 (16 * Pl.hexV b1 + Pl.hexV b2)
  | 13, u, _ => u = .int .u8 (z.toNat : Int)
  | 14, u, W => ∃ B, u = .slice (some ⟨B, 0, none⟩) 1 1 ∧ W.heap[B]? = some (.cells #[.int .u8 (z.toNat : Int)] 5 (0, 0))
  | _, _, _ => True
theorem VEqo_mono (va : Value) (s : ByteArray) (k : Nat) (b1 b2 z : UInt8) : ∀ j u W W', Below W.heap.size W W' → VEqo va s k b1 b2 z j u W → VEqo va s k b1 b2 z j u W' := by
  intro j u W W' hb h
  match j with
  | 0 => exact h
  | 1 => exact h
  | 2 => exact h
  | 3 => exact h
  | 4 => exact h
  | 5 => exact h
  | 6 => exact h
  | 7 => exact h
  | 8 => exact h
  | 9 => exact h
  | 10 => exact h
  | 11 => exact h
  | 12 => exact h
  | 13 => exact h
  | 14 =>
    obtain ⟨B, e, hB⟩ := h
    exact ⟨B, e, (hb.block B (Array.getElem?_eq_some_iff.1 hB).1).trans hB⟩
  | n + 15 => exact trivial

set_option maxRecDepth 8000 in
set_option maxHeartbeats 4000000 in
theorem l37QuotedS (s : ByteArray) (w : World) (hs : s.size ≤ 1048576) :
    Calls Tryd.prog 19 #[.string s] w fun e w' => e = .returned (.tuple #[.string ⟨(Pl.quoT s.data.toList).1.toArray⟩, .int .i64 ((Pl.quoT s.data.toList).2 : Int)]) ∧ Below w.heap.size w w' := by
  go_enter Tryd.func19, Tryd.ntmps19
  go_wp2
  go_loopw [4, 5] (fun v i wr => ∃ (k : Nat) (O : List UInt8), k ≤ s.size ∧ i = .int .i64 k ∧ By wr w.heap.size v O ∧ O.length ≤ k ∧ Below w.heap.size w wr ∧ Pl.quoL s.data.toList = (Pl.quoL (s.data.toList.drop k)).map fun p => (O ++ p.1, k + p.2)) (fun _ i _ => s.size - (intOf i).toNat)
  case atStart => exact ⟨0, [], Nat.zero_le _, rfl, By.emp w w.heap.size (Nat.le_refl _), Nat.le_refl _, blw_alloc (Below.refl _ _) _, by simp⟩
  case round =>
    rename_i v _ _
    obtain ⟨k, O, hk, rfl, hO, hll, hW, hX⟩ := hrel
    have HLL := uh hll
    have HO := uh hO
    have HW := uh hW
    have HX := uh hX
    obtain ⟨sa, sc, hv⟩ := hO.shape
    subst hv
    clear hO hW hll hX
    by_cases hlt : k < s.size
    rotate_left
    · obtain rfl : k = s.size := by omega
      have HR : Hid (Pl.quoT s.data.toList = ([], 0)) := by show _ = _; rw [Pl.quoT, HX.out, Pl.quoE]; rfl
      go_wp2
      go_ret2
      exact ⟨ret_si (by first | (rw [HR.out]; rfl) | rw [HR.out]) (by first | (rw [HR.out]; rfl) | rw [HR.out]), HW.out⟩
    have HB8 := uh (Pl.u8lt s[k])
    by_cases c1 : s[k].toNat = 34
    · have HR : Hid (Pl.quoT s.data.toList = (O, k + 1)) := by show _ = _; rw [Pl.quoT, HX.out, Pl.quo34 s k hlt c1]; simp
      have d1 : ((s[k].toNat : Int) == 34) = true := by simp; omega
      have hcv := HO.out.str_any
      clear c1
      go_wp2
      go_ret2
      exact ⟨ret_si (by rw [HR.out]) (by rw [HR.out]; simp), HW.out⟩
    have d1 : ((s[k].toNat : Int) == 34) = false := by simp; omega
    by_cases c2 : s[k].toNat = 92
    · have d2 : ((s[k].toNat : Int) == 92) = true := by simp; omega
      by_cases h2 : k + 2 < s.size
      rotate_left
      · have HR : Hid (Pl.quoT s.data.toList = ([], 0)) := by show _ = _; rw [Pl.quoT, HX.out, Pl.quo92n s k hlt c2 h2]; rfl
        have d3 : (s.size : Int) ≤ (k : Int) + 2 := by omega
        have k2 : IntKind.i64.wrap ((k : Int) + 2) = (k : Int) + 2 := IntWalk.i64_in _ ⟨by omega, by omega⟩
        clear c1 c2 h2
        go_wp2
        go_ret2
        exact ⟨ret_si (by first | (rw [HR.out]; rfl) | rw [HR.out]) (by first | (rw [HR.out]; rfl) | rw [HR.out]), HW.out⟩
      have HXX := uh (fun (h1 : Pl.hexV s[k + 1] < 0 ∨ Pl.hexV s[k + 2] < 0) => Pl.quo92x s k hlt c2 h2 h1)
      have HXY := uh (fun y1 y2 => Pl.quo92 s k hlt c2 h2 y1 y2)
      have HI1 := uh (fun w => strRun s (k + 1) ((k : Int) + 1) (by omega) (by omega) w)
      have HI2 := uh (fun w => strRun s (k + 2) ((k : Int) + 2) (by omega) h2 w)
      obtain ⟨b1, hb1⟩ : ∃ b, b = s[k + 1] := ⟨_, rfl⟩
      obtain ⟨b2, hb2⟩ : ∃ b, b = s[k + 2] := ⟨_, rfl⟩
      rw [← hb1] at HXX HXY HI1
      rw [← hb2] at HXX HXY HI2
      have g1 := Pl.hexV_bd b1
      have g2 := Pl.hexV_bd b2
      clear hb1 hb2
      have d3 : ¬ (s.size : Int) ≤ (k : Int) + 2 := by omega
      have HK1 : Hid (IntKind.i64.wrap ((k : Int) + 1) = (k : Int) + 1) := IntWalk.i64_in _ ⟨by omega, by omega⟩
      have HK2 : Hid (IntKind.i64.wrap ((k : Int) + 2) = (k : Int) + 2) := IntWalk.i64_in _ ⟨by omega, by omega⟩
      have i1 := HI1.out
      have i2 := HI2.out
      have k1 := HK1.out
      have k2 := HK2.out
      clear c1 c2
      by_cases p1 : Pl.hexV b1 < 0
      · have HR : Hid (Pl.quoT s.data.toList = ([], 0)) := by show _ = _; rw [Pl.quoT, HX.out, HXX.out (Or.inl p1)]; rfl
        clear g1 g2
        go_wp2_with (go_at_call 24; refine (l37Hex_any _ _).mono ?_; rintro e w' ⟨rfl, rfl⟩)
        go_ret2
        exact ⟨ret_si (by first | (rw [HR.out]; rfl) | rw [HR.out]) (by first | (rw [HR.out]; rfl) | rw [HR.out]), HW.out⟩
      by_cases p2 : Pl.hexV b2 < 0
      · have HR : Hid (Pl.quoT s.data.toList = ([], 0)) := by show _ = _; rw [Pl.quoT, HX.out, HXX.out (Or.inr p2)]; rfl
        clear g1 g2
        go_wp2_with (go_at_call 24; refine (l37Hex_any _ _).mono ?_; rintro e w' ⟨rfl, rfl⟩)
        go_ret2
        exact ⟨ret_si (by first | (rw [HR.out]; rfl) | rw [HR.out]) (by first | (rw [HR.out]; rfl) | rw [HR.out]), HW.out⟩
      obtain ⟨z, hz⟩ : ∃ z, z = UInt8.ofNat (16 * Pl.hexV b1 + Pl.hexV b2).toNat := ⟨_, rfl⟩
      have HNX := uh (Pl.quoC HX.out (HXY.out (by omega) (by omega)))
      rw [← hz] at HNX
      have HM1 : Hid (IntKind.i64.wrap (16 * Pl.hexV b1) = 16 * Pl.hexV b1) := IntWalk.i64_in _ ⟨by omega, by omega⟩
      have HM2 : Hid (IntKind.i64.wrap (16 * Pl.hexV b1 + Pl.hexV b2) = 16 * Pl.hexV b1 + Pl.hexV b2) := IntWalk.i64_in _ ⟨by omega, by omega⟩
      have HM3 : Hid (IntKind.u8.wrap (16 * Pl.hexV b1 + Pl.hexV b2) = (z.toNat : Int)) := by show _ = _; rw [wrap_byte _ (by omega) (by omega), hz, UInt8.toNat_ofNat']; omega
      clear hz g1 g2
      go_upto_region 11 with (go_at_call 24; refine (l37Hex_any _ _).mono ?_; rintro e w' ⟨rfl, rfl⟩)
      clear i1 i2 k1 k2
      refine RY.region_finC wr (Below.refl _ _) (VEqo (.slice sa O.length sc) s k b1 b2 z) (VEqo_mono _ _ _ _ _ _) (fun u W' => ∃ g cap, u = .slice (some ⟨g, 0, none⟩) (O.length + 1) cap ∧ By W' w.heap.size u (O ++ [z]) ∧ Below w.heap.size w W') 15 12 63 4 (by kernel_rfl) (by kernel_rfl) (by kernel_rfl) (by kernel_rfl) (by kernel_rfl) rfl (by kernel_rfl) _ _ rfl rfl rfl rfl rfl (by kernel_rfl) ?_ ?_ ?_
      · intro i o' ho hin a X hX hk hd
        match i, ho with
        | 0, ho =>
          injection ho with ho; subst ho
          have e4 : a.tmps[4]?.getD undef = .slice sa O.length sc := (RY.ev_tmp a 4).trans ((hk 4 (RY.late_spec (by kernel_rfl))).trans rfl)
          exact Or.inl ⟨.slice sa O.length sc, X, by simp [execOp, go_sem, e4], Below.refl _ _, rfl⟩
        | 1, ho =>
          injection ho with ho; subst ho
          have e0 : a.tmps[0]?.getD undef = .string s := (RY.ev_tmp a 0).trans ((hk 0 (RY.late_spec (by kernel_rfl))).trans rfl)
          exact Or.inl ⟨.string s, X, by simp [execOp, go_sem, e0], Below.refl _ _, rfl⟩
        | 2, ho =>
          injection ho with ho; subst ho
          have e5 : a.tmps[5]?.getD undef = .int .i64 (k : Int) := (RY.ev_tmp a 5).trans ((hk 5 (RY.late_spec (by kernel_rfl))).trans rfl)
          exact Or.inl ⟨.int .i64 (k : Int), X, by simp [execOp, go_sem, e5], Below.refl _ _, rfl⟩
        | 3, ho =>
          injection ho with ho; subst ho
          have e50 : a.tmps[50]?.getD undef = _ := (RY.ev_tmp a 50).trans (hd 2 _ 50 rfl rfl ⟨⟨2, .data⟩, by simp, rfl, rfl⟩ (by decide))
          exact Or.inl ⟨.int .i64 ((k : Int) + 1), X, by simp [execOp, go_sem, e50, HK1.out], Below.refl _ _, rfl⟩
        | 4, ho =>
          injection ho with ho; subst ho
          have e49 : a.tmps[49]?.getD undef = _ := (RY.ev_tmp a 49).trans (hd 1 _ 49 rfl rfl ⟨⟨1, .data⟩, by simp, rfl, rfl⟩ (by decide))
          have e51 : a.tmps[51]?.getD undef = _ := (RY.ev_tmp a 51).trans (hd 3 _ 51 rfl rfl ⟨⟨3, .data⟩, by simp, rfl, rfl⟩ (by decide))
          exact Or.inl ⟨.int .u8 (b1.toNat : Int), X, by simp [execOp, go_sem, e49, e51, HI1.out X], Below.refl _ _, rfl⟩
        | 5, ho =>
          injection ho with ho; subst ho
          have e52 : a.tmps[52]?.getD undef = _ := (RY.ev_tmp a 52).trans (hd 4 _ 52 rfl rfl ⟨⟨4, .data⟩, by simp, rfl, rfl⟩ (by decide))
          refine Or.inr ⟨24, #[.int .u8 (b1.toNat : Int)], by simp [go_sem, e52], (l37Hex_any b1 X).mono ?_⟩
          rintro e W' ⟨rfl, rfl⟩
          exact ⟨_, rfl, Below.refl _ _, rfl⟩
        | 6, ho =>
          injection ho with ho; subst ho
          have e53 : a.tmps[53]?.getD undef = _ := (RY.ev_tmp a 53).trans (hd 5 _ 53 rfl rfl ⟨⟨5, .data⟩, by simp, rfl, rfl⟩ (by decide))
          exact Or.inl ⟨.int .i64 (16 * Pl.hexV b1), X, by simp [execOp, go_sem, e53, HM1.out], Below.refl _ _, rfl⟩
        | 7, ho =>
          injection ho with ho; subst ho
          have e0 : a.tmps[0]?.getD undef = .string s := (RY.ev_tmp a 0).trans ((hk 0 (RY.late_spec (by kernel_rfl))).trans rfl)
          exact Or.inl ⟨.string s, X, by simp [execOp, go_sem, e0], Below.refl _ _, rfl⟩
        | 8, ho =>
          injection ho with ho; subst ho
          have e5 : a.tmps[5]?.getD undef = .int .i64 (k : Int) := (RY.ev_tmp a 5).trans ((hk 5 (RY.late_spec (by kernel_rfl))).trans rfl)
          exact Or.inl ⟨.int .i64 (k : Int), X, by simp [execOp, go_sem, e5], Below.refl _ _, rfl⟩
        | 9, ho =>
          injection ho with ho; subst ho
          have e56 : a.tmps[56]?.getD undef = _ := (RY.ev_tmp a 56).trans (hd 8 _ 56 rfl rfl ⟨⟨8, .data⟩, by simp, rfl, rfl⟩ (by decide))
          exact Or.inl ⟨.int .i64 ((k : Int) + 2), X, by simp [execOp, go_sem, e56, HK2.out], Below.refl _ _, rfl⟩
        | 10, ho =>
          injection ho with ho; subst ho
          have e55 : a.tmps[55]?.getD undef = _ := (RY.ev_tmp a 55).trans (hd 7 _ 55 rfl rfl ⟨⟨7, .data⟩, by simp, rfl, rfl⟩ (by decide))
          have e57 : a.tmps[57]?.getD undef = _ := (RY.ev_tmp a 57).trans (hd 9 _ 57 rfl rfl ⟨⟨9, .data⟩, by simp, rfl, rfl⟩ (by decide))
          exact Or.inl ⟨.int .u8 (b2.toNat : Int), X, by simp [execOp, go_sem, e55, e57, HI2.out X], Below.refl _ _, rfl⟩
        | 11, ho =>
          injection ho with ho; subst ho
          have e58 : a.tmps[58]?.getD undef = _ := (RY.ev_tmp a 58).trans (hd 10 _ 58 rfl rfl ⟨⟨10, .data⟩, by simp, rfl, rfl⟩ (by decide))
          refine Or.inr ⟨24, #[.int .u8 (b2.toNat : Int)], by simp [go_sem, e58], (l37Hex_any b2 X).mono ?_⟩
          rintro e W' ⟨rfl, rfl⟩
          exact ⟨_, rfl, Below.refl _ _, rfl⟩
        | 12, ho =>
          injection ho with ho; subst ho
          have e54 : a.tmps[54]?.getD undef = _ := (RY.ev_tmp a 54).trans (hd 6 _ 54 rfl rfl ⟨⟨6, .data⟩, by simp, rfl, rfl⟩ (by decide))
          have e59 : a.tmps[59]?.getD undef = _ := (RY.ev_tmp a 59).trans (hd 11 _ 59 rfl rfl ⟨⟨11, .data⟩, by simp, rfl, rfl⟩ (by decide))
          exact Or.inl ⟨.int .i64 (16 * Pl.hexV b1 + Pl.hexV b2), X, by simp [execOp, go_sem, e54, e59, HM2.out], Below.refl _ _, rfl⟩
        | 13, ho =>
          injection ho with ho; subst ho
          have e60 : a.tmps[60]?.getD undef = _ := (RY.ev_tmp a 60).trans (hd 12 _ 60 rfl rfl ⟨⟨12, .data⟩, by simp, rfl, rfl⟩ (by decide))
          exact Or.inl ⟨.int .u8 (z.toNat : Int), X, by simp [execOp, go_sem, e60, HM3.out], Below.refl _ _, rfl⟩
        | 14, ho =>
          injection ho with ho; subst ho
          have e61 := (RY.ev_tmp a 61).trans (hd 13 _ 61 rfl rfl ⟨⟨13, .data⟩, by simp, rfl, rfl⟩ (by decide))
          exact Or.inl ⟨.slice (some ⟨X.heap.size, 0, none⟩) 1 1, X.alloc (.cells #[.int .u8 (z.toNat : Int)] 5), by simp [execOp, go_sem, e61], blw_alloc (Below.refl _ _) _, X.heap.size, rfl, heap_alloc_new X _⟩
        | n + 15, ho => omega
      · intro a X hX hk hd
        have e48 := hd 0 _ 48 rfl rfl ⟨⟨0, .data⟩, by simp, rfl, rfl⟩ (by decide)
        obtain ⟨B, e62, hB⟩ := hd 14 _ 62 rfl rfl ⟨⟨14, .data⟩, by simp, rfl, rfl⟩ (by decide)
        have hOX := HO.out.later hX
        obtain ⟨g, cap, X', hr, hb1, hb2⟩ := by_run hOX 22 B 1 1 [z] rfl _ rfl hB (by decide) (by have := HLL.out; omega) (Nat.le_trans HW.out.size hX.size)
        exact ⟨_, X', uexec_append (.tmp 48) (.tmp 62) 22 rfl e48 e62 hr, g, cap, rfl, hb1, hOX.below (blw_trans HW.out hX) hb2 (Nat.le_refl _)⟩
      · rintro vals X hK e2
        simp only [RY.putAll, Act.put, List.setIfInBounds_toArray, List.set_cons_zero, List.set_cons_succ]
        rw [e2]
        generalize vals 48 = s48
        generalize vals 49 = s49
        generalize vals 50 = s50
        generalize vals 51 = s51
        generalize vals 52 = s52
        generalize vals 53 = s53
        generalize vals 54 = s54
        generalize vals 55 = s55
        generalize vals 56 = s56
        generalize vals 57 = s57
        generalize vals 58 = s58
        generalize vals 59 = s59
        generalize vals 60 = s60
        generalize vals 61 = s61
        generalize vals 62 = s62
        obtain ⟨g, cap, e1, hg, hb⟩ := hK
        rw [e1] at hg ⊢
        have HN := uh (And.intro hg hb)
        clear hg hb e1 e2 HO HW
        go_wp2
        go_roundw
        case rel => exact ⟨k + 3, O ++ [z], by omega, by go_num, HN.out.1, by rw [List.length_append]; have := HLL.out; simp; omega, HN.out.2, HNX.out⟩
        case measure => simp [intOf]; omega
    have d2 : ((s[k].toNat : Int) == 92) = false := by simp; omega
    by_cases c3 : 32 ≤ s[k].toNat ∧ s[k].toNat ≤ 126
    · have HNX := uh (Pl.quoC HX.out (Pl.quoS s k hlt c1 c2 c3))
      obtain ⟨b, hb⟩ : ∃ b, b = s[k] := ⟨_, rfl⟩
      have hix : s[k] = b := hb.symm
      clear hb
      rw [hix] at HNX d1 d2 c1 c2 c3
      obtain ⟨h1, h2⟩ := c3
      clear c1 c2
      go_wp2_with (refine by_push rfl _ _ rfl w.heap.size (.slice sa O.length sc) O rfl (HO.out.later (blw_alloc (Below.refl _ _) _)) wr.heap.size 1 1 [b] rfl rfl (World.news_of_block (cs := #[.int .u8 (b.toNat : Int)]) (heap_alloc_new wr _)) (by decide) (by have := HLL.out; omega) (by have := HW.out.size; simp; omega) ?_; intro gg1 cc1 w1 q1 q2)
      go_roundw
      case rel => exact ⟨k + 1, O ++ [b], by omega, by go_num, q1, by rw [List.length_append]; have := HLL.out; simp; omega, (HO.out.later (blw_alloc (Below.refl _ _) _)).below (blw_alloc HW.out _) q2 (Nat.le_refl _), HNX.out⟩
      case measure => simp [intOf]; omega
    have HR : Hid (Pl.quoT s.data.toList = ([], 0)) := by show _ = _; rw [Pl.quoT, HX.out, Pl.quoN s k hlt c1 c2 c3]; rfl
    by_cases h1 : 32 ≤ s[k].toNat
    all_goals
      (try have h2 : ¬ s[k].toNat ≤ 126 := fun h => c3 ⟨h1, h⟩)
      clear c1 c2 c3
      go_wp2
      go_ret2
      exact ⟨ret_si (by first | (rw [HR.out]; rfl) | rw [HR.out]) (by first | (rw [HR.out]; rfl) | rw [HR.out]), HW.out⟩

end Go.Proofs.YtkhhhogpkcggjaaDoor
