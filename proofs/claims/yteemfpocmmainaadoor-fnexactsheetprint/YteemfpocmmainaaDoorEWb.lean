/-
  Sheets: how a word is written: the specification.
-/
import Derived.Test.YteemfpocmmainaaDoorEBy
namespace Go.Proofs.YteemfpocmmainaaDoor
open Go.RowKit Go.Deep

theorem wrap_byte (z : Int) (h0 : 0 ≤ z) (h1 : z ≤ 255) : IntKind.u8.wrap z = z := by
  simp [IntKind.wrap, IntKind.bits, IntKind.signed]; omega
def VEw (va : Value) (dx s : ByteArray) (k q r : Nat) (b : UInt8) : Nat → Value → World → Prop
  | 0, u, _ => u = va
  | 1, u, _ => u = .string dx
  | 2, u, _ => u = .string s
  | 3, u, _ => u = .int .i64 (k : Int)
  | 4, u, _ => u = .int .u8 (b.toNat : Int)
  | 5, u, _ => u = .int .u8 (q : Int)
  | 6, u, _ => u = .int .u8 ((Pl.hexd q).toNat : Int)
  | 7, u, _ => u = .string dx
  | 8, u, _ => u = .string s
  | 9, u, _ => u = .int .i64 (k : Int)
  | 10, u, _ => u = .int .u8 (b.toNat : Int)
  | 11, u, _ => u = .int .u8 (r : Int)
  | 12, u, _ => u = .int .u8 ((Pl.hexd r).toNat : Int)
  | 13, u, W => ∃ B, u = .slice (some ⟨B, 0, none⟩) 3 3 ∧ W.heap[B]? = some (.cells #[.int .u8 92, .int .u8 ((Pl.hexd q).toNat : Int), .int .u8 ((Pl.hexd r).toNat : Int)] 5 (0, 0))
  | _, _, _ => True
theorem VEw_mono (va : Value) (dx s : ByteArray) (k q r : Nat) (b : UInt8) : ∀ j u W W', Below W.heap.size W W' → VEw va dx s k q r b j u W → VEw va dx s k q r b j u W' := by
  intro j u W W' hb h
  match j with
  | 0 => exact h
  | 1 => exact h
  | 2 => exact h
  | 3 => exact h
  | 4 => exact h
  | 5 => exact h
  | 6 => exact h
  | 7 => exact h
  | 8 => exact h
  | 9 => exact h
  | 10 => exact h
  | 11 => exact h
  | 12 => exact h
  | 13 =>
    obtain ⟨B, e, hB⟩ := h
    exact ⟨B, e, (hb.block B (Array.getElem?_eq_some_iff.1 hB).1).trans hB⟩
  | n + 14 => exact trivial
set_option maxRecDepth 8000 in
set_option maxHeartbeats 4000000 in
theorem sheetWordS (s : ByteArray) (w : World) (hs : s.size ≤ 1048576) :
    Calls Tryd.prog 23 #[.string s] w fun e w' => e = .returned (.string (Pl.wordOut s)) ∧ Below w.heap.size w w' := by
  have hl : s.data.toList.length = s.size := Pl.len_data s
  have HL := uh hl
  clear hl
  go_enter Tryd.func23, Tryd.ntmps23
  go_wp2
  go_loop [3, 4] (fun b i => ∃ k : Nat, k ≤ s.size ∧ i = .int .i64 k ∧ b = .bool (decide ((0 : Int) < (s.size : Int)) && (s.data.toList.take k).all Pl.bareB)) (fun _ i => s.size - (intOf i).toNat)
  case atStart => exact ⟨0, Nat.zero_le _, rfl, by simp⟩
  case round =>
    obtain ⟨k, hk, rfl, rfl⟩ := hrel
    obtain ⟨B, hB⟩ : ∃ B, B = (decide ((0 : Int) < (s.size : Int)) && (s.data.toList.take k).all Pl.bareB) := ⟨_, rfl⟩
    rw [← hB]
    have HB := uh hB
    clear hB
    by_cases hlt : k < s.size
    · have HS : Hid ((decide ((0 : Int) < (s.size : Int)) && (s.data.toList.take (k + 1)).all Pl.bareB) = (B && Pl.bareB s[k])) := by
        show _ = _
        rw [Pl.all_snoc _ _ _ hlt, HB.out, Bool.and_assoc]
      clear HB
      obtain ⟨c, hc⟩ : ∃ c, c = Pl.bareB s[k] := ⟨_, rfl⟩
      rw [← hc] at HS
      have HC : Hid (∀ w, Calls Tryd.prog 41 #[.int .u8 s[k].toNat] w fun e w' => e = .returned (.bool c) ∧ w = w') := by
        rw [hc]; exact fun w => l37Bare_any _ w
      clear hc
      cases B
      · go_wp2
        go_round
        case rel => exact ⟨k + 1, by omega, by go_num, by rw [HS.out]; rfl⟩
        case measure => simp [intOf]; omega
      · go_wp2_with (go_at_call 41; refine (HC.out _).mono ?_; rintro e w' ⟨rfl, rfl⟩)
        go_round
        case rel => exact ⟨k + 1, by omega, by go_num, by rw [HS.out]; simp⟩
        case measure => simp [intOf]; omega
    · obtain rfl : k = s.size := by omega
      have HE : Hid (Pl.bareL s.data.toList = B) := by
        show _ = _
        rw [HB.out, Pl.bareL, Pl.all_whole _ _ _ (Nat.le_refl _), HL.out]
        congr 1
        rw [Bool.eq_iff_iff]; simp
      clear HB hlt hk
      cases B
      rotate_left
      · have HW : Hid (s = Pl.wordOut s) := by show _ = _; rw [Pl.wordOut, Pl.wordL, if_pos HE.out, Pl.back]
        go_wp2
        go_ret
        exact ⟨Pl.ret_str HW.out, Below.refl _ _⟩
      go_wp2
      go_loopw [5, 7] (fun v i wr => ∃ k : Nat, k ≤ s.size ∧ i = .int .i64 k ∧ By wr w.heap.size v (34 :: (s.data.toList.take k).flatMap Pl.escB) ∧ Below w.heap.size w wr) (fun _ i _ => s.size - (intOf i).toNat)
      case atStart => exact ⟨0, Nat.zero_le _, rfl, By.made w w.heap.size 34 (Nat.le_refl _), blw_alloc (Below.refl _ _) _⟩
      case round =>
        rename_i v _ _
        obtain ⟨k, hk, rfl, hO, hW⟩ := hrel
        have hle : ((s.data.toList.take k).flatMap Pl.escB).length ≤ 3 * k := by
          have := Pl.esc_len (s.data.toList.take k)
          rw [List.length_take] at this; omega
        by_cases hlt : k < s.size
        · have HS : Hid (34 :: (s.data.toList.take (k + 1)).flatMap Pl.escB = (34 :: (s.data.toList.take k).flatMap Pl.escB) ++ Pl.escB s[k]) := by
            show _ = _
            rw [Pl.take_snoc s k hlt]; simp
          obtain ⟨L, hL⟩ : ∃ L, L = 34 :: (s.data.toList.take k).flatMap Pl.escB := ⟨_, rfl⟩
          have hll : L.length ≤ 3 * k + 1 := by rw [hL, List.length_cons]; omega
          rw [← hL] at HS hO
          clear hL hle
          have HLL := uh hll
          have HO := uh hO
          have HW := uh hW
          obtain ⟨sa, sc, hv⟩ := hO.shape
          subst hv
          clear hO hW hll
          obtain ⟨b, hb⟩ : ∃ b, b = s[k] := ⟨_, rfl⟩
          have hb8 := Pl.u8lt b
          have hix : s[k] = b := hb.symm
          clear hb
          rw [hix] at HS
          cases hsf : Pl.selfB b
          · have HE : Hid (Pl.escB b = [92, Pl.hexd (b.toNat / 16), Pl.hexd (b.toNat % 16)]) := by show _ = _; rw [Pl.escB, hsf]; rfl
            obtain ⟨q, hq⟩ : ∃ q, q = b.toNat / 16 := ⟨_, rfl⟩
            obtain ⟨r, hr⟩ : ∃ r, r = b.toNat % 16 := ⟨_, rfl⟩
            rw [← hq, ← hr] at HE
            have hq1 : IntKind.u8.wrap ((b.toNat : Int) / 16) = (q : Int) := by rw [wrap_byte _ (by omega) (by omega)]; omega
            have hr1 : (b.toNat : Int).tmod 16 = (r : Int) := by rw [Int.tmod_eq_emod_of_nonneg (by omega)]; omega
            have hq2 : q < 16 := by omega
            have hr2 : r < 16 := by omega
            have HQ := uh hq2
            have HR := uh hr2
            have HX1 : Hid (∀ w, _) := fun w => hexRun q hq2 w
            have HX2 : Hid (∀ w, _) := fun w => hexRun r hr2 w
            have HQ1 := uh hq1
            have HR1 := uh hr1
            have HIX := uh hix
            clear hq hr hq2 hr2 hq1 hr1
            have hcs : (¬ (32 : Int) ≤ (b.toNat : Int)) ∨ ((32 : Int) ≤ (b.toNat : Int) ∧ ¬ (b.toNat : Int) ≤ 126) ∨ ((32 : Int) ≤ (b.toNat : Int) ∧ (b.toNat : Int) ≤ 126 ∧ ((b.toNat : Int) != 34) = false) ∨ ((32 : Int) ≤ (b.toNat : Int) ∧ (b.toNat : Int) ≤ 126 ∧ ((b.toNat : Int) != 34) = true ∧ ((b.toNat : Int) != 92) = false) := by
              simp [Pl.selfB] at hsf; simp; omega
            clear hsf
            rcases hcs with h1 | ⟨h1, h2⟩ | ⟨h1, h2, h3⟩ | ⟨h1, h2, h3, h4⟩
            all_goals
              go_upto_region 15 with fail
              refine RY.region_fin wr (Below.refl _ _) (VEw (.slice sa L.length sc) ⟨#[48, 49, 50, 51, 52, 53, 54, 55, 56, 57, 97, 98, 99, 100, 101, 102]⟩ s k q r b) (VEw_mono _ _ _ _ _ _ _) (fun u W' => ∃ g cap, u = .slice (some ⟨g, 0, none⟩) (L.length + 3) cap ∧ By W' w.heap.size u (L ++ [92, Pl.hexd q, Pl.hexd r]) ∧ Below w.heap.size w W') 14 12 75 5 (by kernel_rfl) (by kernel_rfl) (by kernel_rfl) (by kernel_rfl) (by kernel_rfl) rfl (by kernel_rfl) _ _ rfl rfl rfl rfl rfl (by kernel_rfl) ?_ ?_ ?_
              · intro i o' ho hin a X hX hk hd
                match i, ho with
                | 0, ho =>
                  injection ho with ho; subst ho
                  have e5 : a.tmps[5]?.getD undef = .slice sa L.length sc := (RY.ev_tmp a 5).trans ((hk 5 (RY.late_spec (by kernel_rfl))).trans rfl)
                  exact ⟨.slice sa L.length sc, X, by simp [execOp, go_sem, e5], Below.refl _ _, rfl⟩
                | 1, ho =>
                  injection ho with ho; subst ho
                  have e6 : a.tmps[6]?.getD undef = .string ⟨#[48, 49, 50, 51, 52, 53, 54, 55, 56, 57, 97, 98, 99, 100, 101, 102]⟩ := (RY.ev_tmp a 6).trans ((hk 6 (RY.late_spec (by kernel_rfl))).trans rfl)
                  exact ⟨.string ⟨#[48, 49, 50, 51, 52, 53, 54, 55, 56, 57, 97, 98, 99, 100, 101, 102]⟩, X, by simp [execOp, go_sem, e6], Below.refl _ _, rfl⟩
                | 2, ho =>
                  injection ho with ho; subst ho
                  have e0 : a.tmps[0]?.getD undef = .string s := (RY.ev_tmp a 0).trans ((hk 0 (RY.late_spec (by kernel_rfl))).trans rfl)
                  exact ⟨.string s, X, by simp [execOp, go_sem, e0], Below.refl _ _, rfl⟩
                | 3, ho =>
                  injection ho with ho; subst ho
                  have e7 : a.tmps[7]?.getD undef = .int .i64 (k : Int) := (RY.ev_tmp a 7).trans ((hk 7 (RY.late_spec (by kernel_rfl))).trans rfl)
                  exact ⟨.int .i64 (k : Int), X, by simp [execOp, go_sem, e7], Below.refl _ _, rfl⟩
                | 4, ho =>
                  injection ho with ho; subst ho
                  have e63 : a.tmps[63]?.getD undef = _ := (RY.ev_tmp a 63).trans (hd 2 _ 63 rfl rfl ⟨⟨2, .data⟩, by simp, rfl, rfl⟩ (by decide))
                  have e64 : a.tmps[64]?.getD undef = _ := (RY.ev_tmp a 64).trans (hd 3 _ 64 rfl rfl ⟨⟨3, .data⟩, by simp, rfl, rfl⟩ (by decide))
                  exact ⟨.int .u8 (b.toNat : Int), X, by simp [execOp, go_sem, e63, e64, hlt, HIX.out], Below.refl _ _, rfl⟩
                | 5, ho =>
                  injection ho with ho; subst ho
                  have e65 : a.tmps[65]?.getD undef = _ := (RY.ev_tmp a 65).trans (hd 4 _ 65 rfl rfl ⟨⟨4, .data⟩, by simp, rfl, rfl⟩ (by decide))
                  exact ⟨.int .u8 (q : Int), X, by simp [execOp, go_sem, e65, HQ1.out], Below.refl _ _, rfl⟩
                | 6, ho =>
                  injection ho with ho; subst ho
                  have e62 : a.tmps[62]?.getD undef = _ := (RY.ev_tmp a 62).trans (hd 1 _ 62 rfl rfl ⟨⟨1, .data⟩, by simp, rfl, rfl⟩ (by decide))
                  have e66 : a.tmps[66]?.getD undef = _ := (RY.ev_tmp a 66).trans (hd 5 _ 66 rfl rfl ⟨⟨5, .data⟩, by simp, rfl, rfl⟩ (by decide))
                  exact ⟨.int .u8 ((Pl.hexd q).toNat : Int), X, by simp [execOp, go_sem, e62, e66, HX1.out X], Below.refl _ _, rfl⟩
                | 7, ho =>
                  injection ho with ho; subst ho
                  have e6 : a.tmps[6]?.getD undef = .string ⟨#[48, 49, 50, 51, 52, 53, 54, 55, 56, 57, 97, 98, 99, 100, 101, 102]⟩ := (RY.ev_tmp a 6).trans ((hk 6 (RY.late_spec (by kernel_rfl))).trans rfl)
                  exact ⟨.string ⟨#[48, 49, 50, 51, 52, 53, 54, 55, 56, 57, 97, 98, 99, 100, 101, 102]⟩, X, by simp [execOp, go_sem, e6], Below.refl _ _, rfl⟩
                | 8, ho =>
                  injection ho with ho; subst ho
                  have e0 : a.tmps[0]?.getD undef = .string s := (RY.ev_tmp a 0).trans ((hk 0 (RY.late_spec (by kernel_rfl))).trans rfl)
                  exact ⟨.string s, X, by simp [execOp, go_sem, e0], Below.refl _ _, rfl⟩
                | 9, ho =>
                  injection ho with ho; subst ho
                  have e7 : a.tmps[7]?.getD undef = .int .i64 (k : Int) := (RY.ev_tmp a 7).trans ((hk 7 (RY.late_spec (by kernel_rfl))).trans rfl)
                  exact ⟨.int .i64 (k : Int), X, by simp [execOp, go_sem, e7], Below.refl _ _, rfl⟩
                | 10, ho =>
                  injection ho with ho; subst ho
                  have e69 : a.tmps[69]?.getD undef = _ := (RY.ev_tmp a 69).trans (hd 8 _ 69 rfl rfl ⟨⟨8, .data⟩, by simp, rfl, rfl⟩ (by decide))
                  have e70 : a.tmps[70]?.getD undef = _ := (RY.ev_tmp a 70).trans (hd 9 _ 70 rfl rfl ⟨⟨9, .data⟩, by simp, rfl, rfl⟩ (by decide))
                  exact ⟨.int .u8 (b.toNat : Int), X, by simp [execOp, go_sem, e69, e70, hlt, HIX.out], Below.refl _ _, rfl⟩
                | 11, ho =>
                  injection ho with ho; subst ho
                  have e71 : a.tmps[71]?.getD undef = _ := (RY.ev_tmp a 71).trans (hd 10 _ 71 rfl rfl ⟨⟨10, .data⟩, by simp, rfl, rfl⟩ (by decide))
                  exact ⟨.int .u8 (r : Int), X, by simp [execOp, go_sem, e71, HR1.out], Below.refl _ _, rfl⟩
                | 12, ho =>
                  injection ho with ho; subst ho
                  have e68 : a.tmps[68]?.getD undef = _ := (RY.ev_tmp a 68).trans (hd 7 _ 68 rfl rfl ⟨⟨7, .data⟩, by simp, rfl, rfl⟩ (by decide))
                  have e72 : a.tmps[72]?.getD undef = _ := (RY.ev_tmp a 72).trans (hd 11 _ 72 rfl rfl ⟨⟨11, .data⟩, by simp, rfl, rfl⟩ (by decide))
                  exact ⟨.int .u8 ((Pl.hexd r).toNat : Int), X, by simp [execOp, go_sem, e68, e72, HX2.out X], Below.refl _ _, rfl⟩
                | 13, ho =>
                  injection ho with ho; subst ho
                  have e67 := (RY.ev_tmp a 67).trans (hd 6 _ 67 rfl rfl ⟨⟨6, .data⟩, by simp, rfl, rfl⟩ (by decide))
                  have e73 := (RY.ev_tmp a 73).trans (hd 12 _ 73 rfl rfl ⟨⟨12, .data⟩, by simp, rfl, rfl⟩ (by decide))
                  exact ⟨.slice (some ⟨X.heap.size, 0, none⟩) 3 3, X.alloc (.cells #[.int .u8 92, .int .u8 ((Pl.hexd q).toNat : Int), .int .u8 ((Pl.hexd r).toNat : Int)] 5), by simp [execOp, go_sem, e67, e73], blw_alloc (Below.refl _ _) _, X.heap.size, rfl, heap_alloc_new X _⟩
                | n + 14, ho => omega
              · intro a X hX hk hd
                have e61 := hd 0 _ 61 rfl rfl ⟨⟨0, .data⟩, by simp, rfl, rfl⟩ (by decide)
                obtain ⟨B, e74, hB⟩ := hd 13 _ 74 rfl rfl ⟨⟨13, .data⟩, by simp, rfl, rfl⟩ (by decide)
                have hOX := HO.out.later hX
                obtain ⟨g, cap, X', hr, hb1, hb2⟩ := by_run hOX 35 B 3 3 [92, Pl.hexd q, Pl.hexd r] rfl _ rfl hB (by decide) (by have := HLL.out; omega) (Nat.le_trans HW.out.size hX.size)
                exact ⟨_, X', uexec_append (.tmp 61) (.tmp 74) 35 rfl e61 e74 hr, g, cap, rfl, hb1, hOX.below (blw_trans HW.out hX) hb2 (Nat.le_refl _)⟩
              · rintro vals X hK e2
                simp only [RY.putAll, Act.put, List.setIfInBounds_toArray, List.set_cons_zero, List.set_cons_succ]
                rw [e2]
                generalize vals 61 = s61
                generalize vals 62 = s62
                generalize vals 63 = s63
                generalize vals 64 = s64
                generalize vals 65 = s65
                generalize vals 66 = s66
                generalize vals 67 = s67
                generalize vals 68 = s68
                generalize vals 69 = s69
                generalize vals 70 = s70
                generalize vals 71 = s71
                generalize vals 72 = s72
                generalize vals 73 = s73
                generalize vals 74 = s74
                obtain ⟨g, cap, e1, hg, hb⟩ := hK
                rw [e1] at hg ⊢
                have HN := uh (And.intro hg hb)
                clear hg hb e1 e2 HO HW
                go_wp2
                go_roundw
                case rel => exact ⟨k + 1, by omega, by go_num, by rw [HS.out, HE.out]; exact HN.out.1, HN.out.2⟩
                case measure => simp [intOf]; omega
          · have HE : Hid (Pl.escB b = [b]) := by show _ = _; rw [Pl.escB, hsf]; rfl
            have h1 : (32 : Int) ≤ (b.toNat : Int) := by simp [Pl.selfB] at hsf; omega
            have h2 : (b.toNat : Int) ≤ 126 := by simp [Pl.selfB] at hsf; omega
            have h3 : ((b.toNat : Int) != 34) = true := by simp [Pl.selfB] at hsf; simp; omega
            have h4 : ((b.toNat : Int) != 92) = true := by simp [Pl.selfB] at hsf; simp; omega
            go_wp2_with (refine by_push rfl _ _ rfl w.heap.size (.slice sa L.length sc) L rfl (HO.out.later (blw_alloc (Below.refl _ _) _)) wr.heap.size 1 1 [b] rfl rfl (World.news_of_block (cs := #[.int .u8 (b.toNat : Int)]) (heap_alloc_new wr _)) (by decide) (by have := HLL.out; omega) (by have := HW.out.size; simp; omega) ?_; intro g1 c1 w1 q1 q2)
            go_roundw
            case rel => exact ⟨k + 1, by omega, by go_num, by rw [HS.out, HE.out]; exact q1, (HO.out.later (blw_alloc (Below.refl _ _) _)).below (blw_alloc HW.out _) q2 (Nat.le_refl _)⟩
            case measure => simp [intOf]; omega
        · obtain rfl : k = s.size := by omega
          have hte : s.data.toList.take s.size = s.data.toList := List.take_of_length_le (by rw [HL.out]; exact Nat.le_refl _)
          rw [hte] at hO hle
          obtain ⟨L, hL⟩ : ∃ L, L = 34 :: s.data.toList.flatMap Pl.escB := ⟨_, rfl⟩
          have HW2 : Hid ((⟨(L ++ [34]).toArray⟩ : ByteArray) = Pl.wordOut s) := by
            show _ = _
            rw [Pl.wordOut, Pl.wordL, if_neg (by rw [HE.out]; decide), hL]; rfl
          have hll : L.length ≤ 3 * s.size + 1 := by rw [hL, List.length_cons]; omega
          rw [← hL] at hO
          clear hL hle hte
          have HLL := uh hll
          have HO := uh hO
          have HW := uh hW
          obtain ⟨sa, sc, hv⟩ := hO.shape
          subst hv
          clear hO hW hll hlt
          go_wp2_with (refine by_push rfl _ _ rfl w.heap.size (.slice sa L.length sc) L rfl (HO.out.later (blw_alloc (Below.refl _ _) _)) wr.heap.size 1 1 [34] rfl rfl (World.news_of_block (cs := #[.int .u8 34]) (heap_alloc_new wr _)) (by decide) (by have := HLL.out; omega) (by have := HW.out.size; simp; omega) ?_; intro g1 c1 w1 q1 q2; have hcv := q1.str (by simp); have HQ := uh (And.intro q1 q2); clear q1 q2)
          go_ret
          exact ⟨Pl.ret_str HW2.out, (HO.out.later (blw_alloc (Below.refl _ _) _)).below (blw_alloc HW.out _) HQ.out.2 (Nat.le_refl _)⟩

end Go.Proofs.YteemfpocmmainaaDoor
