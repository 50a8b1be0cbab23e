/-
  Sheets: how a word is written: the program.
-/
import Derived.Test.YteemfpocmmainaaDoorEBy
import Derived.Test.YteemfpocmmainaaDoorEPw
import Derived.Test.YteemfpocmmainaaDoorEWb
namespace Go.Proofs.YteemfpocmmainaaDoor
open Go.RowKit Go.Deep

set_option maxHeartbeats 1000000 in
theorem sheetIsPlainI (c : UInt8) (w : World) :
    Calls Tryd.prog 81 #[.int .u8 c.toNat] w fun e w' => e = .returned (.bool (Pl.selfB c)) ∧ w = w' := by
  go_enter Tryd.func81, Tryd.ntmps81
  go_wp2
  all_goals go_ret
  all_goals exact ⟨Pl.ret_bool (by rw [Bool.eq_iff_iff]; simp [Pl.selfB] at *; omega), rfl⟩

set_option maxHeartbeats 1000000 in
theorem sheetIsBareI (c : UInt8) (w : World) :
    Calls Tryd.prog 90 #[.int .u8 c.toNat] w fun e w' => e = .returned (.bool (Pl.bareB c)) ∧ w = w' := by
  have HE : Hid (Pl.bareB c = (Pl.selfB c && (c.toNat != 32) && (c.toNat != 35))) := by
    show _ = _
    rw [Bool.eq_iff_iff]; simp [Pl.bareB, Pl.selfB]; omega
  obtain ⟨B, hB⟩ : ∃ B, B = Pl.selfB c := ⟨_, rfl⟩
  have HC : Hid (Calls Tryd.prog 81 #[.int .u8 c.toNat] w fun e w' => e = .returned (.bool B) ∧ w = w') := by
    rw [hB]; exact sheetIsPlainI c w
  rw [← hB] at HE
  clear hB
  go_enter Tryd.func90, Tryd.ntmps90
  cases B
  all_goals go_wp2_with (go_at_call 81; refine HC.out.mono ?_; rintro e w' ⟨rfl, rfl⟩)
  all_goals go_ret
  all_goals exact ⟨Pl.ret_bool (by rw [HE.out, Bool.eq_iff_iff]; simp at *; try omega), rfl⟩

set_option maxRecDepth 8000 in
set_option maxHeartbeats 4000000 in
theorem bareScanI (s : ByteArray) (w : World) (hs : s.size ≤ 1048576) :
    Calls Tryd.prog 80 #[.agg #[], .string s] w fun e w' => ∃ p, p ≤ s.size ∧ s.data.toList.takeWhile Pl.bareB = s.data.toList.take p ∧ e = .returned (.tuple #[.string (s.extract 0 p), .string (s.extract p s.size), .bool (decide (0 < p))]) ∧ Below w.heap.size w w' := by
  go_enter Tryd.func80, Tryd.ntmps80
  go_wp2
  go_loop [7] (fun i => ∃ k : Nat, k ≤ s.size ∧ i = .int .i64 k ∧ Hid (∀ j (h : j < s.size), j < k → Pl.bareB s[j] = true)) (fun i => s.size - (intOf i).toNat)
  case atStart => exact ⟨0, Nat.zero_le _, rfl, fun j _ h => by omega⟩
  case round =>
    obtain ⟨k, hk, rfl, HA⟩ := hrel
    by_cases hlt : k < s.size
    · obtain ⟨c, hc⟩ : ∃ c, c = Pl.bareB s[k] := ⟨_, rfl⟩
      have HK := uh hc
      have HC : Hid (∀ w, Calls Tryd.prog 90 #[.int .u8 s[k].toNat] w fun e w' => e = .returned (.bool c) ∧ w = w') := by
        rw [hc]; exact fun w => sheetIsBareI _ w
      clear hc
      cases c
      · go_wp2_with (go_at_call 90; refine (HC.out _).mono ?_; rintro e w' ⟨rfl, rfl⟩)
        have HT : Hid (s.data.toList.takeWhile Pl.bareB = s.data.toList.take k) := Pl.tw_stop _ _ (by rw [Pl.len_data]; exact hk) (fun i hi hij => HA.out i (by rw [Pl.len_data] at hi; exact hi) hij) (fun hh => HK.out.symm)
        clear HA HK HC
        go_region
        all_goals go_wp2
        all_goals go_ret3
        all_goals refine ⟨k, hk, HT.out, rfl, ?_⟩
        all_goals repeat (first | exact Below.refl _ _ | refine blw_alloc ?_ _ | refine Below.drew ?_)
      · go_wp2_with (go_at_call 90; refine (HC.out _).mono ?_; rintro e w' ⟨rfl, rfl⟩)
        go_round
        case rel => exact ⟨k + 1, by omega, by go_num, fun j h hj => by rcases Nat.lt_succ_iff_lt_or_eq.1 hj with q | rfl; exact HA.out j h q; exact HK.out.symm⟩
        case measure => simp [intOf]; omega
    · have HT : Hid (s.data.toList.takeWhile Pl.bareB = s.data.toList.take k) := Pl.tw_stop _ _ (by rw [Pl.len_data]; exact hk) (fun i hi hij => HA.out i (by rw [Pl.len_data] at hi; exact hi) hij) (fun hh => absurd (show k < s.size by rw [Pl.len_data] at hh; exact hh) hlt)
      clear HA
      go_wp2
      go_region
      all_goals go_wp2
      all_goals go_ret3
      all_goals refine ⟨k, hk, HT.out, rfl, ?_⟩
      all_goals repeat (first | exact Below.refl _ _ | refine blw_alloc ?_ _ | refine Below.drew ?_)

end Go.Proofs.YteemfpocmmainaaDoor

namespace Go.Proofs.YteemfpocmmainaaDoor
open Go.RowKit Go.Deep

theorem Pl.tw_all : ∀ l : List UInt8, l.all Pl.bareB = true → l.takeWhile Pl.bareB = l
  | [], _ => rfl
  | c :: l, h => by
    rw [List.all_cons, Bool.and_eq_true] at h
    rw [List.takeWhile_cons, if_pos h.1, Pl.tw_all l h.2]
theorem Pl.all_tw : ∀ l : List UInt8, (l.takeWhile Pl.bareB).all Pl.bareB = true
  | [] => rfl
  | c :: l => by
    rw [List.takeWhile_cons]
    split
    · rename_i h; rw [List.all_cons, h, Pl.all_tw l]; rfl
    · rfl
theorem Pl.isEmpty_ext (s : ByteArray) (p : Nat) (hp : p ≤ s.size) : (s.extract p s.size).toList.isEmpty = decide (p = s.size) := by
  rw [Pl.tl, Pl.ext_end, Bool.eq_iff_iff, List.isEmpty_iff, List.drop_eq_nil_iff, Pl.len_data]; simp; omega
theorem Pl.bareL_take (l : List UInt8) (p : Nat) (hp : p ≤ l.length) (h : l.takeWhile Pl.bareB = l.take p) : Pl.bareL l = (decide (0 < l.length) && decide (p = l.length)) := by
  unfold Pl.bareL
  congr 1
  rw [Bool.eq_iff_iff, decide_eq_true_eq]
  constructor
  · intro ha
    rw [Pl.tw_all l ha] at h
    have := congrArg List.length h
    rw [List.length_take] at this; omega
  · intro e
    subst e
    rw [List.take_length] at h
    rw [← h]
    exact Pl.all_tw l

set_option maxRecDepth 8000 in
set_option maxHeartbeats 4000000 in
theorem sheetCanBeBareI (s : ByteArray) (w : World) (hs : s.size ≤ 1048576) :
    Calls Tryd.prog 66 #[.string s] w fun e w' => e = .returned (.bool (Pl.bareL s.data.toList)) ∧ Below w.heap.size w w' := by
  have hl : s.data.toList.length = s.size := Pl.len_data s
  by_cases h1 : 1 ≤ s.size
  · have h0 := Pl.empty_no s h1
    have HC := uh (bareScanI s w hs)
    go_enter Tryd.func66, Tryd.ntmps66
    go_wp2_with (go_at_call 80; refine HC.out.mono ?_; rintro e w' ⟨p, hp, ht, rfl, hb⟩)
    go_ret
    refine ⟨Pl.ret_bool ?_, hb⟩
    rw [Pl.bareL_take _ p (by omega) ht, hl, Pl.isEmpty_ext s p hp, Bool.eq_iff_iff]
    simp; omega
  · have h0 := Pl.empty_yes s h1
    go_enter Tryd.func66, Tryd.ntmps66
    go_wp2
    go_ret
    refine ⟨Pl.ret_bool ?_, Below.refl _ _⟩
    have h2 : s.size = 0 := by omega
    unfold Pl.bareL
    rw [hl, h2]; rfl

theorem and15 : ∀ n : Fin 256, bits BinOp.and IntKind.u8 (n.1 : Int) 15 = ((n.1 % 16 : Nat) : Int) := by decide +kernel
def VIw (va : Value) (q r : Nat) (b : UInt8) : Nat → Value → World → Prop
  | 0, u, _ => u = va
  | 1, u, _ => u = .int .u8 (b.toNat : Int)
  | 2, u, _ => u = .int .u8 (q : Int)
  | 3, u, _ => u = .int .u8 ((Pl.hexd q).toNat : Int)
  | 4, u, _ => u = .int .u8 (b.toNat : Int)
  | 5, u, _ => u = .int .u8 (r : Int)
  | 6, u, _ => u = .int .u8 ((Pl.hexd r).toNat : Int)
  | 7, u, W => ∃ B, u = .slice (some ⟨B, 0, none⟩) 3 3 ∧ W.heap[B]? = some (.cells #[.int .u8 92, .int .u8 ((Pl.hexd q).toNat : Int), .int .u8 ((Pl.hexd r).toNat : Int)] 5 (0, 0))
  | _, _, _ => True
theorem VIw_mono (va : Value) (q r : Nat) (b : UInt8) : ∀ j u W W', Below W.heap.size W W' → VIw va q r b j u W → VIw va q r b j u W' := by
  intro j u W W' hb h
  match j with
  | 0 => exact h
  | 1 => exact h
  | 2 => exact h
  | 3 => exact h
  | 4 => exact h
  | 5 => exact h
  | 6 => exact h
  | 7 =>
    obtain ⟨B, e, hB⟩ := h
    exact ⟨B, e, (hb.block B (Array.getElem?_eq_some_iff.1 hB).1).trans hB⟩
  | n + 8 => exact trivial
set_option maxRecDepth 8000 in
set_option maxHeartbeats 4000000 in
theorem sheetWriteByteI (v : Value) (L : List UInt8) (b : UInt8) (lo : Nat) (w : World) (hO : By w lo v L) (hlo : lo ≤ w.heap.size) (hL : L.length ≤ 4194304) :
    Calls Tryd.prog 67 #[v, .int .u8 b.toNat] w fun e w' => ∃ g cap, e = .returned (.slice (some ⟨g, 0, none⟩) (L ++ Pl.escB b).length cap) ∧ By w' lo (.slice (some ⟨g, 0, none⟩) (L ++ Pl.escB b).length cap) (L ++ Pl.escB b) ∧ ∀ a : World, Below a.heap.size a w → a.heap.size ≤ lo → Below a.heap.size a w' := by
  obtain ⟨sa, sc, hv⟩ := hO.shape
  subst hv
  have HO := uh hO
  clear hO
  have HC := uh (sheetIsPlainI b w)
  cases hsf : Pl.selfB b
  · have HE : Hid (Pl.escB b = [92, Pl.hexd (b.toNat / 16), Pl.hexd (b.toNat % 16)]) := by show _ = _; rw [Pl.escB, hsf]; rfl
    rw [hsf] at HC
    clear hsf
    have hb8 := Pl.u8lt b
    obtain ⟨q, hq⟩ : ∃ q, q = b.toNat / 16 := ⟨_, rfl⟩
    obtain ⟨r, hr⟩ : ∃ r, r = b.toNat % 16 := ⟨_, rfl⟩
    rw [← hq, ← hr] at HE
    have HX1 : Hid (∀ w, _) := fun w => hexRun q (by omega) w
    have HX2 : Hid (∀ w, _) := fun w => hexRun r (by omega) w
    have HQ1 : Hid ((b.toNat : Int) / 16 = (q : Int)) := by show _ = _; omega
    have HR1 : Hid (bits BinOp.and IntKind.u8 (b.toNat : Int) 15 = (r : Int)) := by
      show _ = _
      have := and15 ⟨b.toNat, hb8⟩
      rw [hr]; exact this
    clear hq hr
    go_enter Tryd.func67, Tryd.ntmps67
    go_upto_region 3 with (go_at_call 81; refine HC.out.mono ?_; rintro e w' ⟨rfl, rfl⟩)
    refine RY.region_fin w (Below.refl _ _) (VIw (.slice sa L.length sc) q r b) (VIw_mono _ _ _ _) (fun u W' => ∃ g cap, u = .slice (some ⟨g, 0, none⟩) (L.length + 3) cap ∧ By W' lo u (L ++ [92, Pl.hexd q, Pl.hexd r]) ∧ ∀ a : World, Below a.heap.size a w → a.heap.size ≤ lo → Below a.heap.size a W') 8 12 19 4 (by kernel_rfl) (by kernel_rfl) (by kernel_rfl) (by kernel_rfl) (by kernel_rfl) rfl (by kernel_rfl) _ _ rfl rfl rfl rfl rfl (by kernel_rfl) ?_ ?_ ?_
    · intro i o' ho hin a X hX hk hd
      match i, ho with
      | 0, ho =>
        injection ho with ho; subst ho
        have e0 : a.tmps[0]?.getD undef = .slice sa L.length sc := (RY.ev_tmp a 0).trans ((hk 0 (RY.late_spec (by kernel_rfl))).trans rfl)
        exact ⟨.slice sa L.length sc, X, by simp [execOp, go_sem, e0], Below.refl _ _, rfl⟩
      | 1, ho =>
        injection ho with ho; subst ho
        have e1 : a.tmps[1]?.getD undef = .int .u8 (b.toNat : Int) := (RY.ev_tmp a 1).trans ((hk 1 (RY.late_spec (by kernel_rfl))).trans rfl)
        exact ⟨.int .u8 (b.toNat : Int), X, by simp [execOp, go_sem, e1], Below.refl _ _, rfl⟩
      | 2, ho =>
        injection ho with ho; subst ho
        have e12 : a.tmps[12]?.getD undef = _ := (RY.ev_tmp a 12).trans (hd 1 _ 12 rfl rfl ⟨⟨1, .data⟩, by simp, rfl, rfl⟩ (by decide))
        exact ⟨.int .u8 (q : Int), X, by simp [execOp, go_sem, e12, HQ1.out], Below.refl _ _, rfl⟩
      | 3, ho =>
        injection ho with ho; subst ho
        have e13 : a.tmps[13]?.getD undef = _ := (RY.ev_tmp a 13).trans (hd 2 _ 13 rfl rfl ⟨⟨2, .data⟩, by simp, rfl, rfl⟩ (by decide))
        exact ⟨.int .u8 ((Pl.hexd q).toNat : Int), X, by simp [execOp, go_sem, e13, HX1.out X], Below.refl _ _, rfl⟩
      | 4, ho =>
        injection ho with ho; subst ho
        have e1 : a.tmps[1]?.getD undef = .int .u8 (b.toNat : Int) := (RY.ev_tmp a 1).trans ((hk 1 (RY.late_spec (by kernel_rfl))).trans rfl)
        exact ⟨.int .u8 (b.toNat : Int), X, by simp [execOp, go_sem, e1], Below.refl _ _, rfl⟩
      | 5, ho =>
        injection ho with ho; subst ho
        have e15 : a.tmps[15]?.getD undef = _ := (RY.ev_tmp a 15).trans (hd 4 _ 15 rfl rfl ⟨⟨4, .data⟩, by simp, rfl, rfl⟩ (by decide))
        exact ⟨.int .u8 (r : Int), X, by simp [execOp, go_sem, e15, HR1.out], Below.refl _ _, rfl⟩
      | 6, ho =>
        injection ho with ho; subst ho
        have e16 : a.tmps[16]?.getD undef = _ := (RY.ev_tmp a 16).trans (hd 5 _ 16 rfl rfl ⟨⟨5, .data⟩, by simp, rfl, rfl⟩ (by decide))
        exact ⟨.int .u8 ((Pl.hexd r).toNat : Int), X, by simp [execOp, go_sem, e16, HX2.out X], Below.refl _ _, rfl⟩
      | 7, ho =>
        injection ho with ho; subst ho
        have e14 := (RY.ev_tmp a 14).trans (hd 3 _ 14 rfl rfl ⟨⟨3, .data⟩, by simp, rfl, rfl⟩ (by decide))
        have e17 := (RY.ev_tmp a 17).trans (hd 6 _ 17 rfl rfl ⟨⟨6, .data⟩, by simp, rfl, rfl⟩ (by decide))
        exact ⟨.slice (some ⟨X.heap.size, 0, none⟩) 3 3, X.alloc (.cells #[.int .u8 92, .int .u8 ((Pl.hexd q).toNat : Int), .int .u8 ((Pl.hexd r).toNat : Int)] 5), by simp [execOp, go_sem, e14, e17], blw_alloc (Below.refl _ _) _, X.heap.size, rfl, heap_alloc_new X _⟩
      | n + 8, ho => omega
    · intro a X hX hk hd
      have e11 := hd 0 _ 11 rfl rfl ⟨⟨0, .data⟩, by simp, rfl, rfl⟩ (by decide)
      obtain ⟨B, e18, hB⟩ := hd 7 _ 18 rfl rfl ⟨⟨7, .data⟩, by simp, rfl, rfl⟩ (by decide)
      have hOX := HO.out.later hX
      obtain ⟨g, cap, X', hr, hb1, hb2⟩ := by_run hOX 35 B 3 3 [92, Pl.hexd q, Pl.hexd r] rfl _ rfl hB (by decide) (by omega) (Nat.le_trans hlo hX.size)
      exact ⟨_, X', uexec_append (.tmp 11) (.tmp 18) 35 rfl e11 e18 hr, g, cap, rfl, hb1, fun a ha hla => hOX.below (blw_trans ha hX) hb2 hla⟩
    · rintro vals X hK e2
      simp only [RY.putAll, Act.put, List.setIfInBounds_toArray, List.set_cons_zero, List.set_cons_succ]
      rw [e2]
      generalize vals 11 = s11
      generalize vals 12 = s12
      generalize vals 13 = s13
      generalize vals 14 = s14
      generalize vals 15 = s15
      generalize vals 16 = s16
      generalize vals 17 = s17
      generalize vals 18 = s18
      obtain ⟨g, cap, e1, hg, hb⟩ := hK
      rw [e1] at hg ⊢
      have HN := uh (And.intro hg hb)
      clear hg hb e1 e2 HO
      go_wp2
      go_ret
      rw [HE.out]
      exact ⟨g, cap, by simp, by simpa using HN.out.1, HN.out.2⟩
  · have HE : Hid (Pl.escB b = [b]) := by show _ = _; rw [Pl.escB, hsf]; rfl
    rw [hsf] at HC
    clear hsf
    go_enter Tryd.func67, Tryd.ntmps67
    go_wp2_with (first | (go_at_call 81; refine HC.out.mono ?_; rintro e w' ⟨rfl, rfl⟩) | (refine by_push rfl _ _ rfl lo (.slice sa L.length sc) L rfl (HO.out.later (blw_alloc (Below.refl _ _) _)) w.heap.size 1 1 [b] rfl rfl (World.news_of_block (cs := #[.int .u8 (b.toNat : Int)]) (heap_alloc_new w _)) (by decide) (by omega) (by simp; omega) ?_; intro g1 c1 w1 q1 q2))
    go_ret
    rw [HE.out]
    exact ⟨g1, c1, by simp, by simpa using q1, fun a ha hla => (HO.out.later (blw_alloc (Below.refl _ _) _)).below (blw_alloc ha _) q2 hla⟩

set_option maxRecDepth 8000 in
set_option maxHeartbeats 4000000 in
theorem sheetWordI (s : ByteArray) (w : World) (hs : s.size ≤ 1048576) :
    Calls Tryd.prog 53 #[.string s] w fun e w' => e = .returned (.string (Pl.wordOut s)) ∧ Below w.heap.size w w' := by
  have hl : s.data.toList.length = s.size := Pl.len_data s
  have HL := uh hl
  clear hl
  have HC := uh (sheetCanBeBareI s w hs)
  cases hbl : Pl.bareL s.data.toList
  rotate_left
  · rw [hbl] at HC
    have HW : Hid (s = Pl.wordOut s) := by show _ = _; rw [Pl.wordOut, Pl.wordL, if_pos hbl, Pl.back]
    clear hbl
    go_enter Tryd.func53, Tryd.ntmps53
    go_wp2_with (go_at_call 66; refine HC.out.mono ?_; rintro e w' ⟨rfl, hb⟩)
    go_ret
    exact ⟨Pl.ret_str HW.out, hb⟩
  rw [hbl] at HC
  have HE := uh hbl
  clear hbl
  go_enter Tryd.func53, Tryd.ntmps53
  go_wp2_with (go_at_call 66; refine HC.out.mono ?_; rintro e w1 ⟨rfl, hb⟩)
  go_loopw [3, 11] (fun v i wr => ∃ k : Nat, k ≤ s.size ∧ i = .int .i64 k ∧ By wr w.heap.size v (34 :: (s.data.toList.take k).flatMap Pl.escB) ∧ Below w.heap.size w wr) (fun _ i _ => s.size - (intOf i).toNat)
  case atStart => exact ⟨0, Nat.zero_le _, rfl, By.made w1 w.heap.size 34 hb.size, blw_alloc hb _⟩
  case round =>
    obtain ⟨k, hk, rfl, hO, hW⟩ := hrel
    have hle : ((s.data.toList.take k).flatMap Pl.escB).length ≤ 3 * k := by
      have := Pl.esc_len (s.data.toList.take k)
      rw [List.length_take] at this; omega
    by_cases hlt : k < s.size
    · have HS : Hid (34 :: (s.data.toList.take (k + 1)).flatMap Pl.escB = (34 :: (s.data.toList.take k).flatMap Pl.escB) ++ Pl.escB s[k]) := by
        show _ = _
        rw [Pl.take_snoc s k hlt]; simp
      obtain ⟨L, hL⟩ : ∃ L, L = 34 :: (s.data.toList.take k).flatMap Pl.escB := ⟨_, rfl⟩
      have hll : L.length ≤ 3 * k + 1 := by rw [hL, List.length_cons]; omega
      rw [← hL] at HS hO
      have HB := uh (sheetWriteByteI _ L s[k] w.heap.size wr hO hW.size (by omega))
      clear hL hle hll HL HE HC hb
      have HW := uh hW
      obtain ⟨sa, sc, hv⟩ := hO.shape
      subst hv
      clear hO hW
      go_wp2_with (go_at_call 67; refine HB.out.mono ?_; rintro e w2 ⟨g, cap, rfl, h1, h2⟩)
      go_roundw
      case rel => exact ⟨k + 1, by omega, by go_num, by rw [HS.out]; rw [List.length_append] at h1; exact h1, h2 w HW.out (Nat.le_refl _)⟩
      case measure => simp [intOf]; omega
    · obtain rfl : k = s.size := by omega
      have hte : s.data.toList.take s.size = s.data.toList := List.take_of_length_le (by rw [HL.out]; exact Nat.le_refl _)
      rw [hte] at hO hle
      obtain ⟨L, hL⟩ : ∃ L, L = 34 :: s.data.toList.flatMap Pl.escB := ⟨_, rfl⟩
      have HW2 : Hid ((⟨(L ++ [34]).toArray⟩ : ByteArray) = Pl.wordOut s) := by
        show _ = _
        rw [Pl.wordOut, Pl.wordL, if_neg (by rw [HE.out]; decide), hL]; rfl
      have hll : L.length ≤ 3 * s.size + 1 := by rw [hL, List.length_cons]; omega
      rw [← hL] at hO
      clear hL hle hte
      have HLL := uh hll
      have HO := uh hO
      have HW := uh hW
      obtain ⟨sa, sc, hv⟩ := hO.shape
      subst hv
      clear hO hW hll hlt HL HE HC hb
      go_wp2_with (refine by_push rfl _ _ rfl w.heap.size (.slice sa L.length sc) L rfl (HO.out.later (blw_alloc (Below.refl _ _) _)) wr.heap.size 1 1 [34] rfl rfl (World.news_of_block (cs := #[.int .u8 34]) (heap_alloc_new wr _)) (by decide) (by have := HLL.out; omega) (by have := HW.out.size; simp; omega) ?_; intro g1 c1 w2 q1 q2; have hcv := q1.str (by simp); have HQ := uh (And.intro q1 q2); clear q1 q2)
      go_ret
      exact ⟨Pl.ret_str HW2.out, (HO.out.later (blw_alloc (Below.refl _ _) _)).below (blw_alloc HW.out _) HQ.out.2 (Nat.le_refl _)⟩

end Go.Proofs.YteemfpocmmainaaDoor
