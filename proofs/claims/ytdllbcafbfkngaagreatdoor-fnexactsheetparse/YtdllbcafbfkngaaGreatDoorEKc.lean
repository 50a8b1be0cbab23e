/-
  Sheets: a text cut into lines: plain, and by the specification.
-/
import Derived.Test.YtdllbcafbfkngaaGreatDoorERo
import Derived.Test.YtdllbcafbfkngaaGreatDoorESd
namespace Go.Proofs.YtdllbcafbfkngaaGreatDoor
open Go.RowKit Go.Deep

namespace Pl
def linA (acc : List UInt8) : List UInt8 → List (List UInt8)
  | [] => if acc.isEmpty then [] else [acc]
  | c :: l => if c.toNat = 10 then acc :: linA [] l else linA (acc ++ [c]) l
def linL (s : ByteArray) : List ByteArray := (linA [] s.data.toList).map fun x => ⟨x.toArray⟩
/-- The rest of a text that is cut, from k on, the last cut having been at f. -/
def linR (s : ByteArray) (f k : Nat) : List ByteArray := (linA ((s.data.toList.drop f).take (k - f)) (s.data.toList.drop k)).map fun x => ⟨x.toArray⟩
theorem linR_start (s : ByteArray) : linR s 0 0 = linL s := by simp [linR, linL]
theorem linR_cut (s : ByteArray) (f k : Nat) (h : k < s.size) (hc : s[k].toNat = 10) : linR s f k = s.extract f k :: linR s (k + 1) (k + 1) := by
  rw [linR, drop_at s k h, linA, if_pos hc, List.map_cons, ← ext_list, back, linR]
  simp
theorem linR_on (s : ByteArray) (f k : Nat) (hf : f ≤ k) (h : k < s.size) (hc : s[k].toNat ≠ 10) : linR s f k = linR s f (k + 1) := by
  rw [linR, drop_at s k h, linA, if_neg hc, linR]
  congr 2
  have e : k + 1 - f = (k - f) + 1 := by omega
  have hl : k - f < (s.data.toList.drop f).length := by rw [drop_len]; omega
  rw [e, List.take_succ_eq_append_getElem hl]
  congr 2
  rw [List.getElem_drop]
  have : f + (k - f) = k := by omega
  simp only [this]; rfl
theorem linR_end (s : ByteArray) (f : Nat) (hf : f < s.size) : linR s f s.size = [s.extract f s.size] := by
  have e : s.data.toList.drop s.size = [] := List.drop_of_length_le (by rw [len_data]; exact Nat.le_refl _)
  have hne : ((s.data.toList.drop f).take (s.size - f)).isEmpty = false := by
    rw [List.isEmpty_eq_false_iff, ← List.length_pos_iff, List.length_take, drop_len]
    omega
  rw [linR, e, linA, hne]
  show List.map _ [_] = _
  rw [List.map_cons, List.map_nil, ← ext_list, back]
theorem linR_none (s : ByteArray) (f : Nat) (hf : s.size ≤ f) : linR s f s.size = [] := by
  have e : s.data.toList.drop s.size = [] := List.drop_of_length_le (by rw [len_data]; exact Nat.le_refl _)
  have e2 : s.data.toList.drop f = [] := List.drop_of_length_le (by rw [len_data]; exact hf)
  rw [linR, e, e2, linA]
  simp
end Pl

set_option maxRecDepth 8000 in
set_option maxHeartbeats 8000000 in
theorem l39CutS (s : ByteArray) (w : World) (hs : s.size ≤ 1048576) :
    Calls Tryz.prog 10 #[.string s] w (AnsL shTxs (.row (Pl.linL s).length (txD (Pl.linL s))) w) := by
  go_enter Tryz.func10, Tryz.ntmps10
  go_wp2
  go_loopw [3, 4, 5] (fun vo vf vi wr => ∃ (f k : Nat) (ts : List ByteArray), vf = .int .i64 f ∧ vi = .int .i64 k ∧ TxR wr w.heap.size vo ts ∧ Below w.heap.size w wr ∧ ts.length ≤ k ∧ f ≤ k ∧ k ≤ s.size ∧ Pl.linL s = ts ++ Pl.linR s f k) (fun _ _ vi _ => s.size - (intOf vi).toNat)
  case atStart => exact ⟨0, 0, [], rfl, rfl, TxR.emp w _ (Nat.le_refl _), blw_alloc (Below.refl _ _) _, Nat.le_refl _, Nat.le_refl _, Nat.zero_le _, by rw [Pl.linR_start]; rfl⟩
  case round =>
    obtain ⟨f, k, ts, rfl, rfl, hO, hB, htl, hfk, hk, hspl⟩ := hrel
    have HO := uh hO
    have HB := uh hB
    have HSP := uh hspl
    have HTL := uh htl
    obtain ⟨sa, sc, hvv⟩ := hO.shape
    subst hvv
    clear hO hB hspl htl
    by_cases hlt : k < s.size
    rotate_left
    · obtain rfl : k = s.size := by omega
      have hnlt : ¬ ((s.size : Int) < (s.size : Int)) := by omega
      by_cases hf : f < s.size
      · have HE : Hid (Pl.linL s = ts ++ [s.extract f s.size]) := by show _ = _; rw [HSP.out, Pl.linR_end s f hf]
        obtain ⟨X, hX⟩ : ∃ X, X = s.extract f s.size := ⟨_, rfl⟩
        have hf0 : (0 : Int) ≤ (f : Int) := by omega
        have hf1 : (f : Int) < (s.size : Int) := by omega
        have hf2 : (f : Int) ≤ (s.size : Int) := by omega
        have hsl : ∀ W : World, (Instr.slice 9 (.string s) (some (.int .i64 (f : Int))) none none).run Tryz.prog W = .ok (.string X) W := fun W => by
          have := run_slice_string_l (P := Tryz.prog) (w := W) (t := 9) (s := s) (ht := by kernel_rfl) (kl := .i64) (l := (f : Int)) (h0 := hf0) (h1 := hf2)
          rw [this, hX]; simp
        rw [← hX] at HE
        clear hX
        go_wp2_with (refine tx_push rfl _ _ rfl w.heap.size (.slice sa ts.length sc) ts rfl (HO.out.later (blw_alloc (Below.refl _ _) _)) wr.heap.size 1 1 [X] rfl rfl (World.news_of_block (cs := #[.string X]) (heap_alloc_new wr _)) (by decide) (by have := HTL.out; omega) (Nat.le_trans HB.out.size (by simp)) ?_; intro gg1 cc1 w1 q1 q2; have HQ := uh (And.intro q1 ((HO.out.later (blw_alloc (Below.refl _ _) _)).below (blw_alloc HB.out _) q2 (Nat.le_refl _))); clear q1 q2)
        go_ret
        rw [HE.out]
        obtain ⟨F, h1, h2, h3⟩ := HQ.out.1.done
        rw [List.length_append] at h1 ⊢
        exact ⟨_, F, rfl, h1, h2, h3, HQ.out.2⟩
      · have HE : Hid (Pl.linL s = ts) := by show _ = _; rw [HSP.out, Pl.linR_none s f (by omega), List.append_nil]
        have hf1 : ¬ ((f : Int) < (s.size : Int)) := by omega
        go_wp2
        go_ret
        rw [HE.out]
        obtain ⟨F, h1, h2, h3⟩ := HO.out.done
        exact ⟨_, F, rfl, h1, h2, h3, HB.out⟩
    have hkk : IntKind.i64.wrap ((k : Int) + 1) = (k : Int) + 1 := IntWalk.i64_in _ ⟨by omega, by omega⟩
    by_cases hc : s[k].toNat = 10
    · have HE : Hid (Pl.linL s = (ts ++ [s.extract f k]) ++ Pl.linR s (k + 1) (k + 1)) := by show _ = _; rw [HSP.out, Pl.linR_cut s f k hlt hc]; simp
      obtain ⟨X, hX⟩ : ∃ X, X = s.extract f k := ⟨_, rfl⟩
      have hsl : ∀ W : World, (Instr.slice 9 (.string s) (some (.int .i64 (f : Int))) (some (.int .i64 (k : Int))) none).run Tryz.prog W = .ok (.string X) W := fun W => by rw [hX]; exact sliceRun s f k hfk (by omega) W
      rw [← hX] at HE
      clear hX
      have d2 : ((s[k].toNat : Int) == 10) = true := by simp; omega
      clear hc
      go_wp2_with (refine tx_push rfl _ _ rfl w.heap.size (.slice sa ts.length sc) ts rfl (HO.out.later (blw_alloc (Below.refl _ _) _)) wr.heap.size 1 1 [X] rfl rfl (World.news_of_block (cs := #[.string X]) (heap_alloc_new wr _)) (by decide) (by have := HTL.out; omega) (Nat.le_trans HB.out.size (by simp)) ?_; intro gg1 cc1 w1 q1 q2; have HQ := uh (And.intro q1 ((HO.out.later (blw_alloc (Below.refl _ _) _)).below (blw_alloc HB.out _) q2 (Nat.le_refl _))); clear q1 q2)
      go_roundw
      case rel => exact ⟨k + 1, k + 1, ts ++ [X], by go_num, by go_num, HQ.out.1, HQ.out.2, by rw [List.length_append]; have := HTL.out; simp; omega, Nat.le_refl _, by omega, HE.out⟩
      case measure => simp [intOf]; omega
    · have HE : Hid (Pl.linL s = ts ++ Pl.linR s f (k + 1)) := by show _ = _; rw [HSP.out, Pl.linR_on s f k hfk hlt hc]
      have d2 : ((s[k].toNat : Int) == 10) = false := by simp; omega
      clear hc
      go_wp2
      go_roundw
      case rel => exact ⟨f, k + 1, ts, rfl, by go_num, HO.out, HB.out, by have := HTL.out; omega, by omega, by omega, HE.out⟩
      case measure => simp [intOf]; omega

end Go.Proofs.YtdllbcafbfkngaaGreatDoor
