/-
  Recorders: RecMerge by the specification.
-/
import Derived.Test.YtejhknclhdbgfaaRgA
namespace Go.Proofs.Ytejhknclhdbgfaa
open Go.RowKit Go.Deep

/-- Merged up to the place k. -/
def mergeTo (a b : List Rs) : Nat → List Rs
  | 0 => a
  | k + 1 => if k = (mergeTo a b k).length then mergeTo a b k ++ [b.getD k Rs.none] else if ((mergeTo a b k).getD k Rs.none).bal < (b.getD k Rs.none).bal then (mergeTo a b k).set k (b.getD k Rs.none) else mergeTo a b k
def mergeOf (a b : List Rs) : List Rs := mergeTo a b b.length
theorem mergeTo_len (a b : List Rs) : ∀ k, (mergeTo a b k).length = max a.length k
  | 0 => by simp [mergeTo]
  | k + 1 => by
    have ih := mergeTo_len a b k
    rw [mergeTo]
    split
    · rw [List.length_append, ih]; simp; omega
    · split
      · rw [List.length_set, ih]; omega
      · rw [ih]; omega
/-- What stands at a place. -/
def mergeAt (a b : List Rs) (i : Nat) : Rs := if a.length ≤ i then b.getD i Rs.none else if i < b.length ∧ (a.getD i Rs.none).bal < (b.getD i Rs.none).bal then b.getD i Rs.none else a.getD i Rs.none
theorem mergeTo_at (a b : List Rs) : ∀ k, k ≤ b.length → ∀ j, j < max a.length k → (mergeTo a b k).getD j Rs.none = if j < k then mergeAt a b j else a.getD j Rs.none
  | 0, _, j, _ => by simp [mergeTo]
  | k + 1, hk, j, hj => by
    have ih := mergeTo_at a b k (by omega)
    have hl := mergeTo_len a b k
    rw [mergeTo]
    by_cases e : k = (mergeTo a b k).length
    · rw [if_pos e]
      have hak : a.length ≤ k := by omega
      by_cases q : j = k
      · subst q
        rw [if_pos (by omega), mergeAt, if_pos hak]
        rw [List.getD_eq_getElem?_getD, List.getElem?_append_right (by omega), ← e]
        simp
      · rw [List.getD_eq_getElem?_getD, List.getElem?_append_left (by omega), ← List.getD_eq_getElem?_getD, ih j (by omega), if_pos (by omega), if_pos (by omega)]
    · rw [if_neg e]
      have hak : k < a.length := by omega
      have ek := ih k (by omega)
      rw [if_neg (by omega)] at ek
      rw [ek]
      by_cases c : (a.getD k Rs.none).bal < (b.getD k Rs.none).bal
      · rw [if_pos c]
        by_cases q : j = k
        · subst q
          rw [if_pos (by omega), mergeAt, if_neg (by omega), if_pos ⟨by omega, c⟩, List.getD_eq_getElem?_getD, List.getElem?_set_self (by omega)]; rfl
        · rw [List.getD_eq_getElem?_getD, List.getElem?_set_ne (by omega), ← List.getD_eq_getElem?_getD, ih j (by omega)]
          by_cases d : j < k
          · rw [if_pos d, if_pos (by omega)]
          · rw [if_neg d, if_neg (by omega)]
      · rw [if_neg c, ih j (by omega)]
        by_cases d : j < k
        · rw [if_pos d, if_pos (by omega)]
        · rw [if_neg d]
          by_cases q : j = k
          · subst q
            rw [if_pos (by omega), mergeAt, if_neg (by omega), if_neg (fun hh => c hh.2)]
          · rw [if_neg (by omega)]
theorem mergeOf_len (a b : List Rs) : (mergeOf a b).length = max a.length b.length := mergeTo_len a b b.length
theorem mergeOf_at (a b : List Rs) (j : Nat) (hj : j < max a.length b.length) : (mergeOf a b).getD j Rs.none = mergeAt a b j := by
  rw [mergeOf, mergeTo_at a b b.length (Nat.le_refl _) j hj]
  split
  · rfl
  · rw [mergeAt, if_neg (by omega), if_neg (fun hh => by omega)]
theorem mergeAt_sized {a b : List Rs} (ha : ∀ i, i < a.length → (a.getD i Rs.none).sized) (hb : ∀ i, i < b.length → (b.getD i Rs.none).sized) (i : Nat) (hi : i < max a.length b.length) : (mergeAt a b i).sized := by
  unfold mergeAt
  split
  · exact hb i (by omega)
  · split
    · exact hb i (by omega)
    · exact ha i (by omega)
theorem RssV.z {w : World} {a : Option Addr} {l : List Rs} (h : RssV w a l) : ∀ i, i < l.length → (l.getD i Rs.none).sized := fun i hi => by obtain ⟨_, _, _, _, hf⟩ := h.at_ i hi; exact hf.sized

set_option maxHeartbeats 2000000 in
theorem l21SlotsCS (l : List Rs) (a : Option Addr) (c : Nat) (w : World) (h : RssV w a l) (hl : l.length ≤ 1048576) :
    Calls Try.prog 41 #[.slice a l.length c] w fun e w' => (∃ v, e = .returned v ∧ w'.ownsRow w.heap.size 69 2 v l.length (l.flatMap RsC)) ∧ Below w.heap.size w w' := by
  obtain ⟨wa, hwa⟩ : ∃ wa, wa = w.alloc (.cells #[] 69) := ⟨_, rfl⟩
  have hb : Below w.heap.size w wa := by rw [hwa]; exact blw_alloc (Below.refl _ _) _
  have hg : wa.heap[w.heap.size]? = some (.cells #[] 69 (0, 0)) := by rw [hwa]; exact World.alloc_heap_new w _
  have hV := h.later hb
  obtain ⟨v', W', hr, hO, hB⟩ := app_new (P := Try.prog) w.heap.size 27 27 69 2 24 _ Try.undRs Try.infRs rfl wa w.heap.size hg (Nat.le_refl _) a l.length c (l.flatMap RsC) (by rw [flat_len RsC 2 RsC_len]) hV.news hV.nil (RsC_one l) hl (by omega) hb.size
  have HF : Hid (W'.ownsRow w.heap.size 69 2 v' l.length (l.flatMap RsC) ∧ Below w.heap.size w W') := ⟨hO, blw_trans hb hB⟩
  obtain ⟨a', c', hv⟩ := owns_is hO
  subst hv
  clear hO hB hV hg hb h
  go_enter Try.func41, Try.ntmps41
  go_upto_region 1 with fail
  go_wp2_with (at_builtin; first | (rw [← hwa]; refine wpList_append_run rfl (.tmp 3) (.tmp 4) 27 rfl rfl rfl hr ?_) | refine wpList_append_run rfl (.tmp 3) (.tmp 4) 27 rfl rfl rfl hr ?_)
  go_ret
  exact ⟨⟨_, rfl, HF.out.1⟩, HF.out.2⟩

set_option maxRecDepth 8000 in
set_option maxHeartbeats 8000000 in
theorem recMergeS (x y : List Rs) (a a' : Option Addr) (c c' : Nat) (w : World) (h : RssV w a x) (h' : RssV w a' y) (hx : x.length ≤ 1048576) (hy : y.length ≤ 1048576) :
    Calls Try.prog 14 #[.slice a x.length c, .slice a' y.length c'] w fun e w' => (∃ v, e = .returned v ∧ RsRow w' w.heap.size w'.heap.size v (mergeOf x y)) ∧ Below w.heap.size w w' := by
  have HH := hid h'
  have HZ := hid (And.intro h.z h'.z)
  have HC := l21SlotsCS x a c w h hx
  obtain ⟨i0, hi, hz0, hz1, hz2⟩ := info_parts Try.infRs
  clear h h'
  go_enter Try.func14, Try.ntmps14
  go_wp2_with fail
  refine HC.mono ?_
  rintro e wa ⟨⟨v0, rfl, hO⟩, hb⟩
  have HO0 := hid hO
  have HB0 := hid hb
  clear HC hO hb
  go_upto_region 3 with fail
  go_loopw [5, 6] (fun u i wr => ∃ k : Nat, k ≤ y.length ∧ i = .int .i64 k ∧ wr.ownsRow w.heap.size 69 2 u (mergeTo x y k).length ((mergeTo x y k).flatMap RsC) ∧ Below w.heap.size w wr) (fun _ i _ => y.length - (intOf i).toNat)
  case atStart => exact ⟨0, Nat.zero_le _, rfl, HO0.out, HB0.out⟩
  case round =>
    rename_i uv _ _
    obtain ⟨k, hk, rfl, hO, hW⟩ := hrel
    have HO := hid hO
    have HW := hid hW
    obtain ⟨b, d, hv⟩ := owns_is hO
    subst hv
    clear hO hW HO0 HB0
    have hlen := mergeTo_len x y k
    obtain ⟨M, hM⟩ : ∃ M, M = mergeTo x y k := ⟨_, rfl⟩
    rw [← hM] at HO hlen ⊢
    have HM := hid hM
    have hML0 : M.length ≤ 1048576 := by omega
    have hMk : k ≤ M.length := by omega
    have HLN := hid hlen
    clear hM hlen
    by_cases hlt : k < y.length
    · obtain ⟨b1, off1, ha1, hbl1, hf1⟩ := (HH.out.later HW.out).at_ k hlt
      subst ha1
      obtain ⟨z, hz⟩ : ∃ z, z = y.getD k Rs.none := ⟨_, rfl⟩
      rw [← hz] at hf1
      obtain ⟨e0, e1, _⟩ := hf1
      have HS : Hid (mergeTo x y (k + 1) = if k = M.length then M ++ [z] else if (M.getD k Rs.none).bal < z.bal then M.set k z else M) := by show _ = _; rw [mergeTo, ← HM.out, ← hz]
      clear hz
      have hm0 : (0 : Int) ≤ (k : Int) := by omega
      have hm3 : (k : Int) < (y.length : Int) := by omega
      have hs2 : w.heap.size ≤ wr.heap.size := HW.out.size
      by_cases hkl : k = M.length
      · have HN : Hid (mergeTo x y (k + 1) = M ++ [z]) := by show _ = _; rw [HS.out, if_pos hkl]
        have hki : ((k : Int) == (M.length : Int)) = true := by rw [hkl]; simp
        have hML : M.length ≤ 1048575 := by omega
        have HKL := hid hkl
        clear hkl
        go_wp2_with (at_builtin; refine wpList_append_own _ rfl _ _ 27 rfl w.heap.size 69 i0 _ 2 24 Try.undRs hi hz0 hz1 hz2 rfl (by decide) (.slice b M.length d) M.length (M.flatMap RsC) rfl ?c10 ⟨wr.heap.size, 0, none⟩ 1 1 (RsC z) rfl ?c11 ?c12 ?c13 ?c14 ?c15 ?c16 ?_)
        case c10 => exact owns_on HO.out (blw_alloc (Below.refl _ _) _)
        case c11 => rfl
        case c12 => exact World.news_of_block (World.alloc_heap_new _ _)
        case c13 => intro u hu; exact RsC_one [z] u (by simpa using hu)
        case c14 => unfold maxLen; omega
        case c15 => omega
        case c16 => simp; omega
        intro v' w3 hown hgrow _
        have hbt : Below wr.heap.size wr (wr.alloc (.cells #[.int .i64 z.bal, .string z.txt] 69)) := blw_alloc (Below.refl _ _) _
        have HN2 : Hid (w3.ownsRow w.heap.size 69 2 v' (M ++ [z]).length ((M ++ [z]).flatMap RsC)) := by
          show World.ownsRow _ _ _ _ _ _ _
          simpa using hown
        have HB3 : Hid (Below w.heap.size w w3) := by
          refine Below.grown (blw_trans HW.out hbt) hgrow (blw_trans HW.out hbt).size (fun q hq => ?_)
          exact (World.ownsRow.lt HO.out q hq).1
        clear hown hgrow hbt
        go_wp2
        go_roundw
        case rel => exact ⟨k + 1, by omega, by go_num, by rw [HN.out]; exact HN2.out, HB3.out⟩
        case measure => simp [intOf]; omega
      · have hkm : k < M.length := by omega
        have hki : ((k : Int) == (M.length : Int)) = false := by simp; omega
        have hkm3 : (k : Int) < (M.length : Int) := by omega
        rw [if_neg hkl] at HS
        obtain ⟨g, d', hv2, hlo, hgl, hcell⟩ := owns_cells HO.out (by omega)
        injection hv2 with ev1 ev2 ev3
        subst ev1
        subst ev3
        clear ev2
        obtain ⟨m, hm⟩ : ∃ m, m = M.getD k Rs.none := ⟨_, rfl⟩
        have f0 : wr.cell? ⟨g, k * 2, none⟩ = some (.int .i64 m.bal) := hcell (k * 2 + 0) _ ((flat_at Rs.none RsC 2 RsC_len M k 0 hkm (by omega)).trans (by rw [← hm]; rfl))
        have f1 : wr.cell? ⟨g, k * 2 + 1, none⟩ = some (.string m.txt) := hcell (k * 2 + 1) _ ((flat_at Rs.none RsC 2 RsC_len M k 1 hkm (by omega)).trans (by rw [← hm]; rfl))
        rw [← hm] at HS
        have HME := hid hm
        clear hm hcell hkl
        have hNE := pst_some wr
        have hgz : ∀ px : Pst wr, g < px.W.heap.size := fun px => px.size hgl
        have hbz : ∀ px : Pst wr, b1 < px.W.heap.size := fun px => px.size hbl1
        have G0 : ∀ px : Pst wr, px.W.cell? ⟨g, k * 2, none⟩ = some (.int .i64 m.bal) := fun px => px.cell f0 hgl
        have E0 : ∀ px : Pst wr, px.W.cell? ⟨b1, off1 + k * 2, none⟩ = some (.int .i64 z.bal) := fun px => px.cell e0 hbl1
        by_cases hc : m.bal < z.bal
        · have HN : Hid (mergeTo x y (k + 1) = M.set k z) := by show _ = _; rw [HS.out, if_pos hc]
          have hcd : decide (m.bal < z.bal) = true := decide_eq_true hc
          clear hc
          go_upto_region 7 with fail
          have HEE := hid (And.intro e0 (And.intro e1 (And.intro f0 f1)))
          clear e0 e1 f0 f1
          refine region_class wr (Below.refl _ _) (by kernel_rfl) (by kernel_rfl) ?_
          repeat (first
            | go_big_quiet_skip
            | (go_big_quiet_want; go_big_quiet_op; go_big_quiet_on))
          refine wpQuiet_nil ?_
          intro _ hw'
          obtain ⟨x6, hw''⟩ := hw'
          subst hw''
          have HE6 : Hid (x6.W.cell? ⟨b1, off1 + k * 2, none⟩ = some (.int .i64 z.bal) ∧ x6.W.cell? ⟨b1, off1 + k * 2 + 1, none⟩ = some (.string z.txt) ∧ x6.W.cell? ⟨g, k * 2, none⟩ = some (.int .i64 m.bal) ∧ x6.W.cell? ⟨g, k * 2 + 1, none⟩ = some (.string m.txt)) :=
            ⟨x6.cell HEE.out.1 hbl1, x6.cell HEE.out.2.1 hbl1, x6.cell HEE.out.2.2.1 hgl, x6.cell HEE.out.2.2.2 hgl⟩
          obtain ⟨W, hWW⟩ : ∃ W, W = x6.W := ⟨_, rfl⟩
          have hx6 := x6.ok
          have gz := hgz x6
          have bz := hbz x6
          rw [← hWW] at hx6 gz bz HE6 ⊢
          clear hNE hgz hbz G0 E0 hWW
          have HO6 := hid (owns_on HO.out hx6)
          have HB6 := hid (blw_trans HW.out hx6)
          have HOB : Hid (∃ m, OwnBlk W g 69 m) := by
            rcases HO6.out.2 with ⟨hv, _⟩ | ⟨g', cap, cur, hv, _, hg, _⟩
            · cases hv
            · injection hv with q _ _
              injection q with q
              injection q with q _ _
              subst q
              exact ⟨cur.size, cur, hg, rfl⟩
          have e0 : W.cell? ⟨b1, off1 + k * 2, none⟩ = some (.int .i64 z.bal) := HE6.out.1
          have e1 : W.cell? ⟨b1, off1 + k * 2 + 1, none⟩ = some (.string z.txt) := HE6.out.2.1
          have f0 : W.cell? ⟨g, k * 2, none⟩ = some (.int .i64 m.bal) := HE6.out.2.2.1
          have f1 : W.cell? ⟨g, k * 2 + 1, none⟩ = some (.string m.txt) := HE6.out.2.2.2
          have ff : ∀ j, W.frozen? ⟨g, j, none⟩ = false := fun j => by obtain ⟨m', hm'⟩ := HOB.out; exact hm'.frozen j
          obtain ⟨W2, hW2⟩ : ∃ W2, W2 = (W.setCell ⟨g, k * 2, none⟩ (.int .i64 z.bal)).setCell ⟨g, k * 2 + 1, none⟩ (.string z.txt) := ⟨_, rfl⟩
          have HR : Hid (W2.ownsRow w.heap.size 69 2 (.slice (some ⟨g, 0, none⟩) M.length d) M.length ((M.set k z).flatMap RsC) ∧ Below w.heap.size w W2) := by
            refine ⟨?_, by rw [hW2]; exact (HB6.out.setCell (p := ⟨g, k * 2, none⟩) hlo _).setCell (p := ⟨g, k * 2 + 1, none⟩) hlo _⟩
            rw [hW2]
            have s1 := owns_set HO6.out (k * 2) (.int .i64 z.bal)
            have s2 := owns_set s1 (k * 2 + 1) (.string z.txt)
            have g1 := flat_set Rs.none RsC 2 RsC_len 0 (by omega) (.int .i64 z.bal) M k ⟨z.bal, m.txt⟩ hkm (by rw [← HME.out]; rfl)
            have g2 := flat_set Rs.none RsC 2 RsC_len 1 (by omega) (.string z.txt) (M.set k ⟨z.bal, m.txt⟩) k z (by rw [List.length_set]; exact hkm) (by rw [List.getD_eq_getElem?_getD, List.getElem?_set_self hkm]; rfl)
            rw [List.set_set] at g2
            rw [Nat.add_zero] at g1
            rw [← g2, ← g1]
            exact s2
          go_upto_region 4 with fail
          rw [← hW2]
          clear hW2 e0 e1 f0 f1 ff HOB HO6 HB6 HE6
          go_wp2
          go_roundw
          case rel => exact ⟨k + 1, by omega, by go_num, by rw [HN.out, List.length_set]; exact HR.out.1, HR.out.2⟩
          case measure => simp [intOf]; omega
        · have HN : Hid (mergeTo x y (k + 1) = M) := by show _ = _; rw [HS.out, if_neg hc]
          have hcd : decide (m.bal < z.bal) = false := decide_eq_false hc
          clear hc
          go_upto_region 7 with fail
          clear e0 e1 f0 f1
          refine region_class wr (Below.refl _ _) (by kernel_rfl) (by kernel_rfl) ?_
          repeat (first
            | go_big_quiet_skip
            | (go_big_quiet_want; go_big_quiet_op; go_big_quiet_on))
          refine wpQuiet_nil ?_
          intro _ hw'
          obtain ⟨x6, hw''⟩ := hw'
          subst hw''
          have HO6 := hid (owns_on HO.out x6.ok)
          have HB6 := hid (blw_trans HW.out x6.ok)
          go_wp2
          go_roundw
          case rel => exact ⟨k + 1, by omega, by go_num, by rw [HN.out]; exact HO6.out, HB6.out⟩
          case measure => simp [intOf]; omega
    · obtain rfl : k = y.length := by omega
      go_wp2
      go_ret
      refine ⟨⟨_, rfl, ?_⟩, HW.out⟩
      have e : M = mergeOf x y := HM.out
      rw [← e]
      refine RsRow.of_owns HO.out (fun i hi => ?_) (by omega)
      rw [e] at hi ⊢
      rw [mergeOf_len] at hi
      rw [mergeOf_at x y i hi]
      exact mergeAt_sized HZ.out.1 HZ.out.2 i hi

end Go.Proofs.Ytejhknclhdbgfaa
