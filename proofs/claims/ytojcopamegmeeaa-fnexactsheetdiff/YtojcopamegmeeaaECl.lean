/-
  Sheets: copies of lines: the specification.
-/
import Derived.Test.YtojcopamegmeeaaESd
import Derived.Test.YtojcopamegmeeaaUL
import Derived.Test.YtojcopamegmeeaaEPp
import Derived.Test.YtojcopamegmeeaaETx
namespace Go.Proofs.Ytojcopamegmeeaa
open Go.RowKit Go.Deep

theorem Try.under_lines : Try.prog.underlying 40 = some (.slice 69) := by kernel_rfl
theorem Try.info_line : (Try.prog.info? 69).map (fun i => (i.zero, i.size, i.bytes)) = some (some (.agg #[.string { data := #[] }, .slice none 0 0]), 2, 40) := by kernel_rfl
def VCl (vo vl : Value) (b p o k : Nat) (x : Pl.Ln) (aw : Option Addr) (cw : Nat) : Nat → Value → World → Prop
  | 0, u, _ => u = vo
  | 1, u, _ => u = vl
  | 2, u, _ => u = .int .i64 (k : Int)
  | 3, u, _ => u = .pointer (some ⟨p, o + k * 2, none⟩)
  | 4, u, _ => u = .pointer (some ⟨p, o + k * 2, none⟩)
  | 5, u, _ => u = .string x.key
  | 6, u, W => ∃ g, u = .slice (some ⟨g, 0, none⟩) 0 0 ∧ b ≤ g ∧ W.heap[g]? = some (.cells #[] 9 (0, 0))
  | 7, u, _ => u = vl
  | 8, u, _ => u = .int .i64 (k : Int)
  | 9, u, _ => u = .pointer (some ⟨p, o + k * 2, none⟩)
  | 10, u, _ => u = .pointer (some ⟨p, o + k * 2 + 1, none⟩)
  | 11, u, _ => u = .slice aw x.ws.length cw
  | 12, u, W => ∃ wx wc xs, u = .slice wx x.ws.length wc ∧ Gr W b 9 [.s] (.slice wx x.ws.length wc) x.ws.length [] (txD x.ws) xs
  | 13, u, W => ∃ wx wc xs, u = .agg #[.string x.key, .slice wx x.ws.length wc] ∧ Gr W b 9 [.s] (.slice wx x.ws.length wc) x.ws.length [] (txD x.ws) xs
  | 14, u, W => ∃ q wx wc xs, u = .slice (some ⟨q, 0, none⟩) 1 1 ∧ W.heap[q]? = some (.cells #[.string x.key, .slice wx x.ws.length wc] 69 (0, 0)) ∧ Gr W b 9 [.s] (.slice wx x.ws.length wc) x.ws.length [] (txD x.ws) xs
  | _, _, _ => True
theorem VCl_mono (vo vl : Value) (b p o k : Nat) (x : Pl.Ln) (aw : Option Addr) (cw : Nat) : ∀ j u W W', Below W.heap.size W W' → VCl vo vl b p o k x aw cw j u W → VCl vo vl b p o k x aw cw j u W' := by
  intro j u W W' hb h
  match j with
  | 0 => exact h
  | 1 => exact h
  | 2 => exact h
  | 3 => exact h
  | 4 => exact h
  | 5 => exact h
  | 6 =>
    obtain ⟨g, e, hg, hc⟩ := h
    exact ⟨g, e, hg, (hb.block g (Array.getElem?_eq_some_iff.1 hc).1).trans hc⟩
  | 7 => exact h
  | 8 => exact h
  | 9 => exact h
  | 10 => exact h
  | 11 => exact h
  | 12 =>
    obtain ⟨wx, wc, xs, e, hg⟩ := h
    exact ⟨wx, wc, xs, e, hg.later hb⟩
  | 13 =>
    obtain ⟨wx, wc, xs, e, hg⟩ := h
    exact ⟨wx, wc, xs, e, hg.later hb⟩
  | 14 =>
    obtain ⟨q, wx, wc, xs, e, hc, hg⟩ := h
    exact ⟨q, wx, wc, xs, e, (hb.block q (Array.getElem?_eq_some_iff.1 hc).1).trans hc, hg.later hb⟩
  | n + 15 => exact trivial

set_option maxRecDepth 8000 in
set_option maxHeartbeats 8000000 in
theorem l39LinesS (l : List Pl.Ln) (v : Value) (w : World) (h : Raw w shLns [lnsD l] [v]) (hl : l.length ≤ 4194304) (hw : ∀ x ∈ l, x.ws.length ≤ 4194304) :
    Calls Try.prog 16 #[v] w (AnsL shLns (lnsD l) w) := by
  obtain ⟨i0, hi0, hz0, hz1, hz2⟩ := uinfo Try.info_line
  have HL := uh h
  have HWS := uh hw
  obtain ⟨va, vc, ev⟩ := h.len0
  subst ev
  clear h hw
  obtain ⟨n, hn⟩ : ∃ n, n = l.length := ⟨_, rfl⟩
  have HN := uh hn
  have hnz : n ≤ 4194304 := by omega
  rw [← hn]
  clear hn hl
  obtain ⟨wa, hwa⟩ : ∃ wa, wa = w := ⟨_, rfl⟩
  go_enter Try.func16, Try.ntmps16
  rw [← hwa]
  rw [← hwa] at HL
  clear hwa
  go_wp2
  go_loopw [3, 4] (fun vo vi wr => ∃ (k : Nat) (G : List Nat) (xs : List Value), k ≤ n ∧ vi = .int .i64 k ∧ Gr wr wa.heap.size 69 shSheetLine vo k G ((l.take k).flatMap lnD) xs ∧ Below wa.heap.size wa wr) (fun _ vi _ => n - (intOf vi).toNat)
  case atStart => exact ⟨0, [], [], Nat.zero_le _, rfl, Gr.emp shSheetLine (heap_alloc_new wa _) (Nat.le_refl _), blw_alloc (Below.refl _ _) _⟩
  case round =>
    obtain ⟨k, G, xs, hk, rfl, hG, hB⟩ := hrel
    have HGr := uh hG
    have HBr := uh hB
    obtain ⟨ua, uc, huu⟩ := hG.shape
    subst huu
    clear hG hB
    by_cases hlt : k < n
    rotate_left
    · have hks : l.take k = l := List.take_of_length_le (by have := HN.out; omega)
      obtain rfl : k = l.length := by have := HN.out; omega
      rw [hks] at HGr
      obtain ⟨F, r, nd, fr⟩ := HGr.out.done
      have HD : Hid (AnsL shLns (lnsD l) wa (.returned (.slice ua l.length uc)) wr) := ⟨_, F, rfl, r, nd, fr, HBr.out⟩
      clear r nd fr hks
      go_wp2
      go_ret
      exact HD.out
    have hkL : k < l.length := by have := HN.out; omega
    rcases lns_open (HL.out.later HBr.out) with ⟨e0, _⟩ | ⟨p, o, c, hv, hp, hml, hopen⟩
    · omega
    rw [← HN.out] at hv
    injection hv with g1 _ g3
    subst g1; subst g3
    obtain ⟨aw, cw, hgx, hrx⟩ := hopen k hkL
    have HTK := uh (Pl.take_snocD Pl.lnNo l k hkL)
    have hfn : (l.getD k Pl.lnNo).ws.length ≤ 4194304 := by
      have e : l.getD k Pl.lnNo = l[k] := by simp [hkL]
      rw [e]; exact HWS.out _ (List.getElem_mem hkL)
    obtain ⟨x, hx⟩ : ∃ x, x = l.getD k Pl.lnNo := ⟨_, rfl⟩
    rw [← hx] at hgx hrx HTK hfn
    have HGX := uh hgx
    have HF := uh hrx
    have HFN := uh hfn
    have HPZ := uh hp
    have hk0 : (0 : Int) ≤ (k : Int) := by omega
    have hkn : (k : Int) < (n : Int) := by omega
    clear hx hgx hrx hfn hp hopen hml
    go_upto_region 5 with fail
    refine RY.region_fin wr (Below.refl _ _) (VCl (.slice ua k uc) (.slice (some ⟨p, o, none⟩) n vc) wr.heap.size p o k x aw cw) (VCl_mono _ _ _ _ _ _ _ _ _) (fun u W' => ∃ g cap G' xs', u = .slice (some ⟨g, 0, none⟩) (k + 1) cap ∧ Gr W' wa.heap.size 69 shSheetLine u (k + 1) G' ((l.take (k + 1)).flatMap lnD) xs' ∧ Below wa.heap.size wa W') 15 12 27 3 (by kernel_rfl) (by kernel_rfl) (by kernel_rfl) (by kernel_rfl) (by kernel_rfl) rfl (by kernel_rfl) _ _ rfl rfl rfl rfl rfl (by kernel_rfl) ?_ ?_ ?_
    · intro i o' ho hin a X hX hk hd
      have y0 : X.cell? ⟨p, o + k * 2, none⟩ = some (.string x.key) := (hX.cell (p := ⟨p, o + k * 2, none⟩) HPZ.out).trans (rA_get HGX.out 0 _ rfl)
      have y1 : X.cell? ⟨p, o + k * 2 + 1, none⟩ = some (.slice aw x.ws.length cw) := (hX.cell (p := ⟨p, o + k * 2 + 1, none⟩) HPZ.out).trans (rA_get HGX.out 1 _ rfl)
      match i, ho with
      | 0, ho =>
        injection ho with ho; subst ho
        have e3 : a.tmps[3]?.getD undef = .slice ua k uc := (RY.ev_tmp a 3).trans ((hk 3 (RY.late_spec (by kernel_rfl))).trans rfl)
        exact ⟨.slice ua k uc, X, by simp [execOp, go_sem, e3], Below.refl _ _, rfl⟩
      | 1, ho =>
        injection ho with ho; subst ho
        have e0 : a.tmps[0]?.getD undef = .slice (some ⟨p, o, none⟩) n vc := (RY.ev_tmp a 0).trans ((hk 0 (RY.late_spec (by kernel_rfl))).trans rfl)
        exact ⟨.slice (some ⟨p, o, none⟩) n vc, X, by simp [execOp, go_sem, e0], Below.refl _ _, rfl⟩
      | 2, ho =>
        injection ho with ho; subst ho
        have e4 : a.tmps[4]?.getD undef = .int .i64 (k : Int) := (RY.ev_tmp a 4).trans ((hk 4 (RY.late_spec (by kernel_rfl))).trans rfl)
        exact ⟨.int .i64 (k : Int), X, by simp [execOp, go_sem, e4], Below.refl _ _, rfl⟩
      | 3, ho =>
        injection ho with ho; subst ho
        have e13 : a.tmps[13]?.getD undef = _ := (RY.ev_tmp a 13).trans (hd 1 _ 13 rfl rfl ⟨⟨1, .data⟩, by simp, rfl, rfl⟩ (by decide))
        have e14 : a.tmps[14]?.getD undef = _ := (RY.ev_tmp a 14).trans (hd 2 _ 14 rfl rfl ⟨⟨2, .data⟩, by simp, rfl, rfl⟩ (by decide))
        exact ⟨.pointer (some ⟨p, o + k * 2, none⟩), X, by simp [execOp, go_sem, e13, e14, hk0, hkn], Below.refl _ _, rfl⟩
      | 4, ho =>
        injection ho with ho; subst ho
        have e15 : a.tmps[15]?.getD undef = _ := (RY.ev_tmp a 15).trans (hd 3 _ 15 rfl rfl ⟨⟨3, .data⟩, by simp, rfl, rfl⟩ (by decide))
        exact ⟨.pointer (some ⟨p, o + k * 2, none⟩), X, by simp [execOp, go_sem, e15], Below.refl _ _, rfl⟩
      | 5, ho =>
        injection ho with ho; subst ho
        have e16 : a.tmps[16]?.getD undef = _ := (RY.ev_tmp a 16).trans (hd 4 _ 16 rfl rfl ⟨⟨4, .data⟩, by simp, rfl, rfl⟩ (by decide))
        exact ⟨.string x.key, X, by simp [execOp, go_sem, e16, y0], Below.refl _ _, rfl⟩
      | 6, ho =>
        injection ho with ho; subst ho
        exact ⟨_, X.alloc (.cells #[] 9), by simp [execOp, go_sem], blw_alloc (Below.refl _ _) _, ⟨X.heap.size, rfl, hX.size, heap_alloc_new X _⟩⟩
      | 7, ho =>
        injection ho with ho; subst ho
        have e0 : a.tmps[0]?.getD undef = .slice (some ⟨p, o, none⟩) n vc := (RY.ev_tmp a 0).trans ((hk 0 (RY.late_spec (by kernel_rfl))).trans rfl)
        exact ⟨.slice (some ⟨p, o, none⟩) n vc, X, by simp [execOp, go_sem, e0], Below.refl _ _, rfl⟩
      | 8, ho =>
        injection ho with ho; subst ho
        have e4 : a.tmps[4]?.getD undef = .int .i64 (k : Int) := (RY.ev_tmp a 4).trans ((hk 4 (RY.late_spec (by kernel_rfl))).trans rfl)
        exact ⟨.int .i64 (k : Int), X, by simp [execOp, go_sem, e4], Below.refl _ _, rfl⟩
      | 9, ho =>
        injection ho with ho; subst ho
        have e19 : a.tmps[19]?.getD undef = _ := (RY.ev_tmp a 19).trans (hd 7 _ 19 rfl rfl ⟨⟨7, .data⟩, by simp, rfl, rfl⟩ (by decide))
        have e20 : a.tmps[20]?.getD undef = _ := (RY.ev_tmp a 20).trans (hd 8 _ 20 rfl rfl ⟨⟨8, .data⟩, by simp, rfl, rfl⟩ (by decide))
        exact ⟨.pointer (some ⟨p, o + k * 2, none⟩), X, by simp [execOp, go_sem, e19, e20, hk0, hkn], Below.refl _ _, rfl⟩
      | 10, ho =>
        injection ho with ho; subst ho
        have e21 : a.tmps[21]?.getD undef = _ := (RY.ev_tmp a 21).trans (hd 9 _ 21 rfl rfl ⟨⟨9, .data⟩, by simp, rfl, rfl⟩ (by decide))
        exact ⟨.pointer (some ⟨p, o + k * 2 + 1, none⟩), X, by simp [execOp, go_sem, e21], Below.refl _ _, rfl⟩
      | 11, ho =>
        injection ho with ho; subst ho
        have e22 : a.tmps[22]?.getD undef = _ := (RY.ev_tmp a 22).trans (hd 10 _ 22 rfl rfl ⟨⟨10, .data⟩, by simp, rfl, rfl⟩ (by decide))
        exact ⟨.slice aw x.ws.length cw, X, by simp [execOp, go_sem, e22, y1], Below.refl _ _, rfl⟩
      | 12, ho =>
        injection ho with ho; subst ho
        obtain ⟨g, e0, hgl, hgg⟩ := hd 6 _ 18 rfl rfl ⟨⟨6, .data⟩, by simp, rfl, rfl⟩ (by decide)
        have e1 := hd 11 _ 23 rfl rfl ⟨⟨11, .data⟩, by simp, rfl, rfl⟩ (by decide)
        obtain ⟨v', X', xs', hr, hg, hb⟩ := app_copy (P := Try.prog) wr.heap.size 67 67 9 9 1 16 _ Try.under_texts Try.info_text rfl (by decide) (by decide) [.s] rfl (by simp [flatB]) X (.slice (some ⟨g, 0, none⟩) 0 0) (Or.inr ⟨g, rfl, hgl, hgg⟩) hX.size x.ws.length (txD x.ws) (.slice aw x.ws.length cw) (HF.out.later hX) HFN.out
        obtain ⟨wx, wc, hvx⟩ := hg.shape
        subst hvx
        exact ⟨_, X', uexec_append (.tmp 18) (.tmp 23) 67 rfl e0 e1 hr, hb, wx, wc, xs', rfl, hg⟩
      | 13, ho =>
        injection ho with ho; subst ho
        have e0 := (RY.ev_tmp a 17).trans (hd 5 _ 17 rfl rfl ⟨⟨5, .data⟩, by simp, rfl, rfl⟩ (by decide))
        obtain ⟨wx, wc, xs', e1, hg⟩ := hd 12 _ 24 rfl rfl ⟨⟨12, .data⟩, by simp, rfl, rfl⟩ (by decide)
        have e2 := (RY.ev_tmp a 24).trans e1
        exact ⟨.agg #[.string x.key, .slice wx x.ws.length wc], X, by simp [execOp, go_sem, e0, e2], Below.refl _ _, wx, wc, xs', rfl, hg⟩
      | 14, ho =>
        injection ho with ho; subst ho
        obtain ⟨wx, wc, xs', e1, hg⟩ := hd 13 _ 25 rfl rfl ⟨⟨13, .data⟩, by simp, rfl, rfl⟩ (by decide)
        have e2 := (RY.ev_tmp a 25).trans e1
        exact ⟨.slice (some ⟨X.heap.size, 0, none⟩) 1 1, X.alloc (.cells #[.string x.key, .slice wx x.ws.length wc] 69), by simp [execOp, go_sem, e2], blw_alloc (Below.refl _ _) _, X.heap.size, wx, wc, xs', rfl, heap_alloc_new X _, hg.later (blw_alloc (Below.refl _ _) _)⟩
      | n + 15, ho => omega
    · intro a X hX hk hd
      have y0 : X.cell? ⟨p, o + k * 2, none⟩ = some (.string x.key) := (hX.cell (p := ⟨p, o + k * 2, none⟩) HPZ.out).trans (rA_get HGX.out 0 _ rfl)
      have y1 : X.cell? ⟨p, o + k * 2 + 1, none⟩ = some (.slice aw x.ws.length cw) := (hX.cell (p := ⟨p, o + k * 2 + 1, none⟩) HPZ.out).trans (rA_get HGX.out 1 _ rfl)
      have e0 := hd 0 _ 12 rfl rfl ⟨⟨0, .data⟩, by simp, rfl, rfl⟩ (by decide)
      obtain ⟨q, wx, wc, ys, e1, hbb, hg⟩ := hd 14 _ 26 rfl rfl ⟨⟨14, .data⟩, by simp, rfl, rfl⟩ (by decide)
      obtain ⟨FW, rr, nd, fr⟩ := hg.done
      have hrep : Rep X false shSheetLine (FW ++ []) (lnD x) [.string x.key, .slice wx x.ws.length wc] := repSheetLine_mk x.key rr
      have hGX := HGr.out.later hX
      obtain ⟨g, cap, X', hrun, hown, hgrow, hgg, _⟩ := run_append_lies (P := Try.prog) (w := X) 40 40 wa.heap.size 69 i0 _ 2 40 Try.under_lines hi0 hz0 hz1 hz2 rfl (by decide) (.slice ua k uc) k xs hGX.row ⟨q, 0, none⟩ 1 1 [.string x.key, .slice wx x.ws.length wc] rfl (fun j y hy => by rw [Addr.add_mid, Nat.zero_add]; simp only [World.cell?, hbb]; simpa using hy) (fun y hy => hrep.raw.one y hy) (by decide) (by unfold maxLen; omega) (by omega) (Nat.le_trans HBr.out.size hX.size) X.heap.size rfl
      refine ⟨_, X', uexec_append (.tmp 12) (.tmp 26) 40 rfl e0 e1 hrun, g, cap, G ++ (FW ++ []), xs ++ [.string x.key, .slice wx x.ws.length wc], rfl, ?_, ?_⟩
      · have := HGr.out.push (F := FW ++ []) hX hrep (by rw [List.append_nil]; exact nd) (fun b hb => by rw [List.append_nil] at hb; exact fr b hb) HBr.out.size hown hgrow (Nat.le_refl _) hgg
        rw [HTK.out, List.flatMap_append, List.flatMap_singleton]
        exact this
      · exact blw_grown (blw_trans HBr.out hX) hgrow (fun b hb => (owns_blk_lt hGX.row hb).1)
    · rintro vals X hK e2
      simp only [RY.putAll, Act.put, List.setIfInBounds_toArray, List.set_cons_zero, List.set_cons_succ]
      rw [e2]
      generalize vals 12 = s12
      generalize vals 13 = s13
      generalize vals 14 = s14
      generalize vals 15 = s15
      generalize vals 16 = s16
      generalize vals 17 = s17
      generalize vals 18 = s18
      generalize vals 19 = s19
      generalize vals 20 = s20
      generalize vals 21 = s21
      generalize vals 22 = s22
      generalize vals 23 = s23
      generalize vals 24 = s24
      generalize vals 25 = s25
      generalize vals 26 = s26
      obtain ⟨g, cap, G', xs', e1, hg, hb⟩ := hK
      rw [e1] at hg ⊢
      have HN := uh (And.intro hg hb)
      clear hg hb e1 e2 HGr HBr
      go_wp2
      go_roundw
      case rel => exact ⟨k + 1, G', xs', by omega, by go_num, HN.out.1, HN.out.2⟩
      case measure => simp [intOf]; omega

end Go.Proofs.Ytojcopamegmeeaa
