/-
  Sheets: lists put behind a row; the kinds in memory; blocks copied: the program.
-/
import Derived.Lib.AppendZerosOnto
import Derived.Test.YtfmhfacaemfhlaaEGf
import Derived.Test.YtfmhfacaemfhlaaUC
import Derived.Test.YtfmhfacaemfhlaaEYr
import Derived.Test.YtfmhfacaemfhlaaEPj
import Derived.Test.YtfmhfacaemfhlaaELc
import Derived.Test.YtfmhfacaemfhlaaECy
import Derived.Test.YtfmhfacaemfhlaaEYp
import Derived.Test.YtfmhfacaemfhlaaEGn
namespace Go.Proofs.Ytfmhfacaemfhlaa
open Go.RowKit Go.Deep

set_option maxHeartbeats 4000000 in
theorem copyTextsE (ws : List ByteArray) (v : Value) (W : World) (h : Raw W shTxs [.row ws.length (txD ws)] [v]) (hn : ws.length ≤ 4194304) :
    Calls Try.prog 70 #[v] W (AnsL shTxs (.row ws.length (txD ws)) W) := by
  obtain ⟨v', W', xs, hrun, hg, hb⟩ := app_copy (P := Try.prog) W.heap.size 42 42 9 9 1 16 _ Try.under_texts Try.info_text rfl (by decide) (by decide) [.s] rfl (by simp [flatB]) W (.slice none 0 0) (Or.inl rfl) (Nat.le_refl _) ws.length (txD ws) v h hn
  obtain ⟨F, r, nd, fr⟩ := hg.done
  have HD : Hid (AnsL shTxs (.row ws.length (txD ws)) W (.returned v') W') := ⟨_, F, rfl, r, nd, fr, hb⟩
  obtain ⟨va, vc, ev⟩ := h.len0
  subst ev
  obtain ⟨wx, wc, hvx⟩ := hg.shape
  subst hvx
  clear h hg r nd fr hb
  go_enter Try.func70, Try.ntmps70
  go_wp2_with (at_builtin; refine Go.Lib.wpList_append_run _ rfl _ _ 42 42 rfl _ _ rfl rfl _ W' hrun ?_)
  go_ret
  exact HD.out

set_option maxRecDepth 8000 in
set_option maxHeartbeats 8000000 in
theorem copyLineI (x : Pl.Ln) (va : Option Addr) (vc : Nat) (W : World) (hv : Raw W shTxs [.row x.ws.length (txD x.ws)] [.slice va x.ws.length vc]) (hn : x.ws.length ≤ 4194304) :
    Calls Try.prog 54 #[.agg #[.string x.key, .slice va x.ws.length vc]] W (Ans shSheetLine (lnD x) W) := by
  obtain ⟨b0, hb0⟩ : ∃ b, b = W.heap.size := ⟨_, rfl⟩
  obtain ⟨wa, hwa⟩ : ∃ wa, wa = (W.alloc (.cells #[.string x.key, .slice va x.ws.length vc] 48)).alloc (.cells #[.string { data := #[] }, .slice none 0 0] 48) := ⟨_, rfl⟩
  have HB : Hid (Below W.heap.size W wa) := by show Below _ _ _; rw [hwa]; exact blw_alloc (blw_alloc (Below.refl _ _) _) _
  have HX : Hid (WBox wa b0 48 [.string x.key, .slice va x.ws.length vc]) := by show WBox _ _ _ _; rw [hwa, hb0]; exact (WBox.new W [.string x.key, .slice va x.ws.length vc] _ _ rfl).later (blw_alloc (Below.refl _ _) _)
  have HO : Hid (OwnBlk wa (b0 + 1) 48 2) := by show OwnBlk _ _ _ _; rw [hwa]; exact OwnBlk.alloc_at3 _ _ _ _ _ rfl (by simp [hb0])
  have ZA : Hid (wa.heap.size = b0 + 2) := by show _ = _; rw [hwa]; simp [hb0]
  have HZ := uh hb0
  have HC := uh (copyTextsE x.ws (.slice va x.ws.length vc) wa (hv.later HB.out) hn)
  go_enter Try.func54, Try.ntmps54
  go_upto_region 1 with fail
  rw [← hwa, ← hb0]
  clear hwa hb0 hv hn
  have xa := HX.out.get 1 _ rfl
  have xl := HX.out.own.lt
  go_wp2_with fail
  refine HC.out.mono ?_
  rintro e w1 ⟨v1, F, rfl, r, nd, fr, hb⟩
  obtain ⟨wx, wc, hvx⟩ := r.raw.len0
  subst hvx
  have HR := uh (And.intro r (And.intro nd fr))
  have HX1 := HX.out.later hb
  have hth1 : w1.there b0 1 1 := uthere HX1.own _ _ (by simp)
  obtain ⟨y, hy⟩ : ∃ y, y = w1.setCell ⟨b0, 1, none⟩ (.slice wx x.ws.length wc) := ⟨_, rfl⟩
  have HX2 : Hid (WBox y b0 48 [.string x.key, .slice wx x.ws.length wc]) := by show WBox _ _ _ _; rw [hy]; exact HX1.set 1 _ (by simp)
  have HM : Hid (Marks (fun b => b = b0) w1 y) := by show Marks _ _ _; rw [hy]; exact Marks.sc (S := fun b => b = b0) _ rfl _ _
  have HO2 := uh (HM.out.own _ _ _ (HO.out.later hb))
  have HB2 : Hid (Below W.heap.size W y) := HM.out.below (fun b e => by rw [e, HZ.out]; exact Nat.le_refl _) (blw_trans HB.out hb)
  have HF : Hid (∀ b ∈ F, b0 + 2 ≤ b) := fun b hb => by have := HR.out.2.2 b hb; have := ZA.out; omega
  have x1 := HX1.get 1 _ rfl
  have xf := HX1.own.frozen 1
  have xz := HX1.own.lt
  clear r nd fr hb xa xl hth1
  go_upto_region 2 with fail
  rw [← hy]
  clear hy x1 xf xz HX1 HC
  have hxl := HX2.out.own.lt
  have hxa := HX2.out.at_
  have hth : y.there (b0 + 1) 0 (#[.string x.key, .slice wx x.ws.length wc] : Array Value).size := uthere HO2.out _ _ (by simp)
  obtain ⟨we, hwe⟩ : ∃ we, we = y.setCells (b0 + 1) 0 [.string x.key, .slice wx x.ws.length wc] := ⟨_, rfl⟩
  have hrt : we.rangeAt (b0 + 1) 0 [.string x.key, .slice wx x.ws.length wc] := by rw [hwe]; exact World.rangeAt_setCells_same _ _ _ _ hth
  have HMK : Hid (Marks (fun b => b = b0 + 1) y we) := by show Marks _ _ _; rw [hwe]; exact mks_scs (S := fun b => b = b0 + 1) rfl _ _ _
  have HBB : Hid (Below W.heap.size W we) := by show Below _ _ _; rw [hwe]; exact blw_scs (by have := HZ.out; omega) _ _ _ HB2.out
  go_wp2_with (first | (refine wpList_load_mid rfl 48 _ rfl b0 0 rfl [.string x.key, .slice wx x.ws.length wc] _ hxa Try.underlying48 rfl (by kernel_rfl) ?_) | (refine wpList_store_mid rfl 48 _ _ rfl (b0 + 1) 0 #[.string x.key, .slice wx x.ws.length wc] rfl rfl hth (by kernel_rfl) (by simp [Value.oneCell']) ?_))
  first | rw [← hwe] | (simp only [List.toList_toArray]; rw [← hwe])
  try simp only [Act.put]
  refine bodyPost_ret (v := .agg #[.string x.key, .slice wx x.ws.length wc]) (by simp [results, Try.results54, asAddr, run_loadVar_mid (P := Try.prog) _ _ _ 48 [.string x.key, .slice wx x.ws.length wc] _ hrt Try.underlying48 rfl (by kernel_rfl)]) rfl ?_
  have M1 := HR.out.1.keep HM.out (fun b hb e => by have := HF.out b hb; omega)
  have M2 := M1.keep HMK.out (fun b hb e => by have := HF.out b hb; omega)
  refine ⟨[.string x.key, .slice wx x.ws.length wc], F ++ [], rfl, repSheetLine_mk _ M2, by rw [List.append_nil]; exact HR.out.2.1, fun b hb => by rw [List.append_nil] at hb; have := HF.out b hb; have := HZ.out; omega, HBB.out⟩

set_option maxRecDepth 8000 in
set_option maxHeartbeats 8000000 in
/-- Room for n. -/
theorem growSheetLine (n : Nat) (W : World) (hn : n ≤ 4194304) : Calls Try.prog 68 #[.slice none 0 0, .int .i64 n] W (AnsL shLns (.row 0 []) W) := by
  have h1 : ¬ ((n : Int) < 0) := by omega
  by_cases h0 : n = 0
  · subst h0
    go_enter Try.func68, Try.ntmps68
    go_wp2
    go_ret
    exact ⟨_, [], rfl, .emp _ _ _ rfl .nil, List.nodup_nil, by simp, Below.refl _ _⟩
  obtain ⟨i0, hi0, hz, hs, hby⟩ := uinfo Try.info_line
  have hrz : ∀ ty, (Builtin.append_ #[38, 3] ty #[.slice none 0 0, .int .i64 (n : Int)]).run Try.prog W = .ok (.slice (some ⟨W.heap.size, 0, none⟩) n (grownCap W n 0 48)) (W.drew.alloc (.cells ((#[] : Array Value) ++ Builtin.zeroCells #[.string { data := #[] }, .slice none 0 0] n ++ Builtin.zeroCells #[.string { data := #[] }, .slice none 0 0] (grownCap W n 0 48 - n)) 48)) := fun ty => by
    have := Lib.run_append_grow_zeros (P := Try.prog) W 38 3 ty 48 i0 _ .i64 .i64 Try.under_lines Try.underlying3 hi0 hz none 0 0 [] (run_firstCells_none W.drew i0.size 0 0 0) n (by omega) (by rw [hs]; decide) (by omega) (by omega) (by rw [hby]; omega) (growslice_fits (by omega) (by rw [hby]; omega))
    rw [Nat.zero_add] at this
    exact this
  have hG1 : n ≤ grownCap W n 0 48 := grownCap_ge W _ _ _
  have hG2 := grownCap_le_maxLen W n 0 48 (by unfold maxLen; omega)
  obtain ⟨G, hG⟩ : ∃ G, G = grownCap W n 0 48 := ⟨_, rfl⟩
  rw [← hG] at hrz hG1 hG2
  obtain ⟨cur, hcur⟩ : ∃ cur, cur = (#[] : Array Value) ++ Builtin.zeroCells #[.string { data := #[] }, .slice none 0 0] n ++ Builtin.zeroCells #[.string { data := #[] }, .slice none 0 0] (G - n) := ⟨_, rfl⟩
  have hcs : cur.size = G * 2 := by rw [hcur, Array.size_append, Array.size_append, size_zeroCells, size_zeroCells]; simp; omega
  rw [← hcur] at hrz
  clear hcur hG
  obtain ⟨w1, hw1⟩ : ∃ w1, w1 = W.drew.alloc (.cells cur 48) := ⟨_, rfl⟩
  have HB : Hid (Below W.heap.size W w1) := by show Below _ _ _; rw [hw1]; exact blw_alloc (Below.drew (Below.refl _ _)) _
  have HO : Hid (OwnBlk w1 W.heap.size 48 (G * 2)) := by show OwnBlk _ _ _ _; rw [hw1]; exact ⟨cur, heap_alloc_new W.drew _, hcs⟩
  rw [← hw1] at hrz
  unfold maxLen at hG2
  have hg0 : (0 : Int) < (n : Int) := by omega
  clear hw1 hcs
  go_enter Try.func68, Try.ntmps68
  go_wp2_with (at_builtin; refine Lib.wpList_append_run _ rfl _ _ 38 3 rfl _ _ rfl rfl _ w1 (hrz _) ?_)
  all_goals (go_ret; exact ⟨_, [W.heap.size], rfl, .row _ _ W.heap.size 0 0 G 48 (G * 2) [] [] [] HO.out (by simp) (by simp) ⟨by omega, by omega⟩ (rA_nil _ _ _) .nil .nil, by simp, by simp, HB.out⟩)

set_option maxRecDepth 8000 in
set_option maxHeartbeats 16000000 in
theorem copyLnsI (l : List Pl.Ln) (v : Value) (W : World) (h : Raw W shLns [lnsD l] [v]) (hl : l.length ≤ 4194304) (hw : ∀ x ∈ l, x.ws.length ≤ 4194304) :
    Calls Try.prog 49 #[v, .func (.func 54) #[] #[]] W (AnsL shLns (lnsD l) W) := by
  have HL := uh h
  have HWS := uh hw
  obtain ⟨va, vc, ev⟩ := h.len0
  subst ev
  clear h hw
  obtain ⟨n, hn⟩ : ∃ n, n = l.length := ⟨_, rfl⟩
  have HN := uh hn
  have hnn : l.length = n := hn.symm
  clear hn
  rw [hnn] at hl ⊢
  clear hnn
  go_enter Try.func49, Try.ntmps49
  go_wp2_with fail
  refine (growSheetLine n W hl).mono ?_
  rintro e w0 ⟨v, F, rfl, r, nd, fr, hb⟩
  obtain ⟨va1, vc1, hva⟩ := r.raw.len0
  subst hva
  have HR := uh r
  have HND := uh (And.intro nd fr)
  have HB := uh hb
  clear r nd fr hb
  go_wp2
  go_loopw [5, 13] (fun vv i wr => ∃ (q : Nat) (F : List Nat), q ≤ n ∧ i = .int .i64 q ∧ Rep wr false shLns F [.row q ((l.take q).flatMap lnD)] [vv] ∧ F.Nodup ∧ (∀ b ∈ F, W.heap.size ≤ b) ∧ Below W.heap.size W wr) (fun _ i _ => n - (intOf i).toNat)
  case atStart => exact ⟨0, F, Nat.zero_le _, rfl, HR.out, HND.out.1, HND.out.2, HB.out⟩
  case round =>
    obtain ⟨q, F2, hq, rfl, hR, hN2, hF, hB⟩ := hrel
    have HR2 := uh hR
    have HN2 := uh (And.intro hN2 hF)
    have HB2 := uh hB
    obtain ⟨va2, vc2, hva⟩ := hR.raw.len0
    subst hva
    clear hR hN2 hF hB HR HND HB
    by_cases hlt : q < n
    rotate_left
    · obtain rfl : q = n := by omega
      have hnlt : ¬ ((q : Int) < (q : Int)) := by omega
      have HR5 : Hid (Rep wr false shLns F2 [lnsD l] [.slice va2 q vc2]) := by
        have h5 := HR2.out
        rw [List.take_of_length_le (by have := HN.out; omega), HN.out] at h5
        rw [HN.out]; exact h5
      go_wp2
      go_ret
      exact ⟨_, F2, rfl, HR5.out, HN2.out.1, HN2.out.2, HB2.out⟩
    have hqL : q < l.length := by have := HN.out; omega
    rcases lns_open (HL.out.later HB2.out) with ⟨e0, _⟩ | ⟨p, o, c, hv, hp, hml, hopen⟩
    · omega
    rw [← HN.out] at hv hml
    injection hv with g1 _ g3
    subst g1; subst g3
    unfold maxLen at hml
    obtain ⟨aw, cw, hrg, hvR⟩ := hopen q hqL
    have HXM : Hid (l.getD q Pl.lnNo ∈ l) := by
      show _ ∈ _
      have e : l.getD q Pl.lnNo = l[q] := by simp [hqL]
      rw [e]; exact List.getElem_mem hqL
    have HTK := uh (Pl.take_snocD Pl.lnNo l q hqL)
    obtain ⟨x, hx⟩ : ∃ x, x = l.getD q Pl.lnNo := ⟨_, rfl⟩
    rw [← hx] at hrg hvR HXM HTK
    clear hx hopen
    obtain ⟨y, hy⟩ : ∃ y, y = wr.alloc (.cells #[.string x.key, .slice aw x.ws.length cw] 48) := ⟨_, rfl⟩
    have hby : Below wr.heap.size wr y := by rw [hy]; exact blw_alloc (Below.refl _ _) _
    obtain ⟨z0, hz0⟩ : ∃ z, z = wr.heap.size := ⟨_, rfl⟩
    have HG : Hid (LBox y z0 [.string x.key, .slice aw x.ws.length cw]) := by show LBox _ _ _; rw [hy]; exact LBox.new _ #[.string x.key, .slice aw x.ws.length cw] _ _ hz0
    have HFl : Hid (∀ b ∈ F2, b < z0) := by rw [hz0]; exact HR2.out.lt
    have hm0 : (0 : Int) ≤ (q : Int) := by omega
    have hm3 : (q : Int) < (n : Int) := by omega
    go_upto_region 5 with (refine wpList_load_mid rfl 48 _ rfl p (o + q * 2) rfl [.string x.key, .slice aw x.ws.length cw] _ hrg Try.underlying48 rfl (by kernel_rfl) ?_)
    rw [← hy, ← hz0]
    clear hy hrg hp
    replace HR2 := uh (HR2.out.later hby)
    replace HB2 := uh (blw_trans HB2.out hby)
    have HZ0 : Hid (z0 ≤ y.heap.size ∧ W.heap.size ≤ y.heap.size) := ⟨by rw [hz0]; exact hby.size, HB2.out.size⟩
    have HC := uh (copyLineI x aw cw y (hvR.later hby) (HWS.out x HXM.out))
    clear hby hvR hz0
    have hgl := HG.out.lt
    have hga := HG.out.at_
    go_wp2_with (refine wpList_load_mid rfl 48 _ rfl z0 0 rfl [.string x.key, .slice aw x.ws.length cw] _ hga Try.underlying48 rfl (by kernel_rfl) ?_)
    refine HC.out.mono ?_
    rintro e w1 ⟨cc, FV, rfl, rep, nd, fr, hb⟩
    obtain ⟨F3, v3, rfl, rfl, r3⟩ := repSheetLine rep
    obtain ⟨a1, m1, hv3⟩ := r3.raw.len0
    subst hv3
    clear r3
    have HFV : Hid ((F3 ++ []).Nodup ∧ ∀ b ∈ F3 ++ [], y.heap.size ≤ b) := ⟨nd, fr⟩
    have HRG := uh rep
    replace HB2 := uh (blw_trans HB2.out hb)
    replace HR2 := uh (HR2.out.later hb)
    have HZ1 : Hid (y.heap.size ≤ w1.heap.size) := hb.size
    clear hgl hga HC rep nd fr hb HG
    obtain ⟨wb, hwb⟩ : ∃ wb, wb = w1.alloc (.cells #[.string x.key, .slice a1 x.ws.length m1] 48) := ⟨_, rfl⟩
    have hbb : Below w1.heap.size w1 wb := by rw [hwb]; exact blw_alloc (Below.refl _ _) _
    obtain ⟨v', x3, F4, row, hrun, rep, nd, hsub, hgr, hrow⟩ := rep_append (P := Try.prog) 38 38 48 2 40 _ Try.under_lines Try.info_line rfl (by decide) shSheetLine rfl wb (HR2.out.later hbb) HN2.out.1 (by omega) (F' := F3 ++ []) (d := lnD x) (c' := [.string x.key, .slice a1 x.ws.length m1]) ⟨w1.heap.size, 0, none⟩ (HRG.out.later hbb) HFV.out.1 (fun b hb e => by have := HFV.out.2 b hb; have := HFl.out b e; have := HZ0.out.1; omega) (by rw [hwb]; exact news_new w1 #[.string x.key, .slice a1 x.ws.length m1] 48)
    obtain ⟨wx, wc, hvx⟩ := rep.raw.len0
    subst hvx
    rw [hwb] at hrun
    have HB3 : Hid (Below W.heap.size W x3) := blw_grown (blw_trans HB2.out hbb) hgr (fun b e => HN2.out.2 b (hrow b e))
    have HS3 : Hid (∀ b ∈ F4, W.heap.size ≤ b) := fun b hb => by
      rcases hsub b hb with e | e | e
      · exact HN2.out.2 b e
      · have := HFV.out.2 b e; have := HZ0.out.2; omega
      · have := hbb.size; have := HZ1.out; have := HZ0.out; omega
    have HR4 : Hid (Rep x3 false shLns F4 [.row (q + 1) ((l.take (q + 1)).flatMap lnD)] [.slice wx (q + 1) wc]) := by
      show Rep _ _ _ _ _ _
      rw [HTK.out, List.flatMap_append, List.flatMap_singleton]
      exact rep
    have HN4 : Hid F4.Nodup := nd
    clear rep nd hsub hgr hrow hbb hwb
    go_wp2_with (at_builtin; refine Go.Lib.wpList_append_run _ rfl _ _ 38 38 rfl _ _ rfl rfl _ x3 hrun ?_)
    clear hrun HR2 HN2
    go_roundw
    case rel => exact ⟨q + 1, F4, by omega, by go_num, HR4.out, HN4.out, HS3.out, HB3.out⟩
    case measure => simp [intOf]; omega

end Go.Proofs.Ytfmhfacaemfhlaa

namespace Go.Proofs.Ytfmhfacaemfhlaa
open Go.RowKit Go.Deep

/-- A function's answer: a list that can be read. -/
def AnsR (sh : List Sh) (A : Dt) (W : World) (e : Ending) (w' : World) : Prop := ∃ v, e = .returned v ∧ Raw w' sh [A] [v] ∧ Below W.heap.size W w'
theorem filt_stepE {l : List Pl.Ln} {pr : Pl.Ln → Bool} {k : Nat} (hk : k < l.length) : (l.take (k + 1)).filter pr = if pr (l.getD k Pl.lnNo) then (l.take k).filter pr ++ [l.getD k Pl.lnNo] else (l.take k).filter pr := by
  rw [Pl.take_snocD Pl.lnNo l k hk, List.filter_append, List.filter_cons, List.filter_nil]
  split <;> simp

set_option maxRecDepth 8000 in
set_option maxHeartbeats 8000000 in
theorem thoseMeant (l : List Pl.Ln) (pr : Pl.Ln → Bool) (v : Value) (B : Nat) (w : World) (h : Raw w shLns [lnsD l] [v]) (hl : l.length ≤ 4194304)
    (hF : ∀ (x : Pl.Ln) (aw : Option Addr) (cw : Nat) (W : World), x ∈ l → Below w.heap.size w W → Raw W shTxs [.row x.ws.length (txD x.ws)] [.slice aw x.ws.length cw] → Calls Try.prog 64 #[.agg #[.string x.key, .slice aw x.ws.length cw], .pointer (some ⟨B, 0, none⟩)] W fun e w' => e = .returned (.bool (pr x)) ∧ Below W.heap.size W w') :
    Calls Try.prog 50 #[v, .func (.func 64) #[] #[.pointer (some ⟨B, 0, none⟩)]] w (AnsR shLns (lnsD (l.filter pr)) w) := by
  have HL := uh h
  have HF := uh hF
  obtain ⟨va, vc, ev⟩ := h.len0
  subst ev
  clear h hF
  obtain ⟨n, hn⟩ : ∃ n, n = l.length := ⟨_, rfl⟩
  have HN := uh hn
  have hnn : l.length = n := hn.symm
  clear hn
  rw [hnn] at hl
  rw [hnn]
  clear hnn
  go_enter Try.func50, Try.ntmps50
  go_wp2
  go_loopw [5, 10] (fun vo vi wr => ∃ (k : Nat) (xs : List Value), k ≤ n ∧ vi = .int .i64 k ∧ Sv w wr 48 shSheetLine vo ((l.take k).filter pr).length (((l.take k).filter pr).flatMap lnD) xs ∧ Below w.heap.size w wr) (fun _ vi _ => n - (intOf vi).toNat)
  case atStart => exact ⟨0, [], Nat.zero_le _, rfl, ⟨(Gr.nil w w.heap.size _ shSheetLine).row, .nil⟩, Below.refl _ _⟩
  case round =>
    obtain ⟨k, xs, hk, rfl, hG, hB⟩ := hrel
    have HGr := uh hG
    have HBr := uh hB
    obtain ⟨ua, uc, huu⟩ := hG.shape
    subst huu
    clear hG hB
    by_cases hlt : k < n
    rotate_left
    · have hks : l.take k = l := List.take_of_length_le (by have := HN.out; omega)
      rw [hks] at HGr ⊢
      have HD : Hid (AnsR shLns (lnsD (l.filter pr)) w (.returned (.slice ua (l.filter pr).length uc)) wr) := ⟨_, rfl, HGr.out.done HBr.out, HBr.out⟩
      clear hks
      go_wp2
      go_ret
      exact HD.out
    have hkL : k < l.length := by have := HN.out; omega
    rcases lns_open HL.out with ⟨e0, _⟩ | ⟨p, o, c, hv, hp, hml, hopen⟩
    · omega
    rw [← HN.out] at hv
    injection hv with g1 _ g3
    subst g1; subst g3
    obtain ⟨aw, cw, hgx, hrx⟩ := hopen k hkL
    have HST := uh (filt_stepE (pr := pr) hkL)
    have hle : ((l.take k).filter pr).length ≤ n := Nat.le_trans (List.length_filter_le _ _) (by rw [List.length_take]; omega)
    have HXM : Hid (l.getD k Pl.lnNo ∈ l) := by
      show _ ∈ _
      have e : l.getD k Pl.lnNo = l[k] := by simp [hkL]
      rw [e]; exact List.getElem_mem hkL
    obtain ⟨x, hx⟩ : ∃ x, x = l.getD k Pl.lnNo := ⟨_, rfl⟩
    rw [← hx] at hgx hrx HST HXM
    have hgr : wr.rangeAt p (o + k * 2) [.string x.key, .slice aw x.ws.length cw] := rA_later hgx hp HBr.out
    have HRX : Hid (Raw w shSheetLine (lnD x) [.string x.key, .slice aw x.ws.length cw]) := .s _ hrx
    obtain ⟨m, hm⟩ : ∃ m, m = ((l.take k).filter pr).length := ⟨_, rfl⟩
    rw [← hm] at HGr hle ⊢
    have HM := uh hm
    have hk0 : (0 : Int) ≤ (k : Int) := by omega
    have hkn : (k : Int) < (n : Int) := by omega
    obtain ⟨y, hy⟩ : ∃ y, y = wr.alloc (.cells #[.string x.key, .slice aw x.ws.length cw] 48) := ⟨_, rfl⟩
    have hby : Below wr.heap.size wr y := by rw [hy]; exact blw_alloc (Below.refl _ _) _
    obtain ⟨z0, hz0⟩ : ∃ z, z = wr.heap.size := ⟨_, rfl⟩
    have HG : Hid (LBox y z0 [.string x.key, .slice aw x.ws.length cw]) := by show LBox _ _ _; rw [hy]; exact LBox.new _ #[.string x.key, .slice aw x.ws.length cw] _ _ hz0
    have HC := uh (HF.out x aw cw y HXM.out (blw_trans HBr.out hby) (hrx.later (blw_trans HBr.out hby)))
    clear hx hgx hrx hopen hml hm
    go_upto_region 5 with (refine wpList_load_mid rfl 48 _ rfl p (o + k * 2) rfl [.string x.key, .slice aw x.ws.length cw] _ hgr Try.underlying48 rfl (by kernel_rfl) ?_)
    rw [← hy, ← hz0]
    clear hy hgr hp
    replace HGr := uh (HGr.out.later hby)
    replace HBr := uh (blw_trans HBr.out hby)
    clear hby hz0
    have hgl := HG.out.lt
    have hga := HG.out.at_
    go_wp2_with (refine wpList_load_mid rfl 48 _ rfl z0 0 rfl [.string x.key, .slice aw x.ws.length cw] _ hga Try.underlying48 rfl (by kernel_rfl) ?_)
    refine HC.out.mono ?_
    rintro e w1 ⟨rfl, hb1⟩
    replace HGr := uh (HGr.out.later hb1)
    replace HBr := uh (blw_trans HBr.out hb1)
    replace HG := uh (HG.out.later hb1)
    clear hb1 hgl hga HC
    cases hq : pr x
    · have HE : Hid ((l.take (k + 1)).filter pr = (l.take k).filter pr) := by show _ = _; rw [HST.out, hq]; rfl
      clear hq
      go_wp2
      go_roundw
      case rel => exact ⟨k + 1, xs, by omega, by go_num, by rw [HE.out, ← HM.out]; exact HGr.out, HBr.out⟩
      case measure => simp [intOf]; omega
    · have HE : Hid ((l.take (k + 1)).filter pr = (l.take k).filter pr ++ [x]) := by show _ = _; rw [HST.out, hq]; rfl
      clear hq
      have hgl := HG.out.lt
      have hga := HG.out.at_
      go_wp2_with first | refine wpList_load_mid rfl 48 _ rfl z0 0 rfl [.string x.key, .slice aw x.ws.length cw] _ hga Try.underlying48 rfl (by kernel_rfl) ?_ | (refine sv_push (wa := w) rfl _ _ rfl (.slice ua m uc) m _ xs rfl (HGr.out.later (blw_alloc (Below.refl _ _) _)) w1.heap.size 1 (lnD x) [.string x.key, .slice aw x.ws.length cw] rfl HRX.out (World.news_of_block (cs := #[.string x.key, .slice aw x.ws.length cw]) (heap_alloc_new w1 _)) (by omega) (Nat.le_trans HBr.out.size (by simp)) ?_; intro gg1 cc1 w2 q1 q2; have HQ := uh (And.intro q1 (HGr.out.later (blw_alloc (Below.refl _ _) _) |>.below (blw_alloc HBr.out _) q2)); clear q1 q2)
      go_roundw
      case rel => exact ⟨k + 1, _, by omega, by go_num, by rw [HE.out, List.length_append, ← HM.out, List.flatMap_append, List.flatMap_singleton]; exact HQ.out.1, HQ.out.2⟩
      case measure => simp [intOf]; omega

set_option maxHeartbeats 1000000 in
/-- The closure: is it a line of this key? -/
theorem meantIsI (x key : ByteArray) (v1 : Value) (B : Nat) (w : World) (hB : w.cell? ⟨B, 0, none⟩ = some (.string key)) (hlt : B < w.heap.size) :
    Calls Try.prog 64 #[.agg #[.string x, v1], .pointer (some ⟨B, 0, none⟩)] w fun e w' => e = .returned (.bool (x.toList == key.toList)) ∧ Below w.heap.size w w' := by
  have hne : B ≠ w.heap.size := by omega
  go_enter Try.func64, Try.ntmps64
  go_wp2
  go_ret
  refine ⟨rfl, ?_⟩
  repeat (first | exact Below.refl _ _ | refine blw_alloc ?_ _ | refine Below.drew ?_)

set_option maxRecDepth 8000 in
set_option maxHeartbeats 8000000 in
theorem meantI (ru : Pl.Ru) (a1 a3 : Option Addr) (c1 c3 : Nat) (l : List Pl.Ln) (v : Value) (w : World) (h : Raw w shLns [lnsD l] [v]) (hl : l.length ≤ 4194304) (hw : ∀ x ∈ l, x.ws.length ≤ 4194304) (hd : Raw w shTxs [.row ru.dflt.length (txD ru.dflt)] [.slice a3 ru.dflt.length c3]) (hdl : ru.dflt.length ≤ 4194304) :
    Calls Try.prog 43 #[.agg #[.string ru.key, .slice a1 ru.args.length c1, .bool ru.many, .slice a3 ru.dflt.length c3], v] w (AnsL shLns (lnsD (Pl.meant ru l)) w) := by
  have HWS := uh hw
  have HDL := uh hdl
  obtain ⟨wa, hwa⟩ : ∃ wa, wa = w.alloc (.cells #[.string ru.key, .slice a1 ru.args.length c1, .bool ru.many, .slice a3 ru.dflt.length c3] 44) := ⟨_, rfl⟩
  obtain ⟨b0, hb0⟩ : ∃ b0, b0 = w.heap.size := ⟨_, rfl⟩
  have HB : Hid (Below w.heap.size w wa) := by show Below _ _ _; rw [hwa]; exact blw_alloc (Below.refl _ _) _
  have HK : Hid (LBox wa b0 [.string ru.key, .slice a1 ru.args.length c1, .bool ru.many, .slice a3 ru.dflt.length c3]) := by show LBox _ _ _; rw [hwa, hb0]; exact LBox.new w #[.string ru.key, .slice a1 ru.args.length c1, .bool ru.many, .slice a3 ru.dflt.length c3] _ _ rfl
  have HD := uh (hd.later HB.out)
  have HC := uh (thoseMeant l (fun x => x.key.toList == ru.key.toList) v b0 wa (h.later HB.out) hl (fun x aw cw W _ hb _ => meantIsI x.key ru.key _ b0 W ((HK.out.later hb).get 0 _ rfl) (HK.out.later hb).lt))
  have HLL : Hid ((Pl.linesOf l ru.key).length ≤ 4194304) := Nat.le_trans (Pl.linesOf_len _ _) hl
  have HLW : Hid (∀ x ∈ Pl.linesOf l ru.key, x.ws.length ≤ 4194304) := fun x hx => HWS.out x (List.mem_filter.1 hx).1
  have HME : Hid (Pl.meant ru l = if decide ((Pl.linesOf l ru.key).length = 0) && !ru.many then [⟨ru.key, ru.dflt⟩] else Pl.linesOf l ru.key) := rfl
  obtain ⟨va, vc, ev⟩ := h.len0
  subst ev
  clear h hl hw hd hdl HWS
  go_enter Try.func43, Try.ntmps43
  go_upto_region 1 with fail
  rw [← hwa, ← hb0]
  clear hwa hb0
  go_wp2_with fail
  refine HC.out.mono ?_
  rintro e w1 ⟨v1, rfl, hr, hb⟩
  obtain ⟨out, hout⟩ : ∃ out, out = Pl.linesOf l ru.key := ⟨_, rfl⟩
  have hr1 : Raw w1 shLns [lnsD out] [v1] := by rw [hout]; exact hr
  rw [← hout] at HLL HLW HME
  obtain ⟨va1, vc1, ev1⟩ := hr1.len0
  subst ev1
  have HR := uh hr1
  replace HB := uh (blw_trans HB.out hb)
  replace HK := uh (HK.out.later hb)
  replace HD := uh (HD.out.later hb)
  clear hr hr1 hb hout HC
  have x0 := HK.out.get 0 _ rfl
  have x2 := HK.out.get 2 _ rfl
  have x3 := HK.out.get 3 _ rfl
  have xl := HK.out.lt
  have HC2 := uh (copyLnsI out (.slice va1 out.length vc1) w1 HR.out HLL.out HLW.out)
  obtain ⟨m, hm0⟩ : ∃ m, m = out.length := ⟨_, rfl⟩
  have HM := uh hm0
  rw [← hm0] at HC2
  rw [← hm0]
  clear hm0 HR
  by_cases h0 : m = 0
  rotate_left
  · have hi0 : ¬ ((m : Int) = 0) := by omega
    have HE : Hid (Pl.meant ru l = out) := by show _ = _; rw [HME.out, ← HM.out]; simp [h0]
    go_wp2_with fail
    refine HC2.out.mono ?_
    rintro e w2 ⟨v2, F, rfl, r, nd, fr, hb⟩
    have HX : Hid (AnsL shLns (lnsD (Pl.meant ru l)) w (.returned v2) w2) := by rw [HE.out]; exact ⟨_, F, rfl, r, nd, fun b hb' => Nat.le_trans HB.out.size (fr b hb'), blw_trans HB.out hb⟩
    clear r nd fr hb
    go_wp2
    go_ret
    exact HX.out
  subst h0
  cases hm : ru.many
  rotate_left
  · have HE : Hid (Pl.meant ru l = out) := by show _ = _; rw [HME.out, hm]; simp
    rw [hm] at x2
    go_wp2_with fail
    refine HC2.out.mono ?_
    rintro e w2 ⟨v2, F, rfl, r, nd, fr, hb⟩
    have HX : Hid (AnsL shLns (lnsD (Pl.meant ru l)) w (.returned v2) w2) := by rw [HE.out]; exact ⟨_, F, rfl, r, nd, fun b hb' => Nat.le_trans HB.out.size (fr b hb'), blw_trans HB.out hb⟩
    clear r nd fr hb
    go_wp2
    go_ret
    exact HX.out
  rw [hm] at x2
  have HE : Hid (Pl.meant ru l = [⟨ru.key, ru.dflt⟩]) := by show _ = _; rw [HME.out, hm, ← HM.out]; simp
  obtain ⟨w3, hw3⟩ : ∃ w3, w3 = w1.alloc (.cells #[.string ru.key, .slice a3 ru.dflt.length c3] 48) := ⟨_, rfl⟩
  have hb3 : Below w1.heap.size w1 w3 := by rw [hw3]; exact blw_alloc (Below.refl _ _) _
  have HR3 : Hid (Raw w3 shLns [lnsD [⟨ru.key, ru.dflt⟩]] [.slice (some ⟨w1.heap.size, 0, none⟩) 1 1]) := by
    refine .row _ _ w1.heap.size 0 1 1 [.string ru.key, .slice a3 ru.dflt.length c3] _ (by rw [hw3]; simp) ⟨by decide, Nat.le_refl _⟩ ?_ ?_ .nil
    · rw [hw3]; exact (LBox.new w1 #[.string ru.key, .slice a3 ru.dflt.length c3] _ _ rfl).at_
    · exact .s _ (HD.out.later hb3)
  clear HC2
  have HC2 := uh (copyLnsI [⟨ru.key, ru.dflt⟩] (.slice (some ⟨w1.heap.size, 0, none⟩) 1 1) w3 HR3.out (by simp) (by intro x hx; rw [List.mem_singleton] at hx; subst hx; exact HDL.out))
  go_upto_region 4 with fail
  rw [← hw3]
  clear hw3
  replace HB := uh (blw_trans HB.out hb3)
  clear hb3
  go_wp2_with fail
  refine HC2.out.mono ?_
  rintro e w2 ⟨v2, F, rfl, r, nd, fr, hb⟩
  have HX : Hid (AnsL shLns (lnsD (Pl.meant ru l)) w (.returned v2) w2) := by rw [HE.out]; exact ⟨_, F, rfl, r, nd, fun b hb' => Nat.le_trans HB.out.size (fr b hb'), blw_trans HB.out hb⟩
  clear r nd fr hb
  go_wp2
  go_ret
  exact HX.out

end Go.Proofs.Ytfmhfacaemfhlaa

namespace Go.Proofs.Ytfmhfacaemfhlaa
open Go.RowKit Go.Deep

theorem look_kind2 {W : World} {mb : Nat} {vt vb vs : Value} (hb : W.heap[mb]? = some (.map #[⟨.string { data := #[116, 101, 97, 109] }, .agg #[vt], 0⟩, ⟨.string { data := #[98, 101, 114, 116, 104] }, .agg #[vb], 1⟩, ⟨.string { data := #[115, 101, 114, 118, 105, 99, 101] }, .agg #[vs], 2⟩] 3)) (kind : ByteArray) :
    (Instr.lookup 69 (.map (some mb)) (.string kind) true).run Try.prog W = .ok (.tuple #[.agg #[kindV kind vt vb vs], .bool (!decide ((Pl.rulesOf kind).length = 0))]) W := by
  have hz : (zeroValue 73).run Try.prog W = .ok (.agg #[.slice none 0 0]) W := by kernel_rfl
  have e1 := beq_text kind [116, 101, 97, 109] { data := #[116, 101, 97, 109] } (by decide +kernel)
  have e2 := beq_text kind [98, 101, 114, 116, 104] { data := #[98, 101, 114, 116, 104] } (by decide +kernel)
  have e3 := beq_text kind [115, 101, 114, 118, 105, 99, 101] { data := #[115, 101, 114, 118, 105, 99, 101] } (by decide +kernel)
  obtain ⟨r, hr, hv, hk⟩ : ∃ r, Instr.findNow .string (.string kind) [⟨.string { data := #[116, 101, 97, 109] }, .agg #[vt], 0⟩, ⟨.string { data := #[98, 101, 114, 116, 104] }, .agg #[vb], 1⟩, ⟨.string { data := #[115, 101, 114, 118, 105, 99, 101] }, .agg #[vs], 2⟩] 0 = some r ∧ (match r with | some (_, v) => v | none => .agg #[.slice none 0 0]) = .agg #[kindV kind vt vb vs] ∧ r.isSome = !decide ((Pl.rulesOf kind).length = 0) := by
    unfold Pl.rulesOf
    simp only [Instr.findNow, Instr.sameNow, e1, e2, e3, kindV]
    cases (kind.toList == [116, 101, 97, 109]) <;> cases (kind.toList == [98, 101, 114, 116, 104]) <;> cases (kind.toList == [115, 101, 114, 118, 105, 99, 101]) <;> exact ⟨_, rfl, rfl, by first | rfl | (simp only [Option.isSome]; decide +kernel)⟩
  have hf := find_text W kind _ r hr
  rw [← hk]
  cases r with
  | none =>
    simp only at hv
    simp [Instr.lookup, run_underlying Try.und_kinds, MapKept.run_getObj_map hb, check_text, hf, hz, Result.andThen, hv]
  | some p =>
    obtain ⟨j, v⟩ := p
    simp only at hv
    subst hv
    simp [Instr.lookup, run_underlying Try.und_kinds, MapKept.run_getObj_map hb, check_text, hf, Result.andThen]

set_option maxRecDepth 8000 in
set_option maxHeartbeats 16000000 in
theorem sheetValidI (s : List Pl.Bl) (v : Value) (w : World) (h : Raw w shBls [blsD s] [v]) (hz : okTx s) (_ : wtL [blsD s] ≤ 1048576) :
    Calls Try.prog 39 #[.agg #[v]] w fun e w' => e = .returned (.bool (Pl.validS s)) ∧ Below w.heap.size w w' := by
  have HL := uh h
  have HZ := uh hz
  obtain ⟨va, vc, ev⟩ := h.len0
  subst ev
  obtain ⟨R, hR⟩ : ∃ R, R = Pl.validS s := ⟨_, rfl⟩
  have HR : Hid (R = (decide (s.length ≤ 60) && (ascBl s && (List.range s.length).all fun i => blkP (s.getD i Pl.blNo)))) := hR.trans (valid_eq s)
  rw [← hR]
  clear h hz hR
  obtain ⟨wa, hwa⟩ : ∃ wa, wa = w.alloc (.cells #[.slice va s.length vc] 28) := ⟨_, rfl⟩
  obtain ⟨b0, hb0⟩ : ∃ b0, b0 = w.heap.size := ⟨_, rfl⟩
  have HB : Hid (Below w.heap.size w wa) := by show Below _ _ _; rw [hwa]; exact blw_alloc (Below.refl _ _) _
  have HK0 : Hid (LBox wa b0 [.slice va s.length vc]) := by show LBox _ _ _; rw [hwa, hb0]; exact LBox.new w #[.slice va s.length vc] _ _ rfl
  have z0 := HK0.out.get 0 _ rfl
  have zl := HK0.out.lt
  have HAS := uh (ascBlI s (.slice va s.length vc) wa (HL.out.later HB.out))
  go_enter Try.func39, Try.ntmps39
  go_upto_region 1 with fail
  rw [← hwa, ← hb0]
  clear hwa hb0
  by_cases h60 : s.length ≤ 60
  rotate_left
  · have d0 : ((60 : Int) < (s.length : Int)) := by omega
    have HE : Hid (R = false) := by show R = _; rw [HR.out, decide_eq_false h60]; rfl
    go_wp2
    go_ret
    exact ⟨Pl.ret_bool HE.out.symm, HB.out⟩
  have d0 : ¬ ((60 : Int) < (s.length : Int)) := by omega
  replace HR : Hid (R = (ascBl s && (List.range s.length).all fun i => blkP (s.getD i Pl.blNo))) := by show R = _; rw [HR.out, decide_eq_true h60, Bool.true_and]
  obtain ⟨ab, hab⟩ : ∃ ab, ab = ascBl s := ⟨_, rfl⟩
  rw [← hab] at HAS HR
  clear hab
  cases ab
  · have HE : Hid (R = false) := HR.out
    go_wp2_with (go_at_call 59; refine HAS.out.mono ?_; rintro e w2 ⟨rfl, hb2⟩)
    go_ret
    exact ⟨Pl.ret_bool HE.out.symm, blw_trans HB.out hb2⟩
  replace HR : Hid (R = (List.range s.length).all fun i => blkP (s.getD i Pl.blNo)) := HR.out
  have HC := uh (fun W : World => sheetKindsI W)
  go_wp2_with fail
  refine HAS.out.mono ?_
  rintro e w2 ⟨rfl, hb2⟩
  replace HB := uh (blw_trans HB.out hb2)
  replace HK0 := uh (HK0.out.later hb2)
  clear z0 zl hb2 HAS
  go_wp2_with fail
  refine (HC.out _).mono ?_
  rintro e w1 ⟨mb, w0, vt, vb, vs, rfl, hm, h0, k1, k2, k3, hb⟩
  have HKD : Hid (∀ kind, ∃ ra rc, kindV kind vt vb vs = .slice ra (Pl.rulesOf kind).length rc ∧ Raw w1 [.row 44 shSheetRule] [rulesD (Pl.rulesOf kind)] [.slice ra (Pl.rulesOf kind).length rc]) := fun kind => by
    obtain ⟨v, F, he, hrep, _⟩ := kind_ans (w := w2) kind h0 k1 k2 k3 hb
    injection he with he
    obtain ⟨ra, rc, hv⟩ := hrep.raw.len0
    subst hv
    exact ⟨ra, rc, he, hrep.raw⟩
  have HM := uh hm
  have hml : mb < w1.heap.size := by
    by_cases q : mb < w1.heap.size
    · exact q
    · rw [Array.getElem?_eq_none (by omega)] at hm; cases hm
  have HML := uh hml
  replace HB := uh (blw_trans HB.out hb)
  replace HK0 := uh (HK0.out.later hb)
  have z0 := HK0.out.get 0 _ rfl
  have zl := HK0.out.lt
  clear hm h0 k1 k2 k3 hb hml HC
  go_wp2_with fail
  go_loopw [22] (fun i wr => ∃ k : Nat, k ≤ s.length ∧ i = .int .i64 k ∧ (List.range k).all (fun i => blkP (s.getD i Pl.blNo)) = true ∧ Below w1.heap.size w1 wr) (fun i _ => s.length - (intOf i).toNat)
  case atStart => exact ⟨0, Nat.zero_le _, rfl, rfl, Below.refl _ _⟩
  case round =>
    obtain ⟨k, hk, rfl, hall, hW⟩ := hrel
    have HALL := uh hall
    have HW := uh hW
    have HWW := uh (blw_trans HB.out hW)
    clear hall hW z0 zl
    by_cases hlt : k < s.length
    rotate_left
    · obtain rfl : k = s.length := by omega
      have HE : Hid (R = true) := by show R = _; rw [HR.out]; exact HALL.out
      go_wp2
      go_ret
      exact ⟨Pl.ret_bool HE.out.symm, HWW.out⟩
    rcases bls_open (HL.out.later HWW.out) with ⟨e0, _⟩ | ⟨p, o, c', hv, hp, _, hopen⟩
    · omega
    injection hv with g1 _ g3
    subst g1; subst g3
    obtain ⟨ax, cx, hg, hrx⟩ := hopen k hlt
    obtain ⟨x, hx⟩ : ∃ x, x = s.getD k Pl.blNo := ⟨_, rfl⟩
    rw [← hx] at hg hrx
    have x0 : wr.cell? ⟨p, o + k * 3, none⟩ = some (.string x.kind) := rA_get hg 0 _ rfl
    have x1 : wr.cell? ⟨p, o + k * 3 + 1, none⟩ = some (.string x.name) := rA_get hg 1 _ rfl
    have x2 : wr.cell? ⟨p, o + k * 3 + 2, none⟩ = some (.slice ax x.lines.length cx) := rA_get hg 2 _ rfl
    have hk0 : (0 : Int) ≤ (k : Int) := by omega
    have hkn : (k : Int) < (s.length : Int) := by omega
    have HSZ : Hid (x.name.size ≤ maxLen ∧ ∀ y ∈ x.lines, ∀ t ∈ y.ws, t.size ≤ maxLen) := by
      have e : s.getD k Pl.blNo = s[k] := by simp [hlt]
      rw [hx, e]; exact HZ.out _ (List.getElem_mem hlt)
    have HXL := uh hrx
    have HBAD : Hid (blkP x = false → R = false) := fun hq => by rw [HR.out]; exact Pl.rall_false hlt (by rw [← hx]; exact hq)
    have HGOOD : Hid (blkP x = true → (List.range (k + 1)).all (fun i => blkP (s.getD i Pl.blNo)) = true) := fun hq => Pl.rall_step HALL.out (by rw [← hx]; exact hq)
    have HBP : Hid (blkP x = (!decide ((Pl.rulesOf x.kind).length = 0) && Pl.nameOk20 x.name && holdsP (Pl.rulesOf x.kind) x.lines)) := rfl
    clear hopen hg hrx hx
    obtain ⟨ra, rc, hkv, hrr⟩ := HKD.out x.kind
    have HRR := uh (hrr.later HW.out)
    clear hrr
    obtain ⟨wb, hwb⟩ : ∃ wb, wb = wr.alloc (.cells #[.string x.kind, .string x.name, .slice ax x.lines.length cx] 40) := ⟨_, rfl⟩
    obtain ⟨bl, hbl⟩ : ∃ bl, bl = wr.heap.size := ⟨_, rfl⟩
    have HWB : Hid (Below wr.heap.size wr wb) := by show Below _ _ _; rw [hwb]; exact blw_alloc (Below.refl _ _) _
    have HLB : Hid (LBox wb bl [.string x.kind, .string x.name, .slice ax x.lines.length cx]) := by show LBox _ _ _; rw [hwb, hbl]; exact LBox.new wr #[.string x.kind, .string x.name, .slice ax x.lines.length cx] _ _ rfl
    go_upto_region 7 with fail
    rw [← hwb, ← hbl]
    clear hwb hbl x0 x1 x2
    have y0 := HLB.out.get 0 _ rfl
    have yl := HLB.out.lt
    have hlk := look_kind2 (((HWB.out.block _ (Nat.lt_of_lt_of_le HML.out HW.out.size)).trans (HW.out.block _ HML.out)).trans HM.out) x.kind
    rw [hkv] at hlk
    obtain ⟨l, hl0⟩ : ∃ l, l = Pl.rulesOf x.kind := ⟨_, rfl⟩
    have HLN : Hid (l.length ≤ 100) := by rw [hl0]; exact Pl.rules_len _
    have HAR : Hid (∀ r ∈ l, ∀ z ∈ r.args, 1 ≤ z ∧ z ≤ 6) := by rw [hl0]; exact Pl.rules_args _
    rw [← hl0] at hlk HRR HBP
    obtain ⟨kn, hkn0⟩ : ∃ kn, kn = !decide (l.length = 0) := ⟨_, rfl⟩
    rw [← hkn0] at hlk HBP
    clear hl0 hkv hkn0
    obtain ⟨w3, hw3⟩ : ∃ w3, w3 = wb.alloc (.cells #[.slice ra l.length rc] 73) := ⟨_, rfl⟩
    obtain ⟨bk, hbk⟩ : ∃ bk, bk = wb.heap.size := ⟨_, rfl⟩
    have HB3 : Hid (Below wb.heap.size wb w3) := by show Below _ _ _; rw [hw3]; exact blw_alloc (Below.refl _ _) _
    have HKB : Hid (LBox w3 bk [.slice ra l.length rc]) := by show LBox _ _ _; rw [hw3, hbk]; exact LBox.new wb #[.slice ra l.length rc] _ _ rfl
    have HB03 := uh (blw_trans HWB.out HB3.out)
    have HLB3 := uh (HLB.out.later HB3.out)
    go_upto_region 8 with fail
    rw [← hw3, ← hbk]
    clear hw3 hbk y0 yl hlk
    have y1 := HLB3.out.get 1 _ rfl
    have y2 := HLB3.out.get 2 _ rfl
    have yl := HLB3.out.lt
    have q0 := HKB.out.get 0 _ rfl
    have ql := HKB.out.lt
    have HWX : Hid (Below w.heap.size w w3) := blw_trans HWW.out HB03.out
    have HNM := uh (fun W => sheetIsNameI x.name W HSZ.out.1)
    have HHO := uh (holdsI l ra rc x.lines (.slice ax x.lines.length cx) w3 HLN.out HAR.out (HRR.out.later HB03.out) (HXL.out.later HB03.out) HSZ.out.2)
    obtain ⟨nm, hnm⟩ : ∃ nm, nm = Pl.nameOk20 x.name := ⟨_, rfl⟩
    rw [← hnm] at HNM HBP
    obtain ⟨ho, hho⟩ : ∃ ho, ho = holdsP l x.lines := ⟨_, rfl⟩
    rw [← hho] at HHO HBP
    clear hnm hho
    cases kn
    · have HE : Hid (R = false) := HBAD.out HBP.out
      go_wp2
      go_ret
      exact ⟨Pl.ret_bool HE.out.symm, HWX.out⟩
    · cases nm
      · have HE : Hid (R = false) := HBAD.out HBP.out
        go_wp2_with (go_at_call 61; refine (HNM.out _).mono ?_; rintro e w' ⟨rfl, rfl⟩)
        go_ret
        exact ⟨Pl.ret_bool HE.out.symm, HWX.out⟩
      · cases ho
        · have HE : Hid (R = false) := HBAD.out HBP.out
          go_wp2_with (first | (go_at_call 61; refine (HNM.out _).mono ?_; rintro e w' ⟨rfl, rfl⟩) | (go_at_call 62; refine HHO.out.mono ?_; rintro e w' ⟨rfl, hb9⟩))
          go_ret
          exact ⟨Pl.ret_bool HE.out.symm, blw_trans HWX.out hb9⟩
        · have HE := uh (HGOOD.out HBP.out)
          go_wp2_with (first | (go_at_call 61; refine (HNM.out _).mono ?_; rintro e w' ⟨rfl, rfl⟩) | (go_at_call 62; refine HHO.out.mono ?_; rintro e w' ⟨rfl, hb9⟩))
          go_roundw
          case rel => exact ⟨k + 1, by omega, by go_num, HE.out, blw_trans HW.out (blw_trans HB03.out hb9)⟩
          case measure => simp [intOf]; omega

end Go.Proofs.Ytfmhfacaemfhlaa

namespace Go.Proofs.Ytfmhfacaemfhlaa
open Go.RowKit Go.Deep

/-- A list put behind a row of one's own. -/
theorem gr_app {P : Program} (lo : Nat) (t ty e : TypeId) (size bytes : Nat) (z : Value) (ht : P.underlying t = some (.slice e)) (hinf : (P.info? e).map (fun i => (i.zero, i.size, i.bytes)) = some (some z, size, bytes)) (hzs : z.cells.size = size) (hs0 : 0 < size) (hb : bytes ≤ 1000) (sh : List Sh) (hk : sh.length = size)
    {W : World} {v : Value} {n : Nat} {G : List Nat} {es : List Dt} {xs : List Value} (h : Gr W lo e sh v n G es xs) {F : List Nat} {m : Nat} {ds : List Dt} {s : Value} (hr : Rep W false [.row e sh] F [.row m ds] [s]) (nd : F.Nodup) (hF : ∀ b ∈ F, lo ≤ b ∧ b ∉ G ∧ v.ownBlock ≠ some b) (hn : n + m ≤ 1000000000) (hlo : lo ≤ W.heap.size) :
    ∃ u W' G' xs', (Builtin.append_ #[t, t] ty #[v, s]).run P W = .ok u W' ∧ Gr W' lo e sh u (n + m) G' (es ++ ds) xs' ∧ W.grownBy W' v.ownBlock := by
  obtain ⟨i, hi, ei⟩ := Option.map_eq_some_iff.1 hinf
  simp only [Prod.mk.injEq] at ei
  obtain ⟨hz, hs, hby⟩ := ei
  have h63 : n + m ≤ maxLen := by unfold maxLen; omega
  have hbb : (n + m) * bytes ≤ 140737488355328 := Nat.le_trans (Nat.mul_le_mul hn hb) (by omega)
  subst hk
  have key : ∀ (u : Value) (W' : World) (G2 : List Nat) (vs : List Value), Rep W false (reps m sh) G2 ds vs → (∀ b ∈ G2, b ∈ F) → G2.Nodup → W'.ownsRow lo e sh.length u (n + m) (xs ++ vs) → W.grownBy W' v.ownBlock → (u.ownBlock = v.ownBlock ∨ u.ownBlock = some W.heap.size) → Gr W' lo e sh u (n + m) (G ++ G2) (es ++ ds) (xs ++ vs) := by
    intro u W' G2 vs hR hsub hnd2 hown hg hu
    refine ⟨hown, ?_, ?_, ?_⟩
    · rw [reps_add]
      exact (h.rep.grown hg fun b hb => (h.fr b hb).2).app (hR.grown hg fun b hb => (hF b (hsub b hb)).2.2)
    · rw [List.nodup_append]
      exact ⟨h.nd, hnd2, fun a ha b hb e => (hF b (hsub b hb)).2.1 (e ▸ ha)⟩
    · intro b hb
      rcases List.mem_append.1 hb with hb | hb
      · refine ⟨(h.fr b hb).1, fun e => ?_⟩
        rcases hu with q | q
        · exact (h.fr b hb).2 (q ▸ e)
        · rw [q] at e; injection e with e; have := h.rep.lt b hb; omega
      · refine ⟨(hF b (hsub b hb)).1, fun e => ?_⟩
        rcases hu with q | q
        · exact (hF b (hsub b hb)).2.2 (q ▸ e)
        · rw [q] at e; injection e with e; have := hR.lt b hb; omega
  rcases hr.slice with ⟨_, rfl, rfl, rfl, a, rfl⟩ | ⟨p, o, c, u, mm, G2, rfl, rfl, hnc, ho, hle, _, vs, hrg, hR⟩
  · cases a with
    | none =>
      have hrun := run_append_owned_none (P := P) (w := W) lo t ty e i sh.length ht hi v n xs h.row
      refine ⟨v, W, G ++ [], xs ++ [], hrun, key v W [] [] (by rw [reps_zero]; exact .nil) (by simp) List.nodup_nil (by rw [List.append_nil]; exact h.row) ⟨rfl, rfl, rfl, Nat.le_refl _, fun _ _ _ => rfl⟩ (Or.inl rfl), ⟨rfl, rfl, rfl, Nat.le_refl _, fun _ _ _ => rfl⟩⟩
    | some ad =>
      obtain ⟨u, W', hrun, h2, h3, _, h5⟩ := run_append_own_at (P := P) W lo t ty e i z sh.length bytes ht hi hz hs hby hzs hs0 v n xs h.row ad 0 0 [] (by simp) (fun j u h => by simp at h) (fun u h => by cases h) h63 hbb hlo
      exact ⟨u, W', _, _, hrun, key u W' [] [] (by rw [reps_zero]; exact .nil) (by simp) List.nodup_nil h2 h3 h5, h3⟩
  · rw [List.nodup_cons] at nd
    obtain ⟨u2, W', hrun, h2, h3, _, h5⟩ := run_append_own_at (P := P) W lo t ty e i z sh.length bytes ht hi hz hs hby hzs hs0 v n xs h.row ⟨p, o, none⟩ m c vs (by rw [hR.len, reps_len]) (fun j u h => by rw [Addr.add_mid]; exact hrg j u h) (fun u h => hR.raw.one u h) h63 hbb hlo
    exact ⟨u2, W', _, _, hrun, key u2 W' G2 vs hR (fun b hb => by simp [hb]) nd.2 h2 h3 h5, h3⟩

/-- The kinds of sheets in memory. -/
structure Kn (W : World) (mb : Nat) (vt vb vs : Value) : Prop where
  map : W.heap[mb]? = some (.map #[⟨.string { data := #[116, 101, 97, 109] }, .agg #[vt], 0⟩, ⟨.string { data := #[98, 101, 114, 116, 104] }, .agg #[vb], 1⟩, ⟨.string { data := #[115, 101, 114, 118, 105, 99, 101] }, .agg #[vs], 2⟩] 3)
  rules : ∀ kind, ∃ ra rc, kindV kind vt vb vs = .slice ra (Pl.rulesOf kind).length rc ∧ Raw W [.row 44 shSheetRule] [rulesD (Pl.rulesOf kind)] [.slice ra (Pl.rulesOf kind).length rc]
theorem Kn.lt {W : World} {mb : Nat} {vt vb vs : Value} (h : Kn W mb vt vb vs) : mb < W.heap.size := (Array.getElem?_eq_some_iff.1 h.map).1
theorem Kn.later {W W' : World} {mb : Nat} {vt vb vs : Value} (h : Kn W mb vt vb vs) (hb : Below W.heap.size W W') : Kn W' mb vt vb vs :=
  ⟨(hb.block _ h.lt).trans h.map, fun kind => by obtain ⟨ra, rc, e, hr⟩ := h.rules kind; exact ⟨ra, rc, e, hr.later hb⟩⟩
/-- The kinds, as they are told. -/
def KnA (w : World) (e : Ending) (w' : World) : Prop := ∃ mb vt vb vs, e = .returned (.map (some mb)) ∧ Kn w' mb vt vb vs ∧ Below w.heap.size w w'
theorem kindsK (w : World) : Calls Try.prog 40 #[] w (KnA w) := by
  refine (sheetKindsI w).mono ?_
  rintro e w' ⟨mb, w0, vt, vb, vs, rfl, hm, h0, k1, k2, k3, hb⟩
  refine ⟨mb, vt, vb, vs, rfl, ⟨hm, fun kind => ?_⟩, hb⟩
  obtain ⟨v, F, he, hrep, _⟩ := kind_ans (w := w) kind h0 k1 k2 k3 hb
  injection he with he
  obtain ⟨ra, rc, hv⟩ := hrep.raw.len0
  subst hv
  exact ⟨ra, rc, he, hrep.raw⟩
theorem Kn.look {W : World} {mb : Nat} {vt vb vs : Value} (h : Kn W mb vt vb vs) (kind : ByteArray) : ∃ ra rc, (Instr.lookup 69 (.map (some mb)) (.string kind) false).run Try.prog W = .ok (.agg #[.slice ra (Pl.rulesOf kind).length rc]) W ∧ Raw W [.row 44 shSheetRule] [rulesD (Pl.rulesOf kind)] [.slice ra (Pl.rulesOf kind).length rc] := by
  obtain ⟨ra, rc, e, hr⟩ := h.rules kind
  have := look_kind h.map kind
  rw [e] at this
  exact ⟨ra, rc, this, hr⟩

set_option maxRecDepth 8000 in
set_option maxHeartbeats 8000000 in
/-- Room for n. -/
theorem growSheetBlock (n : Nat) (W : World) (hn : n ≤ 4194304) : Calls Try.prog 63 #[.slice none 0 0, .int .i64 n] W (AnsL shBls (.row 0 []) W) := by
  have h1 : ¬ ((n : Int) < 0) := by omega
  by_cases h0 : n = 0
  · subst h0
    go_enter Try.func63, Try.ntmps63
    go_wp2
    go_ret
    exact ⟨_, [], rfl, .emp _ _ _ rfl .nil, List.nodup_nil, by simp, Below.refl _ _⟩
  obtain ⟨i0, hi0, hz, hs, hby⟩ := uinfo Try.info_block
  have hrz : ∀ ty, (Builtin.append_ #[26, 3] ty #[.slice none 0 0, .int .i64 (n : Int)]).run Try.prog W = .ok (.slice (some ⟨W.heap.size, 0, none⟩) n (grownCap W n 0 40)) (W.drew.alloc (.cells ((#[] : Array Value) ++ Builtin.zeroCells #[.string { data := #[] }, .string { data := #[] }, .slice none 0 0] n ++ Builtin.zeroCells #[.string { data := #[] }, .string { data := #[] }, .slice none 0 0] (grownCap W n 0 40 - n)) 40)) := fun ty => by
    have := Lib.run_append_grow_zeros (P := Try.prog) W 26 3 ty 40 i0 _ .i64 .i64 Try.under_blocks Try.underlying3 hi0 hz none 0 0 [] (run_firstCells_none W.drew i0.size 0 0 0) n (by omega) (by rw [hs]; decide) (by omega) (by omega) (by rw [hby]; omega) (growslice_fits (by omega) (by rw [hby]; omega))
    rw [Nat.zero_add] at this
    exact this
  have hG1 : n ≤ grownCap W n 0 40 := grownCap_ge W _ _ _
  have hG2 := grownCap_le_maxLen W n 0 40 (by unfold maxLen; omega)
  obtain ⟨G, hG⟩ : ∃ G, G = grownCap W n 0 40 := ⟨_, rfl⟩
  rw [← hG] at hrz hG1 hG2
  obtain ⟨cur, hcur⟩ : ∃ cur, cur = (#[] : Array Value) ++ Builtin.zeroCells #[.string { data := #[] }, .string { data := #[] }, .slice none 0 0] n ++ Builtin.zeroCells #[.string { data := #[] }, .string { data := #[] }, .slice none 0 0] (G - n) := ⟨_, rfl⟩
  have hcs : cur.size = G * 3 := by rw [hcur, Array.size_append, Array.size_append, size_zeroCells, size_zeroCells]; simp; omega
  rw [← hcur] at hrz
  clear hcur hG
  obtain ⟨w1, hw1⟩ : ∃ w1, w1 = W.drew.alloc (.cells cur 40) := ⟨_, rfl⟩
  have HB : Hid (Below W.heap.size W w1) := by show Below _ _ _; rw [hw1]; exact blw_alloc (Below.drew (Below.refl _ _)) _
  have HO : Hid (OwnBlk w1 W.heap.size 40 (G * 3)) := by show OwnBlk _ _ _ _; rw [hw1]; exact ⟨cur, heap_alloc_new W.drew _, hcs⟩
  rw [← hw1] at hrz
  unfold maxLen at hG2
  have hg0 : (0 : Int) < (n : Int) := by omega
  clear hw1 hcs
  go_enter Try.func63, Try.ntmps63
  go_wp2_with (at_builtin; refine Lib.wpList_append_run _ rfl _ _ 26 3 rfl _ _ rfl rfl _ w1 (hrz _) ?_)
  all_goals (go_ret; exact ⟨_, [W.heap.size], rfl, .row _ _ W.heap.size 0 0 G 40 (G * 3) [] [] [] HO.out (by simp) (by simp) ⟨by omega, by omega⟩ (rA_nil _ _ _) .nil .nil, by simp, by simp, HB.out⟩)

theorem sheet_small2 (s : List Pl.Bl) (h : Pl.wsh s ≤ 1048576) : ∀ b ∈ s, b.lines.length ≤ 1048576 ∧ ∀ x ∈ b.lines, x.ws.length ≤ 4194304 := fun b hb => by
  refine ⟨?_, (sheet_small s h b hb).2⟩
  have h1 := Pl.sum_mem_le (fun b => Pl.wbl b + 1) s b hb
  have h2 : Pl.wbl b = b.kind.size + b.name.size + (b.lines.map fun x => Pl.wln x + 1).sum := rfl
  have h3 := wt_lns b.lines
  have h4 : Pl.wsh s = (s.map fun b => Pl.wbl b + 1).sum := rfl
  omega

set_option maxRecDepth 8000 in
set_option maxHeartbeats 16000000 in
theorem withEach (l : List Pl.Bl) (v : Value) (B1 B2 : Nat) (W : World) (h : Raw W shBls [blsD l] [v]) (hl : l.length ≤ 4194304) (gg : Pl.Bl → Pl.Bl) (hF : ∀ (x : Pl.Bl) (aw : Option Addr) (cw : Nat) (X : World), x ∈ l → Below W.heap.size W X → Raw X shLns [lnsD x.lines] [.slice aw x.lines.length cw] → Calls Try.prog 42 #[.agg #[.string x.kind, .string x.name, .slice aw x.lines.length cw], .pointer (some ⟨B1, 0, none⟩), .pointer (some ⟨B2, 0, none⟩)] X (Ans shSheetBlock (blD (gg x)) X)) :
    Calls Try.prog 41 #[v, .func (.func 42) #[] #[.pointer (some ⟨B1, 0, none⟩), .pointer (some ⟨B2, 0, none⟩)]] W (AnsL shBls (blsD (l.map gg)) W) := by
  have HL := uh h
  have HF := uh hF
  obtain ⟨va, vc, ev⟩ := h.len0
  subst ev
  clear h hF
  obtain ⟨n, hn⟩ : ∃ n, n = l.length := ⟨_, rfl⟩
  have HN := uh hn
  have hnn : l.length = n := hn.symm
  clear hn
  rw [hnn] at hl ⊢
  clear hnn
  go_enter Try.func41, Try.ntmps41
  go_wp2_with fail
  refine (growSheetBlock n W hl).mono ?_
  rintro e w0 ⟨v, F, rfl, r, nd, fr, hb⟩
  obtain ⟨va1, vc1, hva⟩ := r.raw.len0
  subst hva
  have HR := uh r
  have HND := uh (And.intro nd fr)
  have HB := uh hb
  clear r nd fr hb
  go_wp2
  go_loopw [5, 13] (fun vv i wr => ∃ (q : Nat) (F : List Nat), q ≤ n ∧ i = .int .i64 q ∧ Rep wr false shBls F [.row q ((l.take q).flatMap (fun y => blD (gg y)))] [vv] ∧ F.Nodup ∧ (∀ b ∈ F, W.heap.size ≤ b) ∧ Below W.heap.size W wr) (fun _ i _ => n - (intOf i).toNat)
  case atStart => exact ⟨0, F, Nat.zero_le _, rfl, HR.out, HND.out.1, HND.out.2, HB.out⟩
  case round =>
    obtain ⟨q, F2, hq, rfl, hR, hN2, hF, hB⟩ := hrel
    have HR2 := uh hR
    have HN2 := uh (And.intro hN2 hF)
    have HB2 := uh hB
    obtain ⟨va2, vc2, hva⟩ := hR.raw.len0
    subst hva
    clear hR hN2 hF hB HR HND HB
    by_cases hlt : q < n
    rotate_left
    · obtain rfl : q = n := by omega
      have hnlt : ¬ ((q : Int) < (q : Int)) := by omega
      have HR5 : Hid (Rep wr false shBls F2 [blsD (l.map gg)] [.slice va2 q vc2]) := by
        have h5 := HR2.out
        rw [List.take_of_length_le (by have := HN.out; omega), HN.out] at h5
        rw [HN.out]; unfold blsD; rw [List.length_map, List.flatMap_map]; exact h5
      go_wp2
      go_ret
      exact ⟨_, F2, rfl, HR5.out, HN2.out.1, HN2.out.2, HB2.out⟩
    have hqL : q < l.length := by have := HN.out; omega
    rcases bls_open (HL.out.later HB2.out) with ⟨e0, _⟩ | ⟨p, o, c, hv, hp, hml, hopen⟩
    · omega
    rw [← HN.out] at hv hml
    injection hv with g1 _ g3
    subst g1; subst g3
    unfold maxLen at hml
    obtain ⟨aw, cw, hrg, hvR⟩ := hopen q hqL
    have HXM : Hid (l.getD q Pl.blNo ∈ l) := by
      show _ ∈ _
      have e : l.getD q Pl.blNo = l[q] := by simp [hqL]
      rw [e]; exact List.getElem_mem hqL
    have HTK := uh (Pl.take_snocD Pl.blNo l q hqL)
    obtain ⟨x, hx⟩ : ∃ x, x = l.getD q Pl.blNo := ⟨_, rfl⟩
    rw [← hx] at hrg hvR HXM HTK
    clear hx hopen
    obtain ⟨y, hy⟩ : ∃ y, y = wr.alloc (.cells #[.string x.kind, .string x.name, .slice aw x.lines.length cw] 40) := ⟨_, rfl⟩
    have hby : Below wr.heap.size wr y := by rw [hy]; exact blw_alloc (Below.refl _ _) _
    obtain ⟨z0, hz0⟩ : ∃ z, z = wr.heap.size := ⟨_, rfl⟩
    have HG : Hid (LBox y z0 [.string x.kind, .string x.name, .slice aw x.lines.length cw]) := by show LBox _ _ _; rw [hy]; exact LBox.new _ #[.string x.kind, .string x.name, .slice aw x.lines.length cw] _ _ hz0
    have HFl : Hid (∀ b ∈ F2, b < z0) := by rw [hz0]; exact HR2.out.lt
    have hm0 : (0 : Int) ≤ (q : Int) := by omega
    have hm3 : (q : Int) < (n : Int) := by omega
    go_upto_region 5 with (refine wpList_load_mid rfl 40 _ rfl p (o + q * 3) rfl [.string x.kind, .string x.name, .slice aw x.lines.length cw] _ hrg Try.underlying40 rfl (by kernel_rfl) ?_)
    rw [← hy, ← hz0]
    clear hy hrg hp
    replace HR2 := uh (HR2.out.later hby)
    replace HB2 := uh (blw_trans HB2.out hby)
    have HZ0 : Hid (z0 ≤ y.heap.size ∧ W.heap.size ≤ y.heap.size) := ⟨by rw [hz0]; exact hby.size, HB2.out.size⟩
    have HC := uh (HF.out x aw cw y HXM.out HB2.out (hvR.later hby))
    clear hby hvR hz0
    have hgl := HG.out.lt
    have hga := HG.out.at_
    go_wp2_with (refine wpList_load_mid rfl 40 _ rfl z0 0 rfl [.string x.kind, .string x.name, .slice aw x.lines.length cw] _ hga Try.underlying40 rfl (by kernel_rfl) ?_)
    refine HC.out.mono ?_
    rintro e w1 ⟨cc, FV, rfl, rep, nd, fr, hb⟩
    obtain ⟨F3, v3, rfl, rfl, r3⟩ := repSheetBlock rep
    obtain ⟨a1, m1, hv3⟩ := r3.raw.len0
    subst hv3
    clear r3
    have HFV : Hid ((F3 ++ []).Nodup ∧ ∀ b ∈ F3 ++ [], y.heap.size ≤ b) := ⟨nd, fr⟩
    have HRG := uh rep
    replace HB2 := uh (blw_trans HB2.out hb)
    replace HR2 := uh (HR2.out.later hb)
    have HZ1 : Hid (y.heap.size ≤ w1.heap.size) := hb.size
    clear hgl hga HC rep nd fr hb HG
    obtain ⟨wb, hwb⟩ : ∃ wb, wb = w1.alloc (.cells #[.string (gg x).kind, .string (gg x).name, .slice a1 (gg x).lines.length m1] 40) := ⟨_, rfl⟩
    have hbb : Below w1.heap.size w1 wb := by rw [hwb]; exact blw_alloc (Below.refl _ _) _
    obtain ⟨v', x3, F4, row, hrun, rep, nd, hsub, hgr, hrow⟩ := rep_append (P := Try.prog) 26 26 40 3 56 _ Try.under_blocks Try.info_block rfl (by decide) shSheetBlock rfl wb (HR2.out.later hbb) HN2.out.1 (by omega) (F' := F3 ++ []) (d := blD (gg x)) (c' := [.string (gg x).kind, .string (gg x).name, .slice a1 (gg x).lines.length m1]) ⟨w1.heap.size, 0, none⟩ (HRG.out.later hbb) HFV.out.1 (fun b hb e => by have := HFV.out.2 b hb; have := HFl.out b e; have := HZ0.out.1; omega) (by rw [hwb]; exact news_new w1 #[.string (gg x).kind, .string (gg x).name, .slice a1 (gg x).lines.length m1] 40)
    obtain ⟨wx, wc, hvx⟩ := rep.raw.len0
    subst hvx
    rw [hwb] at hrun
    have HB3 : Hid (Below W.heap.size W x3) := blw_grown (blw_trans HB2.out hbb) hgr (fun b e => HN2.out.2 b (hrow b e))
    have HS3 : Hid (∀ b ∈ F4, W.heap.size ≤ b) := fun b hb => by
      rcases hsub b hb with e | e | e
      · exact HN2.out.2 b e
      · have := HFV.out.2 b e; have := HZ0.out.2; omega
      · have := hbb.size; have := HZ1.out; have := HZ0.out; omega
    have HR4 : Hid (Rep x3 false shBls F4 [.row (q + 1) ((l.take (q + 1)).flatMap (fun y => blD (gg y)))] [.slice wx (q + 1) wc]) := by
      show Rep _ _ _ _ _ _
      rw [HTK.out, List.flatMap_append, List.flatMap_singleton]
      exact rep
    have HN4 : Hid F4.Nodup := nd
    clear rep nd hsub hgr hrow hbb hwb
    go_wp2_with (at_builtin; refine Go.Lib.wpList_append_run _ rfl _ _ 26 26 rfl _ _ rfl rfl _ x3 hrun ?_)
    clear hrun HR2 HN2
    go_roundw
    case rel => exact ⟨q + 1, F4, by omega, by go_num, HR4.out, HN4.out, HS3.out, HB3.out⟩
    case measure => simp [intOf]; omega

end Go.Proofs.Ytfmhfacaemfhlaa
