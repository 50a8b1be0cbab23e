/-
  Sheets: the lines of a list that are such; the lines that a key means: the program.
-/
import Derived.Lib.AppendZerosOnto
import Derived.Test.YtikacjpbnoihjaaEGf
import Derived.Test.YtikacjpbnoihjaaEBy
import Derived.Test.YtikacjpbnoihjaaEPj
namespace Go.Proofs.Ytikacjpbnoihjaa
open Go.RowKit Go.Deep

set_option maxHeartbeats 4000000 in
theorem copyTextsE (ws : List ByteArray) (v : Value) (W : World) (h : Raw W shTxs [.row ws.length (txD ws)] [v]) (hn : ws.length ≤ 4194304) :
    Calls Try.prog 67 #[v] W (AnsL shTxs (.row ws.length (txD ws)) W) := by
  obtain ⟨v', W', xs, hrun, hg, hb⟩ := app_copy (P := Try.prog) W.heap.size 46 46 9 9 1 16 _ Try.under_texts Try.info_text rfl (by decide) (by decide) [.s] rfl (by simp [flatB]) W (.slice none 0 0) (Or.inl rfl) (Nat.le_refl _) ws.length (txD ws) v h hn
  obtain ⟨F, r, nd, fr⟩ := hg.done
  have HD : Hid (AnsL shTxs (.row ws.length (txD ws)) W (.returned v') W') := ⟨_, F, rfl, r, nd, fr, hb⟩
  obtain ⟨va, vc, ev⟩ := h.len0
  subst ev
  obtain ⟨wx, wc, hvx⟩ := hg.shape
  subst hvx
  clear h hg r nd fr hb
  go_enter Try.func67, Try.ntmps67
  go_wp2_with (at_builtin; refine Go.Lib.wpList_append_run _ rfl _ _ 46 46 rfl _ _ rfl rfl _ W' hrun ?_)
  go_ret
  exact HD.out

set_option maxRecDepth 8000 in
set_option maxHeartbeats 8000000 in
theorem copyLineI (x : Pl.Ln) (va : Option Addr) (vc : Nat) (W : World) (hv : Raw W shTxs [.row x.ws.length (txD x.ws)] [.slice va x.ws.length vc]) (hn : x.ws.length ≤ 4194304) :
    Calls Try.prog 49 #[.agg #[.string x.key, .slice va x.ws.length vc]] W (Ans shSheetLine (lnD x) W) := by
  obtain ⟨b0, hb0⟩ : ∃ b, b = W.heap.size := ⟨_, rfl⟩
  obtain ⟨wa, hwa⟩ : ∃ wa, wa = (W.alloc (.cells #[.string x.key, .slice va x.ws.length vc] 52)).alloc (.cells #[.string { data := #[] }, .slice none 0 0] 52) := ⟨_, rfl⟩
  have HB : Hid (Below W.heap.size W wa) := by show Below _ _ _; rw [hwa]; exact blw_alloc (blw_alloc (Below.refl _ _) _) _
  have HX : Hid (WBox wa b0 52 [.string x.key, .slice va x.ws.length vc]) := by show WBox _ _ _ _; rw [hwa, hb0]; exact (WBox.new W [.string x.key, .slice va x.ws.length vc] _ _ rfl).later (blw_alloc (Below.refl _ _) _)
  have HO : Hid (OwnBlk wa (b0 + 1) 52 2) := by show OwnBlk _ _ _ _; rw [hwa]; exact OwnBlk.alloc_at3 _ _ _ _ _ rfl (by simp [hb0])
  have ZA : Hid (wa.heap.size = b0 + 2) := by show _ = _; rw [hwa]; simp [hb0]
  have HZ := uh hb0
  have HC := uh (copyTextsE x.ws (.slice va x.ws.length vc) wa (hv.later HB.out) hn)
  go_enter Try.func49, Try.ntmps49
  go_upto_region 1 with fail
  rw [← hwa, ← hb0]
  clear hwa hb0 hv hn
  have xa := HX.out.get 1 _ rfl
  have xl := HX.out.own.lt
  go_wp2_with fail
  refine HC.out.mono ?_
  rintro e w1 ⟨v1, F, rfl, r, nd, fr, hb⟩
  obtain ⟨wx, wc, hvx⟩ := r.raw.len0
  subst hvx
  have HR := uh (And.intro r (And.intro nd fr))
  have HX1 := HX.out.later hb
  have hth1 : w1.there b0 1 1 := uthere HX1.own _ _ (by simp)
  obtain ⟨y, hy⟩ : ∃ y, y = w1.setCell ⟨b0, 1, none⟩ (.slice wx x.ws.length wc) := ⟨_, rfl⟩
  have HX2 : Hid (WBox y b0 52 [.string x.key, .slice wx x.ws.length wc]) := by show WBox _ _ _ _; rw [hy]; exact HX1.set 1 _ (by simp)
  have HM : Hid (Marks (fun b => b = b0) w1 y) := by show Marks _ _ _; rw [hy]; exact Marks.sc (S := fun b => b = b0) _ rfl _ _
  have HO2 := uh (HM.out.own _ _ _ (HO.out.later hb))
  have HB2 : Hid (Below W.heap.size W y) := HM.out.below (fun b e => by rw [e, HZ.out]; exact Nat.le_refl _) (blw_trans HB.out hb)
  have HF : Hid (∀ b ∈ F, b0 + 2 ≤ b) := fun b hb => by have := HR.out.2.2 b hb; have := ZA.out; omega
  have x1 := HX1.get 1 _ rfl
  have xf := HX1.own.frozen 1
  have xz := HX1.own.lt
  clear r nd fr hb xa xl hth1
  go_upto_region 2 with fail
  rw [← hy]
  clear hy x1 xf xz HX1 HC
  have hxl := HX2.out.own.lt
  have hxa := HX2.out.at_
  have hth : y.there (b0 + 1) 0 (#[.string x.key, .slice wx x.ws.length wc] : Array Value).size := uthere HO2.out _ _ (by simp)
  obtain ⟨we, hwe⟩ : ∃ we, we = y.setCells (b0 + 1) 0 [.string x.key, .slice wx x.ws.length wc] := ⟨_, rfl⟩
  have hrt : we.rangeAt (b0 + 1) 0 [.string x.key, .slice wx x.ws.length wc] := by rw [hwe]; exact World.rangeAt_setCells_same _ _ _ _ hth
  have HMK : Hid (Marks (fun b => b = b0 + 1) y we) := by show Marks _ _ _; rw [hwe]; exact mks_scs (S := fun b => b = b0 + 1) rfl _ _ _
  have HBB : Hid (Below W.heap.size W we) := by show Below _ _ _; rw [hwe]; exact blw_scs (by have := HZ.out; omega) _ _ _ HB2.out
  go_wp2_with (first | (refine wpList_load_mid rfl 52 _ rfl b0 0 rfl [.string x.key, .slice wx x.ws.length wc] _ hxa Try.underlying52 rfl (by kernel_rfl) ?_) | (refine wpList_store_mid rfl 52 _ _ rfl (b0 + 1) 0 #[.string x.key, .slice wx x.ws.length wc] rfl rfl hth (by kernel_rfl) (by simp [Value.oneCell']) ?_))
  first | rw [← hwe] | (simp only [List.toList_toArray]; rw [← hwe])
  try simp only [Act.put]
  refine bodyPost_ret (v := .agg #[.string x.key, .slice wx x.ws.length wc]) (by simp [results, Try.results49, asAddr, run_loadVar_mid (P := Try.prog) _ _ _ 52 [.string x.key, .slice wx x.ws.length wc] _ hrt Try.underlying52 rfl (by kernel_rfl)]) rfl ?_
  have M1 := HR.out.1.keep HM.out (fun b hb e => by have := HF.out b hb; omega)
  have M2 := M1.keep HMK.out (fun b hb e => by have := HF.out b hb; omega)
  refine ⟨[.string x.key, .slice wx x.ws.length wc], F ++ [], rfl, repSheetLine_mk _ M2, by rw [List.append_nil]; exact HR.out.2.1, fun b hb => by rw [List.append_nil] at hb; have := HF.out b hb; have := HZ.out; omega, HBB.out⟩

set_option maxRecDepth 8000 in
set_option maxHeartbeats 8000000 in
/-- Room for n. -/
theorem growSheetLine (n : Nat) (W : World) (hn : n ≤ 4194304) : Calls Try.prog 66 #[.slice none 0 0, .int .i64 n] W (AnsL shLns (.row 0 []) W) := by
  have h1 : ¬ ((n : Int) < 0) := by omega
  by_cases h0 : n = 0
  · subst h0
    go_enter Try.func66, Try.ntmps66
    go_wp2
    go_ret
    exact ⟨_, [], rfl, .emp _ _ _ rfl .nil, List.nodup_nil, by simp, Below.refl _ _⟩
  obtain ⟨i0, hi0, hz, hs, hby⟩ := uinfo Try.info_line
  have hrz : ∀ ty, (Builtin.append_ #[26, 3] ty #[.slice none 0 0, .int .i64 (n : Int)]).run Try.prog W = .ok (.slice (some ⟨W.heap.size, 0, none⟩) n (grownCap W n 0 52)) (W.drew.alloc (.cells ((#[] : Array Value) ++ Builtin.zeroCells #[.string { data := #[] }, .slice none 0 0] n ++ Builtin.zeroCells #[.string { data := #[] }, .slice none 0 0] (grownCap W n 0 52 - n)) 52)) := fun ty => by
    have := Lib.run_append_grow_zeros (P := Try.prog) W 26 3 ty 52 i0 _ .i64 .i64 Try.under_lines Try.underlying3 hi0 hz none 0 0 [] (run_firstCells_none W.drew i0.size 0 0 0) n (by omega) (by rw [hs]; decide) (by omega) (by omega) (by rw [hby]; omega) (growslice_fits (by omega) (by rw [hby]; omega))
    rw [Nat.zero_add] at this
    exact this
  have hG1 : n ≤ grownCap W n 0 52 := grownCap_ge W _ _ _
  have hG2 := grownCap_le_maxLen W n 0 52 (by unfold maxLen; omega)
  obtain ⟨G, hG⟩ : ∃ G, G = grownCap W n 0 52 := ⟨_, rfl⟩
  rw [← hG] at hrz hG1 hG2
  obtain ⟨cur, hcur⟩ : ∃ cur, cur = (#[] : Array Value) ++ Builtin.zeroCells #[.string { data := #[] }, .slice none 0 0] n ++ Builtin.zeroCells #[.string { data := #[] }, .slice none 0 0] (G - n) := ⟨_, rfl⟩
  have hcs : cur.size = G * 2 := by rw [hcur, Array.size_append, Array.size_append, size_zeroCells, size_zeroCells]; simp; omega
  rw [← hcur] at hrz
  clear hcur hG
  obtain ⟨w1, hw1⟩ : ∃ w1, w1 = W.drew.alloc (.cells cur 52) := ⟨_, rfl⟩
  have HB : Hid (Below W.heap.size W w1) := by show Below _ _ _; rw [hw1]; exact blw_alloc (Below.drew (Below.refl _ _)) _
  have HO : Hid (OwnBlk w1 W.heap.size 52 (G * 2)) := by show OwnBlk _ _ _ _; rw [hw1]; exact ⟨cur, heap_alloc_new W.drew _, hcs⟩
  rw [← hw1] at hrz
  unfold maxLen at hG2
  have hg0 : (0 : Int) < (n : Int) := by omega
  clear hw1 hcs
  go_enter Try.func66, Try.ntmps66
  go_wp2_with (at_builtin; refine Lib.wpList_append_run _ rfl _ _ 26 3 rfl _ _ rfl rfl _ w1 (hrz _) ?_)
  all_goals (go_ret; exact ⟨_, [W.heap.size], rfl, .row _ _ W.heap.size 0 0 G 52 (G * 2) [] [] [] HO.out (by simp) (by simp) ⟨by omega, by omega⟩ (rA_nil _ _ _) .nil .nil, by simp, by simp, HB.out⟩)

set_option maxRecDepth 8000 in
set_option maxHeartbeats 16000000 in
theorem copyLnsI (l : List Pl.Ln) (v : Value) (W : World) (h : Raw W shLns [lnsD l] [v]) (hl : l.length ≤ 4194304) (hw : ∀ x ∈ l, x.ws.length ≤ 4194304) :
    Calls Try.prog 48 #[v, .func (.func 49) #[] #[]] W (AnsL shLns (lnsD l) W) := by
  have HL := uh h
  have HWS := uh hw
  obtain ⟨va, vc, ev⟩ := h.len0
  subst ev
  clear h hw
  obtain ⟨n, hn⟩ : ∃ n, n = l.length := ⟨_, rfl⟩
  have HN := uh hn
  have hnn : l.length = n := hn.symm
  clear hn
  rw [hnn] at hl ⊢
  clear hnn
  go_enter Try.func48, Try.ntmps48
  go_wp2_with fail
  refine (growSheetLine n W hl).mono ?_
  rintro e w0 ⟨v, F, rfl, r, nd, fr, hb⟩
  obtain ⟨va1, vc1, hva⟩ := r.raw.len0
  subst hva
  have HR := uh r
  have HND := uh (And.intro nd fr)
  have HB := uh hb
  clear r nd fr hb
  go_wp2
  go_loopw [5, 13] (fun vv i wr => ∃ (q : Nat) (F : List Nat), q ≤ n ∧ i = .int .i64 q ∧ Rep wr false shLns F [.row q ((l.take q).flatMap lnD)] [vv] ∧ F.Nodup ∧ (∀ b ∈ F, W.heap.size ≤ b) ∧ Below W.heap.size W wr) (fun _ i _ => n - (intOf i).toNat)
  case atStart => exact ⟨0, F, Nat.zero_le _, rfl, HR.out, HND.out.1, HND.out.2, HB.out⟩
  case round =>
    obtain ⟨q, F2, hq, rfl, hR, hN2, hF, hB⟩ := hrel
    have HR2 := uh hR
    have HN2 := uh (And.intro hN2 hF)
    have HB2 := uh hB
    obtain ⟨va2, vc2, hva⟩ := hR.raw.len0
    subst hva
    clear hR hN2 hF hB HR HND HB
    by_cases hlt : q < n
    rotate_left
    · obtain rfl : q = n := by omega
      have hnlt : ¬ ((q : Int) < (q : Int)) := by omega
      have HR5 : Hid (Rep wr false shLns F2 [lnsD l] [.slice va2 q vc2]) := by
        have h5 := HR2.out
        rw [List.take_of_length_le (by have := HN.out; omega), HN.out] at h5
        rw [HN.out]; exact h5
      go_wp2
      go_ret
      exact ⟨_, F2, rfl, HR5.out, HN2.out.1, HN2.out.2, HB2.out⟩
    have hqL : q < l.length := by have := HN.out; omega
    rcases lns_open (HL.out.later HB2.out) with ⟨e0, _⟩ | ⟨p, o, c, hv, hp, hml, hopen⟩
    · omega
    rw [← HN.out] at hv hml
    injection hv with g1 _ g3
    subst g1; subst g3
    unfold maxLen at hml
    obtain ⟨aw, cw, hrg, hvR⟩ := hopen q hqL
    have HXM : Hid (l.getD q Pl.lnNo ∈ l) := by
      show _ ∈ _
      have e : l.getD q Pl.lnNo = l[q] := by simp [hqL]
      rw [e]; exact List.getElem_mem hqL
    have HTK := uh (Pl.take_snocD Pl.lnNo l q hqL)
    obtain ⟨x, hx⟩ : ∃ x, x = l.getD q Pl.lnNo := ⟨_, rfl⟩
    rw [← hx] at hrg hvR HXM HTK
    clear hx hopen
    obtain ⟨y, hy⟩ : ∃ y, y = wr.alloc (.cells #[.string x.key, .slice aw x.ws.length cw] 52) := ⟨_, rfl⟩
    have hby : Below wr.heap.size wr y := by rw [hy]; exact blw_alloc (Below.refl _ _) _
    obtain ⟨z0, hz0⟩ : ∃ z, z = wr.heap.size := ⟨_, rfl⟩
    have HG : Hid (LBox y z0 [.string x.key, .slice aw x.ws.length cw]) := by show LBox _ _ _; rw [hy]; exact LBox.new _ #[.string x.key, .slice aw x.ws.length cw] _ _ hz0
    have HFl : Hid (∀ b ∈ F2, b < z0) := by rw [hz0]; exact HR2.out.lt
    have hm0 : (0 : Int) ≤ (q : Int) := by omega
    have hm3 : (q : Int) < (n : Int) := by omega
    go_upto_region 5 with (refine wpList_load_mid rfl 52 _ rfl p (o + q * 2) rfl [.string x.key, .slice aw x.ws.length cw] _ hrg Try.underlying52 rfl (by kernel_rfl) ?_)
    rw [← hy, ← hz0]
    clear hy hrg hp
    replace HR2 := uh (HR2.out.later hby)
    replace HB2 := uh (blw_trans HB2.out hby)
    have HZ0 : Hid (z0 ≤ y.heap.size ∧ W.heap.size ≤ y.heap.size) := ⟨by rw [hz0]; exact hby.size, HB2.out.size⟩
    have HC := uh (copyLineI x aw cw y (hvR.later hby) (HWS.out x HXM.out))
    clear hby hvR hz0
    have hgl := HG.out.lt
    have hga := HG.out.at_
    go_wp2_with (refine wpList_load_mid rfl 52 _ rfl z0 0 rfl [.string x.key, .slice aw x.ws.length cw] _ hga Try.underlying52 rfl (by kernel_rfl) ?_)
    refine HC.out.mono ?_
    rintro e w1 ⟨cc, FV, rfl, rep, nd, fr, hb⟩
    obtain ⟨F3, v3, rfl, rfl, r3⟩ := repSheetLine rep
    obtain ⟨a1, m1, hv3⟩ := r3.raw.len0
    subst hv3
    clear r3
    have HFV : Hid ((F3 ++ []).Nodup ∧ ∀ b ∈ F3 ++ [], y.heap.size ≤ b) := ⟨nd, fr⟩
    have HRG := uh rep
    replace HB2 := uh (blw_trans HB2.out hb)
    replace HR2 := uh (HR2.out.later hb)
    have HZ1 : Hid (y.heap.size ≤ w1.heap.size) := hb.size
    clear hgl hga HC rep nd fr hb HG
    obtain ⟨wb, hwb⟩ : ∃ wb, wb = w1.alloc (.cells #[.string x.key, .slice a1 x.ws.length m1] 52) := ⟨_, rfl⟩
    have hbb : Below w1.heap.size w1 wb := by rw [hwb]; exact blw_alloc (Below.refl _ _) _
    obtain ⟨v', x3, F4, row, hrun, rep, nd, hsub, hgr, hrow⟩ := rep_append (P := Try.prog) 26 26 52 2 40 _ Try.under_lines Try.info_line rfl (by decide) shSheetLine rfl wb (HR2.out.later hbb) HN2.out.1 (by omega) (F' := F3 ++ []) (d := lnD x) (c' := [.string x.key, .slice a1 x.ws.length m1]) ⟨w1.heap.size, 0, none⟩ (HRG.out.later hbb) HFV.out.1 (fun b hb e => by have := HFV.out.2 b hb; have := HFl.out b e; have := HZ0.out.1; omega) (by rw [hwb]; exact news_new w1 #[.string x.key, .slice a1 x.ws.length m1] 52)
    obtain ⟨wx, wc, hvx⟩ := rep.raw.len0
    subst hvx
    rw [hwb] at hrun
    have HB3 : Hid (Below W.heap.size W x3) := blw_grown (blw_trans HB2.out hbb) hgr (fun b e => HN2.out.2 b (hrow b e))
    have HS3 : Hid (∀ b ∈ F4, W.heap.size ≤ b) := fun b hb => by
      rcases hsub b hb with e | e | e
      · exact HN2.out.2 b e
      · have := HFV.out.2 b e; have := HZ0.out.2; omega
      · have := hbb.size; have := HZ1.out; have := HZ0.out; omega
    have HR4 : Hid (Rep x3 false shLns F4 [.row (q + 1) ((l.take (q + 1)).flatMap lnD)] [.slice wx (q + 1) wc]) := by
      show Rep _ _ _ _ _ _
      rw [HTK.out, List.flatMap_append, List.flatMap_singleton]
      exact rep
    have HN4 : Hid F4.Nodup := nd
    clear rep nd hsub hgr hrow hbb hwb
    go_wp2_with (at_builtin; refine Go.Lib.wpList_append_run _ rfl _ _ 26 26 rfl _ _ rfl rfl _ x3 hrun ?_)
    clear hrun HR2 HN2
    go_roundw
    case rel => exact ⟨q + 1, F4, by omega, by go_num, HR4.out, HN4.out, HS3.out, HB3.out⟩
    case measure => simp [intOf]; omega

end Go.Proofs.Ytikacjpbnoihjaa

namespace Go.Proofs.Ytikacjpbnoihjaa
open Go.RowKit Go.Deep

/-- A function's answer: a list that can be read. -/
def AnsR (sh : List Sh) (A : Dt) (W : World) (e : Ending) (w' : World) : Prop := ∃ v, e = .returned v ∧ Raw w' sh [A] [v] ∧ Below W.heap.size W w'
theorem filt_stepE {l : List Pl.Ln} {pr : Pl.Ln → Bool} {k : Nat} (hk : k < l.length) : (l.take (k + 1)).filter pr = if pr (l.getD k Pl.lnNo) then (l.take k).filter pr ++ [l.getD k Pl.lnNo] else (l.take k).filter pr := by
  rw [Pl.take_snocD Pl.lnNo l k hk, List.filter_append, List.filter_cons, List.filter_nil]
  split <;> simp
/-- What a key means. -/
def Pl.meant (ru : Pl.Ru) (l : List Pl.Ln) : List Pl.Ln := if decide ((Pl.linesOf l ru.key).length = 0) && !ru.many then [⟨ru.key, ru.dflt⟩] else Pl.linesOf l ru.key

set_option maxRecDepth 8000 in
set_option maxHeartbeats 8000000 in
theorem thoseMeant (l : List Pl.Ln) (pr : Pl.Ln → Bool) (v : Value) (B : Nat) (w : World) (h : Raw w shLns [lnsD l] [v]) (hl : l.length ≤ 4194304)
    (hF : ∀ (x : Pl.Ln) (aw : Option Addr) (cw : Nat) (W : World), x ∈ l → Below w.heap.size w W → Raw W shTxs [.row x.ws.length (txD x.ws)] [.slice aw x.ws.length cw] → Calls Try.prog 47 #[.agg #[.string x.key, .slice aw x.ws.length cw], .pointer (some ⟨B, 0, none⟩)] W fun e w' => e = .returned (.bool (pr x)) ∧ Below W.heap.size W w') :
    Calls Try.prog 46 #[v, .func (.func 47) #[] #[.pointer (some ⟨B, 0, none⟩)]] w (AnsR shLns (lnsD (l.filter pr)) w) := by
  have HL := uh h
  have HF := uh hF
  obtain ⟨va, vc, ev⟩ := h.len0
  subst ev
  clear h hF
  obtain ⟨n, hn⟩ : ∃ n, n = l.length := ⟨_, rfl⟩
  have HN := uh hn
  have hnn : l.length = n := hn.symm
  clear hn
  rw [hnn] at hl
  rw [hnn]
  clear hnn
  go_enter Try.func46, Try.ntmps46
  go_wp2
  go_loopw [5, 10] (fun vo vi wr => ∃ (k : Nat) (xs : List Value), k ≤ n ∧ vi = .int .i64 k ∧ Sv w wr 52 shSheetLine vo ((l.take k).filter pr).length (((l.take k).filter pr).flatMap lnD) xs ∧ Below w.heap.size w wr) (fun _ vi _ => n - (intOf vi).toNat)
  case atStart => exact ⟨0, [], Nat.zero_le _, rfl, ⟨(Gr.nil w w.heap.size _ shSheetLine).row, .nil⟩, Below.refl _ _⟩
  case round =>
    obtain ⟨k, xs, hk, rfl, hG, hB⟩ := hrel
    have HGr := uh hG
    have HBr := uh hB
    obtain ⟨ua, uc, huu⟩ := hG.shape
    subst huu
    clear hG hB
    by_cases hlt : k < n
    rotate_left
    · have hks : l.take k = l := List.take_of_length_le (by have := HN.out; omega)
      rw [hks] at HGr ⊢
      have HD : Hid (AnsR shLns (lnsD (l.filter pr)) w (.returned (.slice ua (l.filter pr).length uc)) wr) := ⟨_, rfl, HGr.out.done HBr.out, HBr.out⟩
      clear hks
      go_wp2
      go_ret
      exact HD.out
    have hkL : k < l.length := by have := HN.out; omega
    rcases lns_open HL.out with ⟨e0, _⟩ | ⟨p, o, c, hv, hp, hml, hopen⟩
    · omega
    rw [← HN.out] at hv
    injection hv with g1 _ g3
    subst g1; subst g3
    obtain ⟨aw, cw, hgx, hrx⟩ := hopen k hkL
    have HST := uh (filt_stepE (pr := pr) hkL)
    have hle : ((l.take k).filter pr).length ≤ n := Nat.le_trans (List.length_filter_le _ _) (by rw [List.length_take]; omega)
    have HXM : Hid (l.getD k Pl.lnNo ∈ l) := by
      show _ ∈ _
      have e : l.getD k Pl.lnNo = l[k] := by simp [hkL]
      rw [e]; exact List.getElem_mem hkL
    obtain ⟨x, hx⟩ : ∃ x, x = l.getD k Pl.lnNo := ⟨_, rfl⟩
    rw [← hx] at hgx hrx HST HXM
    have hgr : wr.rangeAt p (o + k * 2) [.string x.key, .slice aw x.ws.length cw] := rA_later hgx hp HBr.out
    have HRX : Hid (Raw w shSheetLine (lnD x) [.string x.key, .slice aw x.ws.length cw]) := .s _ hrx
    obtain ⟨m, hm⟩ : ∃ m, m = ((l.take k).filter pr).length := ⟨_, rfl⟩
    rw [← hm] at HGr hle ⊢
    have HM := uh hm
    have hk0 : (0 : Int) ≤ (k : Int) := by omega
    have hkn : (k : Int) < (n : Int) := by omega
    obtain ⟨y, hy⟩ : ∃ y, y = wr.alloc (.cells #[.string x.key, .slice aw x.ws.length cw] 52) := ⟨_, rfl⟩
    have hby : Below wr.heap.size wr y := by rw [hy]; exact blw_alloc (Below.refl _ _) _
    obtain ⟨z0, hz0⟩ : ∃ z, z = wr.heap.size := ⟨_, rfl⟩
    have HG : Hid (LBox y z0 [.string x.key, .slice aw x.ws.length cw]) := by show LBox _ _ _; rw [hy]; exact LBox.new _ #[.string x.key, .slice aw x.ws.length cw] _ _ hz0
    have HC := uh (HF.out x aw cw y HXM.out (blw_trans HBr.out hby) (hrx.later (blw_trans HBr.out hby)))
    clear hx hgx hrx hopen hml hm
    go_upto_region 5 with (refine wpList_load_mid rfl 52 _ rfl p (o + k * 2) rfl [.string x.key, .slice aw x.ws.length cw] _ hgr Try.underlying52 rfl (by kernel_rfl) ?_)
    rw [← hy, ← hz0]
    clear hy hgr hp
    replace HGr := uh (HGr.out.later hby)
    replace HBr := uh (blw_trans HBr.out hby)
    clear hby hz0
    have hgl := HG.out.lt
    have hga := HG.out.at_
    go_wp2_with (refine wpList_load_mid rfl 52 _ rfl z0 0 rfl [.string x.key, .slice aw x.ws.length cw] _ hga Try.underlying52 rfl (by kernel_rfl) ?_)
    refine HC.out.mono ?_
    rintro e w1 ⟨rfl, hb1⟩
    replace HGr := uh (HGr.out.later hb1)
    replace HBr := uh (blw_trans HBr.out hb1)
    replace HG := uh (HG.out.later hb1)
    clear hb1 hgl hga HC
    cases hq : pr x
    · have HE : Hid ((l.take (k + 1)).filter pr = (l.take k).filter pr) := by show _ = _; rw [HST.out, hq]; rfl
      clear hq
      go_wp2
      go_roundw
      case rel => exact ⟨k + 1, xs, by omega, by go_num, by rw [HE.out, ← HM.out]; exact HGr.out, HBr.out⟩
      case measure => simp [intOf]; omega
    · have HE : Hid ((l.take (k + 1)).filter pr = (l.take k).filter pr ++ [x]) := by show _ = _; rw [HST.out, hq]; rfl
      clear hq
      have hgl := HG.out.lt
      have hga := HG.out.at_
      go_wp2_with first | refine wpList_load_mid rfl 52 _ rfl z0 0 rfl [.string x.key, .slice aw x.ws.length cw] _ hga Try.underlying52 rfl (by kernel_rfl) ?_ | (refine sv_push (wa := w) rfl _ _ rfl (.slice ua m uc) m _ xs rfl (HGr.out.later (blw_alloc (Below.refl _ _) _)) w1.heap.size 1 (lnD x) [.string x.key, .slice aw x.ws.length cw] rfl HRX.out (World.news_of_block (cs := #[.string x.key, .slice aw x.ws.length cw]) (heap_alloc_new w1 _)) (by omega) (Nat.le_trans HBr.out.size (by simp)) ?_; intro gg1 cc1 w2 q1 q2; have HQ := uh (And.intro q1 (HGr.out.later (blw_alloc (Below.refl _ _) _) |>.below (blw_alloc HBr.out _) q2)); clear q1 q2)
      go_roundw
      case rel => exact ⟨k + 1, _, by omega, by go_num, by rw [HE.out, List.length_append, ← HM.out, List.flatMap_append, List.flatMap_singleton]; exact HQ.out.1, HQ.out.2⟩
      case measure => simp [intOf]; omega

set_option maxHeartbeats 1000000 in
/-- The closure: is it a line of this key? -/
theorem meantIsI (x key : ByteArray) (v1 : Value) (B : Nat) (w : World) (hB : w.cell? ⟨B, 0, none⟩ = some (.string key)) (hlt : B < w.heap.size) :
    Calls Try.prog 47 #[.agg #[.string x, v1], .pointer (some ⟨B, 0, none⟩)] w fun e w' => e = .returned (.bool (x.toList == key.toList)) ∧ Below w.heap.size w w' := by
  have hne : B ≠ w.heap.size := by omega
  go_enter Try.func47, Try.ntmps47
  go_wp2
  go_ret
  refine ⟨rfl, ?_⟩
  repeat (first | exact Below.refl _ _ | refine blw_alloc ?_ _ | refine Below.drew ?_)

set_option maxRecDepth 8000 in
set_option maxHeartbeats 8000000 in
theorem meantI (ru : Pl.Ru) (a1 a3 : Option Addr) (c1 c3 : Nat) (l : List Pl.Ln) (v : Value) (w : World) (h : Raw w shLns [lnsD l] [v]) (hl : l.length ≤ 4194304) (hw : ∀ x ∈ l, x.ws.length ≤ 4194304) (hd : Raw w shTxs [.row ru.dflt.length (txD ru.dflt)] [.slice a3 ru.dflt.length c3]) (hdl : ru.dflt.length ≤ 4194304) :
    Calls Try.prog 25 #[.agg #[.string ru.key, .slice a1 ru.args.length c1, .bool ru.many, .slice a3 ru.dflt.length c3], v] w (AnsL shLns (lnsD (Pl.meant ru l)) w) := by
  have HWS := uh hw
  have HDL := uh hdl
  obtain ⟨wa, hwa⟩ : ∃ wa, wa = w.alloc (.cells #[.string ru.key, .slice a1 ru.args.length c1, .bool ru.many, .slice a3 ru.dflt.length c3] 48) := ⟨_, rfl⟩
  obtain ⟨b0, hb0⟩ : ∃ b0, b0 = w.heap.size := ⟨_, rfl⟩
  have HB : Hid (Below w.heap.size w wa) := by show Below _ _ _; rw [hwa]; exact blw_alloc (Below.refl _ _) _
  have HK : Hid (LBox wa b0 [.string ru.key, .slice a1 ru.args.length c1, .bool ru.many, .slice a3 ru.dflt.length c3]) := by show LBox _ _ _; rw [hwa, hb0]; exact LBox.new w #[.string ru.key, .slice a1 ru.args.length c1, .bool ru.many, .slice a3 ru.dflt.length c3] _ _ rfl
  have HD := uh (hd.later HB.out)
  have HC := uh (thoseMeant l (fun x => x.key.toList == ru.key.toList) v b0 wa (h.later HB.out) hl (fun x aw cw W _ hb _ => meantIsI x.key ru.key _ b0 W ((HK.out.later hb).get 0 _ rfl) (HK.out.later hb).lt))
  have HLL : Hid ((Pl.linesOf l ru.key).length ≤ 4194304) := Nat.le_trans (Pl.linesOf_len _ _) hl
  have HLW : Hid (∀ x ∈ Pl.linesOf l ru.key, x.ws.length ≤ 4194304) := fun x hx => HWS.out x (List.mem_filter.1 hx).1
  have HME : Hid (Pl.meant ru l = if decide ((Pl.linesOf l ru.key).length = 0) && !ru.many then [⟨ru.key, ru.dflt⟩] else Pl.linesOf l ru.key) := rfl
  obtain ⟨va, vc, ev⟩ := h.len0
  subst ev
  clear h hl hw hd hdl HWS
  go_enter Try.func25, Try.ntmps25
  go_upto_region 1 with fail
  rw [← hwa, ← hb0]
  clear hwa hb0
  go_wp2_with fail
  refine HC.out.mono ?_
  rintro e w1 ⟨v1, rfl, hr, hb⟩
  obtain ⟨out, hout⟩ : ∃ out, out = Pl.linesOf l ru.key := ⟨_, rfl⟩
  have hr1 : Raw w1 shLns [lnsD out] [v1] := by rw [hout]; exact hr
  rw [← hout] at HLL HLW HME
  obtain ⟨va1, vc1, ev1⟩ := hr1.len0
  subst ev1
  have HR := uh hr1
  replace HB := uh (blw_trans HB.out hb)
  replace HK := uh (HK.out.later hb)
  replace HD := uh (HD.out.later hb)
  clear hr hr1 hb hout HC
  have x0 := HK.out.get 0 _ rfl
  have x2 := HK.out.get 2 _ rfl
  have x3 := HK.out.get 3 _ rfl
  have xl := HK.out.lt
  have HC2 := uh (copyLnsI out (.slice va1 out.length vc1) w1 HR.out HLL.out HLW.out)
  obtain ⟨m, hm0⟩ : ∃ m, m = out.length := ⟨_, rfl⟩
  have HM := uh hm0
  rw [← hm0] at HC2
  rw [← hm0]
  clear hm0 HR
  by_cases h0 : m = 0
  rotate_left
  · have hi0 : ¬ ((m : Int) = 0) := by omega
    have HE : Hid (Pl.meant ru l = out) := by show _ = _; rw [HME.out, ← HM.out]; simp [h0]
    go_wp2_with fail
    refine HC2.out.mono ?_
    rintro e w2 ⟨v2, F, rfl, r, nd, fr, hb⟩
    have HX : Hid (AnsL shLns (lnsD (Pl.meant ru l)) w (.returned v2) w2) := by rw [HE.out]; exact ⟨_, F, rfl, r, nd, fun b hb' => Nat.le_trans HB.out.size (fr b hb'), blw_trans HB.out hb⟩
    clear r nd fr hb
    go_wp2
    go_ret
    exact HX.out
  subst h0
  cases hm : ru.many
  rotate_left
  · have HE : Hid (Pl.meant ru l = out) := by show _ = _; rw [HME.out, hm]; simp
    rw [hm] at x2
    go_wp2_with fail
    refine HC2.out.mono ?_
    rintro e w2 ⟨v2, F, rfl, r, nd, fr, hb⟩
    have HX : Hid (AnsL shLns (lnsD (Pl.meant ru l)) w (.returned v2) w2) := by rw [HE.out]; exact ⟨_, F, rfl, r, nd, fun b hb' => Nat.le_trans HB.out.size (fr b hb'), blw_trans HB.out hb⟩
    clear r nd fr hb
    go_wp2
    go_ret
    exact HX.out
  rw [hm] at x2
  have HE : Hid (Pl.meant ru l = [⟨ru.key, ru.dflt⟩]) := by show _ = _; rw [HME.out, hm, ← HM.out]; simp
  obtain ⟨w3, hw3⟩ : ∃ w3, w3 = w1.alloc (.cells #[.string ru.key, .slice a3 ru.dflt.length c3] 52) := ⟨_, rfl⟩
  have hb3 : Below w1.heap.size w1 w3 := by rw [hw3]; exact blw_alloc (Below.refl _ _) _
  have HR3 : Hid (Raw w3 shLns [lnsD [⟨ru.key, ru.dflt⟩]] [.slice (some ⟨w1.heap.size, 0, none⟩) 1 1]) := by
    refine .row _ _ w1.heap.size 0 1 1 [.string ru.key, .slice a3 ru.dflt.length c3] _ (by rw [hw3]; simp) ⟨by decide, Nat.le_refl _⟩ ?_ ?_ .nil
    · rw [hw3]; exact (LBox.new w1 #[.string ru.key, .slice a3 ru.dflt.length c3] _ _ rfl).at_
    · exact .s _ (HD.out.later hb3)
  clear HC2
  have HC2 := uh (copyLnsI [⟨ru.key, ru.dflt⟩] (.slice (some ⟨w1.heap.size, 0, none⟩) 1 1) w3 HR3.out (by simp) (by intro x hx; rw [List.mem_singleton] at hx; subst hx; exact HDL.out))
  go_upto_region 4 with fail
  rw [← hw3]
  clear hw3
  replace HB := uh (blw_trans HB.out hb3)
  clear hb3
  go_wp2_with fail
  refine HC2.out.mono ?_
  rintro e w2 ⟨v2, F, rfl, r, nd, fr, hb⟩
  have HX : Hid (AnsL shLns (lnsD (Pl.meant ru l)) w (.returned v2) w2) := by rw [HE.out]; exact ⟨_, F, rfl, r, nd, fun b hb' => Nat.le_trans HB.out.size (fr b hb'), blw_trans HB.out hb⟩
  clear r nd fr hb
  go_wp2
  go_ret
  exact HX.out

end Go.Proofs.Ytikacjpbnoihjaa
