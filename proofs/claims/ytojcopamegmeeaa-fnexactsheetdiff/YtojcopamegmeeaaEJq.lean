/-
  Sheets: the head of a block; where the blocks of a list stand: the program.
-/
import Derived.Lib.AppendZerosOnto
import Derived.DeepKeys4
import Derived.Test.YtojcopamegmeeaaEGf
import Derived.Test.YtojcopamegmeeaaUC
import Derived.Test.YtojcopamegmeeaaELc
import Derived.Test.YtojcopamegmeeaaEPv
import Derived.Test.YtojcopamegmeeaaEPg
import Derived.Test.YtojcopamegmeeaaEGa
import Derived.Test.YtojcopamegmeeaaECy
import Derived.Test.YtojcopamegmeeaaEGn
import Derived.Test.YtojcopamegmeeaaESd
import Derived.Test.YtojcopamegmeeaaUB
namespace Go.Proofs.Ytojcopamegmeeaa
open Go.RowKit Go.Deep

set_option maxHeartbeats 4000000 in
theorem copyTextsE (ws : List ByteArray) (v : Value) (W : World) (h : Raw W shTxs [.row ws.length (txD ws)] [v]) (hn : ws.length ≤ 4194304) :
    Calls Try.prog 113 #[v] W (AnsL shTxs (.row ws.length (txD ws)) W) := by
  obtain ⟨v', W', xs, hrun, hg, hb⟩ := app_copy (P := Try.prog) W.heap.size 67 67 9 9 1 16 _ Try.under_texts Try.info_text rfl (by decide) (by decide) [.s] rfl (by simp [flatB]) W (.slice none 0 0) (Or.inl rfl) (Nat.le_refl _) ws.length (txD ws) v h hn
  obtain ⟨F, r, nd, fr⟩ := hg.done
  have HD : Hid (AnsL shTxs (.row ws.length (txD ws)) W (.returned v') W') := ⟨_, F, rfl, r, nd, fr, hb⟩
  obtain ⟨va, vc, ev⟩ := h.len0
  subst ev
  obtain ⟨wx, wc, hvx⟩ := hg.shape
  subst hvx
  clear h hg r nd fr hb
  go_enter Try.func113, Try.ntmps113
  go_wp2_with (at_builtin; refine Go.Lib.wpList_append_run _ rfl _ _ 67 67 rfl _ _ rfl rfl _ W' hrun ?_)
  go_ret
  exact HD.out

set_option maxRecDepth 8000 in
set_option maxHeartbeats 8000000 in
theorem copyLineI (x : Pl.Ln) (va : Option Addr) (vc : Nat) (W : World) (hv : Raw W shTxs [.row x.ws.length (txD x.ws)] [.slice va x.ws.length vc]) (hn : x.ws.length ≤ 4194304) :
    Calls Try.prog 111 #[.agg #[.string x.key, .slice va x.ws.length vc]] W (Ans shSheetLine (lnD x) W) := by
  obtain ⟨b0, hb0⟩ : ∃ b, b = W.heap.size := ⟨_, rfl⟩
  obtain ⟨wa, hwa⟩ : ∃ wa, wa = (W.alloc (.cells #[.string x.key, .slice va x.ws.length vc] 69)).alloc (.cells #[.string { data := #[] }, .slice none 0 0] 69) := ⟨_, rfl⟩
  have HB : Hid (Below W.heap.size W wa) := by show Below _ _ _; rw [hwa]; exact blw_alloc (blw_alloc (Below.refl _ _) _) _
  have HX : Hid (WBox wa b0 69 [.string x.key, .slice va x.ws.length vc]) := by show WBox _ _ _ _; rw [hwa, hb0]; exact (WBox.new W [.string x.key, .slice va x.ws.length vc] _ _ rfl).later (blw_alloc (Below.refl _ _) _)
  have HO : Hid (OwnBlk wa (b0 + 1) 69 2) := by show OwnBlk _ _ _ _; rw [hwa]; exact OwnBlk.alloc_at3 _ _ _ _ _ rfl (by simp [hb0])
  have ZA : Hid (wa.heap.size = b0 + 2) := by show _ = _; rw [hwa]; simp [hb0]
  have HZ := uh hb0
  have HC := uh (copyTextsE x.ws (.slice va x.ws.length vc) wa (hv.later HB.out) hn)
  go_enter Try.func111, Try.ntmps111
  go_upto_region 1 with fail
  rw [← hwa, ← hb0]
  clear hwa hb0 hv hn
  have xa := HX.out.get 1 _ rfl
  have xl := HX.out.own.lt
  go_wp2_with fail
  refine HC.out.mono ?_
  rintro e w1 ⟨v1, F, rfl, r, nd, fr, hb⟩
  obtain ⟨wx, wc, hvx⟩ := r.raw.len0
  subst hvx
  have HR := uh (And.intro r (And.intro nd fr))
  have HX1 := HX.out.later hb
  have hth1 : w1.there b0 1 1 := uthere HX1.own _ _ (by simp)
  obtain ⟨y, hy⟩ : ∃ y, y = w1.setCell ⟨b0, 1, none⟩ (.slice wx x.ws.length wc) := ⟨_, rfl⟩
  have HX2 : Hid (WBox y b0 69 [.string x.key, .slice wx x.ws.length wc]) := by show WBox _ _ _ _; rw [hy]; exact HX1.set 1 _ (by simp)
  have HM : Hid (Marks (fun b => b = b0) w1 y) := by show Marks _ _ _; rw [hy]; exact Marks.sc (S := fun b => b = b0) _ rfl _ _
  have HO2 := uh (HM.out.own _ _ _ (HO.out.later hb))
  have HB2 : Hid (Below W.heap.size W y) := HM.out.below (fun b e => by rw [e, HZ.out]; exact Nat.le_refl _) (blw_trans HB.out hb)
  have HF : Hid (∀ b ∈ F, b0 + 2 ≤ b) := fun b hb => by have := HR.out.2.2 b hb; have := ZA.out; omega
  have x1 := HX1.get 1 _ rfl
  have xf := HX1.own.frozen 1
  have xz := HX1.own.lt
  clear r nd fr hb xa xl hth1
  go_upto_region 2 with fail
  rw [← hy]
  clear hy x1 xf xz HX1 HC
  have hxl := HX2.out.own.lt
  have hxa := HX2.out.at_
  have hth : y.there (b0 + 1) 0 (#[.string x.key, .slice wx x.ws.length wc] : Array Value).size := uthere HO2.out _ _ (by simp)
  obtain ⟨we, hwe⟩ : ∃ we, we = y.setCells (b0 + 1) 0 [.string x.key, .slice wx x.ws.length wc] := ⟨_, rfl⟩
  have hrt : we.rangeAt (b0 + 1) 0 [.string x.key, .slice wx x.ws.length wc] := by rw [hwe]; exact World.rangeAt_setCells_same _ _ _ _ hth
  have HMK : Hid (Marks (fun b => b = b0 + 1) y we) := by show Marks _ _ _; rw [hwe]; exact mks_scs (S := fun b => b = b0 + 1) rfl _ _ _
  have HBB : Hid (Below W.heap.size W we) := by show Below _ _ _; rw [hwe]; exact blw_scs (by have := HZ.out; omega) _ _ _ HB2.out
  go_wp2_with (first | (refine wpList_load_mid rfl 69 _ rfl b0 0 rfl [.string x.key, .slice wx x.ws.length wc] _ hxa Try.underlying69 rfl (by kernel_rfl) ?_) | (refine wpList_store_mid rfl 69 _ _ rfl (b0 + 1) 0 #[.string x.key, .slice wx x.ws.length wc] rfl rfl hth (by kernel_rfl) (by simp [Value.oneCell']) ?_))
  first | rw [← hwe] | (simp only [List.toList_toArray]; rw [← hwe])
  try simp only [Act.put]
  refine bodyPost_ret (v := .agg #[.string x.key, .slice wx x.ws.length wc]) (by simp [results, Try.results111, asAddr, run_loadVar_mid (P := Try.prog) _ _ _ 69 [.string x.key, .slice wx x.ws.length wc] _ hrt Try.underlying69 rfl (by kernel_rfl)]) rfl ?_
  have M1 := HR.out.1.keep HM.out (fun b hb e => by have := HF.out b hb; omega)
  have M2 := M1.keep HMK.out (fun b hb e => by have := HF.out b hb; omega)
  refine ⟨[.string x.key, .slice wx x.ws.length wc], F ++ [], rfl, repSheetLine_mk _ M2, by rw [List.append_nil]; exact HR.out.2.1, fun b hb => by rw [List.append_nil] at hb; have := HF.out b hb; have := HZ.out; omega, HBB.out⟩

set_option maxRecDepth 8000 in
set_option maxHeartbeats 8000000 in
/-- Room for n. -/
theorem growSheetLine (n : Nat) (W : World) (hn : n ≤ 4194304) : Calls Try.prog 112 #[.slice none 0 0, .int .i64 n] W (AnsL shLns (.row 0 []) W) := by
  have h1 : ¬ ((n : Int) < 0) := by omega
  by_cases h0 : n = 0
  · subst h0
    go_enter Try.func112, Try.ntmps112
    go_wp2
    go_ret
    exact ⟨_, [], rfl, .emp _ _ _ rfl .nil, List.nodup_nil, by simp, Below.refl _ _⟩
  obtain ⟨i0, hi0, hz, hs, hby⟩ := uinfo Try.info_line
  have hrz : ∀ ty, (Builtin.append_ #[40, 3] ty #[.slice none 0 0, .int .i64 (n : Int)]).run Try.prog W = .ok (.slice (some ⟨W.heap.size, 0, none⟩) n (grownCap W n 0 69)) (W.drew.alloc (.cells ((#[] : Array Value) ++ Builtin.zeroCells #[.string { data := #[] }, .slice none 0 0] n ++ Builtin.zeroCells #[.string { data := #[] }, .slice none 0 0] (grownCap W n 0 69 - n)) 69)) := fun ty => by
    have := Lib.run_append_grow_zeros (P := Try.prog) W 40 3 ty 69 i0 _ .i64 .i64 Try.under_lines Try.underlying3 hi0 hz none 0 0 [] (run_firstCells_none W.drew i0.size 0 0 0) n (by omega) (by rw [hs]; decide) (by omega) (by omega) (by rw [hby]; omega) (growslice_fits (by omega) (by rw [hby]; omega))
    rw [Nat.zero_add] at this
    exact this
  have hG1 : n ≤ grownCap W n 0 69 := grownCap_ge W _ _ _
  have hG2 := grownCap_le_maxLen W n 0 69 (by unfold maxLen; omega)
  obtain ⟨G, hG⟩ : ∃ G, G = grownCap W n 0 69 := ⟨_, rfl⟩
  rw [← hG] at hrz hG1 hG2
  obtain ⟨cur, hcur⟩ : ∃ cur, cur = (#[] : Array Value) ++ Builtin.zeroCells #[.string { data := #[] }, .slice none 0 0] n ++ Builtin.zeroCells #[.string { data := #[] }, .slice none 0 0] (G - n) := ⟨_, rfl⟩
  have hcs : cur.size = G * 2 := by rw [hcur, Array.size_append, Array.size_append, size_zeroCells, size_zeroCells]; simp; omega
  rw [← hcur] at hrz
  clear hcur hG
  obtain ⟨w1, hw1⟩ : ∃ w1, w1 = W.drew.alloc (.cells cur 69) := ⟨_, rfl⟩
  have HB : Hid (Below W.heap.size W w1) := by show Below _ _ _; rw [hw1]; exact blw_alloc (Below.drew (Below.refl _ _)) _
  have HO : Hid (OwnBlk w1 W.heap.size 69 (G * 2)) := by show OwnBlk _ _ _ _; rw [hw1]; exact ⟨cur, heap_alloc_new W.drew _, hcs⟩
  rw [← hw1] at hrz
  unfold maxLen at hG2
  have hg0 : (0 : Int) < (n : Int) := by omega
  clear hw1 hcs
  go_enter Try.func112, Try.ntmps112
  go_wp2_with (at_builtin; refine Lib.wpList_append_run _ rfl _ _ 40 3 rfl _ _ rfl rfl _ w1 (hrz _) ?_)
  all_goals (go_ret; exact ⟨_, [W.heap.size], rfl, .row _ _ W.heap.size 0 0 G 69 (G * 2) [] [] [] HO.out (by simp) (by simp) ⟨by omega, by omega⟩ (rA_nil _ _ _) .nil .nil, by simp, by simp, HB.out⟩)

set_option maxRecDepth 8000 in
set_option maxHeartbeats 16000000 in
theorem copyLnsI (l : List Pl.Ln) (v : Value) (W : World) (h : Raw W shLns [lnsD l] [v]) (hl : l.length ≤ 4194304) (hw : ∀ x ∈ l, x.ws.length ≤ 4194304) :
    Calls Try.prog 110 #[v, .func (.func 111) #[] #[]] W (AnsL shLns (lnsD l) W) := by
  have HL := uh h
  have HWS := uh hw
  obtain ⟨va, vc, ev⟩ := h.len0
  subst ev
  clear h hw
  obtain ⟨n, hn⟩ : ∃ n, n = l.length := ⟨_, rfl⟩
  have HN := uh hn
  have hnn : l.length = n := hn.symm
  clear hn
  rw [hnn] at hl ⊢
  clear hnn
  go_enter Try.func110, Try.ntmps110
  go_wp2_with fail
  refine (growSheetLine n W hl).mono ?_
  rintro e w0 ⟨v, F, rfl, r, nd, fr, hb⟩
  obtain ⟨va1, vc1, hva⟩ := r.raw.len0
  subst hva
  have HR := uh r
  have HND := uh (And.intro nd fr)
  have HB := uh hb
  clear r nd fr hb
  go_wp2
  go_loopw [5, 13] (fun vv i wr => ∃ (q : Nat) (F : List Nat), q ≤ n ∧ i = .int .i64 q ∧ Rep wr false shLns F [.row q ((l.take q).flatMap lnD)] [vv] ∧ F.Nodup ∧ (∀ b ∈ F, W.heap.size ≤ b) ∧ Below W.heap.size W wr) (fun _ i _ => n - (intOf i).toNat)
  case atStart => exact ⟨0, F, Nat.zero_le _, rfl, HR.out, HND.out.1, HND.out.2, HB.out⟩
  case round =>
    obtain ⟨q, F2, hq, rfl, hR, hN2, hF, hB⟩ := hrel
    have HR2 := uh hR
    have HN2 := uh (And.intro hN2 hF)
    have HB2 := uh hB
    obtain ⟨va2, vc2, hva⟩ := hR.raw.len0
    subst hva
    clear hR hN2 hF hB HR HND HB
    by_cases hlt : q < n
    rotate_left
    · obtain rfl : q = n := by omega
      have hnlt : ¬ ((q : Int) < (q : Int)) := by omega
      have HR5 : Hid (Rep wr false shLns F2 [lnsD l] [.slice va2 q vc2]) := by
        have h5 := HR2.out
        rw [List.take_of_length_le (by have := HN.out; omega), HN.out] at h5
        rw [HN.out]; exact h5
      go_wp2
      go_ret
      exact ⟨_, F2, rfl, HR5.out, HN2.out.1, HN2.out.2, HB2.out⟩
    have hqL : q < l.length := by have := HN.out; omega
    rcases lns_open (HL.out.later HB2.out) with ⟨e0, _⟩ | ⟨p, o, c, hv, hp, hml, hopen⟩
    · omega
    rw [← HN.out] at hv hml
    injection hv with g1 _ g3
    subst g1; subst g3
    unfold maxLen at hml
    obtain ⟨aw, cw, hrg, hvR⟩ := hopen q hqL
    have HXM : Hid (l.getD q Pl.lnNo ∈ l) := by
      show _ ∈ _
      have e : l.getD q Pl.lnNo = l[q] := by simp [hqL]
      rw [e]; exact List.getElem_mem hqL
    have HTK := uh (Pl.take_snocD Pl.lnNo l q hqL)
    obtain ⟨x, hx⟩ : ∃ x, x = l.getD q Pl.lnNo := ⟨_, rfl⟩
    rw [← hx] at hrg hvR HXM HTK
    clear hx hopen
    obtain ⟨y, hy⟩ : ∃ y, y = wr.alloc (.cells #[.string x.key, .slice aw x.ws.length cw] 69) := ⟨_, rfl⟩
    have hby : Below wr.heap.size wr y := by rw [hy]; exact blw_alloc (Below.refl _ _) _
    obtain ⟨z0, hz0⟩ : ∃ z, z = wr.heap.size := ⟨_, rfl⟩
    have HG : Hid (LBox y z0 [.string x.key, .slice aw x.ws.length cw]) := by show LBox _ _ _; rw [hy]; exact LBox.new _ #[.string x.key, .slice aw x.ws.length cw] _ _ hz0
    have HFl : Hid (∀ b ∈ F2, b < z0) := by rw [hz0]; exact HR2.out.lt
    have hm0 : (0 : Int) ≤ (q : Int) := by omega
    have hm3 : (q : Int) < (n : Int) := by omega
    go_upto_region 5 with (refine wpList_load_mid rfl 69 _ rfl p (o + q * 2) rfl [.string x.key, .slice aw x.ws.length cw] _ hrg Try.underlying69 rfl (by kernel_rfl) ?_)
    rw [← hy, ← hz0]
    clear hy hrg hp
    replace HR2 := uh (HR2.out.later hby)
    replace HB2 := uh (blw_trans HB2.out hby)
    have HZ0 : Hid (z0 ≤ y.heap.size ∧ W.heap.size ≤ y.heap.size) := ⟨by rw [hz0]; exact hby.size, HB2.out.size⟩
    have HC := uh (copyLineI x aw cw y (hvR.later hby) (HWS.out x HXM.out))
    clear hby hvR hz0
    have hgl := HG.out.lt
    have hga := HG.out.at_
    go_wp2_with (refine wpList_load_mid rfl 69 _ rfl z0 0 rfl [.string x.key, .slice aw x.ws.length cw] _ hga Try.underlying69 rfl (by kernel_rfl) ?_)
    refine HC.out.mono ?_
    rintro e w1 ⟨cc, FV, rfl, rep, nd, fr, hb⟩
    obtain ⟨F3, v3, rfl, rfl, r3⟩ := repSheetLine rep
    obtain ⟨a1, m1, hv3⟩ := r3.raw.len0
    subst hv3
    clear r3
    have HFV : Hid ((F3 ++ []).Nodup ∧ ∀ b ∈ F3 ++ [], y.heap.size ≤ b) := ⟨nd, fr⟩
    have HRG := uh rep
    replace HB2 := uh (blw_trans HB2.out hb)
    replace HR2 := uh (HR2.out.later hb)
    have HZ1 : Hid (y.heap.size ≤ w1.heap.size) := hb.size
    clear hgl hga HC rep nd fr hb HG
    obtain ⟨wb, hwb⟩ : ∃ wb, wb = w1.alloc (.cells #[.string x.key, .slice a1 x.ws.length m1] 69) := ⟨_, rfl⟩
    have hbb : Below w1.heap.size w1 wb := by rw [hwb]; exact blw_alloc (Below.refl _ _) _
    obtain ⟨v', x3, F4, row, hrun, rep, nd, hsub, hgr, hrow⟩ := rep_append (P := Try.prog) 40 40 69 2 40 _ Try.under_lines Try.info_line rfl (by decide) shSheetLine rfl wb (HR2.out.later hbb) HN2.out.1 (by omega) (F' := F3 ++ []) (d := lnD x) (c' := [.string x.key, .slice a1 x.ws.length m1]) ⟨w1.heap.size, 0, none⟩ (HRG.out.later hbb) HFV.out.1 (fun b hb e => by have := HFV.out.2 b hb; have := HFl.out b e; have := HZ0.out.1; omega) (by rw [hwb]; exact news_new w1 #[.string x.key, .slice a1 x.ws.length m1] 69)
    obtain ⟨wx, wc, hvx⟩ := rep.raw.len0
    subst hvx
    rw [hwb] at hrun
    have HB3 : Hid (Below W.heap.size W x3) := blw_grown (blw_trans HB2.out hbb) hgr (fun b e => HN2.out.2 b (hrow b e))
    have HS3 : Hid (∀ b ∈ F4, W.heap.size ≤ b) := fun b hb => by
      rcases hsub b hb with e | e | e
      · exact HN2.out.2 b e
      · have := HFV.out.2 b e; have := HZ0.out.2; omega
      · have := hbb.size; have := HZ1.out; have := HZ0.out; omega
    have HR4 : Hid (Rep x3 false shLns F4 [.row (q + 1) ((l.take (q + 1)).flatMap lnD)] [.slice wx (q + 1) wc]) := by
      show Rep _ _ _ _ _ _
      rw [HTK.out, List.flatMap_append, List.flatMap_singleton]
      exact rep
    have HN4 : Hid F4.Nodup := nd
    clear rep nd hsub hgr hrow hbb hwb
    go_wp2_with (at_builtin; refine Go.Lib.wpList_append_run _ rfl _ _ 40 40 rfl _ _ rfl rfl _ x3 hrun ?_)
    clear hrun HR2 HN2
    go_roundw
    case rel => exact ⟨q + 1, F4, by omega, by go_num, HR4.out, HN4.out, HS3.out, HB3.out⟩
    case measure => simp [intOf]; omega

end Go.Proofs.Ytojcopamegmeeaa

namespace Go.Proofs.Ytojcopamegmeeaa
open Go.RowKit Go.Deep

theorem ruIxF_key {key : ByteArray} : ∀ (l : List Pl.Ru) (i j : Nat), Pl.ruIxF key l i = some j → i ≤ j ∧ (l.getD (j - i) Pl.ruNo).key = key
  | [], _, _, h => by unfold Pl.ruIxF at h; cases h
  | r :: l, i, j, h => by
    unfold Pl.ruIxF at h
    split at h
    · rename_i hk
      injection h with h; subst h
      refine ⟨Nat.le_refl _, ?_⟩
      rw [Nat.sub_self]
      exact tl_inj (by simpa using hk)
    · have := ruIxF_key l (i + 1) j h
      refine ⟨by omega, ?_⟩
      have e : j - i = (j - (i + 1)) + 1 := by omega
      rw [e, List.getD_cons_succ]
      exact this.2
theorem ruIx_key {l : List Pl.Ru} {key : ByteArray} {j : Nat} (h : Pl.ruIx l key = some j) : (l.getD j Pl.ruNo).key = key := by
  have := (ruIxF_key l 0 j h).2
  rwa [Nat.sub_zero] at this
/-- What a key means. -/
def Pl.meant (ru : Pl.Ru) (l : List Pl.Ln) : List Pl.Ln := if decide ((Pl.linesOf l ru.key).length = 0) && !ru.many then [⟨ru.key, ru.dflt⟩] else Pl.linesOf l ru.key
/-- What is meant, key by key. -/
def Pl.filled (kind : ByteArray) (l : List Pl.Ln) : List Pl.Ln := (Pl.rulesOf kind).flatMap (fun r => Pl.meant r l)
/-- Two lists of texts alike. -/
def Pl.eqWs : List ByteArray → List ByteArray → Bool
  | [], [] => true
  | a :: x, b :: y => (a.toList == b.toList) && Pl.eqWs x y
  | _, _ => false
theorem eqWs_len : ∀ A B : List ByteArray, A.length ≠ B.length → Pl.eqWs A B = false
  | [], [], h => by simp at h
  | [], _ :: _, _ => rfl
  | _ :: _, [], _ => rfl
  | a :: x, b :: y, h => by
    rw [Pl.eqWs, eqWs_len x y (by simpa using h), Bool.and_false]
theorem eqWs_at {A B : List ByteArray} {k : Nat} (h1 : k < A.length) (h2 : k < B.length) : Pl.eqWs (A.drop k) (B.drop k) = ((A.getD k Pl.txNo).toList == (B.getD k Pl.txNo).toList && Pl.eqWs (A.drop (k + 1)) (B.drop (k + 1))) := by
  have e1 : A.getD k Pl.txNo = A[k] := by simp [h1]
  have e2 : B.getD k Pl.txNo = B[k] := by simp [h2]
  rw [List.drop_eq_getElem_cons h1, List.drop_eq_getElem_cons h2, Pl.eqWs, e1, e2]
theorem eqWs_iff : ∀ A B : List ByteArray, Pl.eqWs A B = true ↔ A = B
  | [], [] => by simp [Pl.eqWs]
  | [], _ :: _ => by simp [Pl.eqWs]
  | _ :: _, [] => by simp [Pl.eqWs]
  | a :: x, b :: y => by
    rw [Pl.eqWs, Bool.and_eq_true, eqWs_iff x y]
    constructor
    · rintro ⟨h1, h2⟩
      rw [tl_inj h1, h2]
    · intro h
      injection h with h1 h2
      subst h1; subst h2
      exact ⟨by simp, rfl⟩
/-- The lines that are kept. -/
def Pl.keepI (kind : ByteArray) (x : Pl.Ln) : Bool := match Pl.ruIx (Pl.rulesOf kind) x.key with
  | none => !Pl.eqWs x.ws []
  | some j => ((Pl.rulesOf kind).getD j Pl.ruNo).many || !Pl.eqWs x.ws ((Pl.rulesOf kind).getD j Pl.ruNo).dflt
def Pl.trimmed (kind : ByteArray) (l : List Pl.Ln) : List Pl.Ln := l.filter (Pl.keepI kind)

end Go.Proofs.Ytojcopamegmeeaa

namespace Go.Proofs.Ytojcopamegmeeaa
open Go.RowKit Go.Deep

/-- A function's answer: a list that can be read. -/
def AnsR (sh : List Sh) (A : Dt) (W : World) (e : Ending) (w' : World) : Prop := ∃ v, e = .returned v ∧ Raw w' sh [A] [v] ∧ Below W.heap.size W w'
theorem filt_stepE {l : List Pl.Ln} {pr : Pl.Ln → Bool} {k : Nat} (hk : k < l.length) : (l.take (k + 1)).filter pr = if pr (l.getD k Pl.lnNo) then (l.take k).filter pr ++ [l.getD k Pl.lnNo] else (l.take k).filter pr := by
  rw [Pl.take_snocD Pl.lnNo l k hk, List.filter_append, List.filter_cons, List.filter_nil]
  split <;> simp

end Go.Proofs.Ytojcopamegmeeaa

namespace Go.Proofs.Ytojcopamegmeeaa
open Go.RowKit Go.Deep

theorem look_kind2 {W : World} {mb : Nat} {vt vb vs : Value} (hb : W.heap[mb]? = some (.map #[⟨.string { data := #[116, 101, 97, 109] }, .agg #[vt], 0⟩, ⟨.string { data := #[98, 101, 114, 116, 104] }, .agg #[vb], 1⟩, ⟨.string { data := #[115, 101, 114, 118, 105, 99, 101] }, .agg #[vs], 2⟩] 3)) (kind : ByteArray) :
    (Instr.lookup 78 (.map (some mb)) (.string kind) true).run Try.prog W = .ok (.tuple #[.agg #[kindV kind vt vb vs], .bool (!decide ((Pl.rulesOf kind).length = 0))]) W := by
  have hz : (zeroValue 81).run Try.prog W = .ok (.agg #[.slice none 0 0]) W := by kernel_rfl
  have e1 := beq_text kind [116, 101, 97, 109] { data := #[116, 101, 97, 109] } (by decide +kernel)
  have e2 := beq_text kind [98, 101, 114, 116, 104] { data := #[98, 101, 114, 116, 104] } (by decide +kernel)
  have e3 := beq_text kind [115, 101, 114, 118, 105, 99, 101] { data := #[115, 101, 114, 118, 105, 99, 101] } (by decide +kernel)
  obtain ⟨r, hr, hv, hk⟩ : ∃ r, Instr.findNow .string (.string kind) [⟨.string { data := #[116, 101, 97, 109] }, .agg #[vt], 0⟩, ⟨.string { data := #[98, 101, 114, 116, 104] }, .agg #[vb], 1⟩, ⟨.string { data := #[115, 101, 114, 118, 105, 99, 101] }, .agg #[vs], 2⟩] 0 = some r ∧ (match r with | some (_, v) => v | none => .agg #[.slice none 0 0]) = .agg #[kindV kind vt vb vs] ∧ r.isSome = !decide ((Pl.rulesOf kind).length = 0) := by
    unfold Pl.rulesOf
    simp only [Instr.findNow, Instr.sameNow, e1, e2, e3, kindV]
    cases (kind.toList == [116, 101, 97, 109]) <;> cases (kind.toList == [98, 101, 114, 116, 104]) <;> cases (kind.toList == [115, 101, 114, 118, 105, 99, 101]) <;> exact ⟨_, rfl, rfl, by first | rfl | (simp only [Option.isSome]; decide +kernel)⟩
  have hf := find_text W kind _ r hr
  rw [← hk]
  cases r with
  | none =>
    simp only at hv
    simp [Instr.lookup, run_underlying Try.und_kinds, MapKept.run_getObj_map hb, check_text, hf, hz, Result.andThen, hv]
  | some p =>
    obtain ⟨j, v⟩ := p
    simp only at hv
    subst hv
    simp [Instr.lookup, run_underlying Try.und_kinds, MapKept.run_getObj_map hb, check_text, hf, Result.andThen]

set_option maxRecDepth 8000 in
set_option maxHeartbeats 16000000 in
theorem sheetValidI (s : List Pl.Bl) (v : Value) (w : World) (h : Raw w shBls [blsD s] [v]) (hz : okTx s) (_ : wtL [blsD s] ≤ 1048576) :
    Calls Try.prog 19 #[.agg #[v]] w fun e w' => e = .returned (.bool (Pl.validS s)) ∧ Below w.heap.size w w' := by
  have HL := uh h
  have HZ := uh hz
  obtain ⟨va, vc, ev⟩ := h.len0
  subst ev
  obtain ⟨R, hR⟩ : ∃ R, R = Pl.validS s := ⟨_, rfl⟩
  have HR : Hid (R = (decide (s.length ≤ 60) && (ascBl s && (List.range s.length).all fun i => blkP (s.getD i Pl.blNo)))) := hR.trans (valid_eq s)
  rw [← hR]
  clear h hz hR
  obtain ⟨wa, hwa⟩ : ∃ wa, wa = w.alloc (.cells #[.slice va s.length vc] 30) := ⟨_, rfl⟩
  obtain ⟨b0, hb0⟩ : ∃ b0, b0 = w.heap.size := ⟨_, rfl⟩
  have HB : Hid (Below w.heap.size w wa) := by show Below _ _ _; rw [hwa]; exact blw_alloc (Below.refl _ _) _
  have HK0 : Hid (LBox wa b0 [.slice va s.length vc]) := by show LBox _ _ _; rw [hwa, hb0]; exact LBox.new w #[.slice va s.length vc] _ _ rfl
  have z0 := HK0.out.get 0 _ rfl
  have zl := HK0.out.lt
  have HAS := uh (ascBlI s (.slice va s.length vc) wa (HL.out.later HB.out))
  go_enter Try.func19, Try.ntmps19
  go_upto_region 1 with fail
  rw [← hwa, ← hb0]
  clear hwa hb0
  by_cases h60 : s.length ≤ 60
  rotate_left
  · have d0 : ((60 : Int) < (s.length : Int)) := by omega
    have HE : Hid (R = false) := by show R = _; rw [HR.out, decide_eq_false h60]; rfl
    go_wp2
    go_ret
    exact ⟨Pl.ret_bool HE.out.symm, HB.out⟩
  have d0 : ¬ ((60 : Int) < (s.length : Int)) := by omega
  replace HR : Hid (R = (ascBl s && (List.range s.length).all fun i => blkP (s.getD i Pl.blNo))) := by show R = _; rw [HR.out, decide_eq_true h60, Bool.true_and]
  obtain ⟨ab, hab⟩ : ∃ ab, ab = ascBl s := ⟨_, rfl⟩
  rw [← hab] at HAS HR
  clear hab
  cases ab
  · have HE : Hid (R = false) := HR.out
    go_wp2_with (go_at_call 35; refine HAS.out.mono ?_; rintro e w2 ⟨rfl, hb2⟩)
    go_ret
    exact ⟨Pl.ret_bool HE.out.symm, blw_trans HB.out hb2⟩
  replace HR : Hid (R = (List.range s.length).all fun i => blkP (s.getD i Pl.blNo)) := HR.out
  have HC := uh (fun W : World => sheetKindsI W)
  go_wp2_with fail
  refine HAS.out.mono ?_
  rintro e w2 ⟨rfl, hb2⟩
  replace HB := uh (blw_trans HB.out hb2)
  replace HK0 := uh (HK0.out.later hb2)
  clear z0 zl hb2 HAS
  go_wp2_with fail
  refine (HC.out _).mono ?_
  rintro e w1 ⟨mb, w0, vt, vb, vs, rfl, hm, h0, k1, k2, k3, hb⟩
  have HKD : Hid (∀ kind, ∃ ra rc, kindV kind vt vb vs = .slice ra (Pl.rulesOf kind).length rc ∧ Raw w1 [.row 73 shSheetRule] [rulesD (Pl.rulesOf kind)] [.slice ra (Pl.rulesOf kind).length rc]) := fun kind => by
    obtain ⟨v, F, he, hrep, _⟩ := kind_ans (w := w2) kind h0 k1 k2 k3 hb
    injection he with he
    obtain ⟨ra, rc, hv⟩ := hrep.raw.len0
    subst hv
    exact ⟨ra, rc, he, hrep.raw⟩
  have HM := uh hm
  have hml : mb < w1.heap.size := by
    by_cases q : mb < w1.heap.size
    · exact q
    · rw [Array.getElem?_eq_none (by omega)] at hm; cases hm
  have HML := uh hml
  replace HB := uh (blw_trans HB.out hb)
  replace HK0 := uh (HK0.out.later hb)
  have z0 := HK0.out.get 0 _ rfl
  have zl := HK0.out.lt
  clear hm h0 k1 k2 k3 hb hml HC
  go_wp2_with fail
  go_loopw [22] (fun i wr => ∃ k : Nat, k ≤ s.length ∧ i = .int .i64 k ∧ (List.range k).all (fun i => blkP (s.getD i Pl.blNo)) = true ∧ Below w1.heap.size w1 wr) (fun i _ => s.length - (intOf i).toNat)
  case atStart => exact ⟨0, Nat.zero_le _, rfl, rfl, Below.refl _ _⟩
  case round =>
    obtain ⟨k, hk, rfl, hall, hW⟩ := hrel
    have HALL := uh hall
    have HW := uh hW
    have HWW := uh (blw_trans HB.out hW)
    clear hall hW z0 zl
    by_cases hlt : k < s.length
    rotate_left
    · obtain rfl : k = s.length := by omega
      have HE : Hid (R = true) := by show R = _; rw [HR.out]; exact HALL.out
      go_wp2
      go_ret
      exact ⟨Pl.ret_bool HE.out.symm, HWW.out⟩
    rcases bls_open (HL.out.later HWW.out) with ⟨e0, _⟩ | ⟨p, o, c', hv, hp, _, hopen⟩
    · omega
    injection hv with g1 _ g3
    subst g1; subst g3
    obtain ⟨ax, cx, hg, hrx⟩ := hopen k hlt
    obtain ⟨x, hx⟩ : ∃ x, x = s.getD k Pl.blNo := ⟨_, rfl⟩
    rw [← hx] at hg hrx
    have x0 : wr.cell? ⟨p, o + k * 3, none⟩ = some (.string x.kind) := rA_get hg 0 _ rfl
    have x1 : wr.cell? ⟨p, o + k * 3 + 1, none⟩ = some (.string x.name) := rA_get hg 1 _ rfl
    have x2 : wr.cell? ⟨p, o + k * 3 + 2, none⟩ = some (.slice ax x.lines.length cx) := rA_get hg 2 _ rfl
    have hk0 : (0 : Int) ≤ (k : Int) := by omega
    have hkn : (k : Int) < (s.length : Int) := by omega
    have HSZ : Hid (x.name.size ≤ maxLen ∧ ∀ y ∈ x.lines, ∀ t ∈ y.ws, t.size ≤ maxLen) := by
      have e : s.getD k Pl.blNo = s[k] := by simp [hlt]
      rw [hx, e]; exact HZ.out _ (List.getElem_mem hlt)
    have HXL := uh hrx
    have HBAD : Hid (blkP x = false → R = false) := fun hq => by rw [HR.out]; exact Pl.rall_false hlt (by rw [← hx]; exact hq)
    have HGOOD : Hid (blkP x = true → (List.range (k + 1)).all (fun i => blkP (s.getD i Pl.blNo)) = true) := fun hq => Pl.rall_step HALL.out (by rw [← hx]; exact hq)
    have HBP : Hid (blkP x = (!decide ((Pl.rulesOf x.kind).length = 0) && Pl.nameOk20 x.name && holdsP (Pl.rulesOf x.kind) x.lines)) := rfl
    clear hopen hg hrx hx
    obtain ⟨ra, rc, hkv, hrr⟩ := HKD.out x.kind
    have HRR := uh (hrr.later HW.out)
    clear hrr
    obtain ⟨wb, hwb⟩ : ∃ wb, wb = wr.alloc (.cells #[.string x.kind, .string x.name, .slice ax x.lines.length cx] 42) := ⟨_, rfl⟩
    obtain ⟨bl, hbl⟩ : ∃ bl, bl = wr.heap.size := ⟨_, rfl⟩
    have HWB : Hid (Below wr.heap.size wr wb) := by show Below _ _ _; rw [hwb]; exact blw_alloc (Below.refl _ _) _
    have HLB : Hid (LBox wb bl [.string x.kind, .string x.name, .slice ax x.lines.length cx]) := by show LBox _ _ _; rw [hwb, hbl]; exact LBox.new wr #[.string x.kind, .string x.name, .slice ax x.lines.length cx] _ _ rfl
    go_upto_region 7 with fail
    rw [← hwb, ← hbl]
    clear hwb hbl x0 x1 x2
    have y0 := HLB.out.get 0 _ rfl
    have yl := HLB.out.lt
    have hlk := look_kind2 (((HWB.out.block _ (Nat.lt_of_lt_of_le HML.out HW.out.size)).trans (HW.out.block _ HML.out)).trans HM.out) x.kind
    rw [hkv] at hlk
    obtain ⟨l, hl0⟩ : ∃ l, l = Pl.rulesOf x.kind := ⟨_, rfl⟩
    have HLN : Hid (l.length ≤ 100) := by rw [hl0]; exact Pl.rules_len _
    have HAR : Hid (∀ r ∈ l, ∀ z ∈ r.args, 1 ≤ z ∧ z ≤ 6) := by rw [hl0]; exact Pl.rules_args _
    rw [← hl0] at hlk HRR HBP
    obtain ⟨kn, hkn0⟩ : ∃ kn, kn = !decide (l.length = 0) := ⟨_, rfl⟩
    rw [← hkn0] at hlk HBP
    clear hl0 hkv hkn0
    obtain ⟨w3, hw3⟩ : ∃ w3, w3 = wb.alloc (.cells #[.slice ra l.length rc] 81) := ⟨_, rfl⟩
    obtain ⟨bk, hbk⟩ : ∃ bk, bk = wb.heap.size := ⟨_, rfl⟩
    have HB3 : Hid (Below wb.heap.size wb w3) := by show Below _ _ _; rw [hw3]; exact blw_alloc (Below.refl _ _) _
    have HKB : Hid (LBox w3 bk [.slice ra l.length rc]) := by show LBox _ _ _; rw [hw3, hbk]; exact LBox.new wb #[.slice ra l.length rc] _ _ rfl
    have HB03 := uh (blw_trans HWB.out HB3.out)
    have HLB3 := uh (HLB.out.later HB3.out)
    go_upto_region 8 with fail
    rw [← hw3, ← hbk]
    clear hw3 hbk y0 yl hlk
    have y1 := HLB3.out.get 1 _ rfl
    have y2 := HLB3.out.get 2 _ rfl
    have yl := HLB3.out.lt
    have q0 := HKB.out.get 0 _ rfl
    have ql := HKB.out.lt
    have HWX : Hid (Below w.heap.size w w3) := blw_trans HWW.out HB03.out
    have HNM := uh (fun W => sheetIsNameI x.name W HSZ.out.1)
    have HHO := uh (holdsI l ra rc x.lines (.slice ax x.lines.length cx) w3 HLN.out HAR.out (HRR.out.later HB03.out) (HXL.out.later HB03.out) HSZ.out.2)
    obtain ⟨nm, hnm⟩ : ∃ nm, nm = Pl.nameOk20 x.name := ⟨_, rfl⟩
    rw [← hnm] at HNM HBP
    obtain ⟨ho, hho⟩ : ∃ ho, ho = holdsP l x.lines := ⟨_, rfl⟩
    rw [← hho] at HHO HBP
    clear hnm hho
    cases kn
    · have HE : Hid (R = false) := HBAD.out HBP.out
      go_wp2
      go_ret
      exact ⟨Pl.ret_bool HE.out.symm, HWX.out⟩
    · cases nm
      · have HE : Hid (R = false) := HBAD.out HBP.out
        go_wp2_with (go_at_call 38; refine (HNM.out _).mono ?_; rintro e w' ⟨rfl, rfl⟩)
        go_ret
        exact ⟨Pl.ret_bool HE.out.symm, HWX.out⟩
      · cases ho
        · have HE : Hid (R = false) := HBAD.out HBP.out
          go_wp2_with (first | (go_at_call 38; refine (HNM.out _).mono ?_; rintro e w' ⟨rfl, rfl⟩) | (go_at_call 39; refine HHO.out.mono ?_; rintro e w' ⟨rfl, hb9⟩))
          go_ret
          exact ⟨Pl.ret_bool HE.out.symm, blw_trans HWX.out hb9⟩
        · have HE := uh (HGOOD.out HBP.out)
          go_wp2_with (first | (go_at_call 38; refine (HNM.out _).mono ?_; rintro e w' ⟨rfl, rfl⟩) | (go_at_call 39; refine HHO.out.mono ?_; rintro e w' ⟨rfl, hb9⟩))
          go_roundw
          case rel => exact ⟨k + 1, by omega, by go_num, HE.out, blw_trans HW.out (blw_trans HB03.out hb9)⟩
          case measure => simp [intOf]; omega

end Go.Proofs.Ytojcopamegmeeaa

namespace Go.Proofs.Ytojcopamegmeeaa
open Go.RowKit Go.Deep

theorem chain_pair {α : Type} (R : α → α → Prop) (tr : ∀ a b c, R a b → R b c → R a c) (l : List α) (d : α) (h : ∀ i, 0 < i → i < l.length → R (l.getD (i - 1) d) (l.getD i d)) : l.Pairwise R := by
  rw [List.pairwise_iff_getElem]
  have key : ∀ (m i : Nat) (hi : i + m + 1 < l.length), R (l[i]'(by omega)) (l[i + m + 1]'hi) := by
    intro m
    induction m with
    | zero =>
      intro i hi
      have := h (i + 1) (by omega) (by omega)
      have e1 : l.getD i d = l[i]'(by omega) := by simp [show i < l.length by omega]
      have e2 : l.getD (i + 1) d = l[i + 1]'(by omega) := by simp [show i + 1 < l.length by omega]
      rw [Nat.add_sub_cancel, e1, e2] at this
      exact this
    | succ m ih =>
      intro i hi
      have h1 := ih i (by omega)
      have h2 := h (i + m + 2) (by omega) (by omega)
      have e1 : l.getD (i + m + 2 - 1) d = l[i + m + 1]'(by omega) := by simp [show i + m + 1 < l.length by omega]
      have e2 : l.getD (i + m + 2) d = l[i + m + 2]'(by omega) := by simp [show i + m + 2 < l.length by omega]
      rw [e1, e2] at h2
      exact tr _ _ _ h1 h2
  intro i j hi hj hij
  obtain ⟨m, rfl⟩ : ∃ m, j = i + m + 1 := ⟨j - i - 1, by omega⟩
  exact key m i hj
theorem valid_at {s : List Pl.Bl} (h : Pl.validS s = true) {i : Nat} (hi : i < s.length) : Pl.blockOkAt s i = true := by
  unfold Pl.validS at h
  rw [Bool.and_eq_true, List.all_eq_true] at h
  exact h.2 i (List.mem_range.2 hi)
theorem valid_le {s : List Pl.Bl} (h : Pl.validS s = true) : s.length ≤ 60 := by
  unfold Pl.validS at h
  rw [Bool.and_eq_true, decide_eq_true_iff] at h
  exact h.1
theorem valid_pair {s : List Pl.Bl} (h : Pl.validS s = true) : s.Pairwise fun a b => Pl.ahead a b = true := by
  refine chain_pair _ totBl.tr s Pl.blNo fun i h0 hi => ?_
  have := valid_at h hi
  unfold Pl.blockOkAt at this
  rw [Bool.and_eq_true, Bool.or_eq_true] at this
  rcases this.2 with q | q
  · rw [decide_eq_true_iff] at q; omega
  · exact q
theorem valid_lines {s : List Pl.Bl} (h : Pl.validS s = true) : ∀ b ∈ s, Pl.linesOk b.kind b.lines = true := fun b hb => by
  obtain ⟨i, hi, rfl⟩ := List.getElem_of_mem hb
  have := valid_at h hi
  have e : s.getD i Pl.blNo = s[i] := by simp [hi]
  unfold Pl.blockOkAt at this
  rw [e, Bool.and_eq_true, Bool.and_eq_true] at this
  exact this.1.2
theorem lines_at {kind : ByteArray} {l : List Pl.Ln} (h : Pl.linesOk kind l = true) {i : Nat} (hi : i < l.length) : Pl.lineOkAt kind l i = true := by
  unfold Pl.linesOk at h
  rw [List.all_eq_true] at h
  exact h i (List.mem_range.2 hi)
theorem lines_pair {kind : ByteArray} {l : List Pl.Ln} (h : Pl.linesOk kind l = true) : l.Pairwise fun a b => Pl.lineLess kind a b = true := by
  refine chain_pair _ (totLn kind).tr l Pl.lnNo fun i h0 hi => ?_
  have := lines_at h hi
  unfold Pl.lineOkAt at this
  rw [Bool.and_eq_true, Bool.and_eq_true, Bool.or_eq_true] at this
  rcases this.1.2 with q | q
  · rw [decide_eq_true_iff] at q; omega
  · exact q
theorem lines_fit {kind : ByteArray} {l : List Pl.Ln} (h : Pl.linesOk kind l = true) : ∀ x ∈ l, Pl.sheetFits kind x.key x.ws = true := fun x hx => by
  obtain ⟨i, hi, rfl⟩ := List.getElem_of_mem hx
  have := lines_at h hi
  have e : l.getD i Pl.lnNo = l[i] := by simp [hi]
  unfold Pl.lineOkAt at this
  rw [e, Bool.and_eq_true, Bool.and_eq_true] at this
  exact this.1.1
theorem cmpBl_isB (b : Pl.Bl) (kind name : ByteArray) : cmpBl b ⟨kind, name, []⟩ = 0 ↔ Pl.isB kind name b = true := by
  unfold cmpBl pick2 Pl.isB
  rw [Bool.and_eq_true]
  show _ ↔ Pl.txEq b.kind kind = true ∧ Pl.txEq b.name name = true
  rw [← keyCmp_zero, ← keyCmp_zero]
  split
  · rename_i h; simp [h]
  · rename_i h
    constructor
    · exact fun q => absurd q h
    · exact fun q => absurd q.1 h
theorem findF_at {kind name : ByteArray} : ∀ (l : List Pl.Bl) (j q : Nat) (hq : q < l.length), Pl.isB kind name l[q] = true → (∀ i (hi : i < q), Pl.isB kind name (l[i]'(by omega)) = false) → Pl.findF kind name l j = some (j + q)
  | b :: l, j, 0, _, h, _ => by rw [Pl.findF]; rw [List.getElem_cons_zero] at h; rw [if_pos h]; rfl
  | b :: l, j, q + 1, hq, h, hb => by
    have h0 := hb 0 (by omega)
    rw [List.getElem_cons_zero] at h0
    rw [Pl.findF, h0]
    rw [List.getElem_cons_succ] at h
    have := findF_at l (j + 1) q (by simpa using hq) h (fun i hi => by have := hb (i + 1) (by omega); rw [List.getElem_cons_succ] at this; exact this)
    simp only [Bool.false_eq_true, if_false]
    rw [this]; congr 1; omega
theorem findF_no {kind name : ByteArray} : ∀ (l : List Pl.Bl) (j : Nat), (∀ b ∈ l, Pl.isB kind name b = false) → Pl.findF kind name l j = none
  | [], _, _ => by rw [Pl.findF]
  | b :: l, j, h => by
    rw [Pl.findF, h b (by simp), findF_no l (j + 1) (fun b hb => h b (by simp [hb]))]; rfl
/-- What the program looks for is what the specification finds. -/
theorem find_pl {s : List Pl.Bl} (h : s.Pairwise fun a b => Pl.ahead a b = true) (kind name : ByteArray) : Pl.findB s kind name = if (decide (plOf Pl.ahead s ⟨kind, name, []⟩ < s.length) && decide (cmpBl (s.getD (plOf Pl.ahead s ⟨kind, name, []⟩) Pl.blNo) ⟨kind, name, []⟩ = 0)) = true then some (plOf Pl.ahead s ⟨kind, name, []⟩) else none := by
  obtain ⟨q, hq⟩ : ∃ q, q = plOf Pl.ahead s ⟨kind, name, []⟩ := ⟨_, rfl⟩
  have hf := pl_found totBl Pl.blNo h ⟨kind, name, []⟩
  have hh := pl_head totBl Pl.blNo s ⟨kind, name, []⟩
  rw [← hq] at hf hh ⊢
  by_cases c : q < s.length ∧ cmpBl (s.getD q Pl.blNo) ⟨kind, name, []⟩ = 0
  · rw [if_pos (by rw [Bool.and_eq_true, decide_eq_true_iff, decide_eq_true_iff]; exact c)]
    have e : s.getD q Pl.blNo = s[q]'c.1 := by simp [c.1]
    have := findF_at (kind := kind) (name := name) s 0 q c.1 ((cmpBl_isB _ _ _).1 (by rw [← e]; exact c.2)) (fun i hi => by
      have e2 : s.getD i Pl.blNo = s[i]'(by omega) := by simp [show i < s.length by omega]
      have h3 := hh i hi
      rw [e2] at h3
      cases hb : Pl.isB kind name (s[i]'(by omega))
      · rfl
      · have := (cmpBl_isB _ _ _).2 hb; omega)
    rw [Nat.zero_add] at this
    exact this
  · rw [if_neg (by rw [Bool.and_eq_true, decide_eq_true_iff, decide_eq_true_iff]; exact c)]
    refine findF_no s 0 fun b hb => ?_
    cases hb2 : Pl.isB kind name b
    · rfl
    · exact absurd (hf.1 ⟨b, hb, (cmpBl_isB _ _ _).2 hb2⟩) c

end Go.Proofs.Ytojcopamegmeeaa

namespace Go.Proofs.Ytojcopamegmeeaa
open Go.RowKit Go.Deep

/-- The kinds of sheets in memory. -/
structure Kn (W : World) (mb : Nat) (vt vb vs : Value) : Prop where
  map : W.heap[mb]? = some (.map #[⟨.string { data := #[116, 101, 97, 109] }, .agg #[vt], 0⟩, ⟨.string { data := #[98, 101, 114, 116, 104] }, .agg #[vb], 1⟩, ⟨.string { data := #[115, 101, 114, 118, 105, 99, 101] }, .agg #[vs], 2⟩] 3)
  rules : ∀ kind, ∃ ra rc, kindV kind vt vb vs = .slice ra (Pl.rulesOf kind).length rc ∧ Raw W [.row 73 shSheetRule] [rulesD (Pl.rulesOf kind)] [.slice ra (Pl.rulesOf kind).length rc]
theorem Kn.lt {W : World} {mb : Nat} {vt vb vs : Value} (h : Kn W mb vt vb vs) : mb < W.heap.size := (Array.getElem?_eq_some_iff.1 h.map).1
theorem Kn.later {W W' : World} {mb : Nat} {vt vb vs : Value} (h : Kn W mb vt vb vs) (hb : Below W.heap.size W W') : Kn W' mb vt vb vs :=
  ⟨(hb.block _ h.lt).trans h.map, fun kind => by obtain ⟨ra, rc, e, hr⟩ := h.rules kind; exact ⟨ra, rc, e, hr.later hb⟩⟩
/-- The kinds, as they are told. -/
def KnA (w : World) (e : Ending) (w' : World) : Prop := ∃ mb vt vb vs, e = .returned (.map (some mb)) ∧ Kn w' mb vt vb vs ∧ Below w.heap.size w w'
theorem kindsK (w : World) : Calls Try.prog 37 #[] w (KnA w) := by
  refine (sheetKindsI w).mono ?_
  rintro e w' ⟨mb, w0, vt, vb, vs, rfl, hm, h0, k1, k2, k3, hb⟩
  refine ⟨mb, vt, vb, vs, rfl, ⟨hm, fun kind => ?_⟩, hb⟩
  obtain ⟨v, F, he, hrep, _⟩ := kind_ans (w := w) kind h0 k1 k2 k3 hb
  injection he with he
  obtain ⟨ra, rc, hv⟩ := hrep.raw.len0
  subst hv
  exact ⟨ra, rc, he, hrep.raw⟩
theorem Kn.look {W : World} {mb : Nat} {vt vb vs : Value} (h : Kn W mb vt vb vs) (kind : ByteArray) : ∃ ra rc, (Instr.lookup 78 (.map (some mb)) (.string kind) false).run Try.prog W = .ok (.agg #[.slice ra (Pl.rulesOf kind).length rc]) W ∧ Raw W [.row 73 shSheetRule] [rulesD (Pl.rulesOf kind)] [.slice ra (Pl.rulesOf kind).length rc] := by
  obtain ⟨ra, rc, e, hr⟩ := h.rules kind
  have := look_kind h.map kind
  rw [e] at this
  exact ⟨ra, rc, this, hr⟩

set_option maxRecDepth 8000 in
set_option maxHeartbeats 8000000 in
/-- Room for n. -/
theorem sheet_small2 (s : List Pl.Bl) (h : Pl.wsh s ≤ 1048576) : ∀ b ∈ s, b.lines.length ≤ 1048576 ∧ ∀ x ∈ b.lines, x.ws.length ≤ 4194304 := fun b hb => by
  refine ⟨?_, (sheet_small s h b hb).2⟩
  have h1 := Pl.sum_mem_le (fun b => Pl.wbl b + 1) s b hb
  have h2 : Pl.wbl b = b.kind.size + b.name.size + (b.lines.map fun x => Pl.wln x + 1).sum := rfl
  have h3 := wt_lns b.lines
  have h4 : Pl.wsh s = (s.map fun b => Pl.wbl b + 1).sum := rfl
  omega

end Go.Proofs.Ytojcopamegmeeaa

namespace Go.Proofs.Ytojcopamegmeeaa
open Go.RowKit Go.Deep


set_option maxRecDepth 8000 in
set_option maxHeartbeats 16000000 in
theorem headOfI (k n : ByteArray) (v : Value) (w : World) : Calls Try.prog 41 #[.agg #[.string k, .string n, v]] w fun e w' => e = .returned (.agg #[.string k, .string n]) ∧ Below w.heap.size w w' := by
  obtain ⟨b0, hb0⟩ : ∃ b, b = w.heap.size := ⟨_, rfl⟩
  obtain ⟨wa, hwa⟩ : ∃ wa, wa = (w.alloc (.cells #[.string k, .string n, v] 42)).alloc (.cells #[.string { data := #[] }, .string { data := #[] }] 88) := ⟨_, rfl⟩
  have HB : Hid (Below w.heap.size w wa) := by show Below _ _ _; rw [hwa]; exact blw_alloc (blw_alloc (Below.refl _ _) _) _
  have HX : Hid (LBox wa b0 [.string k, .string n, v]) := by show LBox _ _ _; rw [hwa, hb0]; exact (LBox.new w #[.string k, .string n, v] _ _ rfl).past _
  have HO : Hid (OwnBlk wa (b0 + 1) 88 2) := by show OwnBlk _ _ _ _; rw [hwa]; exact OwnBlk.alloc_at3 _ _ _ _ _ rfl (by simp [hb0])
  have HZ := uh hb0
  go_enter Try.func41, Try.ntmps41
  go_upto_region 1 with fail
  rw [← hwa, ← hb0]
  clear hwa hb0
  have x0 := HX.out.get 0 _ rfl
  have x1 := HX.out.get 1 _ rfl
  have xl := HX.out.lt
  have ol := HO.out.lt
  have hth : wa.there (b0 + 1) 0 (#[.string k, .string n] : Array Value).size := uthere HO.out _ _ (by simp)
  obtain ⟨we, hwe⟩ : ∃ we, we = wa.setCells (b0 + 1) 0 [.string k, .string n] := ⟨_, rfl⟩
  have hrt : we.rangeAt (b0 + 1) 0 [.string k, .string n] := by rw [hwe]; exact World.rangeAt_setCells_same _ _ _ _ hth
  have HBB : Hid (Below w.heap.size w we) := by show Below _ _ _; rw [hwe]; exact blw_scs (by have := HZ.out; omega) _ _ _ HB.out
  go_wp2_with (refine wpList_store_mid rfl 88 _ _ rfl (b0 + 1) 0 #[.string k, .string n] rfl rfl hth (by kernel_rfl) (by simp [Value.oneCell']) ?_)
  first | rw [← hwe] | (simp only [List.toList_toArray]; rw [← hwe])
  try simp only [Act.put]
  refine bodyPost_ret (v := .agg #[.string k, .string n]) (by simp [results, Try.results41, asAddr, run_loadVar_mid (P := Try.prog) _ _ _ 88 [.string k, .string n] _ hrt Try.underlying88 rfl (by kernel_rfl)]) rfl ?_
  exact ⟨rfl, HBB.out⟩

theorem hk_law : WideMaps.KeyLaw Try.prog 88 := deep_law_laid (m := 3) (by kernel_rfl) (by decide) (by decide +kernel) (by kernel_rfl) (by kernel_rfl)
theorem hk_type : Try.prog.keyType 88 = true := by kernel_rfl
theorem hk_c9 : Try.prog.cellsOf 9 = 1 := by kernel_rfl
theorem hk_cH : Try.prog.cellsOf 88 = 2 := by kernel_rfl
theorem hk_sz : decide (0 < Try.prog.types.size) = true := by kernel_rfl
theorem und_places : Try.prog.underlying 84 = some (.map 88 3) := by kernel_rfl
/-- A head. -/
def hk (a b : ByteArray) : Value := .agg #[.string a, .string b]
theorem hk_inj {a b a' b' : ByteArray} (h : hk a b = hk a' b') : a = a' ∧ b = b' := by
  unfold hk at h
  injection h with h
  have h0 := congrArg (fun a : Array Value => a[0]?) h
  have h1 := congrArg (fun a : Array Value => a[1]?) h
  simp at h0 h1
  exact ⟨h0, h1⟩
theorem formed_hk (a b : ByteArray) : Value.formed Try.prog 88 (hk a b) = true := by kernel_rfl
theorem lits_hk (d : Nat) (a b : ByteArray) (ha : a.size ≤ maxLen) (hb : b.size ≤ maxLen) : ∃ l, Try.prog.keyLits (d + 1 + 1) 88 [.string a, .string b] = some l := by
  simp [Program.keyLits, Try.underlying88, hk_cH, hk_c9, ha, hb, Lit.wf]
theorem hk_key (a b : ByteArray) (ha : a.size ≤ maxLen) (hb : b.size ≤ maxLen) : ∃ l, keyOf Try.prog 88 (hk a b) = some l := by
  unfold keyOf
  rw [Try.underlying88]
  obtain ⟨d, e⟩ : ∃ d, Try.prog.types.size = d + 1 := ⟨Try.prog.types.size - 1, by have := of_decide_eq_true hk_sz; omega⟩
  simp only [hk_type, formed_hk, Bool.and_true, if_true, e]
  obtain ⟨l, hl⟩ := lits_hk d a b ha hb
  rw [show (hk a b).cells.toList = [.string a, .string b] from rfl, hl]
  exact ⟨_, rfl⟩
def hdK (s : List Pl.Bl) (i : Nat) : Value := hk (s.getD i Pl.blNo).kind (s.getD i Pl.blNo).name
def hdEs (s : List Pl.Bl) (k : Nat) : Array MapEntry := ((List.range k).map fun i => (⟨hdK s i, .int .i64 (i : Nat), i⟩ : MapEntry)).toArray
theorem hdEs_at (s : List Pl.Bl) (k i : Nat) (h : i < k) : (hdEs s k)[i]? = some ⟨hdK s i, .int .i64 (i : Nat), i⟩ := by simp [hdEs, h]
theorem hdEs_push (s : List Pl.Bl) (k : Nat) : (hdEs s k).push ⟨hdK s k, .int .i64 (k : Nat), k⟩ = hdEs s (k + 1) := by
  unfold hdEs
  rw [List.range_succ, List.map_append]
  simp
/-- Names of fit sizes. -/
def Hsz (s : List Pl.Bl) : Prop := ∀ i, i < s.length → (s.getD i Pl.blNo).kind.size ≤ maxLen ∧ (s.getD i Pl.blNo).name.size ≤ maxLen
/-- No two of a head. -/
def Hap (s : List Pl.Bl) : Prop := ∀ i j, i < s.length → j < s.length → (s.getD i Pl.blNo).kind = (s.getD j Pl.blNo).kind → (s.getD i Pl.blNo).name = (s.getD j Pl.blNo).name → i = j
theorem hap_valid {s : List Pl.Bl} (h : Pl.validS s = true) : Hap s := by
  have hp := valid_pair h
  rw [List.pairwise_iff_getElem] at hp
  have key : ∀ i j, i < j → j < s.length → (s.getD i Pl.blNo).kind = (s.getD j Pl.blNo).kind → (s.getD i Pl.blNo).name = (s.getD j Pl.blNo).name → False := fun i j hij hj h1 h2 => by
    have q := hp i j (by omega) hj hij
    have e1 : s.getD i Pl.blNo = s[i]'(by omega) := by simp [show i < s.length by omega]
    have e2 : s.getD j Pl.blNo = s[j] := by simp [hj]
    rw [e1, e2] at h1 h2
    have q2 := (totBl.neg _ _).2 q
    have q3 : cmpBl (s[i]'(by omega)) (s[j]) = 0 := by
      unfold cmpBl pick2
      rw [h1, h2, if_pos ((keyCmp_zero _ _).2 (by unfold Pl.txEq; simp))]
      exact (keyCmp_zero _ _).2 (by unfold Pl.txEq; simp)
    omega
  intro i j hi hj h1 h2
  by_cases e : i = j
  · exact e
  · exfalso
    by_cases l : i < j
    · exact key i j l hj h1 h2
    · exact key j i (by omega) hi h1.symm h2.symm
theorem hdK_key {s : List Pl.Bl} (h : Hsz s) (i : Nat) (hi : i < s.length) : ∃ l, keyOf Try.prog 88 (hdK s i) = some l := hk_key _ _ (h i hi).1 (h i hi).2
theorem hd_find (s : List Pl.Bl) (k : Nat) (W : World) (a b : ByteArray) (ha : a.size ≤ maxLen) (hb : b.size ≤ maxLen) (hk' : k ≤ s.length) (hs : Hsz s) :
    ((Instr.findKey 88 (hk a b) (hdEs s k).toList).run Try.prog W = .ok none W ∧ ∀ i, i < k → hdK s i ≠ hk a b) ∨
    ∃ i, i < k ∧ (Instr.findKey 88 (hk a b) (hdEs s k).toList).run Try.prog W = .ok (some (i, .int .i64 (i : Nat))) W ∧ hdK s i = hk a b := by
  obtain ⟨l, hl⟩ := hk_key a b ha hb
  have hes : ∀ e ∈ (hdEs s k).toList, ∃ l, keyOf Try.prog 88 e.key = some l := by
    intro e he
    unfold hdEs at he
    simp only [List.mem_map, List.mem_range] at he
    obtain ⟨i, hi, rfl⟩ := he
    exact hdK_key hs i (by omega)
  rcases hk_law.find W hl _ hes with ⟨h1, h2⟩ | ⟨j, e, h1, h2, h3⟩
  · refine Or.inl ⟨h1, fun i hi he => ?_⟩
    have := hdEs_at s k i hi
    exact h2 _ (List.mem_of_getElem? (i := i) (by simpa using this)) he
  · have hj : j < k := by
      have := (List.getElem?_eq_some_iff.1 h2).1
      simpa [hdEs] using this
    have e2 := hdEs_at s k j hj
    have e3 : (hdEs s k).toList[j]? = some ⟨hdK s j, .int .i64 (j : Nat), j⟩ := by simpa using e2
    rw [h2] at e3
    injection e3 with e3
    subst e3
    exact Or.inr ⟨j, hj, h1, h3⟩
theorem hk_check (W : World) (em : Bool) (a b : ByteArray) (ha : a.size ≤ maxLen) (hb : b.size ≤ maxLen) : (Instr.checkKey em 10000 88 (hk a b)).run Try.prog W = .ok () W := by
  obtain ⟨l, hl⟩ := hk_key a b ha hb
  exact hk_law.check W em hl
def putM (W : World) (mb : Nat) (o : Obj) : World := { W with heap := W.heap.setIfInBounds mb o }
theorem putM_size (W : World) (mb : Nat) (o : Obj) : (putM W mb o).heap.size = W.heap.size := by simp [putM]
theorem putM_at {W : World} {mb : Nat} (o : Obj) (h : mb < W.heap.size) : (putM W mb o).heap[mb]? = some o := by simp [putM, h]
theorem putM_other {W : World} {mb b : Nat} (o : Obj) (h : b ≠ mb) : (putM W mb o).heap[b]? = W.heap[b]? := by
  simp only [putM]
  rw [Array.getElem?_setIfInBounds_ne (fun e => h e.symm)]
theorem Below.putM {n : Nat} {a W : World} {mb : Nat} (h : Below n a W) (hn : n ≤ mb) (o : Obj) : Below n a (putM W mb o) :=
  ⟨h.os, h.tape, h.output, by rw [putM_size]; exact h.size, fun k hk => by rw [putM_other o (by omega)]; exact h.block k hk⟩
theorem hd_upd (es : Array MapEntry) (k mb : Nat) (W : World) (a b : ByteArray) (v : Value) (ha : a.size ≤ maxLen) (hb' : b.size ≤ maxLen) (hb : W.heap[mb]? = some (.map es k)) (hn : (Instr.findKey 88 (hk a b) es.toList).run Try.prog W = .ok none W) :
    (Instr.mapUpdate 84 (.map (some mb)) (hk a b) v).run Try.prog W = .ok () (putM W mb (.map (es.push ⟨hk a b, v, k⟩) (k + 1))) := by
  have hc := hk_check W false a b ha hb'
  simp [Instr.mapUpdate, run_underlying und_places, MapKept.run_getObj_map hb, hc, hn, Result.andThen, MapKept.run_setObj_map _ hb, putM]
theorem hd_hit (es : Array MapEntry) (k mb i : Nat) (W : World) (a b : ByteArray) (v : Value) (ha : a.size ≤ maxLen) (hb' : b.size ≤ maxLen) (hb : W.heap[mb]? = some (.map es k)) (hn : (Instr.findKey 88 (hk a b) es.toList).run Try.prog W = .ok (some (i, v)) W) :
    (Instr.lookup 84 (.map (some mb)) (hk a b) true).run Try.prog W = .ok (.tuple #[v, .bool true]) W := by
  have hc := hk_check W es.isEmpty a b ha hb'
  simp [Instr.lookup, run_underlying und_places, MapKept.run_getObj_map hb, hc, hn, Result.andThen]
theorem hd_miss (es : Array MapEntry) (k mb : Nat) (W : World) (a b : ByteArray) (ha : a.size ≤ maxLen) (hb' : b.size ≤ maxLen) (hb : W.heap[mb]? = some (.map es k)) (hn : (Instr.findKey 88 (hk a b) es.toList).run Try.prog W = .ok none W) :
    (Instr.lookup 84 (.map (some mb)) (hk a b) true).run Try.prog W = .ok (.tuple #[.int .i64 0, .bool false]) W := by
  have hc := hk_check W es.isEmpty a b ha hb'
  simp [Instr.lookup, run_underlying und_places, MapKept.run_getObj_map hb, hc, hn, Result.andThen]
/-- The map of places at mb. -/
def HdAt (s : List Pl.Bl) (W : World) (mb : Nat) : Prop := W.heap[mb]? = some (.map (hdEs s s.length) s.length)
theorem HdAt.lt {s : List Pl.Bl} {W : World} {mb : Nat} (h : HdAt s W mb) : mb < W.heap.size := (Array.getElem?_eq_some_iff.1 h).1
theorem HdAt.later {s : List Pl.Bl} {W W' : World} {mb : Nat} (h : HdAt s W mb) (hb : Below W.heap.size W W') : HdAt s W' mb := (hb.block mb h.lt).trans h
/-- What a look-up says. -/
theorem hd_look {s : List Pl.Bl} {W : World} {mb : Nat} (h : HdAt s W mb) (hs : Hsz s) (ha : Hap s) (a b : ByteArray) (hx : a.size ≤ maxLen) (hy : b.size ≤ maxLen) :
    (Instr.lookup 84 (.map (some mb)) (.agg #[.string a, .string b]) true).run Try.prog W = .ok (.tuple #[.int .i64 (((Pl.findB s a b).getD 0 : Nat) : Int), .bool (Pl.findB s a b).isSome]) W := by
  rcases hd_find s s.length W a b hx hy (Nat.le_refl _) hs with ⟨h1, h2⟩ | ⟨i, hi, h1, h2⟩
  · have e : Pl.findB s a b = none := findF_no s 0 fun x hx => by
      obtain ⟨i, hi, rfl⟩ := List.getElem_of_mem hx
      have := h2 i hi
      unfold hdK at this
      have e1 : s.getD i Pl.blNo = s[i] := by simp [hi]
      rw [e1] at this
      rw [Bool.eq_false_iff]
      intro q
      unfold Pl.isB at q
      rw [Bool.and_eq_true] at q
      have r1 : (s[i]).kind = a := tl_inj (by simpa using q.1)
      have r2 : (s[i]).name = b := tl_inj (by simpa using q.2)
      exact this (by rw [r1, r2])
    rw [e]
    exact hd_miss _ _ mb W a b hx hy h h1
  · have e1 : s.getD i Pl.blNo = s[i] := by simp [hi]
    obtain ⟨q1, q2⟩ := hk_inj h2
    have e : Pl.findB s a b = some i := by
      have := findF_at (kind := a) (name := b) s 0 i hi (by unfold Pl.isB; rw [← e1, q1, q2]; simp) (fun jj hj => by
        rw [Bool.eq_false_iff]
        intro q
        unfold Pl.isB at q
        rw [Bool.and_eq_true] at q
        have e2 : s.getD jj Pl.blNo = s[jj]'(by omega) := by simp [show jj < s.length by omega]
        have r1 : (s[jj]'(by omega)).kind = a := tl_inj (by simpa using q.1)
        have r2 : (s[jj]'(by omega)).name = b := tl_inj (by simpa using q.2)
        have := ha jj i (by omega) hi (by rw [e2, r1, q1]) (by rw [e2, r2, q2])
        omega)
      rw [Nat.zero_add] at this
      exact this
    rw [e]
    exact hd_hit _ _ mb i W a b _ hx hy h h1

set_option maxRecDepth 8000 in
set_option maxHeartbeats 16000000 in
theorem placesI (s : List Pl.Bl) (v : Value) (w : World) (h : Raw w shBls [blsD s] [v]) (hs : Hsz s) (ha : Hap s) :
    Calls Try.prog 40 #[v] w fun e w' => ∃ mb, e = .returned (.map (some mb)) ∧ HdAt s w' mb ∧ Below w.heap.size w w' := by
  have HL := uh h
  have HS := uh hs
  have HA := uh ha
  obtain ⟨va, vc, ev⟩ := h.len0
  subst ev
  clear h hs ha
  obtain ⟨n, hn⟩ : ∃ n, n = s.length := ⟨_, rfl⟩
  have HN := uh hn
  have hnn : s.length = n := hn.symm
  clear hn
  rw [hnn]
  clear hnn
  obtain ⟨wa, hwa⟩ : ∃ wa, wa = w.alloc (.map #[] 0) := ⟨_, rfl⟩
  obtain ⟨mb, hmb⟩ : ∃ mb, mb = w.heap.size := ⟨_, rfl⟩
  have HB : Hid (Below w.heap.size w wa) := by show Below _ _ _; rw [hwa]; exact blw_alloc (Below.refl _ _) _
  have HM : Hid (wa.heap[mb]? = some (.map (hdEs s 0) 0)) := by
    show _ = _
    rw [hwa, hmb]
    exact heap_alloc_new w _
  have HZM : Hid (w.heap.size ≤ mb) := by show _ ≤ _; rw [hmb]; exact Nat.le_refl _
  have hmk : ∀ W : World, (Instr.makeMap 84 none).run Try.prog W = .ok (.map (some W.heap.size)) (W.alloc (.map #[] 0)) := fun W => by kernel_rfl
  go_enter Try.func40, Try.ntmps40
  go_upto_region 2 with fail
  rw [← hwa, ← hmb]
  clear hwa hmk hmb
  go_wp2
  go_loopw [9] (fun i wr => ∃ q : Nat, q ≤ n ∧ i = .int .i64 q ∧ Below w.heap.size w wr ∧ wr.heap[mb]? = some (.map (hdEs s q) q)) (fun i _ => n - (intOf i).toNat)
  case atStart => exact ⟨0, Nat.zero_le _, rfl, HB.out, HM.out⟩
  case round =>
    obtain ⟨q, hq, rfl, hW, hM2⟩ := hrel
    have HB2 := uh hW
    have HM2 := uh hM2
    clear hW hM2 HM
    by_cases hlt : q < n
    rotate_left
    · obtain rfl : q = n := by omega
      have hnlt : ¬ ((q : Int) < (q : Int)) := by omega
      have HM3 : Hid (HdAt s wr mb) := by show _ = _; rw [← HN.out]; exact HM2.out
      go_wp2
      go_ret
      exact ⟨mb, rfl, HM3.out, HB2.out⟩
    have hqL : q < s.length := by have := HN.out; omega
    rcases bls_open (HL.out.later HB2.out) with ⟨e0, _⟩ | ⟨p, o, c, hv, hp, hml, hopen⟩
    · omega
    rw [← HN.out] at hv hml
    injection hv with g1 _ g3
    subst g1; subst g3
    unfold maxLen at hml
    obtain ⟨ax, cx, hgx, _⟩ := hopen q hqL
    have HSZ := uh (HS.out q hqL)
    have HKE : Hid (hdK s q = hk (s.getD q Pl.blNo).kind (s.getD q Pl.blNo).name) := rfl
    obtain ⟨x, hx⟩ : ∃ x, x = s.getD q Pl.blNo := ⟨_, rfl⟩
    rw [← hx] at hgx HSZ HKE
    obtain ⟨w1, hw1⟩ : ∃ z, z = wr.alloc (.cells #[.string x.kind, .string x.name, .slice ax x.lines.length cx] 42) := ⟨_, rfl⟩
    have hb1 : Below wr.heap.size wr w1 := by rw [hw1]; exact blw_alloc (Below.refl _ _) _
    obtain ⟨z0, hz0⟩ : ∃ z, z = wr.heap.size := ⟨_, rfl⟩
    have HXB : Hid (LBox w1 z0 [.string x.kind, .string x.name, .slice ax x.lines.length cx]) := by show LBox _ _ _; rw [hw1]; exact LBox.new _ #[.string x.kind, .string x.name, .slice ax x.lines.length cx] _ _ hz0
    have HML : Hid (mb < wr.heap.size) := (Array.getElem?_eq_some_iff.1 HM2.out).1
    have HM3 : Hid (w1.heap[mb]? = some (.map (hdEs s q) q)) := (hb1.block _ HML.out).trans HM2.out
    have HB3 := uh (blw_trans HB2.out hb1)
    have HCH := uh (headOfI x.kind x.name (.slice ax x.lines.length cx) w1)
    have hk0 : (0 : Int) ≤ (q : Int) := by omega
    have hkn : (q : Int) < (n : Int) := by omega
    clear hx hopen hp hb1
    go_upto_region 5 with (refine wpList_load_mid rfl 42 _ rfl p (o + q * 3) rfl [.string x.kind, .string x.name, .slice ax x.lines.length cx] _ hgx Try.underlying42 rfl (by kernel_rfl) ?_)
    rw [← hw1, ← hz0]
    clear hw1 hz0 hgx
    have xa := HXB.out.at_
    have xl := HXB.out.lt
    go_wp2_with (refine wpList_load_mid rfl 42 _ rfl z0 0 rfl [.string x.kind, .string x.name, .slice ax x.lines.length cx] _ xa Try.underlying42 rfl (by kernel_rfl) ?_)
    refine HCH.out.mono ?_
    rintro e w2 ⟨rfl, hb2⟩
    have HML2 : Hid (mb < w1.heap.size) := (Array.getElem?_eq_some_iff.1 HM3.out).1
    have HM4 : Hid (w2.heap[mb]? = some (.map (hdEs s q) q)) := (hb2.block _ HML2.out).trans HM3.out
    have HB4 := uh (blw_trans HB3.out hb2)
    have HML3 : Hid (mb < w2.heap.size) := (Array.getElem?_eq_some_iff.1 HM4.out).1
    have hup : (Instr.mapUpdate 84 (.map (some mb)) (.agg #[.string x.kind, .string x.name]) (.int .i64 (q : Int))).run Try.prog w2 = .ok () (putM w2 mb (.map (hdEs s (q + 1)) (q + 1))) := by
      have e := hd_upd (hdEs s q) q mb w2 x.kind x.name (.int .i64 (q : Int)) HSZ.out.1 HSZ.out.2 HM4.out (by
        rcases hd_find s q w2 x.kind x.name HSZ.out.1 HSZ.out.2 (by omega) HS.out with h | ⟨i, hi, _, he⟩
        · exact h.1
        · obtain ⟨q1, q2⟩ := hk_inj (he.trans HKE.out.symm)
          exact absurd (HA.out i q (by omega) hqL q1 q2) (by omega))
      rw [← hdEs_push, HKE.out]
      exact e
    clear hb2 xa xl HCH
    go_wp2
    go_roundw
    case rel => exact ⟨q + 1, by omega, by go_num, Below.putM HB4.out HZM.out _, putM_at _ HML3.out⟩
    case measure => simp [intOf]; omega

end Go.Proofs.Ytojcopamegmeeaa
