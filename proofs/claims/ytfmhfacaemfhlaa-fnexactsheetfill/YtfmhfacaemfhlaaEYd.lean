/-
  Sheets: what is left out, said: the program.
-/
import Derived.Test.YtfmhfacaemfhlaaEYc
import Derived.Test.YtfmhfacaemfhlaaEYp
import Derived.Test.YtfmhfacaemfhlaaEGn
namespace Go.Proofs.Ytfmhfacaemfhlaa
open Go.RowKit Go.Deep

theorem meant_len (r : Pl.Ru) (l : List Pl.Ln) : (Pl.meant r l).length ≤ l.length + 1 := by
  unfold Pl.meant
  split
  · simp
  · exact Nat.le_succ_of_le (Pl.linesOf_len _ _)
theorem meants_len (l : List Pl.Ln) : ∀ rs : List Pl.Ru, (rs.flatMap (fun r => Pl.meant r l)).length ≤ rs.length * (l.length + 1)
  | [] => by simp
  | r :: rs => by
    have := meants_len l rs
    have h2 := meant_len r l
    rw [List.flatMap_cons, List.length_append, List.length_cons, Nat.succ_mul]; omega

set_option maxRecDepth 8000 in
set_option maxHeartbeats 16000000 in
theorem filledI (kind : ByteArray) (ra : Option Addr) (rc : Nat) (l : List Pl.Ln) (v : Value) (w : World) (hr : Raw w [.row 44 shSheetRule] [rulesD (Pl.rulesOf kind)] [.slice ra (Pl.rulesOf kind).length rc]) (h : Raw w shLns [lnsD l] [v]) (hl : l.length ≤ 1048576) (hw : ∀ x ∈ l, x.ws.length ≤ 4194304) :
    Calls Try.prog 22 #[.agg #[.slice ra (Pl.rulesOf kind).length rc], v] w (AnsL shLns (lnsD (Pl.filled kind l)) w) := by
  have HL := uh h
  have HLZ := uh (And.intro hl hw)
  have HRR := uh hr
  have HDS := uh (dflt_small kind)
  have HRL := uh (Pl.rules_len kind)
  have HFE : Hid (Pl.filled kind l = (Pl.rulesOf kind).flatMap (fun r => Pl.meant r l)) := rfl
  obtain ⟨rs, hrs⟩ : ∃ rs, rs = Pl.rulesOf kind := ⟨_, rfl⟩
  rw [← hrs] at HRR HDS HRL HFE
  rw [← hrs]
  obtain ⟨va, vc, ev⟩ := h.len0
  subst ev
  clear h hr hl hw hrs
  obtain ⟨n, hn⟩ : ∃ n, n = rs.length := ⟨_, rfl⟩
  have HN := uh hn
  have hnn : rs.length = n := hn.symm
  clear hn
  rw [hnn] at HRL
  rw [hnn]
  clear hnn
  obtain ⟨b0, hb0⟩ : ∃ b, b = w.heap.size := ⟨_, rfl⟩
  have HZ := uh hb0
  obtain ⟨wa, hwa⟩ : ∃ wa, wa = w.alloc (.cells #[.slice ra n rc] 73) := ⟨_, rfl⟩
  have HB : Hid (Below w.heap.size w wa) := by show Below _ _ _; rw [hwa]; exact blw_alloc (Below.refl _ _) _
  have HB0 : Hid (LBox wa b0 [.slice ra n rc]) := by show LBox _ _ _; rw [hwa, hb0]; exact LBox.new w #[.slice ra n rc] _ _ rfl
  go_enter Try.func22, Try.ntmps22
  go_upto_region 1 with fail
  rw [← hwa, ← hb0]
  clear hwa hb0
  have x0 := HB0.out.get 0 _ rfl
  have xl := HB0.out.lt
  go_wp2
  clear x0 xl
  go_loopw [5, 11] (fun vo vi wr => ∃ (k : Nat) (G : List Nat) (xs : List Value), k ≤ n ∧ vi = .int .i64 k ∧ Gr wr w.heap.size 48 shSheetLine vo ((rs.take k).flatMap (fun r => Pl.meant r l)).length G (((rs.take k).flatMap (fun r => Pl.meant r l)).flatMap lnD) xs ∧ Below w.heap.size w wr) (fun _ vi _ => n - (intOf vi).toNat)
  case atStart => exact ⟨0, [], [], Nat.zero_le _, rfl, Gr.nil _ _ _ _, HB.out⟩
  case round =>
    obtain ⟨k, G, xs, hk, rfl, hG, hB⟩ := hrel
    have HGr := uh hG
    have HBr := uh hB
    obtain ⟨ua, uc, huu⟩ := hG.shape
    subst huu
    clear hG hB
    by_cases hlt : k < n
    rotate_left
    · have hks : rs.take k = rs := List.take_of_length_le (by have := HN.out; omega)
      rw [hks] at HGr ⊢
      obtain ⟨F, r, nd, fr⟩ := HGr.out.done
      have HD : Hid (AnsL shLns (lnsD (Pl.filled kind l)) w (.returned (.slice ua (rs.flatMap (fun r => Pl.meant r l)).length uc)) wr) := by rw [HFE.out]; exact ⟨_, F, rfl, r, nd, fr, HBr.out⟩
      clear r nd fr hks
      go_wp2
      go_ret
      exact HD.out
    have hkL : k < rs.length := by have := HN.out; omega
    have hn100 : n ≤ 100 := HRL.out
    obtain ⟨p, o, c, a1, c1, v3, hv, hp, hg, _, hd3⟩ := rule_at (HRR.out.later HBr.out) hkL
    rw [← HN.out] at hv
    injection hv with g1 _ g3
    subst g1; subst g3
    obtain ⟨a3, c3, e5⟩ := hd3.len0
    subst e5
    have HDL : Hid ((rs.getD k Pl.ruNo).dflt.length ≤ 4194304) := by
      have e : rs.getD k Pl.ruNo = rs[k] := by simp [hkL]
      show _ ≤ _
      rw [e]; exact HDS.out _ (List.getElem_mem hkL)
    have HTK : Hid (rs.take (k + 1) = rs.take k ++ [rs.getD k Pl.ruNo]) := by
      have e : rs.getD k Pl.ruNo = rs[k] := by simp [hkL]
      show _ = _
      rw [e, List.take_succ_eq_append_getElem hkL]
    have hle : ((rs.take k).flatMap (fun r => Pl.meant r l)).length ≤ 100 * 1048577 := by
      have h1 := meants_len l (rs.take k)
      have h2 := HLZ.out.1
      have h3 := HRL.out
      rw [List.length_take] at h1
      exact Nat.le_trans h1 (Nat.mul_le_mul (by have := HN.out; omega) (by omega))
    obtain ⟨ru, hru⟩ : ∃ ru, ru = rs.getD k Pl.ruNo := ⟨_, rfl⟩
    rw [← hru] at hg hd3 HDL HTK
    obtain ⟨ac, hac⟩ : ∃ ac, ac = (rs.take k).flatMap (fun r => Pl.meant r l) := ⟨_, rfl⟩
    rw [← hac] at HGr hle ⊢
    have HAC := uh hac
    have hk0 : (0 : Int) ≤ (k : Int) := by omega
    have hkn : (k : Int) < (n : Int) := by omega
    obtain ⟨y, hy⟩ : ∃ y, y = wr.alloc (.cells #[.string ru.key, .slice a1 ru.args.length c1, .bool ru.many, .slice a3 ru.dflt.length c3] 44) := ⟨_, rfl⟩
    obtain ⟨z0, hz0⟩ : ∃ z, z = wr.heap.size := ⟨_, rfl⟩
    have hby : Below wr.heap.size wr y := by rw [hy]; exact blw_alloc (Below.refl _ _) _
    have HBX : Hid (LBox y z0 [.string ru.key, .slice a1 ru.args.length c1, .bool ru.many, .slice a3 ru.dflt.length c3]) := by show LBox _ _ _; rw [hy]; exact LBox.new _ #[.string ru.key, .slice a1 ru.args.length c1, .bool ru.many, .slice a3 ru.dflt.length c3] _ _ hz0
    have HC := uh (meantI ru a1 a3 c1 c3 l (.slice va l.length vc) y (HL.out.later (blw_trans HBr.out hby)) (by have := HLZ.out.1; omega) HLZ.out.2 (hd3.later hby) HDL.out)
    have HML := uh (meant_len ru l)
    clear hru hac
    go_upto_region 5 with (refine wpList_load_mid rfl 44 _ rfl p (o + k * 4) rfl [.string ru.key, .slice a1 ru.args.length c1, .bool ru.many, .slice a3 ru.dflt.length c3] _ hg Try.underlying44 rfl (by kernel_rfl) ?_)
    rw [← hy, ← hz0]
    clear hy hz0 hg hp hd3
    replace HGr := uh (HGr.out.later hby)
    replace HBr := uh (blw_trans HBr.out hby)
    clear hby
    have hga := HBX.out.at_
    have hgl := HBX.out.lt
    go_wp2_with (refine wpList_load_mid rfl 44 _ rfl z0 0 rfl [.string ru.key, .slice a1 ru.args.length c1, .bool ru.many, .slice a3 ru.dflt.length c3] _ hga Try.underlying44 rfl (by kernel_rfl) ?_)
    refine HC.out.mono ?_
    rintro e w1 ⟨v1, F, rfl, r, nd, fr, hb⟩
    obtain ⟨mt, hmt⟩ : ∃ mt, mt = Pl.meant ru l := ⟨_, rfl⟩
    rw [← hmt] at r HML
    have HMT := uh hmt
    obtain ⟨wx, wc, hvx⟩ := r.raw.len0
    subst hvx
    have hG1 := HGr.out.later hb
    have hBr1 := blw_trans HBr.out hb
    obtain ⟨u, W2, G', xs', hrun, hgr, hgw⟩ := gr_app (P := Try.prog) w.heap.size 38 38 48 2 40 _ Try.under_lines Try.info_line rfl (by decide) (by decide) shSheetLine rfl hG1 r nd (fun b hb' => ⟨Nat.le_trans HBr.out.size (fr b hb'), fun hq => by have := HGr.out.rep.lt b hq; have := fr b hb'; omega, fun hq => by have := (owns_blk_lt HGr.out.row hq).2; have := fr b hb'; omega⟩) (by have := HML.out; have := HLZ.out.1; omega) hBr1.size
    have HB3 : Hid (Below w.heap.size w W2) := blw_grown hBr1 hgw (fun b e => (owns_blk_lt hG1.row e).1)
    have HG3 : Hid (Gr W2 w.heap.size 48 shSheetLine u ((rs.take (k + 1)).flatMap (fun r => Pl.meant r l)).length G' (((rs.take (k + 1)).flatMap (fun r => Pl.meant r l)).flatMap lnD) xs') := by
      show Gr _ _ _ _ _ _ _ _ _
      rw [HTK.out, List.flatMap_append, List.flatMap_singleton, ← HAC.out, ← HMT.out, List.length_append, List.flatMap_append]
      exact hgr
    clear hmt r nd fr hb hG1 hBr1 hgr hgw hga hgl HC HBX
    go_wp2_with (at_builtin; refine Go.Lib.wpList_append_run _ rfl _ _ 38 38 rfl _ _ rfl rfl _ W2 hrun ?_)
    clear hrun HGr HBr
    go_roundw
    case rel => exact ⟨k + 1, G', xs', hlt, by go_num, HG3.out, HB3.out⟩
    case measure => simp [intOf]; omega

set_option maxRecDepth 8000 in
set_option maxHeartbeats 16000000 in
theorem fillOne (x : Pl.Bl) (aw : Option Addr) (cw B1 B2 mb : Nat) (vt vb vs : Value) (X : World) (h1 : X.cell? ⟨B1, 0, none⟩ = some (.func (.func 22) #[] #[])) (hl1 : B1 < X.heap.size) (h2 : X.cell? ⟨B2, 0, none⟩ = some (.map (some mb))) (hl2 : B2 < X.heap.size) (hk : Kn X mb vt vb vs) (h : Raw X shLns [lnsD x.lines] [.slice aw x.lines.length cw]) (hsz : x.lines.length ≤ 1048576 ∧ ∀ y ∈ x.lines, y.ws.length ≤ 4194304) :
    Calls Try.prog 42 #[.agg #[.string x.kind, .string x.name, .slice aw x.lines.length cw], .pointer (some ⟨B1, 0, none⟩), .pointer (some ⟨B2, 0, none⟩)] X (Ans shSheetBlock (blD ⟨x.kind, x.name, Pl.filled x.kind x.lines⟩) X) := by
  obtain ⟨b0, hb0⟩ : ∃ b, b = X.heap.size := ⟨_, rfl⟩
  obtain ⟨wa, hwa⟩ : ∃ wa, wa = (X.alloc (.cells #[.string x.kind, .string x.name, .slice aw x.lines.length cw] 40)).alloc (.cells #[.string { data := #[] }, .string { data := #[] }, .slice none 0 0] 40) := ⟨_, rfl⟩
  have HB : Hid (Below X.heap.size X wa) := by show Below _ _ _; rw [hwa]; exact blw_alloc (blw_alloc (Below.refl _ _) _) _
  have HX : Hid (WBox wa b0 40 [.string x.kind, .string x.name, .slice aw x.lines.length cw]) := by show WBox _ _ _ _; rw [hwa, hb0]; exact (WBox.new X [.string x.kind, .string x.name, .slice aw x.lines.length cw] _ _ rfl).later (blw_alloc (Below.refl _ _) _)
  have HO : Hid (OwnBlk wa (b0 + 1) 40 3) := by show OwnBlk _ _ _ _; rw [hwa]; exact OwnBlk.alloc_at3 _ _ _ _ _ rfl (by simp [hb0])
  have ZA : Hid (wa.heap.size = b0 + 2) := by show _ = _; rw [hwa]; simp [hb0]
  have HZ := uh hb0
  obtain ⟨ra, rc, hlk, hrr⟩ := (hk.later HB.out).look x.kind
  have HC := uh (filledI x.kind ra rc x.lines (.slice aw x.lines.length cw) wa hrr (h.later HB.out) hsz.1 hsz.2)
  have y1 : wa.cell? ⟨B1, 0, none⟩ = some (.func (.func 22) #[] #[]) := (HB.out.cell (p := ⟨B1, 0, none⟩) hl1).trans h1
  have y2 : wa.cell? ⟨B2, 0, none⟩ = some (.map (some mb)) := (HB.out.cell (p := ⟨B2, 0, none⟩) hl2).trans h2
  have yl1 : B1 < wa.heap.size := Nat.lt_of_lt_of_le hl1 HB.out.size
  have yl2 : B2 < wa.heap.size := Nat.lt_of_lt_of_le hl2 HB.out.size
  obtain ⟨rn, hrn⟩ : ∃ rn, rn = (Pl.rulesOf x.kind).length := ⟨_, rfl⟩
  rw [← hrn] at hlk HC
  clear hrn
  obtain ⟨o, ho⟩ : ∃ o, o = Pl.filled x.kind x.lines := ⟨_, rfl⟩
  rw [← ho] at HC
  rw [← ho]
  clear ho
  go_enter Try.func42, Try.ntmps42
  go_upto_region 1 with fail
  rw [← hwa, ← hb0]
  clear hwa hb0 h1 h2 hk h hsz hrr hl1 hl2
  have x0 := HX.out.get 0 _ rfl
  have x2 := HX.out.get 2 _ rfl
  have xl := HX.out.own.lt
  go_wp2_with fail
  refine HC.out.mono ?_
  rintro e w1 ⟨v1, F, rfl, r, nd, fr, hb⟩
  obtain ⟨wx, wc, hvx⟩ := r.raw.len0
  subst hvx
  have HR := uh (And.intro r (And.intro nd fr))
  have HX1 := HX.out.later hb
  obtain ⟨y, hy⟩ : ∃ y, y = w1.setCell ⟨b0, 2, none⟩ (.slice wx o.length wc) := ⟨_, rfl⟩
  have HX2 : Hid (WBox y b0 40 [.string x.kind, .string x.name, .slice wx o.length wc]) := by show WBox _ _ _ _; rw [hy]; exact HX1.set 2 _ (by simp)
  have HM : Hid (Marks (fun b => b = b0) w1 y) := by show Marks _ _ _; rw [hy]; exact Marks.sc (S := fun b => b = b0) _ rfl _ _
  have HO2 := uh (HM.out.own _ _ _ (HO.out.later hb))
  have HB2 : Hid (Below X.heap.size X y) := HM.out.below (fun b e => by rw [e, HZ.out]; exact Nat.le_refl _) (blw_trans HB.out hb)
  have HF : Hid (∀ b ∈ F, b0 + 2 ≤ b) := fun b hb => by have := HR.out.2.2 b hb; have := ZA.out; omega
  have z2 := HX1.get 2 _ rfl
  have zf := HX1.own.frozen 2
  have zz := HX1.own.lt
  clear r nd fr hb x0 x2 xl hlk y1 y2 yl1 yl2
  go_upto_region 2 with fail
  rw [← hy]
  clear hy z2 zf zz HX1 HC
  have hxl := HX2.out.own.lt
  have hxa := HX2.out.at_
  have hth : y.there (b0 + 1) 0 (#[.string x.kind, .string x.name, .slice wx o.length wc] : Array Value).size := uthere HO2.out _ _ (by simp)
  obtain ⟨we, hwe⟩ : ∃ we, we = y.setCells (b0 + 1) 0 [.string x.kind, .string x.name, .slice wx o.length wc] := ⟨_, rfl⟩
  have hrt : we.rangeAt (b0 + 1) 0 [.string x.kind, .string x.name, .slice wx o.length wc] := by rw [hwe]; exact World.rangeAt_setCells_same _ _ _ _ hth
  have HMK : Hid (Marks (fun b => b = b0 + 1) y we) := by show Marks _ _ _; rw [hwe]; exact mks_scs (S := fun b => b = b0 + 1) rfl _ _ _
  have HBB : Hid (Below X.heap.size X we) := by show Below _ _ _; rw [hwe]; exact blw_scs (by have := HZ.out; omega) _ _ _ HB2.out
  go_wp2_with (first | (refine wpList_load_mid rfl 40 _ rfl b0 0 rfl [.string x.kind, .string x.name, .slice wx o.length wc] _ hxa Try.underlying40 rfl (by kernel_rfl) ?_) | (refine wpList_store_mid rfl 40 _ _ rfl (b0 + 1) 0 #[.string x.kind, .string x.name, .slice wx o.length wc] rfl rfl hth (by kernel_rfl) (by simp [Value.oneCell']) ?_))
  first | rw [← hwe] | (simp only [List.toList_toArray]; rw [← hwe])
  try simp only [Act.put]
  refine bodyPost_ret (v := .agg #[.string x.kind, .string x.name, .slice wx o.length wc]) (by simp [results, Try.results42, asAddr, run_loadVar_mid (P := Try.prog) _ _ _ 40 [.string x.kind, .string x.name, .slice wx o.length wc] _ hrt Try.underlying40 rfl (by kernel_rfl)]) rfl ?_
  have M1 := HR.out.1.keep HM.out (fun b hb e => by have := HF.out b hb; omega)
  have M2 := M1.keep HMK.out (fun b hb e => by have := HF.out b hb; omega)
  refine ⟨[.string x.kind, .string x.name, .slice wx o.length wc], F ++ [], rfl, repSheetBlock_mk _ _ M2, by rw [List.append_nil]; exact HR.out.2.1, fun b hb => by rw [List.append_nil] at hb; have := HF.out b hb; have := HZ.out; omega, HBB.out⟩

set_option maxRecDepth 8000 in
set_option maxHeartbeats 16000000 in
theorem fillWith (s : List Pl.Bl) (v : Value) (w : World) (h : Raw w shBls [blsD s] [v]) (hz : okTx s) (hw : Pl.wsh s ≤ 1048576) :
    Calls Try.prog 21 #[.agg #[v], .func (.func 22) #[] #[]] w (Ans shSheet [blsD (if Pl.validS s then s.map (fun x => ⟨x.kind, x.name, Pl.filled x.kind x.lines⟩) else [])] w) := by
  have HL := uh h
  have HLL := uh (sheet_small2 s hw)
  have HN60 := uh (fun hv : Pl.validS s = true => valid_le hv)
  obtain ⟨va, vc, ev⟩ := h.len0
  subst ev
  have HVC := uh (fun X (hX : Below w.heap.size w X) => sheetValidI s (.slice va s.length vc) X (h.later hX) hz (by rw [wt_sheet]; exact hw))
  clear h hz hw
  obtain ⟨n, hn⟩ : ∃ n, n = s.length := ⟨_, rfl⟩
  have HN := uh hn
  have hnn : s.length = n := hn.symm
  clear hn
  rw [hnn] at HVC HN60
  rw [hnn]
  clear hnn
  obtain ⟨R, hR⟩ : ∃ R, R = (if Pl.validS s then s.map (fun x : Pl.Bl => (⟨x.kind, x.name, Pl.filled x.kind x.lines⟩ : Pl.Bl)) else []) := ⟨_, rfl⟩
  rw [← hR]
  obtain ⟨vb0, hvb0⟩ : ∃ x, x = Pl.validS s := ⟨_, rfl⟩
  rw [← hvb0] at HVC HN60 hR
  have HRE := uh hR
  clear hR hvb0
  obtain ⟨b0, hb0⟩ : ∃ b, b = w.heap.size := ⟨_, rfl⟩
  have HZ := uh hb0
  obtain ⟨wa, hwa⟩ : ∃ wa, wa = ((w.alloc (.cells #[.slice va n vc] 28)).alloc (.cells #[.func (.func 22) #[] #[]] 51)).alloc (.cells #[.slice none 0 0] 28) := ⟨_, rfl⟩
  have HB : Hid (Below w.heap.size w wa) := by show Below _ _ _; rw [hwa]; exact blw_alloc (blw_alloc (blw_alloc (Below.refl _ _) _) _) _
  have HB0 : Hid (LBox wa b0 [.slice va n vc]) := by show LBox _ _ _; rw [hwa, hb0]; exact ((LBox.new w #[.slice va n vc] _ _ rfl).past _).past _
  have HB1 : Hid (LBox wa (b0 + 1) [.func (.func 22) #[] #[]]) := by show LBox _ _ _; rw [hwa]; exact (LBox.new _ #[.func (.func 22) #[] #[]] _ _ (by simp [hb0])).past _
  have HO : Hid (OwnBlk wa (b0 + 2) 28 1) := by show OwnBlk _ _ _ _; rw [hwa]; exact OwnBlk.alloc_at3 _ _ _ _ _ rfl (by simp [hb0])
  have ZA : Hid (wa.heap.size = b0 + 3) := by show _ = _; rw [hwa]; simp [hb0]
  go_enter Try.func21, Try.ntmps21
  go_upto_region 1 with fail
  rw [← hwa, ← hb0]
  clear hwa hb0
  have x0 := HB0.out.get 0 _ rfl
  have xl := HB0.out.lt
  go_wp2_with fail
  refine (HVC.out _ HB.out).mono ?_
  rintro e w1 ⟨rfl, hb1⟩
  have HZ1 : Hid (b0 + 3 ≤ w1.heap.size) := by have := ZA.out; have := hb1.size; show _ ≤ _; omega
  replace HB := uh (blw_trans HB.out hb1)
  replace HB0 := uh (HB0.out.later hb1)
  replace HB1 := uh (HB1.out.later hb1)
  replace HO := uh (HO.out.later hb1)
  clear hb1 x0 xl HVC ZA
  cases vb0
  · have HRN : Hid (R = []) := HRE.out
    obtain ⟨oc, hoc⟩ := HO.out.cell 0 (by decide)
    have of := HO.out.frozen 0
    have ol := HO.out.lt
    have hth : w1.there (b0 + 2) 0 (#[.slice none 0 0] : Array Value).size := uthere HO.out _ _ (by simp)
    obtain ⟨we, hwe⟩ : ∃ we, we = w1.setCells (b0 + 2) 0 [.slice none 0 0] := ⟨_, rfl⟩
    have hrt : we.rangeAt (b0 + 2) 0 [.slice none 0 0] := by rw [hwe]; exact World.rangeAt_setCells_same _ _ _ _ hth
    have HBB : Hid (Below w.heap.size w we) := by show Below _ _ _; rw [hwe]; exact blw_scs (by have := HZ.out; omega) _ _ _ HB.out
    go_wp2_with (refine wpList_store_mid rfl 28 _ _ rfl (b0 + 2) 0 #[.slice none 0 0] rfl rfl hth (by kernel_rfl) (by simp [Value.oneCell']) ?_)
    first | rw [← hwe] | (simp only [List.toList_toArray]; rw [← hwe])
    try simp only [Act.put]
    refine bodyPost_ret (v := .agg #[.slice none 0 0]) (by simp [results, Try.results21, asAddr, run_loadVar_mid (P := Try.prog) _ _ _ 28 [.slice none 0 0] _ hrt Try.underlying28 rfl (by kernel_rfl)]) rfl ?_
    rw [HRN.out]
    exact ⟨[.slice none 0 0], [], rfl, .emp _ _ _ rfl .nil, List.nodup_nil, by simp, HBB.out⟩
  replace HN60 := uh (HN60.out rfl)
  have HRN : Hid (R = s.map (fun x : Pl.Bl => (⟨x.kind, x.name, Pl.filled x.kind x.lines⟩ : Pl.Bl))) := HRE.out
  have HKS := uh (kindsK w1)
  go_wp2_with fail
  refine HKS.out.mono ?_
  rintro e w2 ⟨mb, vt, vb, vs, rfl, hkn, hb⟩
  obtain ⟨w3, hw3⟩ : ∃ w3, w3 = w2.alloc (.cells #[.map (some mb)] 69) := ⟨_, rfl⟩
  obtain ⟨b3, hb3⟩ : ∃ b, b = w2.heap.size := ⟨_, rfl⟩
  have hbw : Below w2.heap.size w2 w3 := by rw [hw3]; exact blw_alloc (Below.refl _ _) _
  have HB3 : Hid (LBox w3 b3 [.map (some mb)]) := by show LBox _ _ _; rw [hw3, hb3]; exact LBox.new w2 #[.map (some mb)] _ _ rfl
  have HK := uh (hkn.later hbw)
  have hb13 := blw_trans hb hbw
  replace HB := uh (blw_trans HB.out hb13)
  replace HB0 := uh (HB0.out.later hb13)
  replace HB1 := uh (HB1.out.later hb13)
  replace HO := uh (HO.out.later hb13)
  replace HZ1 := uh (Nat.le_trans HZ1.out hb13.size)
  clear hkn hb hbw hb13 HKS
  go_upto_region 4 with fail
  rw [← hw3, ← hb3]
  clear hw3 hb3
  have HC := uh (withEach s (.slice va n vc) (b0 + 1) b3 w3 (by rw [HN.out]; exact HL.out.later HB.out) (by have := HN60.out; have := HN.out; omega) (fun x => ⟨x.kind, x.name, Pl.filled x.kind x.lines⟩) (fun x aw cw X hx hX hr => fillOne x aw cw (b0 + 1) b3 mb vt vb vs X ((HB1.out.later hX).get 0 _ rfl) (HB1.out.later hX).lt ((HB3.out.later hX).get 0 _ rfl) (HB3.out.later hX).lt (HK.out.later hX) hr (HLL.out x hx)))
  have x0 := HB0.out.get 0 _ rfl
  have xl := HB0.out.lt
  go_wp2_with fail
  refine HC.out.mono ?_
  rintro e w4 ⟨v4, F, rfl, r, nd, fr, hb⟩
  obtain ⟨a4, c4, hv4⟩ := r.raw.len0
  subst hv4
  have HR := uh (And.intro r (And.intro nd fr))
  replace HO := uh (HO.out.later hb)
  replace HB := uh (blw_trans HB.out hb)
  have HF : Hid (∀ b ∈ F, b0 + 3 ≤ b) := fun b hb => Nat.le_trans HZ1.out (HR.out.2.2 b hb)
  clear r nd fr hb x0 xl HC
  obtain ⟨q, hq⟩ : ∃ q, q = (s.map (fun x : Pl.Bl => (⟨x.kind, x.name, Pl.filled x.kind x.lines⟩ : Pl.Bl))) := ⟨_, rfl⟩
  rw [← hq] at HR HRN
  rw [← hq]
  clear hq
  have hth : w4.there (b0 + 2) 0 (#[.slice a4 q.length c4] : Array Value).size := uthere HO.out _ _ (by simp)
  obtain ⟨we, hwe⟩ : ∃ we, we = w4.setCells (b0 + 2) 0 [.slice a4 q.length c4] := ⟨_, rfl⟩
  have hrt : we.rangeAt (b0 + 2) 0 [.slice a4 q.length c4] := by rw [hwe]; exact World.rangeAt_setCells_same _ _ _ _ hth
  have HMK : Hid (Marks (fun b => b = b0 + 2) w4 we) := by show Marks _ _ _; rw [hwe]; exact mks_scs (S := fun b => b = b0 + 2) rfl _ _ _
  have HBB : Hid (Below w.heap.size w we) := by show Below _ _ _; rw [hwe]; exact blw_scs (by have := HZ.out; omega) _ _ _ HB.out
  go_wp2_with (refine wpList_store_mid rfl 28 _ _ rfl (b0 + 2) 0 #[.slice a4 q.length c4] rfl rfl hth (by kernel_rfl) (by simp [Value.oneCell']) ?_)
  first | rw [← hwe] | (simp only [List.toList_toArray]; rw [← hwe])
  try simp only [Act.put]
  refine bodyPost_ret (v := .agg #[.slice a4 q.length c4]) (by simp [results, Try.results21, asAddr, run_loadVar_mid (P := Try.prog) _ _ _ 28 [.slice a4 q.length c4] _ hrt Try.underlying28 rfl (by kernel_rfl)]) rfl ?_
  have M2 := HR.out.1.keep HMK.out (fun b hb e => by have := HF.out b hb; omega)
  rw [HRN.out]
  exact ⟨[.slice a4 q.length c4], F, rfl, M2, HR.out.2.1, fun b hb => by have := HF.out b hb; have := HZ.out; omega, HBB.out⟩

set_option maxRecDepth 8000 in
set_option maxHeartbeats 8000000 in
theorem fillTop (s : List Pl.Bl) (v : Value) (w : World) (h : Raw w shBls [blsD s] [v]) (hz : okTx s) (hw : Pl.wsh s ≤ 1048576) :
    Calls Try.prog 8 #[.agg #[v]] w (Ans shSheet [blsD (if Pl.validS s then s.map (fun x => ⟨x.kind, x.name, Pl.filled x.kind x.lines⟩) else [])] w) := by
  obtain ⟨va, vc, ev⟩ := h.len0
  subst ev
  obtain ⟨n, hn⟩ : ∃ n, n = s.length := ⟨_, rfl⟩
  obtain ⟨b0, hb0⟩ : ∃ b, b = w.heap.size := ⟨_, rfl⟩
  have HZ := uh hb0
  rw [← hn] at h
  rw [← hn]
  obtain ⟨wa, hwa⟩ : ∃ wa, wa = (w.alloc (.cells #[.slice va n vc] 28)).alloc (.cells #[.slice none 0 0] 28) := ⟨_, rfl⟩
  have HB : Hid (Below w.heap.size w wa) := by show Below _ _ _; rw [hwa]; exact blw_alloc (blw_alloc (Below.refl _ _) _) _
  have HB0 : Hid (LBox wa b0 [.slice va n vc]) := by show LBox _ _ _; rw [hwa, hb0]; exact (LBox.new w #[.slice va n vc] _ _ rfl).past _
  have HO : Hid (OwnBlk wa (b0 + 1) 28 1) := by show OwnBlk _ _ _ _; rw [hwa]; exact OwnBlk.alloc_at3 _ _ _ _ _ rfl (by simp [hb0])
  have ZA : Hid (wa.heap.size = b0 + 2) := by show _ = _; rw [hwa]; simp [hb0]
  have HC := uh (fillWith s (.slice va n vc) wa (h.later HB.out) hz hw)
  clear hn h hz hw
  obtain ⟨q, hq⟩ : ∃ q, q = (if Pl.validS s then s.map (fun x : Pl.Bl => (⟨x.kind, x.name, Pl.filled x.kind x.lines⟩ : Pl.Bl)) else []) := ⟨_, rfl⟩
  rw [← hq] at HC
  rw [← hq]
  clear hq
  go_enter Try.func8, Try.ntmps8
  go_upto_region 1 with fail
  rw [← hwa, ← hb0]
  clear hwa hb0
  have xa := HB0.out.at_
  have x0 := HB0.out.get 0 _ rfl
  have xl := HB0.out.lt
  go_wp2_with fail
  refine HC.out.mono ?_
  rintro e w4 ⟨cc, F, rfl, r0, nd, fr, hb⟩
  obtain ⟨F0, v4, hF0, rfl, r⟩ := repSheet r0
  rw [List.append_nil] at hF0
  subst hF0
  obtain ⟨a4, c4, hv4⟩ := r.raw.len0
  subst hv4
  have HR := uh (And.intro r (And.intro nd fr))
  replace HO := uh (HO.out.later hb)
  replace HB := uh (blw_trans HB.out hb)
  have HF : Hid (∀ b ∈ F, b0 + 2 ≤ b) := fun b hb => by have := ZA.out; have := HR.out.2.2 b hb; omega
  clear r r0 nd fr hb x0 xl xa HC
  have hth : w4.there (b0 + 1) 0 (#[.slice a4 q.length c4] : Array Value).size := uthere HO.out _ _ (by simp)
  obtain ⟨we, hwe⟩ : ∃ we, we = w4.setCells (b0 + 1) 0 [.slice a4 q.length c4] := ⟨_, rfl⟩
  have hrt : we.rangeAt (b0 + 1) 0 [.slice a4 q.length c4] := by rw [hwe]; exact World.rangeAt_setCells_same _ _ _ _ hth
  have HMK : Hid (Marks (fun b => b = b0 + 1) w4 we) := by show Marks _ _ _; rw [hwe]; exact mks_scs (S := fun b => b = b0 + 1) rfl _ _ _
  have HBB : Hid (Below w.heap.size w we) := by show Below _ _ _; rw [hwe]; exact blw_scs (by have := HZ.out; omega) _ _ _ HB.out
  go_wp2_with (refine wpList_store_mid rfl 28 _ _ rfl (b0 + 1) 0 #[.slice a4 q.length c4] rfl rfl hth (by kernel_rfl) (by simp [Value.oneCell']) ?_)
  first | rw [← hwe] | (simp only [List.toList_toArray]; rw [← hwe])
  try simp only [Act.put]
  refine bodyPost_ret (v := .agg #[.slice a4 q.length c4]) (by simp [results, Try.results8, asAddr, run_loadVar_mid (P := Try.prog) _ _ _ 28 [.slice a4 q.length c4] _ hrt Try.underlying28 rfl (by kernel_rfl)]) rfl ?_
  have M2 := HR.out.1.keep HMK.out (fun b hb e => by have := HF.out b hb; omega)
  exact ⟨[.slice a4 q.length c4], F, rfl, M2, HR.out.2.1, fun b hb => by have := HF.out b hb; have := HZ.out; omega, HBB.out⟩

end Go.Proofs.Ytfmhfacaemfhlaa
