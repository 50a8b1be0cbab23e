/-
  Sheets: what is said, or what is meant: the program.
-/
import Derived.Test.YtikacjpbnoihjaaEPj
import Derived.Test.YtikacjpbnoihjaaELc
import Derived.Test.YtikacjpbnoihjaaESd
import Derived.Test.YtikacjpbnoihjaaEPg
import Derived.Test.YtikacjpbnoihjaaEYb
import Derived.Test.YtikacjpbnoihjaaEYp
import Derived.Test.YtikacjpbnoihjaaEIg
import Derived.Test.YtikacjpbnoihjaaEGg
namespace Go.Proofs.Ytikacjpbnoihjaa
open Go.RowKit Go.Deep

theorem look_kind2 {W : World} {mb : Nat} {vt vb vs : Value} (hb : W.heap[mb]? = some (.map #[⟨.string { data := #[116, 101, 97, 109] }, .agg #[vt], 0⟩, ⟨.string { data := #[98, 101, 114, 116, 104] }, .agg #[vb], 1⟩, ⟨.string { data := #[115, 101, 114, 118, 105, 99, 101] }, .agg #[vs], 2⟩] 3)) (kind : ByteArray) :
    (Instr.lookup 60 (.map (some mb)) (.string kind) true).run Try.prog W = .ok (.tuple #[.agg #[kindV kind vt vb vs], .bool (!decide ((Pl.rulesOf kind).length = 0))]) W := by
  have hz : (zeroValue 59).run Try.prog W = .ok (.agg #[.slice none 0 0]) W := by kernel_rfl
  have e1 := beq_text kind [116, 101, 97, 109] { data := #[116, 101, 97, 109] } (by decide +kernel)
  have e2 := beq_text kind [98, 101, 114, 116, 104] { data := #[98, 101, 114, 116, 104] } (by decide +kernel)
  have e3 := beq_text kind [115, 101, 114, 118, 105, 99, 101] { data := #[115, 101, 114, 118, 105, 99, 101] } (by decide +kernel)
  obtain ⟨r, hr, hv, hk⟩ : ∃ r, Instr.findNow .string (.string kind) [⟨.string { data := #[116, 101, 97, 109] }, .agg #[vt], 0⟩, ⟨.string { data := #[98, 101, 114, 116, 104] }, .agg #[vb], 1⟩, ⟨.string { data := #[115, 101, 114, 118, 105, 99, 101] }, .agg #[vs], 2⟩] 0 = some r ∧ (match r with | some (_, v) => v | none => .agg #[.slice none 0 0]) = .agg #[kindV kind vt vb vs] ∧ r.isSome = !decide ((Pl.rulesOf kind).length = 0) := by
    unfold Pl.rulesOf
    simp only [Instr.findNow, Instr.sameNow, e1, e2, e3, kindV]
    cases (kind.toList == [116, 101, 97, 109]) <;> cases (kind.toList == [98, 101, 114, 116, 104]) <;> cases (kind.toList == [115, 101, 114, 118, 105, 99, 101]) <;> exact ⟨_, rfl, rfl, by first | rfl | (simp only [Option.isSome]; decide +kernel)⟩
  have hf := find_text W kind _ r hr
  rw [← hk]
  cases r with
  | none =>
    simp only at hv
    simp [Instr.lookup, run_underlying Try.und_kinds, MapKept.run_getObj_map hb, check_text, hf, hz, Result.andThen, hv]
  | some p =>
    obtain ⟨j, v⟩ := p
    simp only at hv
    subst hv
    simp [Instr.lookup, run_underlying Try.und_kinds, MapKept.run_getObj_map hb, check_text, hf, Result.andThen]

set_option maxRecDepth 8000 in
set_option maxHeartbeats 16000000 in
theorem sheetValidI (s : List Pl.Bl) (v : Value) (w : World) (h : Raw w shBls [blsD s] [v]) (hz : okTx s) (_ : wtL [blsD s] ≤ 1048576) :
    Calls Try.prog 20 #[.agg #[v]] w fun e w' => e = .returned (.bool (Pl.validS s)) ∧ Below w.heap.size w w' := by
  have HL := uh h
  have HZ := uh hz
  obtain ⟨va, vc, ev⟩ := h.len0
  subst ev
  obtain ⟨R, hR⟩ : ∃ R, R = Pl.validS s := ⟨_, rfl⟩
  have HR : Hid (R = (decide (s.length ≤ 60) && (ascBl s && (List.range s.length).all fun i => blkP (s.getD i Pl.blNo)))) := hR.trans (valid_eq s)
  rw [← hR]
  clear h hz hR
  obtain ⟨wa, hwa⟩ : ∃ wa, wa = w.alloc (.cells #[.slice va s.length vc] 31) := ⟨_, rfl⟩
  obtain ⟨b0, hb0⟩ : ∃ b0, b0 = w.heap.size := ⟨_, rfl⟩
  have HB : Hid (Below w.heap.size w wa) := by show Below _ _ _; rw [hwa]; exact blw_alloc (Below.refl _ _) _
  have HK0 : Hid (LBox wa b0 [.slice va s.length vc]) := by show LBox _ _ _; rw [hwa, hb0]; exact LBox.new w #[.slice va s.length vc] _ _ rfl
  have z0 := HK0.out.get 0 _ rfl
  have zl := HK0.out.lt
  have HAS := uh (ascBlI s (.slice va s.length vc) wa (HL.out.later HB.out))
  go_enter Try.func20, Try.ntmps20
  go_upto_region 1 with fail
  rw [← hwa, ← hb0]
  clear hwa hb0
  by_cases h60 : s.length ≤ 60
  rotate_left
  · have d0 : ((60 : Int) < (s.length : Int)) := by omega
    have HE : Hid (R = false) := by show R = _; rw [HR.out, decide_eq_false h60]; rfl
    go_wp2
    go_ret
    exact ⟨Pl.ret_bool HE.out.symm, HB.out⟩
  have d0 : ¬ ((60 : Int) < (s.length : Int)) := by omega
  replace HR : Hid (R = (ascBl s && (List.range s.length).all fun i => blkP (s.getD i Pl.blNo))) := by show R = _; rw [HR.out, decide_eq_true h60, Bool.true_and]
  obtain ⟨ab, hab⟩ : ∃ ab, ab = ascBl s := ⟨_, rfl⟩
  rw [← hab] at HAS HR
  clear hab
  cases ab
  · have HE : Hid (R = false) := HR.out
    go_wp2_with (go_at_call 40; refine HAS.out.mono ?_; rintro e w2 ⟨rfl, hb2⟩)
    go_ret
    exact ⟨Pl.ret_bool HE.out.symm, blw_trans HB.out hb2⟩
  replace HR : Hid (R = (List.range s.length).all fun i => blkP (s.getD i Pl.blNo)) := HR.out
  have HC := uh (fun W : World => sheetKindsI W)
  go_wp2_with fail
  refine HAS.out.mono ?_
  rintro e w2 ⟨rfl, hb2⟩
  replace HB := uh (blw_trans HB.out hb2)
  replace HK0 := uh (HK0.out.later hb2)
  clear z0 zl hb2 HAS
  go_wp2_with fail
  refine (HC.out _).mono ?_
  rintro e w1 ⟨mb, w0, vt, vb, vs, rfl, hm, h0, k1, k2, k3, hb⟩
  have HKD : Hid (∀ kind, ∃ ra rc, kindV kind vt vb vs = .slice ra (Pl.rulesOf kind).length rc ∧ Raw w1 [.row 48 shSheetRule] [rulesD (Pl.rulesOf kind)] [.slice ra (Pl.rulesOf kind).length rc]) := fun kind => by
    obtain ⟨v, F, he, hrep, _⟩ := kind_ans (w := w2) kind h0 k1 k2 k3 hb
    injection he with he
    obtain ⟨ra, rc, hv⟩ := hrep.raw.len0
    subst hv
    exact ⟨ra, rc, he, hrep.raw⟩
  have HM := uh hm
  have hml : mb < w1.heap.size := by
    by_cases q : mb < w1.heap.size
    · exact q
    · rw [Array.getElem?_eq_none (by omega)] at hm; cases hm
  have HML := uh hml
  replace HB := uh (blw_trans HB.out hb)
  replace HK0 := uh (HK0.out.later hb)
  have z0 := HK0.out.get 0 _ rfl
  have zl := HK0.out.lt
  clear hm h0 k1 k2 k3 hb hml HC
  go_wp2_with fail
  go_loopw [22] (fun i wr => ∃ k : Nat, k ≤ s.length ∧ i = .int .i64 k ∧ (List.range k).all (fun i => blkP (s.getD i Pl.blNo)) = true ∧ Below w1.heap.size w1 wr) (fun i _ => s.length - (intOf i).toNat)
  case atStart => exact ⟨0, Nat.zero_le _, rfl, rfl, Below.refl _ _⟩
  case round =>
    obtain ⟨k, hk, rfl, hall, hW⟩ := hrel
    have HALL := uh hall
    have HW := uh hW
    have HWW := uh (blw_trans HB.out hW)
    clear hall hW z0 zl
    by_cases hlt : k < s.length
    rotate_left
    · obtain rfl : k = s.length := by omega
      have HE : Hid (R = true) := by show R = _; rw [HR.out]; exact HALL.out
      go_wp2
      go_ret
      exact ⟨Pl.ret_bool HE.out.symm, HWW.out⟩
    rcases bls_open (HL.out.later HWW.out) with ⟨e0, _⟩ | ⟨p, o, c', hv, hp, _, hopen⟩
    · omega
    injection hv with g1 _ g3
    subst g1; subst g3
    obtain ⟨ax, cx, hg, hrx⟩ := hopen k hlt
    obtain ⟨x, hx⟩ : ∃ x, x = s.getD k Pl.blNo := ⟨_, rfl⟩
    rw [← hx] at hg hrx
    have x0 : wr.cell? ⟨p, o + k * 3, none⟩ = some (.string x.kind) := rA_get hg 0 _ rfl
    have x1 : wr.cell? ⟨p, o + k * 3 + 1, none⟩ = some (.string x.name) := rA_get hg 1 _ rfl
    have x2 : wr.cell? ⟨p, o + k * 3 + 2, none⟩ = some (.slice ax x.lines.length cx) := rA_get hg 2 _ rfl
    have hk0 : (0 : Int) ≤ (k : Int) := by omega
    have hkn : (k : Int) < (s.length : Int) := by omega
    have HSZ : Hid (x.name.size ≤ maxLen ∧ ∀ y ∈ x.lines, ∀ t ∈ y.ws, t.size ≤ maxLen) := by
      have e : s.getD k Pl.blNo = s[k] := by simp [hlt]
      rw [hx, e]; exact HZ.out _ (List.getElem_mem hlt)
    have HXL := uh hrx
    have HBAD : Hid (blkP x = false → R = false) := fun hq => by rw [HR.out]; exact Pl.rall_false hlt (by rw [← hx]; exact hq)
    have HGOOD : Hid (blkP x = true → (List.range (k + 1)).all (fun i => blkP (s.getD i Pl.blNo)) = true) := fun hq => Pl.rall_step HALL.out (by rw [← hx]; exact hq)
    have HBP : Hid (blkP x = (!decide ((Pl.rulesOf x.kind).length = 0) && Pl.nameOk20 x.name && holdsP (Pl.rulesOf x.kind) x.lines)) := rfl
    clear hopen hg hrx hx
    obtain ⟨ra, rc, hkv, hrr⟩ := HKD.out x.kind
    have HRR := uh (hrr.later HW.out)
    clear hrr
    obtain ⟨wb, hwb⟩ : ∃ wb, wb = wr.alloc (.cells #[.string x.kind, .string x.name, .slice ax x.lines.length cx] 44) := ⟨_, rfl⟩
    obtain ⟨bl, hbl⟩ : ∃ bl, bl = wr.heap.size := ⟨_, rfl⟩
    have HWB : Hid (Below wr.heap.size wr wb) := by show Below _ _ _; rw [hwb]; exact blw_alloc (Below.refl _ _) _
    have HLB : Hid (LBox wb bl [.string x.kind, .string x.name, .slice ax x.lines.length cx]) := by show LBox _ _ _; rw [hwb, hbl]; exact LBox.new wr #[.string x.kind, .string x.name, .slice ax x.lines.length cx] _ _ rfl
    go_upto_region 7 with fail
    rw [← hwb, ← hbl]
    clear hwb hbl x0 x1 x2
    have y0 := HLB.out.get 0 _ rfl
    have yl := HLB.out.lt
    have hlk := look_kind2 (((HWB.out.block _ (Nat.lt_of_lt_of_le HML.out HW.out.size)).trans (HW.out.block _ HML.out)).trans HM.out) x.kind
    rw [hkv] at hlk
    obtain ⟨l, hl0⟩ : ∃ l, l = Pl.rulesOf x.kind := ⟨_, rfl⟩
    have HLN : Hid (l.length ≤ 100) := by rw [hl0]; exact Pl.rules_len _
    have HAR : Hid (∀ r ∈ l, ∀ z ∈ r.args, 1 ≤ z ∧ z ≤ 6) := by rw [hl0]; exact Pl.rules_args _
    rw [← hl0] at hlk HRR HBP
    obtain ⟨kn, hkn0⟩ : ∃ kn, kn = !decide (l.length = 0) := ⟨_, rfl⟩
    rw [← hkn0] at hlk HBP
    clear hl0 hkv hkn0
    obtain ⟨w3, hw3⟩ : ∃ w3, w3 = wb.alloc (.cells #[.slice ra l.length rc] 59) := ⟨_, rfl⟩
    obtain ⟨bk, hbk⟩ : ∃ bk, bk = wb.heap.size := ⟨_, rfl⟩
    have HB3 : Hid (Below wb.heap.size wb w3) := by show Below _ _ _; rw [hw3]; exact blw_alloc (Below.refl _ _) _
    have HKB : Hid (LBox w3 bk [.slice ra l.length rc]) := by show LBox _ _ _; rw [hw3, hbk]; exact LBox.new wb #[.slice ra l.length rc] _ _ rfl
    have HB03 := uh (blw_trans HWB.out HB3.out)
    have HLB3 := uh (HLB.out.later HB3.out)
    go_upto_region 8 with fail
    rw [← hw3, ← hbk]
    clear hw3 hbk y0 yl hlk
    have y1 := HLB3.out.get 1 _ rfl
    have y2 := HLB3.out.get 2 _ rfl
    have yl := HLB3.out.lt
    have q0 := HKB.out.get 0 _ rfl
    have ql := HKB.out.lt
    have HWX : Hid (Below w.heap.size w w3) := blw_trans HWW.out HB03.out
    have HNM := uh (fun W => sheetIsNameI x.name W HSZ.out.1)
    have HHO := uh (holdsI l ra rc x.lines (.slice ax x.lines.length cx) w3 HLN.out HAR.out (HRR.out.later HB03.out) (HXL.out.later HB03.out) HSZ.out.2)
    obtain ⟨nm, hnm⟩ : ∃ nm, nm = Pl.nameOk20 x.name := ⟨_, rfl⟩
    rw [← hnm] at HNM HBP
    obtain ⟨ho, hho⟩ : ∃ ho, ho = holdsP l x.lines := ⟨_, rfl⟩
    rw [← hho] at HHO HBP
    clear hnm hho
    cases kn
    · have HE : Hid (R = false) := HBAD.out HBP.out
      go_wp2
      go_ret
      exact ⟨Pl.ret_bool HE.out.symm, HWX.out⟩
    · cases nm
      · have HE : Hid (R = false) := HBAD.out HBP.out
        go_wp2_with (go_at_call 41; refine (HNM.out _).mono ?_; rintro e w' ⟨rfl, rfl⟩)
        go_ret
        exact ⟨Pl.ret_bool HE.out.symm, HWX.out⟩
      · cases ho
        · have HE : Hid (R = false) := HBAD.out HBP.out
          go_wp2_with (first | (go_at_call 41; refine (HNM.out _).mono ?_; rintro e w' ⟨rfl, rfl⟩) | (go_at_call 42; refine HHO.out.mono ?_; rintro e w' ⟨rfl, hb9⟩))
          go_ret
          exact ⟨Pl.ret_bool HE.out.symm, blw_trans HWX.out hb9⟩
        · have HE := uh (HGOOD.out HBP.out)
          go_wp2_with (first | (go_at_call 41; refine (HNM.out _).mono ?_; rintro e w' ⟨rfl, rfl⟩) | (go_at_call 42; refine HHO.out.mono ?_; rintro e w' ⟨rfl, hb9⟩))
          go_roundw
          case rel => exact ⟨k + 1, by omega, by go_num, HE.out, blw_trans HW.out (blw_trans HB03.out hb9)⟩
          case measure => simp [intOf]; omega

end Go.Proofs.Ytikacjpbnoihjaa

namespace Go.Proofs.Ytikacjpbnoihjaa
open Go.RowKit Go.Deep

theorem wt_tx : ∀ ws : List ByteArray, ws.length + wtL (txD ws) = Pl.wtx ws
  | [] => by simp [txD, wtL, Pl.wtx]
  | x :: ws => by
    have := wt_tx ws
    unfold Pl.wtx txD at this ⊢
    rw [List.map_cons, wtL, List.map_cons, List.sum_cons, List.length_cons]
    omega
theorem wt_ln (x : Pl.Ln) : wtL (lnD x) = Pl.wln x := by
  unfold lnD Pl.wln
  rw [wtL, wtL, wtL]
  have := wt_tx x.ws
  omega
theorem wt_lns : ∀ l : List Pl.Ln, l.length + wtL (l.flatMap lnD) = (l.map fun x => Pl.wln x + 1).sum
  | [] => by simp [wtL]
  | x :: l => by
    have := wt_lns l
    rw [List.flatMap_cons, wtL_app, wt_ln, List.map_cons, List.sum_cons, List.length_cons]
    omega
theorem wt_bl (b : Pl.Bl) : wtL (blD b) = Pl.wbl b := by
  unfold blD lnsD Pl.wbl
  rw [wtL, wtL, wtL, wtL]
  have := wt_lns b.lines
  omega
theorem wt_bls : ∀ s : List Pl.Bl, s.length + wtL (s.flatMap blD) = Pl.wsh s
  | [] => by simp [wtL, Pl.wsh]
  | x :: l => by
    have := wt_bls l
    unfold Pl.wsh at this ⊢
    rw [List.flatMap_cons, wtL_app, wt_bl, List.map_cons, List.sum_cons, List.length_cons]
    omega
theorem wt_sheet (s : List Pl.Bl) : wtL [blsD s] = Pl.wsh s := by
  unfold blsD
  rw [wtL, wtL]
  have := wt_bls s
  omega
theorem cnt_wsh : ∀ s : List Pl.Bl, Pl.lineCnt s ≤ 2 * Pl.wsh s
  | [] => by simp [Pl.lineCnt]
  | b :: s => by
    have ih := cnt_wsh s
    have h1 := wt_lns b.lines
    have hb : Pl.wbl b = b.kind.size + b.name.size + (b.lines.map fun x => Pl.wln x + 1).sum := rfl
    unfold Pl.lineCnt Pl.wsh at ih ⊢
    rw [List.map_cons, List.map_cons, List.sum_cons, List.sum_cons]
    omega

end Go.Proofs.Ytikacjpbnoihjaa

namespace Go.Proofs.Ytikacjpbnoihjaa
open Go.RowKit Go.Deep

theorem wtx_len (ws : List ByteArray) : ws.length ≤ Pl.wtx ws := by have := wt_tx ws; omega
theorem sheet_small (s : List Pl.Bl) (h : Pl.wsh s ≤ 1048576) : ∀ b ∈ s, b.lines.length ≤ 4194304 ∧ ∀ x ∈ b.lines, x.ws.length ≤ 4194304 := fun b hb => by
  have h1 := Pl.sum_mem_le (fun b => Pl.wbl b + 1) s b hb
  have h2 : Pl.wbl b = b.kind.size + b.name.size + (b.lines.map fun x => Pl.wln x + 1).sum := rfl
  have h3 := wt_lns b.lines
  have h4 : Pl.wsh s = (s.map fun b => Pl.wbl b + 1).sum := rfl
  refine ⟨by omega, fun x hx => ?_⟩
  have h5 := Pl.sum_mem_le (fun x => Pl.wln x + 1) b.lines x hx
  have h6 : Pl.wln x = x.key.size + Pl.wtx x.ws := rfl
  have h7 := wtx_len x.ws
  omega
theorem cntL_txs : ∀ l : List ByteArray, cntL (txD l) = l.length
  | [] => by simp [txD, cntL]
  | x :: l => by show cntL (.s x :: txD l) = _; rw [cntL, cntL_txs l, List.length_cons]; omega
theorem cnt_ln (x : Pl.Ln) : cntL (lnD x) = 1 + x.ws.length := by
  unfold lnD
  rw [cntL, cntL, cntL, cntL_txs]; omega
theorem cnt_lns : ∀ l : List Pl.Ln, cntL (l.flatMap lnD) ≤ (l.map fun x => Pl.wln x + 1).sum
  | [] => by simp [cntL]
  | x :: l => by
    have := cnt_lns l
    have h6 : Pl.wln x = x.key.size + Pl.wtx x.ws := rfl
    have h7 := wtx_len x.ws
    rw [List.flatMap_cons, cntL_app, cnt_ln, List.map_cons, List.sum_cons]
    omega
theorem cnt_filter (p : Pl.Ln → Bool) : ∀ l : List Pl.Ln, cntL ((l.filter p).flatMap lnD) ≤ cntL (l.flatMap lnD)
  | [] => by simp
  | x :: l => by
    have := cnt_filter p l
    rw [List.filter_cons]
    split
    · rw [List.flatMap_cons, List.flatMap_cons, cntL_app, cntL_app]; omega
    · rw [List.flatMap_cons, cntL_app]; omega
theorem dflt_small (kind : ByteArray) : ∀ x ∈ Pl.rulesOf kind, x.dflt.length ≤ 4194304 := by
  unfold Pl.rulesOf
  split
  · decide
  · split
    · decide
    · split <;> decide
theorem get_cnt (s : List Pl.Bl) (kind name key : ByteArray) (h : Pl.wsh s ≤ 1048576) : cntL ((Pl.getOut s kind name key).1.flatMap lnD) ≤ 1000000000 := by
  unfold Pl.getOut
  split
  · rename_i k r _ hk hr
    have hkL := Pl.findB_lt hk
    have hrL := Pl.ruIx_lt hr
    simp only []
    split
    · have e : (Pl.rulesOf kind).getD r Pl.ruNo = (Pl.rulesOf kind)[r] := by simp [hrL]
      have := dflt_small kind _ (List.getElem_mem hrL)
      rw [List.flatMap_singleton, cnt_ln, e]
      show 1 + (Pl.rulesOf kind)[r].dflt.length ≤ _
      omega
    · have e : s.getD k Pl.blNo = s[k] := by simp [hkL]
      have h1 := Pl.sum_mem_le (fun b => Pl.wbl b + 1) s s[k] (List.getElem_mem hkL)
      have h2 : Pl.wbl s[k] = s[k].kind.size + s[k].name.size + (s[k].lines.map fun x => Pl.wln x + 1).sum := rfl
      have h3 : Pl.wsh s = (s.map fun b => Pl.wbl b + 1).sum := rfl
      have h4 := cnt_lns s[k].lines
      have h5 := cnt_filter (fun x => x.key.toList == key.toList) s[k].lines
      rw [e]
      show cntL ((s[k].lines.filter fun x => x.key.toList == key.toList).flatMap lnD) ≤ _
      omega
  · simp [cntL]
theorem sheet_cnt {s : List Pl.Bl} (t : Typ shSheet [blsD s]) (h : wtL [blsD s] ≤ 1048576) : cntT [blsD s] ≤ 1000000000 := by
  have h1 := cntT_le [blsD s]
  have h2 := cnt_wt t (by simp [shSheet, shSheetBlock, shSheetLine, shB])
  have h3 : shSheet.length = 1 := rfl
  omega

end Go.Proofs.Ytikacjpbnoihjaa

namespace Go.Proofs.Ytikacjpbnoihjaa
open Go.RowKit Go.Deep

def VGt (b0 : Nat) (p : Nat) (o : Nat) (n : Nat) (vc : Nat) (k : Nat) (N0 : Nat) (ru : Pl.Ru) (a1 : Option Addr) (a3 : Option Addr) (ax : Option Addr) (c1 : Nat) (c3 : Nat) (cx : Nat) (x : Pl.Bl) (out : List Pl.Ln) : Nat → Value → World → Prop
  | 0, vv, _ => vv = .agg #[.string ru.key, .slice a1 ru.args.length c1, .bool ru.many, .slice a3 ru.dflt.length c3]
  | 1, vv, _ => vv = .pointer (some ⟨b0, 0, none⟩)
  | 2, vv, _ => vv = .slice (some ⟨p, o, none⟩) n vc
  | 3, vv, _ => vv = .int .i64 (k : Int)
  | 4, vv, _ => vv = .pointer (some ⟨p, o + k * 3, none⟩)
  | 5, vv, _ => vv = .pointer (some ⟨p, o + k * 3 + 2, none⟩)
  | 6, vv, _ => vv = .slice ax x.lines.length cx
  | 7, vv, W => ∃ v F, vv = v ∧ Rep W false shLns F [lnsD out] [v] ∧ F.Nodup ∧ ∀ b ∈ F, N0 ≤ b
  | 8, vv, W => ∃ v F, vv = v ∧ Rep W false shLns F [lnsD out] [v] ∧ F.Nodup ∧ ∀ b ∈ F, N0 ≤ b
  | 9, vv, _ => vv = .bool true
  | _, _, _ => True
theorem VGt_mono (b0 : Nat) (p : Nat) (o : Nat) (n : Nat) (vc : Nat) (k : Nat) (N0 : Nat) (ru : Pl.Ru) (a1 : Option Addr) (a3 : Option Addr) (ax : Option Addr) (c1 : Nat) (c3 : Nat) (cx : Nat) (x : Pl.Bl) (out : List Pl.Ln) : ∀ jj vv W W', Below W.heap.size W W' → VGt b0 p o n vc k N0 ru a1 a3 ax c1 c3 cx x out jj vv W → VGt b0 p o n vc k N0 ru a1 a3 ax c1 c3 cx x out jj vv W' := by
  intro jj vv W W' hb h
  match jj with
  | 0 => exact h
  | 1 => exact h
  | 2 => exact h
  | 3 => exact h
  | 4 => exact h
  | 5 => exact h
  | 6 => exact h
  | 7 =>
    obtain ⟨v, F, h1, h2, h3⟩ := h
    exact ⟨v, F, h1, h2.later hb, h3⟩
  | 8 =>
    obtain ⟨v, F, h1, h2, h3⟩ := h
    exact ⟨v, F, h1, h2.later hb, h3⟩
  | 9 => exact h
  | n + 10 => exact trivial

theorem ruIxF_key {key : ByteArray} : ∀ (l : List Pl.Ru) (i j : Nat), Pl.ruIxF key l i = some j → i ≤ j ∧ (l.getD (j - i) Pl.ruNo).key = key
  | [], _, _, h => by unfold Pl.ruIxF at h; cases h
  | r :: l, i, j, h => by
    unfold Pl.ruIxF at h
    split at h
    · rename_i hk
      injection h with h; subst h
      refine ⟨Nat.le_refl _, ?_⟩
      rw [Nat.sub_self]
      exact tl_inj (by simpa using hk)
    · have := ruIxF_key l (i + 1) j h
      refine ⟨by omega, ?_⟩
      have e : j - i = (j - (i + 1)) + 1 := by omega
      rw [e, List.getD_cons_succ]
      exact this.2
theorem ruIx_key {l : List Pl.Ru} {key : ByteArray} {j : Nat} (h : Pl.ruIx l key = some j) : (l.getD j Pl.ruNo).key = key := by
  have := (ruIxF_key l 0 j h).2
  rwa [Nat.sub_zero] at this

set_option maxRecDepth 8000 in
set_option maxHeartbeats 16000000 in
theorem sheetGetI (s : List Pl.Bl) (v : Value) (kind name key : ByteArray) (w : World) (h : Raw w shBls [blsD s] [v]) (hz : okTx s) (hw : Pl.wsh s ≤ 1048576) (_ : kind.size ≤ 1048576) (_ : name.size ≤ 1048576) (_ : key.size ≤ 1048576) :
    Calls Try.prog 7 #[.agg #[v], .string kind, .string name, .string key] w (AnsLB shLns (lnsD (Pl.getOut s kind name key).1) (Pl.getOut s kind name key).2 w) := by
  have HL := uh h
  have HLL := uh (sheet_small s hw)
  have HN60 := uh (fun hv : Pl.validS s = true => valid_le hv)
  obtain ⟨va, vc, ev⟩ := h.len0
  subst ev
  have HNO : Hid (∀ W, (Pl.validS s = false ∨ Pl.findB s kind name = none ∨ Pl.ruIx (Pl.rulesOf kind) key = none) → Below w.heap.size w W → AnsLB shLns (lnsD (Pl.getOut s kind name key).1) (Pl.getOut s kind name key).2 w (.returned (.tuple #[.slice none 0 0, .bool false])) W) := fun W hn hb => by
    rw [getNo hn]
    exact ⟨_, [], rfl, .emp _ _ _ rfl .nil, List.nodup_nil, by simp, hb⟩
  have HYES := uh (fun k r h1 h2 h3 => getYes (s := s) (kind := kind) (name := name) (key := key) (k := k) (r := r) h1 h2 h3)
  have HVC := uh (fun X (hX : Below w.heap.size w X) => sheetValidI s (.slice va s.length vc) X (h.later hX) hz (by rw [wt_sheet]; exact hw))
  have HFP := uh (fun hv : Pl.validS s = true => find_pl (valid_pair hv) kind name)
  have HBC := uh (fun (hv : Pl.validS s = true) X (hX : Below w.heap.size w X) => binBl s (.slice va s.length vc) ⟨kind, name, []⟩ (plOf Pl.ahead s ⟨kind, name, []⟩) X (h.later hX) (by have := valid_le hv; omega) (pl_le _ _ _) (pl_head totBl Pl.blNo s _) (pl_tail totBl Pl.blNo (valid_pair hv) _))
  clear h hz hw
  obtain ⟨q, hq⟩ : ∃ q, q = plOf Pl.ahead s ⟨kind, name, []⟩ := ⟨_, rfl⟩
  rw [← hq] at HFP HBC
  obtain ⟨fd, hfd⟩ : ∃ fd, fd = (decide (q < s.length) && decide (cmpBl (s.getD q Pl.blNo) ⟨kind, name, []⟩ = 0)) := ⟨_, rfl⟩
  rw [← hfd] at HFP HBC
  clear hq hfd
  obtain ⟨n, hn⟩ : ∃ n, n = s.length := ⟨_, rfl⟩
  have HN := uh hn
  have hnn : s.length = n := hn.symm
  clear hn
  rw [hnn] at HVC HBC HN60
  rw [hnn]
  clear hnn
  obtain ⟨vb, hvb⟩ : ∃ x, x = Pl.validS s := ⟨_, rfl⟩
  rw [← hvb] at HVC HFP HBC HN60
  have HVB := uh hvb
  clear hvb
  obtain ⟨wa, hwa⟩ : ∃ wa, wa = w.alloc (.cells #[.slice va n vc] 31) := ⟨_, rfl⟩
  obtain ⟨b0, hb0⟩ : ∃ b0, b0 = w.heap.size := ⟨_, rfl⟩
  have HB : Hid (Below w.heap.size w wa) := by show Below _ _ _; rw [hwa]; exact blw_alloc (Below.refl _ _) _
  have HB0 : Hid (LBox wa b0 [.slice va n vc]) := by show LBox _ _ _; rw [hwa, hb0]; exact LBox.new w #[.slice va n vc] _ _ rfl
  go_enter Try.func7, Try.ntmps7
  go_upto_region 1 with fail
  rw [← hwa, ← hb0]
  clear hwa hb0
  have x0 := HB0.out.get 0 _ rfl
  have xl := HB0.out.lt
  go_wp2_with fail
  refine (HVC.out _ HB.out).mono ?_
  rintro e w1 ⟨rfl, hb1⟩
  replace HB := uh (blw_trans HB.out hb1)
  replace HB0 := uh (HB0.out.later hb1)
  clear hb1 x0 xl HVC
  cases vb
  · have HX : Hid (AnsLB shLns (lnsD (Pl.getOut s kind name key).1) (Pl.getOut s kind name key).2 w (.returned (.tuple #[.slice none 0 0, .bool false])) w1) := HNO.out _ (Or.inl HVB.out.symm) HB.out
    go_wp2
    go_ret2
    exact HX.out
  replace HFP := uh (HFP.out rfl)
  replace HN60 := uh (HN60.out rfl)
  replace HBC := uh (fun X hX => HBC.out rfl X hX)
  have x0 := HB0.out.get 0 _ rfl
  have xl := HB0.out.lt
  go_wp2_with fail
  refine (HBC.out _ HB.out).mono ?_
  rintro e w1b ⟨rfl, hb1⟩
  replace HB := uh (blw_trans HB.out hb1)
  replace HB0 := uh (HB0.out.later hb1)
  clear hb1 x0 xl HBC
  have HKS := uh (sheetKindsI w1b)
  go_wp2_with fail
  refine HKS.out.mono ?_
  rintro e w2 ⟨mb, w0, vt, vbb, vs, rfl, hm, h0, k1, k2, k3, hb⟩
  have hlk := look_kind hm kind
  obtain ⟨ra, rc, hkv, hkr⟩ : ∃ ra rc, kindV kind vt vbb vs = .slice ra (Pl.rulesOf kind).length rc ∧ Raw w2 [.row 48 shSheetRule] [rulesD (Pl.rulesOf kind)] [.slice ra (Pl.rulesOf kind).length rc] := by
    obtain ⟨v, F, he, hrep, _⟩ := kind_ans (w := w1b) kind h0 k1 k2 k3 hb
    injection he with he
    obtain ⟨ra, rc, hv⟩ := hrep.raw.len0
    subst hv
    exact ⟨ra, rc, he, hrep.raw⟩
  rw [hkv] at hlk
  replace HB := uh (blw_trans HB.out hb)
  replace HB0 := uh (HB0.out.later hb)
  have HRC := uh (ruleJ (Pl.rulesOf kind) ra rc key w2 w2 (Below.refl _ _) (Pl.rules_len kind) hkr)
  have HDS := uh (dflt_small kind)
  clear hm h0 k1 k2 k3 hb hkv hkr HKS
  obtain ⟨l, hl⟩ : ∃ l, l = Pl.rulesOf kind := ⟨_, rfl⟩
  rw [← hl] at hlk HRC HDS
  have HLR := uh hl
  clear hl
  go_wp2_with fail
  refine HRC.out.mono ?_
  rintro e w2b ⟨hra, hb⟩
  unfold RuAns at hra
  replace HB := uh (blw_trans HB.out hb)
  replace HB0 := uh (HB0.out.later hb)
  clear hlk HRC
  cases hix : Pl.ruIx l key with
  | none =>
    rw [hix] at hra
    simp only at hra
    subst hra
    have HIX : Hid (Pl.ruIx (Pl.rulesOf kind) key = none) := by rw [← HLR.out]; exact hix
    clear hb hix
    obtain ⟨w3, hw3⟩ : ∃ w3, w3 = w2b.alloc (.cells #[.string { data := #[] }, .slice none 0 0, .bool false, .slice none 0 0] 48) := ⟨_, rfl⟩
    replace HB : Hid (Below w.heap.size w w3) := by show Below _ _ _; rw [hw3]; exact blw_alloc HB.out _
    have HX : Hid (AnsLB shLns (lnsD (Pl.getOut s kind name key).1) (Pl.getOut s kind name key).2 w (.returned (.tuple #[.slice none 0 0, .bool false])) w3) := HNO.out _ (Or.inr (Or.inr HIX.out)) HB.out
    go_upto_region 5 with fail
    rw [← hw3]
    clear hw3
    cases fd
    · go_wp2
      go_ret2
      exact HX.out
    · go_wp2
      go_ret2
      exact HX.out
  | some r =>
  rw [hix] at hra
  obtain ⟨a1, c1, a3, c3, he, _, hd3⟩ := hra
  subst he
  have hrL := Pl.ruIx_lt hix
  have HIX : Hid (Pl.ruIx (Pl.rulesOf kind) key = some r) := by rw [← HLR.out]; exact hix
  have HRK : Hid ((l.getD r Pl.ruNo).key = key) := ruIx_key hix
  have HDL : Hid ((l.getD r Pl.ruNo).dflt.length ≤ 4194304) := by
    have e : l.getD r Pl.ruNo = l[r] := by simp [hrL]
    show _ ≤ _
    rw [e]; exact HDS.out _ (List.getElem_mem hrL)
  have HD3 := uh (hd3.later hb)
  obtain ⟨ru, hru⟩ : ∃ ru, ru = l.getD r Pl.ruNo := ⟨_, rfl⟩
  rw [← hru] at HRK HDL HD3
  rw [← hru]
  have HRU := uh hru
  clear hru hb hix hd3 HDS hrL
  obtain ⟨w3, hw3⟩ : ∃ w3, w3 = w2b.alloc (.cells #[.string ru.key, .slice a1 ru.args.length c1, .bool ru.many, .slice a3 ru.dflt.length c3] 48) := ⟨_, rfl⟩
  obtain ⟨b6, hb6⟩ : ∃ b6, b6 = w2b.heap.size := ⟨_, rfl⟩
  have hbw : Below w2b.heap.size w2b w3 := by rw [hw3]; exact blw_alloc (Below.refl _ _) _
  have HBX : Hid (LBox w3 b6 [.string ru.key, .slice a1 ru.args.length c1, .bool ru.many, .slice a3 ru.dflt.length c3]) := by show LBox _ _ _; rw [hw3, hb6]; exact LBox.new w2b #[.string ru.key, .slice a1 ru.args.length c1, .bool ru.many, .slice a3 ru.dflt.length c3] _ _ rfl
  replace HB := uh (blw_trans HB.out hbw)
  replace HB0 := uh (HB0.out.later hbw)
  replace HD3 := uh (HD3.out.later hbw)
  clear hbw
  go_upto_region 5 with fail
  rw [← hw3, ← hb6]
  clear hw3 hb6
  cases fd
  · have HFN : Hid (Pl.findB s kind name = none) := HFP.out
    have HX : Hid (AnsLB shLns (lnsD (Pl.getOut s kind name key).1) (Pl.getOut s kind name key).2 w (.returned (.tuple #[.slice none 0 0, .bool false])) w3) := HNO.out _ (Or.inr (Or.inl HFN.out)) HB.out
    go_wp2
    go_ret2
    exact HX.out
  have HFS : Hid (Pl.findB s kind name = some q) := HFP.out
  have HOUT := uh (HYES.out q r HVB.out.symm HFS.out HIX.out)
  have hqL : q < s.length := Pl.findB_lt HFS.out
  rcases bls_open (HL.out.later HB.out) with ⟨e0, _⟩ | ⟨p, o, c, hv, hp, hml, hopen⟩
  · omega
  rw [← HN.out] at hv hml
  injection hv with g1 _ g3
  subst g1; subst g3
  obtain ⟨ax, cx, hgx, hrx⟩ := hopen q hqL
  have hlb : (s.getD q Pl.blNo).lines.length ≤ 4194304 ∧ ∀ x ∈ (s.getD q Pl.blNo).lines, x.ws.length ≤ 4194304 := by
    have e : s.getD q Pl.blNo = s[q] := by simp [hqL]
    rw [e]; exact HLL.out _ (List.getElem_mem hqL)
  obtain ⟨x, hx⟩ : ∃ x, x = s.getD q Pl.blNo := ⟨_, rfl⟩
  rw [← hx] at hgx hrx HOUT hlb
  have HCM := uh (fun (X : World) (hX : Below w3.heap.size w3 X) => meantI ru a1 a3 c1 c3 x.lines (.slice ax x.lines.length cx) X (hrx.later hX) hlb.1 hlb.2 (HD3.out.later hX) HDL.out)
  have HGT : Hid (Pl.getOut s kind name key = (Pl.meant ru x.lines, true)) := by
    show _ = _
    rw [HOUT.out, ← HLR.out, ← HRU.out]
    unfold Pl.meant
    rw [HRK.out]
  have HGX := uh hgx
  have HPZ := uh hp
  have hk0 : (0 : Int) ≤ (q : Int) := by omega
  have hkn : (q : Int) < (n : Int) := by have := HN.out; omega
  obtain ⟨k, hk⟩ : ∃ k, k = q := ⟨_, rfl⟩
  subst hk
  obtain ⟨out, hout⟩ : ∃ out, out = Pl.meant ru x.lines := ⟨_, rfl⟩
  rw [← hout] at HCM HGT
  clear hx hgx hrx hopen hlb hp hml hout
  go_upto_region 7 with fail
  refine RY.region_past w3 (Below.refl _ _) (VGt b0 p o n vc k w3.heap.size ru a1 a3 ax c1 c3 cx x out) (VGt_mono _ _ _ _ _ _ _ _ _ _ _ _ _ _ _ _) (by kernel_rfl) (by kernel_rfl) (by kernel_rfl) (by kernel_rfl) ?_ ?_
  · intro ii o' ho a X hX hk hd
    have zb0 := HB0.out.later hX
    have zb0l := zb0.lt
    have zb6 := HBX.out.later hX
    have zb6l := zb6.lt
    match ii, ho with
    | 0, ho =>
      injection ho with ho; subst ho
      have v12 : a.eval (.tmp 12) = .pointer (some ⟨b6, 0, none⟩) := (hk 12 (by kernel_rfl)).trans rfl
      exact Or.inl ⟨_, X, exec_load_mid 48 _ rfl b6 0 v12 [.string ru.key, .slice a1 ru.args.length c1, .bool ru.many, .slice a3 ru.dflt.length c3] _ zb6.at_ Try.underlying48 rfl (by kernel_rfl), Below.refl _ _, rfl⟩
    | 1, ho =>
      injection ho with ho; subst ho
      have e4 : a.tmps[4]?.getD undef = .pointer (some ⟨b0, 0, none⟩) := (RY.ev_tmp a 4).trans ((hk 4 (by kernel_rfl)).trans rfl)
      exact Or.inl ⟨.pointer (some ⟨b0, 0, none⟩), X, by simp [execOp, go_sem, e4], Below.refl _ _, rfl⟩
    | 2, ho =>
      injection ho with ho; subst ho
      have e41 : a.tmps[41]?.getD undef = .pointer (some ⟨b0, 0, none⟩) := (RY.ev_tmp a 41).trans (hd 1 _ 41 rfl rfl ⟨⟨1, .data⟩, by simp, rfl, rfl⟩)
      have ycl_ := zb0.get 0 _ rfl
      exact Or.inl ⟨.slice (some ⟨p, o, none⟩) n vc, X, by simp [execOp, go_sem, e41, ycl_], Below.refl _ _, rfl⟩
    | 3, ho =>
      injection ho with ho; subst ho
      have e10 : a.tmps[10]?.getD undef = .int .i64 (k : Int) := (RY.ev_tmp a 10).trans ((hk 10 (by kernel_rfl)).trans rfl)
      exact Or.inl ⟨.int .i64 (k : Int), X, by simp [execOp, go_sem, e10], Below.refl _ _, rfl⟩
    | 4, ho =>
      injection ho with ho; subst ho
      have e42 : a.tmps[42]?.getD undef = .slice (some ⟨p, o, none⟩) n vc := (RY.ev_tmp a 42).trans (hd 2 _ 42 rfl rfl ⟨⟨2, .data⟩, by simp, rfl, rfl⟩)
      have e43 : a.tmps[43]?.getD undef = .int .i64 (k : Int) := (RY.ev_tmp a 43).trans (hd 3 _ 43 rfl rfl ⟨⟨3, .data⟩, by simp, rfl, rfl⟩)
      exact Or.inl ⟨.pointer (some ⟨p, o + k * 3, none⟩), X, by simp [execOp, go_sem, e42, e43, hk0, hkn], Below.refl _ _, rfl⟩
    | 5, ho =>
      injection ho with ho; subst ho
      have e44 : a.tmps[44]?.getD undef = .pointer (some ⟨p, o + k * 3, none⟩) := (RY.ev_tmp a 44).trans (hd 4 _ 44 rfl rfl ⟨⟨4, .data⟩, by simp, rfl, rfl⟩)
      exact Or.inl ⟨.pointer (some ⟨p, o + k * 3 + 2, none⟩), X, by simp [execOp, go_sem, e44], Below.refl _ _, rfl⟩
    | 6, ho =>
      injection ho with ho; subst ho
      have e45 : a.tmps[45]?.getD undef = .pointer (some ⟨p, o + k * 3 + 2, none⟩) := (RY.ev_tmp a 45).trans (hd 5 _ 45 rfl rfl ⟨⟨5, .data⟩, by simp, rfl, rfl⟩)
      have ypl_ := Nat.lt_of_lt_of_le HPZ.out hX.size
      have ycl_ : X.cell? ⟨p, o + k * 3 + 2, none⟩ = some (.slice ax x.lines.length cx) := by have q := rA_get (rA_later HGX.out HPZ.out hX) 2 _ rfl; simpa using q
      exact Or.inl ⟨.slice ax x.lines.length cx, X, by simp [execOp, go_sem, e45, ycl_], Below.refl _ _, rfl⟩
    | 7, ho =>
      injection ho with ho; subst ho
      have e40 : a.tmps[40]?.getD undef = .agg #[.string ru.key, .slice a1 ru.args.length c1, .bool ru.many, .slice a3 ru.dflt.length c3] := (RY.ev_tmp a 40).trans (hd 0 _ 40 rfl rfl ⟨⟨0, .data⟩, by simp, rfl, rfl⟩)
      have e46 : a.tmps[46]?.getD undef = .slice ax x.lines.length cx := (RY.ev_tmp a 46).trans (hd 6 _ 46 rfl rfl ⟨⟨6, .data⟩, by simp, rfl, rfl⟩)
      refine Or.inr ⟨25, #[.agg #[.string ru.key, .slice a1 ru.args.length c1, .bool ru.many, .slice a3 ru.dflt.length c3], .slice ax x.lines.length cx], by simp [go_sem, e40, e46], (HCM.out X hX).mono ?_⟩
      rintro e W' ⟨v, F, rfl, r, nd, fr, hb⟩
      exact ⟨_, rfl, hb, v, F, rfl, r, nd, fun b hb2 => Nat.le_trans hX.size (fr b hb2)⟩
    | 8, ho =>
      injection ho with ho; subst ho
      obtain ⟨v47, F47, q47, hR47, hF47⟩ := hd 7 _ 47 rfl rfl ⟨⟨7, .data⟩, by simp, rfl, rfl⟩
      have e47 : a.tmps[47]?.getD undef = v47 := (RY.ev_tmp a 47).trans q47
      exact Or.inl ⟨v47, X, by simp [execOp, go_sem, e47], Below.refl _ _, v47, F47, rfl, hR47, hF47⟩
    | 9, ho =>
      injection ho with ho; subst ho
      exact Or.inl ⟨.bool true, X, by simp [execOp, go_sem], Below.refl _ _, rfl⟩
    | n + 10, ho => simp at ho
  intro X vs hX hvs
  obtain ⟨v8, F8, q8, r8, nd8, fr8⟩ := hvs 8 _ 8 rfl rfl
  have q9 : vs 9 = _ := hvs 9 _ 9 rfl rfl
  simp only [RY.putAll, Act.put, List.setIfInBounds_toArray, List.set_cons_zero, List.set_cons_succ]
  rw [q8, q9]
  generalize vs 40 = s40
  generalize vs 41 = s41
  generalize vs 42 = s42
  generalize vs 43 = s43
  generalize vs 44 = s44
  generalize vs 45 = s45
  generalize vs 46 = s46
  generalize vs 47 = s47
  clear hvs q9
  have HD : Hid (AnsLB shLns (lnsD (Pl.getOut s kind name key).1) (Pl.getOut s kind name key).2 w (.returned (.tuple #[v8, .bool true])) X) := by
    rw [HGT.out]
    exact ⟨_, F8, rfl, r8, nd8, fun b hb => Nat.le_trans HB.out.size (fr8 b hb), blw_trans HB.out hX⟩
  clear q8 r8 nd8 fr8
  go_wp2
  go_ret2
  exact HD.out

end Go.Proofs.Ytikacjpbnoihjaa
