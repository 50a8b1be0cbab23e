/-
  Sheets that are valid: the program.
-/
import Derived.Test.YthmaeeakmmblkaaEPj
import Derived.Test.YthmaeeakmmblkaaELc
namespace Go.Proofs.Ythmaeeakmmblkaa
open Go.RowKit Go.Deep

theorem look_kind2 {W : World} {mb : Nat} {vt vb vs : Value} (hb : W.heap[mb]? = some (.map #[⟨.string { data := #[116, 101, 97, 109] }, .agg #[vt], 0⟩, ⟨.string { data := #[98, 101, 114, 116, 104] }, .agg #[vb], 1⟩, ⟨.string { data := #[115, 101, 114, 118, 105, 99, 101] }, .agg #[vs], 2⟩] 3)) (kind : ByteArray) :
    (Instr.lookup 48 (.map (some mb)) (.string kind) true).run Try.prog W = .ok (.tuple #[.agg #[kindV kind vt vb vs], .bool (!decide ((Pl.rulesOf kind).length = 0))]) W := by
  have hz : (zeroValue 47).run Try.prog W = .ok (.agg #[.slice none 0 0]) W := by kernel_rfl
  have e1 := beq_text kind [116, 101, 97, 109] { data := #[116, 101, 97, 109] } (by decide +kernel)
  have e2 := beq_text kind [98, 101, 114, 116, 104] { data := #[98, 101, 114, 116, 104] } (by decide +kernel)
  have e3 := beq_text kind [115, 101, 114, 118, 105, 99, 101] { data := #[115, 101, 114, 118, 105, 99, 101] } (by decide +kernel)
  obtain ⟨r, hr, hv, hk⟩ : ∃ r, Instr.findNow .string (.string kind) [⟨.string { data := #[116, 101, 97, 109] }, .agg #[vt], 0⟩, ⟨.string { data := #[98, 101, 114, 116, 104] }, .agg #[vb], 1⟩, ⟨.string { data := #[115, 101, 114, 118, 105, 99, 101] }, .agg #[vs], 2⟩] 0 = some r ∧ (match r with | some (_, v) => v | none => .agg #[.slice none 0 0]) = .agg #[kindV kind vt vb vs] ∧ r.isSome = !decide ((Pl.rulesOf kind).length = 0) := by
    unfold Pl.rulesOf
    simp only [Instr.findNow, Instr.sameNow, e1, e2, e3, kindV]
    cases (kind.toList == [116, 101, 97, 109]) <;> cases (kind.toList == [98, 101, 114, 116, 104]) <;> cases (kind.toList == [115, 101, 114, 118, 105, 99, 101]) <;> exact ⟨_, rfl, rfl, by first | rfl | (simp only [Option.isSome]; decide +kernel)⟩
  have hf := find_text W kind _ r hr
  rw [← hk]
  cases r with
  | none =>
    simp only at hv
    simp [Instr.lookup, run_underlying Try.und_kinds, MapKept.run_getObj_map hb, check_text, hf, hz, Result.andThen, hv]
  | some p =>
    obtain ⟨j, v⟩ := p
    simp only at hv
    subst hv
    simp [Instr.lookup, run_underlying Try.und_kinds, MapKept.run_getObj_map hb, check_text, hf, Result.andThen]

set_option maxRecDepth 8000 in
set_option maxHeartbeats 16000000 in
theorem sheetValidI (s : List Pl.Bl) (v : Value) (w : World) (h : Raw w shBls [blsD s] [v]) (hz : okTx s) (_ : wtL [blsD s] ≤ 1048576) :
    Calls Try.prog 13 #[.agg #[v]] w fun e w' => e = .returned (.bool (Pl.validS s)) ∧ Below w.heap.size w w' := by
  have HL := uh h
  have HZ := uh hz
  obtain ⟨va, vc, ev⟩ := h.len0
  subst ev
  obtain ⟨R, hR⟩ : ∃ R, R = Pl.validS s := ⟨_, rfl⟩
  have HR : Hid (R = (decide (s.length ≤ 60) && (ascBl s && (List.range s.length).all fun i => blkP (s.getD i Pl.blNo)))) := hR.trans (valid_eq s)
  rw [← hR]
  clear h hz hR
  obtain ⟨wa, hwa⟩ : ∃ wa, wa = w.alloc (.cells #[.slice va s.length vc] 34) := ⟨_, rfl⟩
  obtain ⟨b0, hb0⟩ : ∃ b0, b0 = w.heap.size := ⟨_, rfl⟩
  have HB : Hid (Below w.heap.size w wa) := by show Below _ _ _; rw [hwa]; exact blw_alloc (Below.refl _ _) _
  have HK0 : Hid (LBox wa b0 [.slice va s.length vc]) := by show LBox _ _ _; rw [hwa, hb0]; exact LBox.new w #[.slice va s.length vc] _ _ rfl
  have z0 := HK0.out.get 0 _ rfl
  have zl := HK0.out.lt
  have HAS := uh (ascBlI s (.slice va s.length vc) wa (HL.out.later HB.out))
  go_enter Try.func13, Try.ntmps13
  go_upto_region 1 with fail
  rw [← hwa, ← hb0]
  clear hwa hb0
  by_cases h60 : s.length ≤ 60
  rotate_left
  · have d0 : ((60 : Int) < (s.length : Int)) := by omega
    have HE : Hid (R = false) := by show R = _; rw [HR.out, decide_eq_false h60]; rfl
    go_wp2
    go_ret
    exact ⟨Pl.ret_bool HE.out.symm, HB.out⟩
  have d0 : ¬ ((60 : Int) < (s.length : Int)) := by omega
  replace HR : Hid (R = (ascBl s && (List.range s.length).all fun i => blkP (s.getD i Pl.blNo))) := by show R = _; rw [HR.out, decide_eq_true h60, Bool.true_and]
  obtain ⟨ab, hab⟩ : ∃ ab, ab = ascBl s := ⟨_, rfl⟩
  rw [← hab] at HAS HR
  clear hab
  cases ab
  · have HE : Hid (R = false) := HR.out
    go_wp2_with (go_at_call 26; refine HAS.out.mono ?_; rintro e w2 ⟨rfl, hb2⟩)
    go_ret
    exact ⟨Pl.ret_bool HE.out.symm, blw_trans HB.out hb2⟩
  replace HR : Hid (R = (List.range s.length).all fun i => blkP (s.getD i Pl.blNo)) := HR.out
  have HC := uh (fun W : World => sheetKindsI W)
  go_wp2_with fail
  refine HAS.out.mono ?_
  rintro e w2 ⟨rfl, hb2⟩
  replace HB := uh (blw_trans HB.out hb2)
  replace HK0 := uh (HK0.out.later hb2)
  clear z0 zl hb2 HAS
  go_wp2_with fail
  refine (HC.out _).mono ?_
  rintro e w1 ⟨mb, w0, vt, vb, vs, rfl, hm, h0, k1, k2, k3, hb⟩
  have HKD : Hid (∀ kind, ∃ ra rc, kindV kind vt vb vs = .slice ra (Pl.rulesOf kind).length rc ∧ Raw w1 [.row 41 shSheetRule] [rulesD (Pl.rulesOf kind)] [.slice ra (Pl.rulesOf kind).length rc]) := fun kind => by
    obtain ⟨v, F, he, hrep, _⟩ := kind_ans (w := w2) kind h0 k1 k2 k3 hb
    injection he with he
    obtain ⟨ra, rc, hv⟩ := hrep.raw.len0
    subst hv
    exact ⟨ra, rc, he, hrep.raw⟩
  have HM := uh hm
  have hml : mb < w1.heap.size := by
    by_cases q : mb < w1.heap.size
    · exact q
    · rw [Array.getElem?_eq_none (by omega)] at hm; cases hm
  have HML := uh hml
  replace HB := uh (blw_trans HB.out hb)
  replace HK0 := uh (HK0.out.later hb)
  have z0 := HK0.out.get 0 _ rfl
  have zl := HK0.out.lt
  clear hm h0 k1 k2 k3 hb hml HC
  go_wp2_with fail
  go_loopw [22] (fun i wr => ∃ k : Nat, k ≤ s.length ∧ i = .int .i64 k ∧ (List.range k).all (fun i => blkP (s.getD i Pl.blNo)) = true ∧ Below w1.heap.size w1 wr) (fun i _ => s.length - (intOf i).toNat)
  case atStart => exact ⟨0, Nat.zero_le _, rfl, rfl, Below.refl _ _⟩
  case round =>
    obtain ⟨k, hk, rfl, hall, hW⟩ := hrel
    have HALL := uh hall
    have HW := uh hW
    have HWW := uh (blw_trans HB.out hW)
    clear hall hW z0 zl
    by_cases hlt : k < s.length
    rotate_left
    · obtain rfl : k = s.length := by omega
      have HE : Hid (R = true) := by show R = _; rw [HR.out]; exact HALL.out
      go_wp2
      go_ret
      exact ⟨Pl.ret_bool HE.out.symm, HWW.out⟩
    rcases bls_open (HL.out.later HWW.out) with ⟨e0, _⟩ | ⟨p, o, c', hv, hp, _, hopen⟩
    · omega
    injection hv with g1 _ g3
    subst g1; subst g3
    obtain ⟨ax, cx, hg, hrx⟩ := hopen k hlt
    obtain ⟨x, hx⟩ : ∃ x, x = s.getD k Pl.blNo := ⟨_, rfl⟩
    rw [← hx] at hg hrx
    have x0 : wr.cell? ⟨p, o + k * 3, none⟩ = some (.string x.kind) := rA_get hg 0 _ rfl
    have x1 : wr.cell? ⟨p, o + k * 3 + 1, none⟩ = some (.string x.name) := rA_get hg 1 _ rfl
    have x2 : wr.cell? ⟨p, o + k * 3 + 2, none⟩ = some (.slice ax x.lines.length cx) := rA_get hg 2 _ rfl
    have hk0 : (0 : Int) ≤ (k : Int) := by omega
    have hkn : (k : Int) < (s.length : Int) := by omega
    have HSZ : Hid (x.name.size ≤ maxLen ∧ ∀ y ∈ x.lines, ∀ t ∈ y.ws, t.size ≤ maxLen) := by
      have e : s.getD k Pl.blNo = s[k] := by simp [hlt]
      rw [hx, e]; exact HZ.out _ (List.getElem_mem hlt)
    have HXL := uh hrx
    have HBAD : Hid (blkP x = false → R = false) := fun hq => by rw [HR.out]; exact Pl.rall_false hlt (by rw [← hx]; exact hq)
    have HGOOD : Hid (blkP x = true → (List.range (k + 1)).all (fun i => blkP (s.getD i Pl.blNo)) = true) := fun hq => Pl.rall_step HALL.out (by rw [← hx]; exact hq)
    have HBP : Hid (blkP x = (!decide ((Pl.rulesOf x.kind).length = 0) && Pl.nameOk20 x.name && holdsP (Pl.rulesOf x.kind) x.lines)) := rfl
    clear hopen hg hrx hx
    obtain ⟨ra, rc, hkv, hrr⟩ := HKD.out x.kind
    have HRR := uh (hrr.later HW.out)
    clear hrr
    obtain ⟨wb, hwb⟩ : ∃ wb, wb = wr.alloc (.cells #[.string x.kind, .string x.name, .slice ax x.lines.length cx] 55) := ⟨_, rfl⟩
    obtain ⟨bl, hbl⟩ : ∃ bl, bl = wr.heap.size := ⟨_, rfl⟩
    have HWB : Hid (Below wr.heap.size wr wb) := by show Below _ _ _; rw [hwb]; exact blw_alloc (Below.refl _ _) _
    have HLB : Hid (LBox wb bl [.string x.kind, .string x.name, .slice ax x.lines.length cx]) := by show LBox _ _ _; rw [hwb, hbl]; exact LBox.new wr #[.string x.kind, .string x.name, .slice ax x.lines.length cx] _ _ rfl
    go_upto_region 7 with fail
    rw [← hwb, ← hbl]
    clear hwb hbl x0 x1 x2
    have y0 := HLB.out.get 0 _ rfl
    have yl := HLB.out.lt
    have hlk := look_kind2 (((HWB.out.block _ (Nat.lt_of_lt_of_le HML.out HW.out.size)).trans (HW.out.block _ HML.out)).trans HM.out) x.kind
    rw [hkv] at hlk
    obtain ⟨l, hl0⟩ : ∃ l, l = Pl.rulesOf x.kind := ⟨_, rfl⟩
    have HLN : Hid (l.length ≤ 100) := by rw [hl0]; exact Pl.rules_len _
    have HAR : Hid (∀ r ∈ l, ∀ z ∈ r.args, 1 ≤ z ∧ z ≤ 6) := by rw [hl0]; exact Pl.rules_args _
    rw [← hl0] at hlk HRR HBP
    obtain ⟨kn, hkn0⟩ : ∃ kn, kn = !decide (l.length = 0) := ⟨_, rfl⟩
    rw [← hkn0] at hlk HBP
    clear hl0 hkv hkn0
    obtain ⟨w3, hw3⟩ : ∃ w3, w3 = wb.alloc (.cells #[.slice ra l.length rc] 47) := ⟨_, rfl⟩
    obtain ⟨bk, hbk⟩ : ∃ bk, bk = wb.heap.size := ⟨_, rfl⟩
    have HB3 : Hid (Below wb.heap.size wb w3) := by show Below _ _ _; rw [hw3]; exact blw_alloc (Below.refl _ _) _
    have HKB : Hid (LBox w3 bk [.slice ra l.length rc]) := by show LBox _ _ _; rw [hw3, hbk]; exact LBox.new wb #[.slice ra l.length rc] _ _ rfl
    have HB03 := uh (blw_trans HWB.out HB3.out)
    have HLB3 := uh (HLB.out.later HB3.out)
    go_upto_region 8 with fail
    rw [← hw3, ← hbk]
    clear hw3 hbk y0 yl hlk
    have y1 := HLB3.out.get 1 _ rfl
    have y2 := HLB3.out.get 2 _ rfl
    have yl := HLB3.out.lt
    have q0 := HKB.out.get 0 _ rfl
    have ql := HKB.out.lt
    have HWX : Hid (Below w.heap.size w w3) := blw_trans HWW.out HB03.out
    have HNM := uh (fun W => sheetIsNameI x.name W HSZ.out.1)
    have HHO := uh (holdsI l ra rc x.lines (.slice ax x.lines.length cx) w3 HLN.out HAR.out (HRR.out.later HB03.out) (HXL.out.later HB03.out) HSZ.out.2)
    obtain ⟨nm, hnm⟩ : ∃ nm, nm = Pl.nameOk20 x.name := ⟨_, rfl⟩
    rw [← hnm] at HNM HBP
    obtain ⟨ho, hho⟩ : ∃ ho, ho = holdsP l x.lines := ⟨_, rfl⟩
    rw [← hho] at HHO HBP
    clear hnm hho
    cases kn
    · have HE : Hid (R = false) := HBAD.out HBP.out
      go_wp2
      go_ret
      exact ⟨Pl.ret_bool HE.out.symm, HWX.out⟩
    · cases nm
      · have HE : Hid (R = false) := HBAD.out HBP.out
        go_wp2_with (go_at_call 28; refine (HNM.out _).mono ?_; rintro e w' ⟨rfl, rfl⟩)
        go_ret
        exact ⟨Pl.ret_bool HE.out.symm, HWX.out⟩
      · cases ho
        · have HE : Hid (R = false) := HBAD.out HBP.out
          go_wp2_with (first | (go_at_call 28; refine (HNM.out _).mono ?_; rintro e w' ⟨rfl, rfl⟩) | (go_at_call 29; refine HHO.out.mono ?_; rintro e w' ⟨rfl, hb9⟩))
          go_ret
          exact ⟨Pl.ret_bool HE.out.symm, blw_trans HWX.out hb9⟩
        · have HE := uh (HGOOD.out HBP.out)
          go_wp2_with (first | (go_at_call 28; refine (HNM.out _).mono ?_; rintro e w' ⟨rfl, rfl⟩) | (go_at_call 29; refine HHO.out.mono ?_; rintro e w' ⟨rfl, hb9⟩))
          go_roundw
          case rel => exact ⟨k + 1, by omega, by go_num, HE.out, blw_trans HW.out (blw_trans HB03.out hb9)⟩
          case measure => simp [intOf]; omega

end Go.Proofs.Ythmaeeakmmblkaa
