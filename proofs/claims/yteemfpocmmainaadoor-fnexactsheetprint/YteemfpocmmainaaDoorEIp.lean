/-
  Sheets: how a sheet is written: the program.
-/
import Derived.Test.YteemfpocmmainaaDoorEIh
import Derived.Test.YteemfpocmmainaaDoorELc
import Derived.Test.YteemfpocmmainaaDoorEPp
import Derived.Test.YteemfpocmmainaaDoorEIz
import Derived.Test.YteemfpocmmainaaDoorEIj
import Derived.Test.YteemfpocmmainaaDoorEWt
namespace Go.Proofs.YteemfpocmmainaaDoor
open Go.RowKit Go.Deep

theorem bl_irrefl : ∀ l : List UInt8, Op.bytesLess l l = false
  | [] => rfl
  | a :: x => by unfold Op.bytesLess; rw [bl_irrefl x]; simp
theorem tx_eq {a b : ByteArray} (h : Pl.txEq a b = true) : a = b := tl_inj h
theorem tx_irrefl (a : ByteArray) : Pl.txLt a a = false := bl_irrefl _
theorem keyCmp_neg (a b : ByteArray) : keyCmp a b < 0 ↔ Pl.txLt a b = true := by
  unfold keyCmp
  cases Pl.txLt a b
  · cases a.toList == b.toList <;> simp
  · simp
theorem keyCmp_zero (a b : ByteArray) : keyCmp a b = 0 ↔ Pl.txEq a b = true := by
  unfold keyCmp
  cases h : Pl.txEq a b
  · have h' : (a.toList == b.toList) = false := h
    rw [h']
    cases Pl.txLt a b <;> simp
  · have := tx_eq h
    subst this
    rw [tx_irrefl]
    simp
theorem cmpW_neg : ∀ A B : List ByteArray, cmpW A B < 0 ↔ Pl.lessW A B = true
  | [], [] => by unfold cmpW Pl.lessW <;> simp
  | [], _ :: _ => by unfold cmpW Pl.lessW <;> simp
  | _ :: _, [] => by unfold cmpW Pl.lessW <;> simp
  | a :: x, b :: y => by
    unfold cmpW Pl.lessW
    cases h : Pl.txEq a b
    · have h0 : ¬ keyCmp a b = 0 := fun e => by rw [(keyCmp_zero a b).1 e] at h; cases h
      rw [if_neg h0]; simp only [Bool.false_eq_true, if_false]
      exact keyCmp_neg a b
    · rw [if_pos ((keyCmp_zero a b).2 h)]; simp only [if_true]
      exact cmpW_neg x y
theorem numCmp_neg (a b : Int) : numCmp a b < 0 ↔ a < b := by unfold numCmp; split <;> (try split) <;> simp_all
theorem numCmp_zero (a b : Int) : numCmp a b = 0 ↔ a = b := by unfold numCmp; split <;> (try split) <;> constructor <;> intro h <;> omega
theorem cmpBl_neg (x y : Pl.Bl) : decide (cmpBl x y < 0) = Pl.ahead x y := by
  unfold cmpBl pick2 Pl.ahead
  by_cases h : keyCmp x.kind y.kind = 0
  · rw [if_pos h]
    have e := (keyCmp_zero _ _).1 h
    have e2 := tx_eq e
    rw [e, e2, tx_irrefl, Bool.false_or, Bool.true_and]
    rw [Bool.eq_iff_iff, decide_eq_true_iff]; exact keyCmp_neg _ _
  · rw [if_neg h]
    have e : Pl.txEq x.kind y.kind = false := by
      cases q : Pl.txEq x.kind y.kind
      · rfl
      · exact absurd ((keyCmp_zero _ _).2 q) h
    rw [e, Bool.false_and, Bool.or_false]
    rw [Bool.eq_iff_iff, decide_eq_true_iff]; exact keyCmp_neg _ _
theorem cmpLn_neg (kind : ByteArray) (x y : Pl.Ln) : decide (cmpLn (Pl.rulesOf kind) x y < 0) = Pl.lineLess kind x y := by
  have hu : cmpLn (Pl.rulesOf kind) x y = pick2 (numCmp (Pl.ruPos kind x.key) (Pl.ruPos kind y.key)) (cmpW x.ws y.ws) := rfl
  rw [hu]
  unfold pick2 Pl.lineLess
  by_cases h : numCmp (Pl.ruPos kind x.key) (Pl.ruPos kind y.key) = 0
  · rw [if_pos h]
    have e := (numCmp_zero _ _).1 h
    rw [e]
    have : decide (Pl.ruPos kind y.key < Pl.ruPos kind y.key) = false := decide_eq_false (by omega)
    rw [this]
    simp only [Bool.false_or, BEq.rfl, Bool.true_and]
    rw [Bool.eq_iff_iff, decide_eq_true_iff]; exact cmpW_neg _ _
  · rw [if_neg h]
    have e : (Pl.ruPos kind x.key == Pl.ruPos kind y.key) = false := by
      rw [beq_eq_false_iff_ne]; exact fun q => h ((numCmp_zero _ _).2 q)
    rw [e, Bool.false_and, Bool.or_false]
    rw [Bool.eq_iff_iff, decide_eq_true_iff, decide_eq_true_iff]; exact numCmp_neg _ _
theorem all_shift (n : Nat) (f : Nat → Bool) (g : Nat → Nat → Bool) : (List.range n).all (fun i => f i && (decide (i = 0) || g (i - 1) i)) = ((List.range n).all f && (List.range (n - 1)).all (fun i => g i (i + 1))) := by
  rw [Bool.eq_iff_iff]
  simp only [Bool.and_eq_true, List.all_eq_true, List.mem_range, Bool.or_eq_true, decide_eq_true_iff]
  constructor
  · intro h
    refine ⟨fun i hi => (h i hi).1, fun i hi => ?_⟩
    rcases (h (i + 1) (by omega)).2 with e | e
    · omega
    · exact e
  · rintro ⟨h1, h2⟩ i hi
    refine ⟨h1 i hi, ?_⟩
    cases i with
    | zero => exact Or.inl rfl
    | succ i => exact Or.inr (h2 i (by omega))
theorem cnt_eq (m : Bool) (n : Nat) : (!decide ((if m then (10 : Int) else 1) < (n : Nat))) = Pl.cntOk m n := by
  unfold Pl.cntOk
  cases m
  · rw [Bool.eq_iff_iff]; simp; omega
  · rw [Bool.eq_iff_iff]; simp; omega
theorem holds_eq (kind : ByteArray) (L : List Pl.Ln) : holdsP (Pl.rulesOf kind) L = Pl.linesOk kind L := by
  unfold holdsP Pl.linesOk ascLn
  have e1 : Pl.lineOkAt kind L = fun i => (Pl.lineOkL (Pl.rulesOf kind) L i) && (decide (i = 0) || Pl.lineLess kind (L.getD (i - 1) Pl.lnNo) (L.getD i Pl.lnNo)) := by
    funext i
    unfold Pl.lineOkAt Pl.lineOkL
    rw [cnt_eq]
    have a1 : Pl.sheetFits kind (L.getD i Pl.lnNo).key (L.getD i Pl.lnNo).ws = Pl.fitsL (Pl.rulesOf kind) (L.getD i Pl.lnNo).key (L.getD i Pl.lnNo).ws := rfl
    have a2 : Pl.manyOf kind (L.getD i Pl.lnNo).key = Pl.manyL (Pl.rulesOf kind) (L.getD i Pl.lnNo).key := rfl
    rw [a1, a2, Bool.and_assoc, Bool.and_assoc]
    congr 1
    exact Bool.and_comm _ _
  rw [e1, all_shift L.length (Pl.lineOkL (Pl.rulesOf kind) L) (fun i j => Pl.lineLess kind (L.getD i Pl.lnNo) (L.getD j Pl.lnNo))]
  congr 1
  congr 1
  funext i
  exact cmpLn_neg kind _ _
/-- One block by itself. -/
def blkP (b : Pl.Bl) : Bool := !decide ((Pl.rulesOf b.kind).length = 0) && Pl.nameOk20 b.name && holdsP (Pl.rulesOf b.kind) b.lines
theorem valid_eq (s : List Pl.Bl) : Pl.validS s = (decide (s.length ≤ 60) && (ascBl s && (List.range s.length).all fun i => blkP (s.getD i Pl.blNo))) := by
  unfold Pl.validS
  congr 1
  have e1 : Pl.blockOkAt s = fun i => blkP (s.getD i Pl.blNo) && (decide (i = 0) || Pl.ahead (s.getD (i - 1) Pl.blNo) (s.getD i Pl.blNo)) := by
    funext i
    unfold Pl.blockOkAt blkP
    rw [holds_eq]
  rw [e1, all_shift s.length (fun i => blkP (s.getD i Pl.blNo)) (fun i j => Pl.ahead (s.getD i Pl.blNo) (s.getD j Pl.blNo)), Bool.and_comm]
  congr 1
  unfold ascBl
  congr 1
  funext i
  exact (cmpBl_neg _ _).symm

end Go.Proofs.YteemfpocmmainaaDoor

namespace Go.Proofs.YteemfpocmmainaaDoor
open Go.RowKit Go.Deep

theorem look_kind2 {W : World} {mb : Nat} {vt vb vs : Value} (hb : W.heap[mb]? = some (.map #[⟨.string { data := #[116, 101, 97, 109] }, .agg #[vt], 0⟩, ⟨.string { data := #[98, 101, 114, 116, 104] }, .agg #[vb], 1⟩, ⟨.string { data := #[115, 101, 114, 118, 105, 99, 101] }, .agg #[vs], 2⟩] 3)) (kind : ByteArray) :
    (Instr.lookup 67 (.map (some mb)) (.string kind) true).run Tryd.prog W = .ok (.tuple #[.agg #[kindV kind vt vb vs], .bool (!decide ((Pl.rulesOf kind).length = 0))]) W := by
  have hz : (zeroValue 70).run Tryd.prog W = .ok (.agg #[.slice none 0 0]) W := by kernel_rfl
  have e1 := beq_text kind [116, 101, 97, 109] { data := #[116, 101, 97, 109] } (by decide +kernel)
  have e2 := beq_text kind [98, 101, 114, 116, 104] { data := #[98, 101, 114, 116, 104] } (by decide +kernel)
  have e3 := beq_text kind [115, 101, 114, 118, 105, 99, 101] { data := #[115, 101, 114, 118, 105, 99, 101] } (by decide +kernel)
  obtain ⟨r, hr, hv, hk⟩ : ∃ r, Instr.findNow .string (.string kind) [⟨.string { data := #[116, 101, 97, 109] }, .agg #[vt], 0⟩, ⟨.string { data := #[98, 101, 114, 116, 104] }, .agg #[vb], 1⟩, ⟨.string { data := #[115, 101, 114, 118, 105, 99, 101] }, .agg #[vs], 2⟩] 0 = some r ∧ (match r with | some (_, v) => v | none => .agg #[.slice none 0 0]) = .agg #[kindV kind vt vb vs] ∧ r.isSome = !decide ((Pl.rulesOf kind).length = 0) := by
    unfold Pl.rulesOf
    simp only [Instr.findNow, Instr.sameNow, e1, e2, e3, kindV]
    cases (kind.toList == [116, 101, 97, 109]) <;> cases (kind.toList == [98, 101, 114, 116, 104]) <;> cases (kind.toList == [115, 101, 114, 118, 105, 99, 101]) <;> exact ⟨_, rfl, rfl, by first | rfl | (simp only [Option.isSome]; decide +kernel)⟩
  have hf := find_text W kind _ r hr
  rw [← hk]
  cases r with
  | none =>
    simp only at hv
    simp [Instr.lookup, run_underlying Tryd.und_kinds, MapKept.run_getObj_map hb, check_text, hf, hz, Result.andThen, hv]
  | some p =>
    obtain ⟨j, v⟩ := p
    simp only at hv
    subst hv
    simp [Instr.lookup, run_underlying Tryd.und_kinds, MapKept.run_getObj_map hb, check_text, hf, Result.andThen]

set_option maxRecDepth 8000 in
set_option maxHeartbeats 16000000 in
theorem sheetValidI (s : List Pl.Bl) (v : Value) (w : World) (h : Raw w shBls [blsD s] [v]) (hz : okTx s) (_ : wtL [blsD s] ≤ 1048576) :
    Calls Tryd.prog 13 #[.agg #[v]] w fun e w' => e = .returned (.bool (Pl.validS s)) ∧ Below w.heap.size w w' := by
  have HL := uh h
  have HZ := uh hz
  obtain ⟨va, vc, ev⟩ := h.len0
  subst ev
  obtain ⟨R, hR⟩ : ∃ R, R = Pl.validS s := ⟨_, rfl⟩
  have HR : Hid (R = (decide (s.length ≤ 60) && (ascBl s && (List.range s.length).all fun i => blkP (s.getD i Pl.blNo)))) := hR.trans (valid_eq s)
  rw [← hR]
  clear h hz hR
  obtain ⟨wa, hwa⟩ : ∃ wa, wa = w.alloc (.cells #[.slice va s.length vc] 29) := ⟨_, rfl⟩
  obtain ⟨b0, hb0⟩ : ∃ b0, b0 = w.heap.size := ⟨_, rfl⟩
  have HB : Hid (Below w.heap.size w wa) := by show Below _ _ _; rw [hwa]; exact blw_alloc (Below.refl _ _) _
  have HK0 : Hid (LBox wa b0 [.slice va s.length vc]) := by show LBox _ _ _; rw [hwa, hb0]; exact LBox.new w #[.slice va s.length vc] _ _ rfl
  have z0 := HK0.out.get 0 _ rfl
  have zl := HK0.out.lt
  have HAS := uh (ascBlI s (.slice va s.length vc) wa (HL.out.later HB.out))
  go_enter Tryd.func13, Tryd.ntmps13
  go_upto_region 1 with fail
  rw [← hwa, ← hb0]
  clear hwa hb0
  by_cases h60 : s.length ≤ 60
  rotate_left
  · have d0 : ((60 : Int) < (s.length : Int)) := by omega
    have HE : Hid (R = false) := by show R = _; rw [HR.out, decide_eq_false h60]; rfl
    go_wp2
    go_ret
    exact ⟨Pl.ret_bool HE.out.symm, HB.out⟩
  have d0 : ¬ ((60 : Int) < (s.length : Int)) := by omega
  replace HR : Hid (R = (ascBl s && (List.range s.length).all fun i => blkP (s.getD i Pl.blNo))) := by show R = _; rw [HR.out, decide_eq_true h60, Bool.true_and]
  obtain ⟨ab, hab⟩ : ∃ ab, ab = ascBl s := ⟨_, rfl⟩
  rw [← hab] at HAS HR
  clear hab
  cases ab
  · have HE : Hid (R = false) := HR.out
    go_wp2_with (go_at_call 25; refine HAS.out.mono ?_; rintro e w2 ⟨rfl, hb2⟩)
    go_ret
    exact ⟨Pl.ret_bool HE.out.symm, blw_trans HB.out hb2⟩
  replace HR : Hid (R = (List.range s.length).all fun i => blkP (s.getD i Pl.blNo)) := HR.out
  have HC := uh (fun W : World => sheetKindsI W)
  go_wp2_with fail
  refine HAS.out.mono ?_
  rintro e w2 ⟨rfl, hb2⟩
  replace HB := uh (blw_trans HB.out hb2)
  replace HK0 := uh (HK0.out.later hb2)
  clear z0 zl hb2 HAS
  go_wp2_with fail
  refine (HC.out _).mono ?_
  rintro e w1 ⟨mb, w0, vt, vb, vs, rfl, hm, h0, k1, k2, k3, hb⟩
  have HKD : Hid (∀ kind, ∃ ra rc, kindV kind vt vb vs = .slice ra (Pl.rulesOf kind).length rc ∧ Raw w1 [.row 84 shSheetRule] [rulesD (Pl.rulesOf kind)] [.slice ra (Pl.rulesOf kind).length rc]) := fun kind => by
    obtain ⟨v, F, he, hrep, _⟩ := kind_ans (w := w2) kind h0 k1 k2 k3 hb
    injection he with he
    obtain ⟨ra, rc, hv⟩ := hrep.raw.len0
    subst hv
    exact ⟨ra, rc, he, hrep.raw⟩
  have HM := uh hm
  have hml : mb < w1.heap.size := by
    by_cases q : mb < w1.heap.size
    · exact q
    · rw [Array.getElem?_eq_none (by omega)] at hm; cases hm
  have HML := uh hml
  replace HB := uh (blw_trans HB.out hb)
  replace HK0 := uh (HK0.out.later hb)
  have z0 := HK0.out.get 0 _ rfl
  have zl := HK0.out.lt
  clear hm h0 k1 k2 k3 hb hml HC
  go_wp2_with fail
  go_loopw [22] (fun i wr => ∃ k : Nat, k ≤ s.length ∧ i = .int .i64 k ∧ (List.range k).all (fun i => blkP (s.getD i Pl.blNo)) = true ∧ Below w1.heap.size w1 wr) (fun i _ => s.length - (intOf i).toNat)
  case atStart => exact ⟨0, Nat.zero_le _, rfl, rfl, Below.refl _ _⟩
  case round =>
    obtain ⟨k, hk, rfl, hall, hW⟩ := hrel
    have HALL := uh hall
    have HW := uh hW
    have HWW := uh (blw_trans HB.out hW)
    clear hall hW z0 zl
    by_cases hlt : k < s.length
    rotate_left
    · obtain rfl : k = s.length := by omega
      have HE : Hid (R = true) := by show R = _; rw [HR.out]; exact HALL.out
      go_wp2
      go_ret
      exact ⟨Pl.ret_bool HE.out.symm, HWW.out⟩
    rcases bls_open (HL.out.later HWW.out) with ⟨e0, _⟩ | ⟨p, o, c', hv, hp, _, hopen⟩
    · omega
    injection hv with g1 _ g3
    subst g1; subst g3
    obtain ⟨ax, cx, hg, hrx⟩ := hopen k hlt
    obtain ⟨x, hx⟩ : ∃ x, x = s.getD k Pl.blNo := ⟨_, rfl⟩
    rw [← hx] at hg hrx
    have x0 : wr.cell? ⟨p, o + k * 3, none⟩ = some (.string x.kind) := rA_get hg 0 _ rfl
    have x1 : wr.cell? ⟨p, o + k * 3 + 1, none⟩ = some (.string x.name) := rA_get hg 1 _ rfl
    have x2 : wr.cell? ⟨p, o + k * 3 + 2, none⟩ = some (.slice ax x.lines.length cx) := rA_get hg 2 _ rfl
    have hk0 : (0 : Int) ≤ (k : Int) := by omega
    have hkn : (k : Int) < (s.length : Int) := by omega
    have HSZ : Hid (x.name.size ≤ maxLen ∧ ∀ y ∈ x.lines, ∀ t ∈ y.ws, t.size ≤ maxLen) := by
      have e : s.getD k Pl.blNo = s[k] := by simp [hlt]
      rw [hx, e]; exact HZ.out _ (List.getElem_mem hlt)
    have HXL := uh hrx
    have HBAD : Hid (blkP x = false → R = false) := fun hq => by rw [HR.out]; exact Pl.rall_false hlt (by rw [← hx]; exact hq)
    have HGOOD : Hid (blkP x = true → (List.range (k + 1)).all (fun i => blkP (s.getD i Pl.blNo)) = true) := fun hq => Pl.rall_step HALL.out (by rw [← hx]; exact hq)
    have HBP : Hid (blkP x = (!decide ((Pl.rulesOf x.kind).length = 0) && Pl.nameOk20 x.name && holdsP (Pl.rulesOf x.kind) x.lines)) := rfl
    clear hopen hg hrx hx
    obtain ⟨ra, rc, hkv, hrr⟩ := HKD.out x.kind
    have HRR := uh (hrr.later HW.out)
    clear hrr
    obtain ⟨wb, hwb⟩ : ∃ wb, wb = wr.alloc (.cells #[.string x.kind, .string x.name, .slice ax x.lines.length cx] 38) := ⟨_, rfl⟩
    obtain ⟨bl, hbl⟩ : ∃ bl, bl = wr.heap.size := ⟨_, rfl⟩
    have HWB : Hid (Below wr.heap.size wr wb) := by show Below _ _ _; rw [hwb]; exact blw_alloc (Below.refl _ _) _
    have HLB : Hid (LBox wb bl [.string x.kind, .string x.name, .slice ax x.lines.length cx]) := by show LBox _ _ _; rw [hwb, hbl]; exact LBox.new wr #[.string x.kind, .string x.name, .slice ax x.lines.length cx] _ _ rfl
    go_upto_region 7 with fail
    rw [← hwb, ← hbl]
    clear hwb hbl x0 x1 x2
    have y0 := HLB.out.get 0 _ rfl
    have yl := HLB.out.lt
    have hlk := look_kind2 (((HWB.out.block _ (Nat.lt_of_lt_of_le HML.out HW.out.size)).trans (HW.out.block _ HML.out)).trans HM.out) x.kind
    rw [hkv] at hlk
    obtain ⟨l, hl0⟩ : ∃ l, l = Pl.rulesOf x.kind := ⟨_, rfl⟩
    have HLN : Hid (l.length ≤ 100) := by rw [hl0]; exact Pl.rules_len _
    have HAR : Hid (∀ r ∈ l, ∀ z ∈ r.args, 1 ≤ z ∧ z ≤ 6) := by rw [hl0]; exact Pl.rules_args _
    rw [← hl0] at hlk HRR HBP
    obtain ⟨kn, hkn0⟩ : ∃ kn, kn = !decide (l.length = 0) := ⟨_, rfl⟩
    rw [← hkn0] at hlk HBP
    clear hl0 hkv hkn0
    obtain ⟨w3, hw3⟩ : ∃ w3, w3 = wb.alloc (.cells #[.slice ra l.length rc] 70) := ⟨_, rfl⟩
    obtain ⟨bk, hbk⟩ : ∃ bk, bk = wb.heap.size := ⟨_, rfl⟩
    have HB3 : Hid (Below wb.heap.size wb w3) := by show Below _ _ _; rw [hw3]; exact blw_alloc (Below.refl _ _) _
    have HKB : Hid (LBox w3 bk [.slice ra l.length rc]) := by show LBox _ _ _; rw [hw3, hbk]; exact LBox.new wb #[.slice ra l.length rc] _ _ rfl
    have HB03 := uh (blw_trans HWB.out HB3.out)
    have HLB3 := uh (HLB.out.later HB3.out)
    go_upto_region 8 with fail
    rw [← hw3, ← hbk]
    clear hw3 hbk y0 yl hlk
    have y1 := HLB3.out.get 1 _ rfl
    have y2 := HLB3.out.get 2 _ rfl
    have yl := HLB3.out.lt
    have q0 := HKB.out.get 0 _ rfl
    have ql := HKB.out.lt
    have HWX : Hid (Below w.heap.size w w3) := blw_trans HWW.out HB03.out
    have HNM := uh (fun W => sheetIsNameI x.name W HSZ.out.1)
    have HHO := uh (holdsI l ra rc x.lines (.slice ax x.lines.length cx) w3 HLN.out HAR.out (HRR.out.later HB03.out) (HXL.out.later HB03.out) HSZ.out.2)
    obtain ⟨nm, hnm⟩ : ∃ nm, nm = Pl.nameOk20 x.name := ⟨_, rfl⟩
    rw [← hnm] at HNM HBP
    obtain ⟨ho, hho⟩ : ∃ ho, ho = holdsP l x.lines := ⟨_, rfl⟩
    rw [← hho] at HHO HBP
    clear hnm hho
    cases kn
    · have HE : Hid (R = false) := HBAD.out HBP.out
      go_wp2
      go_ret
      exact ⟨Pl.ret_bool HE.out.symm, HWX.out⟩
    · cases nm
      · have HE : Hid (R = false) := HBAD.out HBP.out
        go_wp2_with (go_at_call 28; refine (HNM.out _).mono ?_; rintro e w' ⟨rfl, rfl⟩)
        go_ret
        exact ⟨Pl.ret_bool HE.out.symm, HWX.out⟩
      · cases ho
        · have HE : Hid (R = false) := HBAD.out HBP.out
          go_wp2_with (first | (go_at_call 28; refine (HNM.out _).mono ?_; rintro e w' ⟨rfl, rfl⟩) | (go_at_call 29; refine HHO.out.mono ?_; rintro e w' ⟨rfl, hb9⟩))
          go_ret
          exact ⟨Pl.ret_bool HE.out.symm, blw_trans HWX.out hb9⟩
        · have HE := uh (HGOOD.out HBP.out)
          go_wp2_with (first | (go_at_call 28; refine (HNM.out _).mono ?_; rintro e w' ⟨rfl, rfl⟩) | (go_at_call 29; refine HHO.out.mono ?_; rintro e w' ⟨rfl, hb9⟩))
          go_roundw
          case rel => exact ⟨k + 1, by omega, by go_num, HE.out, blw_trans HW.out (blw_trans HB03.out hb9)⟩
          case measure => simp [intOf]; omega

end Go.Proofs.YteemfpocmmainaaDoor

namespace Go.Proofs.YteemfpocmmainaaDoor
open Go.RowKit Go.Deep

namespace Pl
def noNl (l : List UInt8) : Prop := (10 : UInt8) ∉ l
theorem noNl_cnt {l : List UInt8} (h : noNl l) : l.count 10 = 0 := List.count_eq_zero.2 h
theorem noNl_of {p : UInt8 → Bool} {l : List UInt8} (h : l.all p = true) (hp : p 10 = false) : noNl l := fun hm => by
  rw [List.all_eq_true] at h
  have := h _ hm
  rw [hp] at this; cases this
theorem hexd_ne (n : Nat) (h : n < 16) : hexd n ≠ 10 := by
  have : ∀ k : Fin 16, hexd k.1 ≠ 10 := by decide
  exact this ⟨n, h⟩
theorem esc_nl (c : UInt8) : noNl (escB c) := by
  unfold escB noNl
  split
  · rename_i h
    intro q
    rw [List.mem_singleton] at q
    subst q
    exact absurd h (by decide)
  · intro q
    have hc : c.toNat < 256 := c.toNat_lt
    rcases List.mem_cons.1 q with q | q
    · exact absurd q (by decide)
    · rcases List.mem_cons.1 q with q | q
      · exact hexd_ne _ (by omega) q.symm
      · rw [List.mem_singleton] at q
        exact hexd_ne _ (by omega) q.symm
theorem word_nl (l : List UInt8) : noNl (wordL l) := by
  unfold wordL
  split
  · rename_i h
    unfold bareL at h
    rw [Bool.and_eq_true] at h
    exact noNl_of h.2 (by decide)
  · intro q
    rcases List.mem_cons.1 q with q | q
    · exact absurd q (by decide)
    · rcases List.mem_append.1 q with q | q
      · obtain ⟨c, _, hc⟩ := List.mem_flatMap.1 q
        exact esc_nl c hc
      · rw [List.mem_singleton] at q; exact absurd q (by decide)
theorem lineW_nl (ws : List ByteArray) : noNl (lineW ws) := by
  intro q
  obtain ⟨w, _, hc⟩ := List.mem_flatMap.1 q
  rcases List.mem_cons.1 hc with q | q
  · exact absurd q (by decide)
  · exact word_nl _ q
theorem lineT_nl (x : Ln) (h : noNl x.key.data.toList) : noNl (lineT x) := fun q => by
  rcases List.mem_append.1 q with q | q
  · exact h q
  · exact lineW_nl _ q
theorem linesT_cnt : ∀ L : List Ln, (∀ x ∈ L, noNl x.key.data.toList) → (linesT L).count 10 = L.length
  | [], _ => rfl
  | x :: L, h => by
    have ih := linesT_cnt L (fun y hy => h y (List.mem_cons_of_mem _ hy))
    have hx := noNl_cnt (lineT_nl x (h x (List.mem_cons_self ..)))
    have e : linesT (x :: L) = [32, 32] ++ lineT x ++ [10] ++ linesT L := by simp [linesT]
    rw [e]
    simp only [List.count_append, hx, ih, List.length_cons]
    have e1 : List.count (10 : UInt8) [32, 32] = 0 := by decide
    have e2 : List.count (10 : UInt8) [10] = 1 := by decide
    rw [e1, e2]; omega
structure OkNl (b : Bl) : Prop where
  k : noNl b.kind.data.toList
  n : noNl b.name.data.toList
  l : ∀ x ∈ b.lines, noNl x.key.data.toList
theorem blockT_cnt {b : Bl} (h : OkNl b) : (blockT b).count 10 = b.lines.length + 2 := by
  unfold blockT
  simp only [List.count_append, noNl_cnt h.k, noNl_cnt h.n, linesT_cnt _ h.l]
  have e1 : List.count (10 : UInt8) [32] = 0 := by decide
  have e2 : List.count (10 : UInt8) [10] = 1 := by decide
  have e3 : List.count (10 : UInt8) [101, 110, 100, 10] = 1 := by decide
  rw [e1, e2, e3]; omega
theorem sheetT_cnt : ∀ s : List Bl, (∀ b ∈ s, OkNl b) → (sheetT s).count 10 = lineCnt s
  | [], _ => rfl
  | b :: s, h => by
    have ih := sheetT_cnt s (fun y hy => h y (List.mem_cons_of_mem _ hy))
    have e : sheetT (b :: s) = blockT b ++ sheetT s := by simp [sheetT]
    have e2 : lineCnt (b :: s) = b.lines.length + 2 + lineCnt s := by simp [lineCnt]
    rw [e, e2, List.count_append, ih, blockT_cnt (h b (List.mem_cons_self ..))]
theorem sheetT_last : ∀ s : List Bl, s ≠ [] → (sheetT s).getLast? = some 10
  | [], h => absurd rfl h
  | b :: s, _ => by
    have e : sheetT (b :: s) = blockT b ++ sheetT s := by simp [sheetT]
    rw [e]
    by_cases hs : s = []
    · subst hs
      have e2 : sheetT [] = [] := rfl
      rw [e2, List.append_nil]
      unfold blockT
      rw [List.getLast?_append]; rfl
    · rw [List.getLast?_append, sheetT_last s hs]; rfl
theorem linA_cnt : ∀ (l acc : List UInt8), (l.getLast? = some 10 ∨ (l = [] ∧ acc = [])) → (linA acc l).length = l.count 10
  | [], acc, h => by
    rcases h with h | ⟨_, h⟩
    · cases h
    · subst h; rfl
  | c :: l, acc, h => by
    have hl : (c :: l).getLast? = some 10 := by
      rcases h with h | ⟨h, _⟩
      · exact h
      · cases h
    have ht : c.toNat = 10 ↔ c = 10 := ⟨fun h => UInt8.toNat_inj.1 h, fun h => by rw [h]; rfl⟩
    unfold linA
    by_cases hc : c.toNat = 10
    · have hc' := ht.1 hc
      rw [if_pos hc, hc', List.count_cons_self, List.length_cons]
      congr 1
      cases l with
      | nil => rfl
      | cons d l =>
        refine linA_cnt (d :: l) [] (Or.inl ?_)
        rw [List.getLast?_cons_cons] at hl; exact hl
    · rw [if_neg hc, List.count_cons_of_ne (fun e => hc (ht.2 e))]
      cases l with
      | nil =>
        simp at hl
        exact absurd (ht.2 hl) hc
      | cons d l =>
        refine linA_cnt (d :: l) (acc ++ [c]) (Or.inl ?_)
        rw [List.getLast?_cons_cons] at hl; exact hl
theorem rules_nl (kind : ByteArray) : ∀ r ∈ rulesOf kind, noNl r.key.data.toList := by
  unfold rulesOf noNl
  split
  · decide
  · split
    · decide
    · split
      · decide
      · intro r hr; cases hr
theorem kind_nl {kind : ByteArray} (h : (rulesOf kind).length ≠ 0) : noNl kind.data.toList := by
  unfold rulesOf at h
  rw [← tl]
  split at h
  · rename_i e; rw [beq_iff_eq.1 e]; unfold noNl; decide
  · split at h
    · rename_i e; rw [beq_iff_eq.1 e]; unfold noNl; decide
    · split at h
      · rename_i e; rw [beq_iff_eq.1 e]; unfold noNl; decide
      · simp at h
theorem ruIxF_key (key : ByteArray) : ∀ (l : List Ru) (i k : Nat), ruIxF key l i = some k → ∃ r ∈ l, (r.key.toList == key.toList) = true
  | [], _, _, h => by cases h
  | r :: l, i, k, h => by
    unfold ruIxF at h
    split at h
    · rename_i e; exact ⟨r, List.mem_cons_self .., e⟩
    · obtain ⟨q, hq, e⟩ := ruIxF_key key l (i + 1) k h
      exact ⟨q, List.mem_cons_of_mem _ hq, e⟩
theorem key_nl {kind key : ByteArray} {ws : List ByteArray} (h : sheetFits kind key ws = true) : noNl key.data.toList := by
  unfold sheetFits at h
  cases hi : ruIx (rulesOf kind) key with
  | none => rw [hi] at h; cases h
  | some j =>
    obtain ⟨r, hr, e⟩ := ruIxF_key key _ 0 j hi
    have q := rules_nl kind r hr
    rw [tl_inj e] at q
    exact q
theorem valid_nl {s : List Bl} (h : validS s = true) : ∀ b ∈ s, OkNl b := by
  intro b hb
  unfold validS at h
  rw [Bool.and_eq_true, List.all_eq_true] at h
  obtain ⟨i, hi, e⟩ := List.getElem_of_mem hb
  have h1 := h.2 i (List.mem_range.2 hi)
  have eg : s.getD i blNo = b := by rw [← e]; simp [hi]
  unfold blockOkAt at h1
  rw [eg, Bool.and_eq_true, Bool.and_eq_true, Bool.and_eq_true] at h1
  obtain ⟨⟨⟨q1, q2⟩, q3⟩, _⟩ := h1
  refine ⟨kind_nl (by simpa using q1), ?_, fun x hx => ?_⟩
  · unfold nameOk20 at q2
    rw [Bool.and_eq_true] at q2
    exact noNl_of q2.2 (by decide)
  · unfold linesOk at q3
    rw [List.all_eq_true] at q3
    obtain ⟨j, hj, ej⟩ := List.getElem_of_mem hx
    have h2 := q3 j (List.mem_range.2 hj)
    have ex : b.lines.getD j lnNo = x := by rw [← ej]; simp [hj]
    unfold lineOkAt at h2
    rw [ex, Bool.and_eq_true, Bool.and_eq_true] at h2
    exact key_nl h2.1.1
theorem lin_sheet {s : List Bl} (h : validS s = true) : (linL ⟨(sheetT s).toArray⟩).length = lineCnt s := by
  rw [← sheetT_cnt s (valid_nl h), linL, List.length_map]
  by_cases hs : s = []
  · subst hs; rfl
  · exact linA_cnt _ _ (Or.inl (sheetT_last s hs))
end Pl

end Go.Proofs.YteemfpocmmainaaDoor

namespace Go.Proofs.YteemfpocmmainaaDoor
open Go.RowKit Go.Deep

set_option maxRecDepth 8000 in
set_option maxHeartbeats 16000000 in
theorem sheetPrintI (s : List Pl.Bl) (v : Value) (w : World) (h : Raw w shBls [blsD s] [v]) (hz : okTx s) (hwt : Pl.wsh s ≤ 1048576) :
    Calls Tryd.prog 7 #[.agg #[v]] w fun e w' => e = .returned (.string (Pl.printOut s)) ∧ Below w.heap.size w w' := by
  have HL := uh h
  have HWT := uh hwt
  obtain ⟨va, vc, ev⟩ := h.len0
  subst ev
  obtain ⟨R, hR⟩ : ∃ R, R = Pl.printOut s := ⟨_, rfl⟩
  have HR : Hid (R = if Pl.validS s && decide ((Pl.sheetT s).length ≤ 20000) && decide (Pl.lineCnt s ≤ 400) then ⟨(Pl.sheetT s).toArray⟩ else ⟨#[]⟩) := hR
  rw [← hR]
  clear hR
  obtain ⟨wa, hwa⟩ : ∃ wa, wa = w.alloc (.cells #[.slice va s.length vc] 29) := ⟨_, rfl⟩
  have HBA : Hid (Below w.heap.size w wa) := by show Below _ _ _; rw [hwa]; exact blw_alloc (Below.refl _ _) _
  obtain ⟨b0, hb0⟩ : ∃ b0, b0 = w.heap.size := ⟨_, rfl⟩
  have HBZ := uh hb0
  have HB0 : Hid (WBox wa b0 29 [.slice va s.length vc]) := by show WBox _ _ _ _; rw [hwa, hb0]; exact WBox.new w [.slice va s.length vc] 29 _ rfl
  have HC := uh (sheetValidI s _ wa (h.later HBA.out) hz (by rw [wt_sheet]; exact hwt))
  clear h hz hwt
  have z0 := HB0.out.get 0 _ rfl
  have zl := HB0.out.own.lt
  obtain ⟨vd, hvd⟩ : ∃ b, b = Pl.validS s := ⟨_, rfl⟩
  have HVD := uh hvd
  rw [← hvd] at HC HR
  clear hvd
  go_enter Tryd.func7, Tryd.ntmps7
  go_upto_region 1 with fail
  rw [← hwa, ← hb0]
  clear hwa hb0
  cases vd
  · have HE : Hid (R = ⟨#[]⟩) := HR.out
    go_wp2_with (go_at_call 13; refine HC.out.mono ?_; rintro e w1 ⟨rfl, hb1⟩)
    go_ret
    exact ⟨Pl.ret_str HE.out.symm, blw_trans HBA.out hb1⟩
  go_wp2_with fail
  refine HC.out.mono ?_
  rintro e w1 ⟨rfl, hb1⟩
  have HB1 : Hid (Below w.heap.size w w1) := blw_trans HBA.out hb1
  replace HB0 := uh (HB0.out.later hb1)
  clear z0 zl hb1 HC HBA
  obtain ⟨b, hb⟩ : ∃ b, b = w1.heap.size := ⟨_, rfl⟩
  obtain ⟨w2, hw2⟩ : ∃ w2, w2 = w1.alloc (.cells #[.pointer none, .slice none 0 0] tyWriter) := ⟨_, rfl⟩
  have HBW0 : Hid (BW w.heap.size b [] w2) := by
    refine ⟨by rw [hb]; exact HB1.out.size, .pointer none, .slice none 0 0, Or.inl rfl, ?_, By.nil _ _, fun _ => rfl⟩
    rw [hw2]; exact WBox.new w1 [.pointer none, .slice none 0 0] tyWriter _ hb
  have H12 : Hid (Below w1.heap.size w1 w2) := by show Below _ _ _; rw [hw2]; exact blw_alloc (Below.refl _ _) _
  have HB2 : Hid (WBox w2 b0 29 [.slice va s.length vc]) := HB0.out.later H12.out
  have z0 := HB2.out.get 0 _ rfl
  have zl := HB2.out.own.lt
  have HBL : Hid (Below w.heap.size w w2) := blw_trans HB1.out H12.out
  have HBLT : Hid (b < w2.heap.size) := by show _ < _; rw [hw2, hb]; simp
  go_upto_region 4 with fail
  rw [← hw2, ← hb]
  clear hw2 hb
  go_wp2_with fail
  go_loopw [15] (fun vi wr => ∃ k : Nat, k ≤ s.length ∧ vi = .int .i64 k ∧ BW w.heap.size b (Pl.sheetT (s.take k)) wr ∧ KB w.heap.size b w2 wr ∧ w.heap.size ≤ wr.heap.size) (fun vi _ => s.length - (intOf vi).toNat)
  case atStart => exact ⟨0, Nat.zero_le _, rfl, HBW0.out, KB.refl _ _ _, HBL.out.size⟩
  case round =>
    obtain ⟨k, hk, rfl, hbw, hkb, hlo⟩ := hrel
    have HBWR := uh hbw
    have HKBR := uh hkb
    have HLOR := uh hlo
    have HTS : Hid ((Pl.sheetT (s.take k)).length ≤ 6 * 1048576) := by
      show _ ≤ _
      have h1 := Pl.sheetT_len (s.take k)
      have h2 := Pl.sum_take_le (fun b : Pl.Bl => Pl.wbl b + 1) s k
      have h3 := HWT.out
      unfold Pl.wsh at h1 h3
      omega
    have HBEL : Hid (Below w.heap.size w wr) := HBL.out.trans hkb.bel
    clear hbw hkb hlo z0 zl
    by_cases hlt : k < s.length
    rotate_left
    · obtain rfl : k = s.length := by omega
      have HT0 := HTS.out
      rw [List.take_length] at HBWR HTS
      have HST := uh (strI w.heap.size b (Pl.sheetT s) wr HBWR.out (by have := HTS.out; omega))
      obtain ⟨T, hT⟩ : ∃ T : ByteArray, T = ⟨(Pl.sheetT s).toArray⟩ := ⟨_, rfl⟩
      have HTZ : Hid (T.size = (Pl.sheetT s).length) := by show _ = _; rw [hT]; simp [ByteArray.size]
      have HTL : Hid ((Pl.linL T).length = Pl.lineCnt s) := by show _ = _; rw [hT]; exact Pl.lin_sheet HVD.out.symm
      rw [← hT] at HST HR
      have HLI := uh (fun W => sheetLinesI T W (by have := HTZ.out; have := HTS.out; unfold maxLen; omega))
      clear hT HT0
      go_wp2_with fail
      refine HST.out.mono ?_
      rintro e w5 ⟨rfl, hb5⟩
      have HB5 : Hid (Below w.heap.size w w5) := HBEL.out.trans hb5
      clear hb5
      go_wp2_with fail
      refine (HLI.out _).mono ?_
      rintro e w6 ⟨hans, hb6⟩
      have HB6 : Hid (Below w.heap.size w w6) := blw_trans HB5.out hb6
      unfold LnAns at hans
      rw [HTL.out, HTZ.out] at hans
      rw [Bool.true_and] at HR
      by_cases h20 : 20000 < (Pl.sheetT s).length
      · rw [if_pos h20] at hans
        subst hans
        have HE : Hid (R = ⟨#[]⟩) := by show R = _; rw [HR.out, decide_eq_false (by omega)]; rfl
        go_wp2
        go_ret
        exact ⟨Pl.ret_str HE.out.symm, HB6.out⟩
      · rw [if_neg h20] at hans
        obtain ⟨g, c, he, _⟩ := hans
        subst he
        by_cases h400 : Pl.lineCnt s ≤ 400
        · have HE : Hid (R = T) := by show R = _; rw [HR.out, decide_eq_true (by omega), decide_eq_true h400]; rfl
          rw [decide_eq_true h400]
          go_wp2
          go_ret
          exact ⟨Pl.ret_str HE.out.symm, HB6.out⟩
        · have HE : Hid (R = ⟨#[]⟩) := by show R = _; rw [HR.out, decide_eq_false h400, Bool.and_false]; rfl
          rw [decide_eq_false h400]
          go_wp2
          go_ret
          exact ⟨Pl.ret_str HE.out.symm, HB6.out⟩
    rcases bls_open HL.out with ⟨e0, _⟩ | ⟨p, o, c', hv, hp, hml, hopen⟩
    · omega
    injection hv with g1 _ g3
    subst g1; subst g3
    unfold maxLen at hml
    obtain ⟨ax, cx, hg, hrx⟩ := hopen k hlt
    obtain ⟨x, hx⟩ : ∃ x, x = s.getD k Pl.blNo := ⟨_, rfl⟩
    rw [← hx] at hg hrx
    have hgr := rA_later hg hp HBEL.out
    have x0 : wr.cell? ⟨p, o + k * 3, none⟩ = some (.string x.kind) := rA_get hgr 0 _ rfl
    have x1 : wr.cell? ⟨p, o + k * 3 + 1, none⟩ = some (.string x.name) := rA_get hgr 1 _ rfl
    have x2 : wr.cell? ⟨p, o + k * 3 + 2, none⟩ = some (.slice ax x.lines.length cx) := rA_get hgr 2 _ rfl
    have hpr : p < wr.heap.size := Nat.lt_of_lt_of_le hp HLOR.out
    have hk0 : (0 : Int) ≤ (k : Int) := by omega
    have hkn : (k : Int) < (s.length : Int) := by omega
    have HWX : Hid (Pl.wbl x ≤ 1048576) := by
      show _ ≤ _
      have e : s.getD k Pl.blNo = s[k] := by simp [hlt]
      have := Pl.sum_mem_le (fun b : Pl.Bl => Pl.wbl b + 1) s _ (List.getElem_mem hlt)
      have h3 := HWT.out
      unfold Pl.wsh at h3
      rw [hx, e]; omega
    have HN : Hid (Pl.sheetT (s.take (k + 1)) = Pl.sheetT (s.take k) ++ Pl.blockT x) := by
      show _ = _
      rw [Pl.take_snocD Pl.blNo s k hlt, ← hx]; simp [Pl.sheetT]
    have HXL := uh hrx
    clear hopen hg hgr hrx hx
    obtain ⟨wy, hwy⟩ : ∃ wy, wy = wr.alloc (.cells #[.string x.kind, .string x.name, .slice ax x.lines.length cx] 38) := ⟨_, rfl⟩
    obtain ⟨bl, hbl⟩ : ∃ bl, bl = wr.heap.size := ⟨_, rfl⟩
    have HWY : Hid (Below wr.heap.size wr wy) := by show Below _ _ _; rw [hwy]; exact blw_alloc (Below.refl _ _) _
    have HYB : Hid (LBox wy bl [.string x.kind, .string x.name, .slice ax x.lines.length cx]) := by show LBox _ _ _; rw [hwy, hbl]; exact LBox.new wr #[.string x.kind, .string x.name, .slice ax x.lines.length cx] _ _ rfl
    go_upto_region 7 with fail
    rw [← hwy, ← hbl]
    clear hwy hbl x0 x1 x2
    have y0 := HYB.out.get 0 _ rfl
    have y1 := HYB.out.get 1 _ rfl
    have y2 := HYB.out.get 2 _ rfl
    have yl := HYB.out.lt
    have HWK := uh (blockI w wy b (Pl.sheetT (s.take k)) x ax cx (blw_trans HBEL.out HWY.out) HXL.out (HBWR.out.later HWY.out) (by obtain ⟨_, p2, v2, _, q2, _⟩ := HBWR.out; exact Nat.lt_of_lt_of_le q2.own.lt HWY.out.size) (by have := HTS.out; omega) HWX.out)
    go_wp2_with fail
    refine HWK.out.mono ?_
    rintro e w7 ⟨rfl, hbw7, hkb7, hlo7⟩
    rw [← HN.out] at hbw7
    have HB7 := uh hbw7
    have HK7 : Hid (KB w.heap.size b w2 w7) := (HKBR.out.trans (KB.of HLOR.out HWY.out)).trans hkb7
    clear hbw7 hkb7 HWK y0 y1 y2 yl
    go_wp2
    go_roundw
    case rel => exact ⟨k + 1, by omega, by go_num, HB7.out, HK7.out, hlo7⟩
    case measure => simp [intOf]; omega

end Go.Proofs.YteemfpocmmainaaDoor
