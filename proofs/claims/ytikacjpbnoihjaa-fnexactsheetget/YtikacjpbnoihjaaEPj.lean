/-
  Sheets: the program's comparisons are the specification's: plain.
-/
import Derived.Test.YtikacjpbnoihjaaEIh
namespace Go.Proofs.Ytikacjpbnoihjaa
open Go.RowKit Go.Deep

theorem bl_irrefl : ∀ l : List UInt8, Op.bytesLess l l = false
  | [] => rfl
  | a :: x => by unfold Op.bytesLess; rw [bl_irrefl x]; simp
theorem tx_eq {a b : ByteArray} (h : Pl.txEq a b = true) : a = b := tl_inj h
theorem tx_irrefl (a : ByteArray) : Pl.txLt a a = false := bl_irrefl _
theorem keyCmp_neg (a b : ByteArray) : keyCmp a b < 0 ↔ Pl.txLt a b = true := by
  unfold keyCmp
  cases Pl.txLt a b
  · cases a.toList == b.toList <;> simp
  · simp
theorem keyCmp_zero (a b : ByteArray) : keyCmp a b = 0 ↔ Pl.txEq a b = true := by
  unfold keyCmp
  cases h : Pl.txEq a b
  · have h' : (a.toList == b.toList) = false := h
    rw [h']
    cases Pl.txLt a b <;> simp
  · have := tx_eq h
    subst this
    rw [tx_irrefl]
    simp
theorem cmpW_neg : ∀ A B : List ByteArray, cmpW A B < 0 ↔ Pl.lessW A B = true
  | [], [] => by unfold cmpW Pl.lessW <;> simp
  | [], _ :: _ => by unfold cmpW Pl.lessW <;> simp
  | _ :: _, [] => by unfold cmpW Pl.lessW <;> simp
  | a :: x, b :: y => by
    unfold cmpW Pl.lessW
    cases h : Pl.txEq a b
    · have h0 : ¬ keyCmp a b = 0 := fun e => by rw [(keyCmp_zero a b).1 e] at h; cases h
      rw [if_neg h0]; simp only [Bool.false_eq_true, if_false]
      exact keyCmp_neg a b
    · rw [if_pos ((keyCmp_zero a b).2 h)]; simp only [if_true]
      exact cmpW_neg x y
theorem numCmp_neg (a b : Int) : numCmp a b < 0 ↔ a < b := by unfold numCmp; split <;> (try split) <;> simp_all
theorem numCmp_zero (a b : Int) : numCmp a b = 0 ↔ a = b := by unfold numCmp; split <;> (try split) <;> constructor <;> intro h <;> omega
theorem cmpBl_neg (x y : Pl.Bl) : decide (cmpBl x y < 0) = Pl.ahead x y := by
  unfold cmpBl pick2 Pl.ahead
  by_cases h : keyCmp x.kind y.kind = 0
  · rw [if_pos h]
    have e := (keyCmp_zero _ _).1 h
    have e2 := tx_eq e
    rw [e, e2, tx_irrefl, Bool.false_or, Bool.true_and]
    rw [Bool.eq_iff_iff, decide_eq_true_iff]; exact keyCmp_neg _ _
  · rw [if_neg h]
    have e : Pl.txEq x.kind y.kind = false := by
      cases q : Pl.txEq x.kind y.kind
      · rfl
      · exact absurd ((keyCmp_zero _ _).2 q) h
    rw [e, Bool.false_and, Bool.or_false]
    rw [Bool.eq_iff_iff, decide_eq_true_iff]; exact keyCmp_neg _ _
theorem cmpLn_neg (kind : ByteArray) (x y : Pl.Ln) : decide (cmpLn (Pl.rulesOf kind) x y < 0) = Pl.lineLess kind x y := by
  have hu : cmpLn (Pl.rulesOf kind) x y = pick2 (numCmp (Pl.ruPos kind x.key) (Pl.ruPos kind y.key)) (cmpW x.ws y.ws) := rfl
  rw [hu]
  unfold pick2 Pl.lineLess
  by_cases h : numCmp (Pl.ruPos kind x.key) (Pl.ruPos kind y.key) = 0
  · rw [if_pos h]
    have e := (numCmp_zero _ _).1 h
    rw [e]
    have : decide (Pl.ruPos kind y.key < Pl.ruPos kind y.key) = false := decide_eq_false (by omega)
    rw [this]
    simp only [Bool.false_or, BEq.rfl, Bool.true_and]
    rw [Bool.eq_iff_iff, decide_eq_true_iff]; exact cmpW_neg _ _
  · rw [if_neg h]
    have e : (Pl.ruPos kind x.key == Pl.ruPos kind y.key) = false := by
      rw [beq_eq_false_iff_ne]; exact fun q => h ((numCmp_zero _ _).2 q)
    rw [e, Bool.false_and, Bool.or_false]
    rw [Bool.eq_iff_iff, decide_eq_true_iff, decide_eq_true_iff]; exact numCmp_neg _ _
theorem all_shift (n : Nat) (f : Nat → Bool) (g : Nat → Nat → Bool) : (List.range n).all (fun i => f i && (decide (i = 0) || g (i - 1) i)) = ((List.range n).all f && (List.range (n - 1)).all (fun i => g i (i + 1))) := by
  rw [Bool.eq_iff_iff]
  simp only [Bool.and_eq_true, List.all_eq_true, List.mem_range, Bool.or_eq_true, decide_eq_true_iff]
  constructor
  · intro h
    refine ⟨fun i hi => (h i hi).1, fun i hi => ?_⟩
    rcases (h (i + 1) (by omega)).2 with e | e
    · omega
    · exact e
  · rintro ⟨h1, h2⟩ i hi
    refine ⟨h1 i hi, ?_⟩
    cases i with
    | zero => exact Or.inl rfl
    | succ i => exact Or.inr (h2 i (by omega))
theorem cnt_eq (m : Bool) (n : Nat) : (!decide ((if m then (10 : Int) else 1) < (n : Nat))) = Pl.cntOk m n := by
  unfold Pl.cntOk
  cases m
  · rw [Bool.eq_iff_iff]; simp; omega
  · rw [Bool.eq_iff_iff]; simp; omega
theorem holds_eq (kind : ByteArray) (L : List Pl.Ln) : holdsP (Pl.rulesOf kind) L = Pl.linesOk kind L := by
  unfold holdsP Pl.linesOk ascLn
  have e1 : Pl.lineOkAt kind L = fun i => (Pl.lineOkL (Pl.rulesOf kind) L i) && (decide (i = 0) || Pl.lineLess kind (L.getD (i - 1) Pl.lnNo) (L.getD i Pl.lnNo)) := by
    funext i
    unfold Pl.lineOkAt Pl.lineOkL
    rw [cnt_eq]
    have a1 : Pl.sheetFits kind (L.getD i Pl.lnNo).key (L.getD i Pl.lnNo).ws = Pl.fitsL (Pl.rulesOf kind) (L.getD i Pl.lnNo).key (L.getD i Pl.lnNo).ws := rfl
    have a2 : Pl.manyOf kind (L.getD i Pl.lnNo).key = Pl.manyL (Pl.rulesOf kind) (L.getD i Pl.lnNo).key := rfl
    rw [a1, a2, Bool.and_assoc, Bool.and_assoc]
    congr 1
    exact Bool.and_comm _ _
  rw [e1, all_shift L.length (Pl.lineOkL (Pl.rulesOf kind) L) (fun i j => Pl.lineLess kind (L.getD i Pl.lnNo) (L.getD j Pl.lnNo))]
  congr 1
  congr 1
  funext i
  exact cmpLn_neg kind _ _
/-- One block by itself. -/
def blkP (b : Pl.Bl) : Bool := !decide ((Pl.rulesOf b.kind).length = 0) && Pl.nameOk20 b.name && holdsP (Pl.rulesOf b.kind) b.lines
theorem valid_eq (s : List Pl.Bl) : Pl.validS s = (decide (s.length ≤ 60) && (ascBl s && (List.range s.length).all fun i => blkP (s.getD i Pl.blNo))) := by
  unfold Pl.validS
  congr 1
  have e1 : Pl.blockOkAt s = fun i => blkP (s.getD i Pl.blNo) && (decide (i = 0) || Pl.ahead (s.getD (i - 1) Pl.blNo) (s.getD i Pl.blNo)) := by
    funext i
    unfold Pl.blockOkAt blkP
    rw [holds_eq]
  rw [e1, all_shift s.length (fun i => blkP (s.getD i Pl.blNo)) (fun i j => Pl.ahead (s.getD i Pl.blNo) (s.getD j Pl.blNo)), Bool.and_comm]
  congr 1
  unfold ascBl
  congr 1
  funext i
  exact (cmpBl_neg _ _).symm

end Go.Proofs.Ytikacjpbnoihjaa
