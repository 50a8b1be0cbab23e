/-
  The reader of sheets: a block begins: the program.
-/
import Derived.Deep.RegionWith
import Derived.Test.YtdllbcafbfkngaaGreatDoorEIo
import Derived.Test.YtdllbcafbfkngaaGreatDoorRgG
import Derived.Test.YtdllbcafbfkngaaGreatDoorELc
import Derived.Test.YtdllbcafbfkngaaGreatDoorEXa
import Derived.Test.YtdllbcafbfkngaaGreatDoorEXf
namespace Go.Proofs.YtdllbcafbfkngaaGreatDoor
open Go.RowKit Go.Deep

theorem tl_inj {a b : ByteArray} (h : (a.toList == b.toList) = true) : a = b := by
  have h := beq_iff_eq.1 h
  cases a with
  | mk a =>
    cases b with
    | mk b =>
      rw [Pl.tl, Pl.tl] at h
      exact congrArg ByteArray.mk (Array.toList_inj.1 h)
namespace Pl
def fitsL (l : List Ru) (key : ByteArray) (ws : List ByteArray) : Bool := match ruIx l key with
  | none => false
  | some j => fitsW (l.getD j ruNo).args ws
def manyL (l : List Ru) (key : ByteArray) : Bool := match ruIx l key with
  | none => false
  | some j => (l.getD j ruNo).many
end Pl
end Go.Proofs.YtdllbcafbfkngaaGreatDoor

namespace Go.Proofs.YtdllbcafbfkngaaGreatDoor
open Go.RowKit Go.Deep

theorem bl_irrefl : ∀ l : List UInt8, Op.bytesLess l l = false
  | [] => rfl
  | a :: x => by unfold Op.bytesLess; rw [bl_irrefl x]; simp
theorem tx_eq {a b : ByteArray} (h : Pl.txEq a b = true) : a = b := tl_inj h
theorem tx_irrefl (a : ByteArray) : Pl.txLt a a = false := bl_irrefl _
theorem keyCmp_neg (a b : ByteArray) : keyCmp a b < 0 ↔ Pl.txLt a b = true := by
  unfold keyCmp
  cases Pl.txLt a b
  · cases a.toList == b.toList <;> simp
  · simp
theorem keyCmp_zero (a b : ByteArray) : keyCmp a b = 0 ↔ Pl.txEq a b = true := by
  unfold keyCmp
  cases h : Pl.txEq a b
  · have h' : (a.toList == b.toList) = false := h
    rw [h']
    cases Pl.txLt a b <;> simp
  · have := tx_eq h
    subst this
    rw [tx_irrefl]
    simp
theorem cmpW_neg : ∀ A B : List ByteArray, cmpW A B < 0 ↔ Pl.lessW A B = true
  | [], [] => by unfold cmpW Pl.lessW <;> simp
  | [], _ :: _ => by unfold cmpW Pl.lessW <;> simp
  | _ :: _, [] => by unfold cmpW Pl.lessW <;> simp
  | a :: x, b :: y => by
    unfold cmpW Pl.lessW
    cases h : Pl.txEq a b
    · have h0 : ¬ keyCmp a b = 0 := fun e => by rw [(keyCmp_zero a b).1 e] at h; cases h
      rw [if_neg h0]; simp only [Bool.false_eq_true, if_false]
      exact keyCmp_neg a b
    · rw [if_pos ((keyCmp_zero a b).2 h)]; simp only [if_true]
      exact cmpW_neg x y
theorem numCmp_neg (a b : Int) : numCmp a b < 0 ↔ a < b := by unfold numCmp; split <;> (try split) <;> simp_all
theorem numCmp_zero (a b : Int) : numCmp a b = 0 ↔ a = b := by unfold numCmp; split <;> (try split) <;> constructor <;> intro h <;> omega
theorem cmpBl_neg (x y : Pl.Bl) : decide (cmpBl x y < 0) = Pl.ahead x y := by
  unfold cmpBl pick2 Pl.ahead
  by_cases h : keyCmp x.kind y.kind = 0
  · rw [if_pos h]
    have e := (keyCmp_zero _ _).1 h
    have e2 := tx_eq e
    rw [e, e2, tx_irrefl, Bool.false_or, Bool.true_and]
    rw [Bool.eq_iff_iff, decide_eq_true_iff]; exact keyCmp_neg _ _
  · rw [if_neg h]
    have e : Pl.txEq x.kind y.kind = false := by
      cases q : Pl.txEq x.kind y.kind
      · rfl
      · exact absurd ((keyCmp_zero _ _).2 q) h
    rw [e, Bool.false_and, Bool.or_false]
    rw [Bool.eq_iff_iff, decide_eq_true_iff]; exact keyCmp_neg _ _
theorem cmpLn_neg (kind : ByteArray) (x y : Pl.Ln) : decide (cmpLn (Pl.rulesOf kind) x y < 0) = Pl.lineLess kind x y := by
  have hu : cmpLn (Pl.rulesOf kind) x y = pick2 (numCmp (Pl.ruPos kind x.key) (Pl.ruPos kind y.key)) (cmpW x.ws y.ws) := rfl
  rw [hu]
  unfold pick2 Pl.lineLess
  by_cases h : numCmp (Pl.ruPos kind x.key) (Pl.ruPos kind y.key) = 0
  · rw [if_pos h]
    have e := (numCmp_zero _ _).1 h
    rw [e]
    have : decide (Pl.ruPos kind y.key < Pl.ruPos kind y.key) = false := decide_eq_false (by omega)
    rw [this]
    simp only [Bool.false_or, BEq.rfl, Bool.true_and]
    rw [Bool.eq_iff_iff, decide_eq_true_iff]; exact cmpW_neg _ _
  · rw [if_neg h]
    have e : (Pl.ruPos kind x.key == Pl.ruPos kind y.key) = false := by
      rw [beq_eq_false_iff_ne]; exact fun q => h ((numCmp_zero _ _).2 q)
    rw [e, Bool.false_and, Bool.or_false]
    rw [Bool.eq_iff_iff, decide_eq_true_iff, decide_eq_true_iff]; exact numCmp_neg _ _
end Go.Proofs.YtdllbcafbfkngaaGreatDoor

namespace Go.Proofs.YtdllbcafbfkngaaGreatDoor
open Go.RowKit Go.Deep

theorem look_kind2 {W : World} {mb : Nat} {vt vb vs : Value} (hb : W.heap[mb]? = some (.map #[⟨.string { data := #[116, 101, 97, 109] }, .agg #[vt], 0⟩, ⟨.string { data := #[98, 101, 114, 116, 104] }, .agg #[vb], 1⟩, ⟨.string { data := #[115, 101, 114, 118, 105, 99, 101] }, .agg #[vs], 2⟩] 3)) (kind : ByteArray) :
    (Instr.lookup 76 (.map (some mb)) (.string kind) true).run Tryz.prog W = .ok (.tuple #[.agg #[kindV kind vt vb vs], .bool (!decide ((Pl.rulesOf kind).length = 0))]) W := by
  have hz : (zeroValue 107).run Tryz.prog W = .ok (.agg #[.slice none 0 0]) W := by kernel_rfl
  have e1 := beq_text kind [116, 101, 97, 109] { data := #[116, 101, 97, 109] } (by decide +kernel)
  have e2 := beq_text kind [98, 101, 114, 116, 104] { data := #[98, 101, 114, 116, 104] } (by decide +kernel)
  have e3 := beq_text kind [115, 101, 114, 118, 105, 99, 101] { data := #[115, 101, 114, 118, 105, 99, 101] } (by decide +kernel)
  obtain ⟨r, hr, hv, hk⟩ : ∃ r, Instr.findNow .string (.string kind) [⟨.string { data := #[116, 101, 97, 109] }, .agg #[vt], 0⟩, ⟨.string { data := #[98, 101, 114, 116, 104] }, .agg #[vb], 1⟩, ⟨.string { data := #[115, 101, 114, 118, 105, 99, 101] }, .agg #[vs], 2⟩] 0 = some r ∧ (match r with | some (_, v) => v | none => .agg #[.slice none 0 0]) = .agg #[kindV kind vt vb vs] ∧ r.isSome = !decide ((Pl.rulesOf kind).length = 0) := by
    unfold Pl.rulesOf
    simp only [Instr.findNow, Instr.sameNow, e1, e2, e3, kindV]
    cases (kind.toList == [116, 101, 97, 109]) <;> cases (kind.toList == [98, 101, 114, 116, 104]) <;> cases (kind.toList == [115, 101, 114, 118, 105, 99, 101]) <;> exact ⟨_, rfl, rfl, by first | rfl | (simp only [Option.isSome]; decide +kernel)⟩
  have hf := find_text W kind _ r hr
  rw [← hk]
  cases r with
  | none =>
    simp only at hv
    simp [Instr.lookup, run_underlying Tryz.und_kinds, MapKept.run_getObj_map hb, check_text, hf, hz, Result.andThen, hv]
  | some p =>
    obtain ⟨j, v⟩ := p
    simp only at hv
    subst hv
    simp [Instr.lookup, run_underlying Tryz.und_kinds, MapKept.run_getObj_map hb, check_text, hf, Result.andThen]

end Go.Proofs.YtdllbcafbfkngaaGreatDoor

namespace Go.Proofs.YtdllbcafbfkngaaGreatDoor
open Go.RowKit Go.Deep

theorem made_one (X : World) (lo : Nat) (a b : ByteArray) (v : Value) (h : lo ≤ X.heap.size) : (X.alloc (.cells #[.string a, .string b, v] 37)).ownsRow lo 37 3 (.slice (some ⟨X.heap.size, 0, none⟩) 1 1) 1 [.string a, .string b, v] :=
  ⟨rfl, .inr ⟨X.heap.size, 1, _, rfl, h, heap_alloc_new X _, Nat.le_refl _, by decide, rfl, rfl⟩⟩
/-- The code that 'begin' tells, given where the block belongs and whether it is there. -/
def bgC (A : List Pl.Bl) (ws : List ByteArray) (ag : Bool) : Nat :=
  if ws.length ≠ 2 then 2 else if (Pl.rulesOf (ws.getD 0 Pl.txNo)).length = 0 then 3 else if Pl.nameOk20 (ws.getD 1 Pl.txNo) = false then 4 else if ag then 9 else if A.length = 60 then 10 else 0
def VBa9 (rb : Nat) (n : Nat) (q : Nat) (pl : Nat) (p1 : Option Addr) (k0 : ByteArray) (k1 : ByteArray) (ag : Bool) : Nat → Value → World → Prop
  | 0, vv, _ => vv = .pointer (some ⟨rb, 0, none⟩)
  | 1, vv, _ => vv = .pointer (some ⟨rb, 0, none⟩)
  | 2, vv, _ => vv = .pointer (some ⟨rb, 5, none⟩)
  | 3, vv, _ => vv = .slice p1 n q
  | 4, vv, _ => vv = .agg #[.string k0, .string k1, .slice none 0 0]
  | 5, vv, _ => vv = .tuple #[.int .i64 (pl : Int), .bool ag]
  | 6, vv, _ => vv = .tuple #[.int .i64 (pl : Int), .bool ag]
  | 7, vv, _ => vv = .int .i64 (pl : Int)
  | 8, vv, _ => vv = .bool ag
  | 9, vv, _ => vv = .int .i64 (pl : Int)
  | 10, vv, _ => vv = .bool ag
  | _, _, _ => True
theorem VBa9_mono (rb : Nat) (n : Nat) (q : Nat) (pl : Nat) (p1 : Option Addr) (k0 : ByteArray) (k1 : ByteArray) (ag : Bool) : ∀ jj vv W W', Below W.heap.size W W' → VBa9 rb n q pl p1 k0 k1 ag jj vv W → VBa9 rb n q pl p1 k0 k1 ag jj vv W' := by
  intro jj vv W W' hb h
  match jj with
  | 0 => exact h
  | 1 => exact h
  | 2 => exact h
  | 3 => exact h
  | 4 => exact h
  | 5 => exact h
  | 6 => exact h
  | 7 => exact h
  | 8 => exact h
  | 9 => exact h
  | 10 => exact h
  | n + 11 => exact trivial
def VBc9 (rb : Nat) (n : Nat) (q : Nat) (pl : Nat) (nw : Nat) (p1 : Option Addr) (k0 : ByteArray) (k1 : ByteArray) : Nat → Value → World → Prop
  | 0, vv, _ => vv = .pointer (some ⟨rb, 0, none⟩)
  | 1, vv, _ => vv = .pointer (some ⟨rb, 0, none⟩)
  | 2, vv, _ => vv = .pointer (some ⟨rb, 0, none⟩)
  | 3, vv, _ => vv = .pointer (some ⟨rb, 5, none⟩)
  | 4, vv, _ => vv = .slice p1 n q
  | 5, vv, _ => vv = .int .i64 (pl : Int)
  | 6, vv, _ => vv = .agg #[.string k0, .string k1, .slice none 0 0]
  | 7, vv, W => ∃ g, vv = .slice (some ⟨g, 0, none⟩) 1 1 ∧ W.ownsRow nw 37 3 (.slice (some ⟨g, 0, none⟩) 1 1) 1 [.string k0, .string k1, .slice none 0 0]
  | 8, vv, _ => vv = undef
  | 9, vv, _ => vv = .pointer (some ⟨rb, 0, none⟩)
  | 10, vv, _ => vv = .pointer (some ⟨rb, 5, none⟩)
  | _, _, _ => True
theorem VBc9_mono (rb : Nat) (n : Nat) (q : Nat) (pl : Nat) (nw : Nat) (p1 : Option Addr) (k0 : ByteArray) (k1 : ByteArray) : ∀ jj vv W W', Below W.heap.size W W' → VBc9 rb n q pl nw p1 k0 k1 jj vv W → VBc9 rb n q pl nw p1 k0 k1 jj vv W' := by
  intro jj vv W W' hb h
  match jj with
  | 0 => exact h
  | 1 => exact h
  | 2 => exact h
  | 3 => exact h
  | 4 => exact h
  | 5 => exact h
  | 6 => exact h
  | 7 =>
    obtain ⟨g, h1, h2⟩ := h
    exact ⟨g, h1, owns_frm h2 (Frm.of_below (S := fun _ => False) hb) (fun _ _ h => h)⟩
  | 8 => exact h
  | 9 => exact h
  | 10 => exact h
  | n + 11 => exact trivial

set_option maxRecDepth 8000 in
set_option maxHeartbeats 32000000 in
theorem beginI (rb mb : Nat) (lv : Value) (at_ op : Int) (wa : Option Addr) (wc : Nat) (ws : List ByteArray) (A : List Pl.Bl) (p1 : Option Addr) (q : Nat) (cs : List Value) (F : List Nat) (vt vb vs : Value) (w : World)
    (hrd : WBox w rb 79 [.map (some mb), lv, .int .i64 at_, .slice wa ws.length wc, .bool false, .slice p1 A.length q, .int .i64 op]) (hw : Raw w shTxs [.row ws.length (txD ws)] [.slice wa ws.length wc]) (hwz : ∀ x ∈ ws, x.size ≤ maxLen)
    (hown : w.ownsRow (rb + 1) 37 3 (.slice p1 A.length q) A.length cs) (hrep : Rep w false (reps A.length shSheetBlock) F (A.flatMap blD) cs) (h60 : A.length ≤ 60)
    (hm : w.heap[mb]? = some (.map #[⟨.string { data := #[116, 101, 97, 109] }, .agg #[vt], 0⟩, ⟨.string { data := #[98, 101, 114, 116, 104] }, .agg #[vb], 1⟩, ⟨.string { data := #[115, 101, 114, 118, 105, 99, 101] }, .agg #[vs], 2⟩] 3)) (hkv : ∀ kind, ∃ ra rn rc, kindV kind vt vb vs = .slice ra rn rc)
    (pl : Nat) (hpl : pl ≤ A.length) (h1 : ∀ i, i < pl → cmpBl (A.getD i Pl.blNo) ⟨ws.getD 0 Pl.txNo, ws.getD 1 Pl.txNo, []⟩ < 0) (h2 : ∀ i, pl ≤ i → i < A.length → 0 ≤ cmpBl (A.getD i Pl.blNo) ⟨ws.getD 0 Pl.txNo, ws.getD 1 Pl.txNo, []⟩) (ag : Bool) (hag : ag = (decide (pl < A.length) && decide (cmpBl (A.getD pl Pl.blNo) ⟨ws.getD 0 Pl.txNo, ws.getD 1 Pl.txNo, []⟩ = 0))) :
    Calls Tryz.prog 53 #[.pointer (some ⟨rb, 0, none⟩)] w fun e w' =>
      (bgC A ws ag ≠ 0 ∧ e = .returned (.iface 51 (.agg #[.int .i64 at_, .int .i64 (bgC A ws ag : Nat)])) ∧ Below w.heap.size w w') ∨
      (bgC A ws ag = 0 ∧ e = .returned .nilIface ∧ ∃ g' q', WBox w' rb 79 [.map (some mb), lv, .int .i64 at_, .slice wa ws.length wc, .bool false, .slice (some ⟨g', 0, none⟩) (A.length + 1) q', .int .i64 (pl : Int)] ∧ w'.ownsRow (rb + 1) 37 3 (.slice (some ⟨g', 0, none⟩) (A.length + 1) q') (A.length + 1) (cs.take (pl * 3) ++ [.string (ws.getD 0 Pl.txNo), .string (ws.getD 1 Pl.txNo), .slice none 0 0] ++ cs.drop (pl * 3)) ∧ Frm (fun b => b = rb ∨ (Value.slice p1 A.length q).ownBlock = some b) w w' ∧ (p1 = some ⟨g', 0, none⟩ ∨ w.heap.size ≤ g')) := by
  have HRD0 := uh hrd
  have HOWN0 := uh hown
  have HREP := uh hrep
  have HM := uh hm
  have HONE : Hid (∀ u ∈ cs, u.oneCell' = true) := rep_one hrep
  have HWZ := uh hwz
  have c2 := hrd.get 2 _ rfl
  have c3 := hrd.get 3 _ rfl
  have c4 := hrd.get 4 _ rfl
  have cl := hrd.own.lt
  have HFT := uh (fun (code : Int) (W : World) (hW : Below w.heap.size w W) => faultI rb at_ code W ((hW.cell (p := ⟨rb, 2, none⟩) cl).trans c2) (Nat.lt_of_lt_of_le cl hW.size))
  have HRAW : Hid (Raw w shBls [blsD A] [.slice p1 A.length q]) := owns_rawX (sh := shSheetBlock) hown hrep (fun h => by rw [List.eq_nil_of_length_eq_zero h]; rfl) (by unfold maxLen; omega)
  by_cases hw2 : ws.length = 2
  rotate_left
  · have d2 : ((ws.length : Int) != 2) = true := by simp; omega
    have HWQ : Hid (Below w.heap.size w w) := Below.refl _ _
    have HCD : Hid (bgC A ws ag = 2) := by show _ = _; unfold bgC; rw [if_pos hw2]
    clear hrd hown hrep hm hw hwz
    go_enter Tryz.func53, Tryz.ntmps53
    go_wp2_with (go_at_call 66; refine (HFT.out 2 _ HWQ.out).mono ?_; rintro e w' ⟨rfl, rfl⟩)
    go_ret
    exact Or.inl ⟨by rw [HCD.out]; decide, by rw [HCD.out]; rfl, HWQ.out⟩
  have d2 : ((ws.length : Int) != 2) = false := by simp; omega
  rcases txs_open hw with ⟨e0, _⟩ | ⟨p, o, c', hv, hp, _, hopen⟩
  · omega
  injection hv with g1 _ g3
  subst g1; subst g3
  have y0 : w.cell? ⟨p, o, none⟩ = some (.string (ws.getD 0 Pl.txNo)) := by simpa using hopen 0 (by omega)
  have y1 : w.cell? ⟨p, o + 1, none⟩ = some (.string (ws.getD 1 Pl.txNo)) := hopen 1 (by omega)
  have HNZ : Hid ((ws.getD 1 Pl.txNo).size ≤ maxLen) := by
    have e : ws.getD 1 Pl.txNo = ws[1] := by simp [hw2]
    rw [e]; exact HWZ.out _ (List.getElem_mem _)
  have hn0 : (0 : Int) < (ws.length : Int) := by omega
  have hn1 : (1 : Int) < (ws.length : Int) := by omega
  have HBC : Hid (bgC A ws ag = if (Pl.rulesOf (ws.getD 0 Pl.txNo)).length = 0 then 3 else if Pl.nameOk20 (ws.getD 1 Pl.txNo) = false then 4 else if ag then 9 else if A.length = 60 then 10 else 0) := by show _ = _; unfold bgC; rw [if_neg (by omega)]
  have HBS0 := uh (fun (X : World) (hX : Below w.heap.size w X) => binBl A (.slice p1 A.length q) ⟨ws.getD 0 Pl.txNo, ws.getD 1 Pl.txNo, []⟩ pl X (HRAW.out.later hX) (by omega) hpl h1 h2)
  rw [← hag] at HBS0
  obtain ⟨k0, hk0⟩ : ∃ k0, k0 = ws.getD 0 Pl.txNo := ⟨_, rfl⟩
  obtain ⟨k1, hk1⟩ : ∃ k1, k1 = ws.getD 1 Pl.txNo := ⟨_, rfl⟩
  rw [← hk0] at y0 HBC HBS0 ⊢
  rw [← hk1] at y1 HBC HBS0 HNZ ⊢
  have HNM := uh (fun W => sheetIsNameI k1 W HNZ.out)
  obtain ⟨ra, rn, rc, hkk⟩ := hkv k0
  have HLK : Hid (∀ W, Below w.heap.size w W → (Instr.lookup 76 (.map (some mb)) (.string k0) true).run Tryz.prog W = .ok (.tuple #[.agg #[.slice ra rn rc], .bool (!decide ((Pl.rulesOf k0).length = 0))]) W) := fun W hW => by
    rw [← hkk]
    exact look_kind2 ((hW.block mb (lt_heap HM.out)).trans HM.out) k0
  obtain ⟨kn, hkn⟩ : ∃ kn, kn = !decide ((Pl.rulesOf k0).length = 0) := ⟨_, rfl⟩
  have HKN := uh hkn
  rw [← hkn] at HLK
  obtain ⟨n, hn⟩ : ∃ n, n = A.length := ⟨_, rfl⟩
  have HN := uh hn
  rw [← hn] at HRD0 HOWN0 HBS0 HBC ⊢
  have HN60 : Hid (n ≤ 60) := by show _ ≤ _; omega
  have HPL : Hid (pl ≤ n) := by show _ ≤ _; omega
  have HWS := uh hw2
  have c0 := hrd.get 0 _ rfl
  clear hrd hown hrep hm hw hwz hopen hk0 hk1 hkn hn hag h1 h2 hkv hkk HRAW
  go_enter Tryz.func53, Tryz.ntmps53
  go_upto_region 6 with fail
  have y0' : w.drew.cell? ⟨p, o, none⟩ = some (.string k0) := y0
  have y1' : w.drew.cell? ⟨p, o + 1, none⟩ = some (.string k1) := y1
  go_region
  clear y0 y1 y0' y1' c3 c4
  obtain ⟨wb, hwb⟩ : ∃ wb, wb = (w.alloc (.cells #[.string k0, .string k1, .slice none 0 0] 37)).drew := ⟨_, rfl⟩
  have hbB : Below w.heap.size w wb := by rw [hwb]; exact Below.drew (blw_alloc (Below.refl _ _) _)
  obtain ⟨q4, hq4⟩ : ∃ q4, q4 = w.heap.size := ⟨_, rfl⟩
  have HQ0 : Hid (WBox wb q4 37 [.string k0, .string k1, .slice none 0 0]) := by
    show WBox _ _ _ _
    rw [hwb, hq4]
    exact (WBox.new w [.string k0, .string k1, .slice none 0 0] 37 _ rfl).later (Below.drew (Below.refl _ _))
  have z0 : wb.drew.cell? ⟨q4, 0, none⟩ = some (.string k0) := HQ0.out.get 0 _ rfl
  have zl : q4 < wb.drew.heap.size := HQ0.out.own.lt
  have zc : wb.drew.cell? ⟨rb, 0, none⟩ = some (.map (some mb)) := (hbB.cell (p := ⟨rb, 0, none⟩) cl).trans c0
  have zk := HLK.out wb.drew (Below.drew hbB)
  have zr : rb < wb.drew.heap.size := Nat.lt_of_lt_of_le cl hbB.size
  have hbA : Below wb.heap.size wb (wb.alloc (.cells #[.slice none 0 0] 107)).drew := Below.drew (blw_alloc (Below.refl _ _) _)
  have z0a : (wb.alloc (.cells #[.slice none 0 0] 107)).drew.cell? ⟨q4, 0, none⟩ = some (.string k0) := (hbA.cell (p := ⟨q4, 0, none⟩) zl).trans z0
  have zca : (wb.alloc (.cells #[.slice none 0 0] 107)).drew.cell? ⟨rb, 0, none⟩ = some (.map (some mb)) := (hbA.cell (p := ⟨rb, 0, none⟩) zr).trans zc
  have zka := HLK.out _ (blw_trans hbB hbA)
  have zla : q4 < (wb.alloc (.cells #[.slice none 0 0] 107)).drew.heap.size := Nat.lt_of_lt_of_le zl hbA.size
  have zra : rb < (wb.alloc (.cells #[.slice none 0 0] 107)).drew.heap.size := Nat.lt_of_lt_of_le zr hbA.size
  have HBB := uh hbB
  clear c0 hbA hbB
  go_upto_region 7 with fail
  rw [← hwb, ← hq4]
  clear hwb hq4
  go_region
  all_goals
    clear z0 zl zc zk zr z0a zca zka zla zra
    obtain ⟨wc1, hwc1⟩ : ∃ wc1, wc1 = (wb.alloc (.cells #[.slice ra rn rc] 107)).drew := ⟨_, rfl⟩
    have HBC1 : Hid (Below wb.heap.size wb wc1) := by show Below _ _ _; rw [hwc1]; exact Below.drew (blw_alloc (Below.refl _ _) _)
    have HW1 : Hid (Below w.heap.size w wc1) := blw_trans HBB.out HBC1.out
    have HRD := uh (HRD0.out.later HW1.out)
    have HQ4 := uh (HQ0.out.later HBC1.out)
    have HBS := uh (fun (X : World) (hX : Below wc1.heap.size wc1 X) => HBS0.out X (blw_trans HW1.out hX))
    go_upto_region 8 with fail
    rw [← hwc1]
    clear hwc1
    refine RY.region_past wc1 (Below.refl _ _) (VBa9 rb n q pl p1 k0 k1 ag) (VBa9_mono _ _ _ _ _ _ _ _) (by kernel_rfl) (by kernel_rfl) (by kernel_rfl) (by kernel_rfl) ?_ ?_
    · intro ii o' ho a X hX hk hd
      have zrb := HRD.out.later hX
      have zrbl := zrb.own.lt
      have zq4 := HQ4.out.later hX
      have zq4l := zq4.own.lt
      match ii, ho with
      | 0, ho =>
        injection ho with ho; subst ho
        have e0 : a.tmps[0]?.getD undef = .pointer (some ⟨rb, 0, none⟩) := (RY.ev_tmp a 0).trans ((hk 0 (by kernel_rfl)).trans rfl)
        exact Or.inl ⟨.pointer (some ⟨rb, 0, none⟩), X, by simp [execOp, go_sem, e0], Below.refl _ _, rfl⟩
      | 1, ho =>
        injection ho with ho; subst ho
        have e46 : a.tmps[46]?.getD undef = .pointer (some ⟨rb, 0, none⟩) := (RY.ev_tmp a 46).trans (hd 0 _ 46 rfl rfl ⟨⟨0, .data⟩, by simp, rfl, rfl⟩)
        exact Or.inl ⟨.pointer (some ⟨rb, 0, none⟩), X, by simp [execOp, go_sem, e46], Below.refl _ _, rfl⟩
      | 2, ho =>
        injection ho with ho; subst ho
        have e47 : a.tmps[47]?.getD undef = .pointer (some ⟨rb, 0, none⟩) := (RY.ev_tmp a 47).trans (hd 1 _ 47 rfl rfl ⟨⟨1, .data⟩, by simp, rfl, rfl⟩)
        exact Or.inl ⟨.pointer (some ⟨rb, 5, none⟩), X, by simp [execOp, go_sem, e47], Below.refl _ _, rfl⟩
      | 3, ho =>
        injection ho with ho; subst ho
        have e48 : a.tmps[48]?.getD undef = .pointer (some ⟨rb, 5, none⟩) := (RY.ev_tmp a 48).trans (hd 2 _ 48 rfl rfl ⟨⟨2, .data⟩, by simp, rfl, rfl⟩)
        have ycl_ := zrb.get 5 _ rfl
        exact Or.inl ⟨.slice p1 n q, X, by simp [execOp, go_sem, e48, ycl_], Below.refl _ _, rfl⟩
      | 4, ho =>
        injection ho with ho; subst ho
        have v4 : a.eval (.tmp 4) = .pointer (some ⟨q4, 0, none⟩) := (hk 4 (by kernel_rfl)).trans rfl
        exact Or.inl ⟨_, X, exec_load_mid 37 _ rfl q4 0 v4 [.string k0, .string k1, .slice none 0 0] _ zq4.at_ Tryz.underlying37 rfl (by kernel_rfl), Below.refl _ _, rfl⟩
      | 5, ho =>
        injection ho with ho; subst ho
        have e49 : a.tmps[49]?.getD undef = .slice p1 n q := (RY.ev_tmp a 49).trans (hd 3 _ 49 rfl rfl ⟨⟨3, .data⟩, by simp, rfl, rfl⟩)
        have e50 : a.tmps[50]?.getD undef = .agg #[.string k0, .string k1, .slice none 0 0] := (RY.ev_tmp a 50).trans (hd 4 _ 50 rfl rfl ⟨⟨4, .data⟩, by simp, rfl, rfl⟩)
        refine Or.inr ⟨67, #[.slice p1 n q, .agg #[.string k0, .string k1, .slice none 0 0], .func (.func 68) #[] #[]], by simp [go_sem, e49, e50], (HBS.out X hX).mono ?_⟩
        rintro e W' ⟨rfl, hb⟩
        exact ⟨_, rfl, hb, rfl⟩
      | 6, ho =>
        injection ho with ho; subst ho
        have e51 : a.tmps[51]?.getD undef = .tuple #[.int .i64 (pl : Int), .bool ag] := (RY.ev_tmp a 51).trans (hd 5 _ 51 rfl rfl ⟨⟨5, .data⟩, by simp, rfl, rfl⟩)
        exact Or.inl ⟨.tuple #[.int .i64 (pl : Int), .bool ag], X, by simp [execOp, go_sem, e51], Below.refl _ _, rfl⟩
      | 7, ho =>
        injection ho with ho; subst ho
        have e45 : a.tmps[45]?.getD undef = .tuple #[.int .i64 (pl : Int), .bool ag] := (RY.ev_tmp a 45).trans (hd 6 _ 45 rfl rfl ⟨⟨6, .data⟩, by simp, rfl, rfl⟩)
        exact Or.inl ⟨.int .i64 (pl : Int), X, by simp [execOp, go_sem, e45], Below.refl _ _, rfl⟩
      | 8, ho =>
        injection ho with ho; subst ho
        have e45 : a.tmps[45]?.getD undef = .tuple #[.int .i64 (pl : Int), .bool ag] := (RY.ev_tmp a 45).trans (hd 6 _ 45 rfl rfl ⟨⟨6, .data⟩, by simp, rfl, rfl⟩)
        exact Or.inl ⟨.bool ag, X, by simp [execOp, go_sem, e45], Below.refl _ _, rfl⟩
      | 9, ho =>
        injection ho with ho; subst ho
        have e52 : a.tmps[52]?.getD undef = .int .i64 (pl : Int) := (RY.ev_tmp a 52).trans (hd 7 _ 52 rfl rfl ⟨⟨7, .data⟩, by simp, rfl, rfl⟩)
        exact Or.inl ⟨.int .i64 (pl : Int), X, by simp [execOp, go_sem, e52], Below.refl _ _, rfl⟩
      | 10, ho =>
        injection ho with ho; subst ho
        have e53 : a.tmps[53]?.getD undef = .bool ag := (RY.ev_tmp a 53).trans (hd 8 _ 53 rfl rfl ⟨⟨8, .data⟩, by simp, rfl, rfl⟩)
        exact Or.inl ⟨.bool ag, X, by simp [execOp, go_sem, e53], Below.refl _ _, rfl⟩
      | n + 11, ho => simp at ho
    intro X vs hX hvs
    have q7 : vs 7 = _ := hvs 9 _ 7 rfl rfl
    have q8 : vs 8 = _ := hvs 10 _ 8 rfl rfl
    simp only [RY.putAll, Act.put, List.setIfInBounds_toArray, List.set_cons_zero, List.set_cons_succ]
    rw [q7, q8]
    generalize vs 46 = s46
    generalize vs 47 = s47
    generalize vs 48 = s48
    generalize vs 49 = s49
    generalize vs 50 = s50
    generalize vs 51 = s51
    generalize vs 45 = s45
    generalize vs 52 = s52
    generalize vs 53 = s53
    clear hvs q7 q8
    replace HRD := uh (HRD.out.later hX)
    replace HQ4 := uh (HQ4.out.later hX)
    have HWQ : Hid (Below w.heap.size w X) := blw_trans HW1.out hX
    obtain ⟨wq, hwq⟩ : ∃ wq, wq = X := ⟨_, rfl⟩
    rw [← hwq] at HRD HQ4 HWQ ⊢
    clear hwq hX HBS
    have d1 := HQ4.out.get 1 _ rfl
    have d5 := HRD.out.get 5 _ rfl
    have dl1 := HQ4.out.own.lt
    have dl5 := HRD.out.own.lt
    cases kn
    · have HCD : Hid (bgC A ws ag = 3) := by
        show _ = _
        have : (Pl.rulesOf k0).length = 0 := by have := HKN.out; simpa using this.symm
        rw [HBC.out, if_pos this]
      go_wp2_with (go_at_call 66; refine (HFT.out 3 _ HWQ.out).mono ?_; rintro e w' ⟨rfl, rfl⟩)
      go_ret
      exact Or.inl ⟨by rw [HCD.out]; decide, by rw [HCD.out]; rfl, HWQ.out⟩
    have HBC3 : Hid (bgC A ws ag = if Pl.nameOk20 k1 = false then 4 else if ag then 9 else if n = 60 then 10 else 0) := by
      show _ = _
      have : ¬ (Pl.rulesOf k0).length = 0 := by have := HKN.out; simpa using this.symm
      rw [HBC.out, if_neg this]
    obtain ⟨nm, hnm⟩ : ∃ nm, nm = Pl.nameOk20 k1 := ⟨_, rfl⟩
    rw [← hnm] at HNM HBC3
    clear hnm
    cases nm
    · have HCD : Hid (bgC A ws ag = 4) := HBC3.out
      go_wp2_with (first | (go_at_call 69; refine (HNM.out _).mono ?_; rintro e w' ⟨rfl, rfl⟩) | (go_at_call 66; refine (HFT.out 4 _ HWQ.out).mono ?_; rintro e w' ⟨rfl, rfl⟩))
      go_ret
      exact Or.inl ⟨by rw [HCD.out]; decide, by rw [HCD.out]; rfl, HWQ.out⟩
    cases ag
    rotate_left
    · have HCD : Hid (bgC A ws true = 9) := HBC3.out
      go_wp2_with (first | (go_at_call 69; refine (HNM.out _).mono ?_; rintro e w' ⟨rfl, rfl⟩) | (go_at_call 66; refine (HFT.out 9 _ HWQ.out).mono ?_; rintro e w' ⟨rfl, rfl⟩))
      go_ret
      exact Or.inl ⟨by rw [HCD.out]; decide, by rw [HCD.out]; rfl, HWQ.out⟩
    by_cases hn60 : n = 60
    · have HCD : Hid (bgC A ws false = 10) := by show _ = _; rw [HBC3.out]; simp [hn60]
      have d7 : ((n : Int) == 60) = true := by simp; omega
      go_wp2_with (first | (go_at_call 69; refine (HNM.out _).mono ?_; rintro e w' ⟨rfl, rfl⟩) | (go_at_call 66; refine (HFT.out 10 _ HWQ.out).mono ?_; rintro e w' ⟨rfl, rfl⟩))
      go_ret
      exact Or.inl ⟨by rw [HCD.out]; decide, by rw [HCD.out]; rfl, HWQ.out⟩
    have HCD : Hid (bgC A ws false = 0) := by show _ = _; rw [HBC3.out]; simp [hn60]
    have d7 : ((n : Int) == 60) = false := by simp; omega
    have HOWN : Hid (wq.ownsRow (rb + 1) 37 3 (.slice p1 n q) n cs) := owns_frm HOWN0.out (Frm.of_below (S := fun _ => False) HWQ.out) (fun _ _ h => h)
    have HX1 : Hid (∀ u ∈ cs, u.oneCell' = true) := HONE.out
    have HGL : Hid (∀ g, p1 = some ⟨g, 0, none⟩ → g < wq.heap.size) := fun g hg => by
      obtain ⟨_, cur, hcur⟩ := owns_lo HOWN.out (g := g) (by rw [hg]; rfl)
      exact lt_heap hcur
    have HLO : Hid (rb + 1 ≤ wq.heap.size) := dl5
    have HWB := HWQ
    go_upto_region 17 with (first | (go_at_call 69; refine (HNM.out _).mono ?_; rintro e w' ⟨rfl, rfl⟩))
    clear d1 d5 dl1 dl5
    refine RY.region_ci wq (Below.refl _ _) (VBc9 rb n q pl wq.heap.size p1 k0 k1) (VBc9_mono _ _ _ _ _ _ _ _) [0, 9, 10] (fun j u => VBc9 rb n q pl wq.heap.size p1 k0 k1 j u wq) (by intro j hj u W; simp only [List.mem_cons, List.not_mem_nil, or_false] at hj; rcases hj with rfl | rfl | rfl <;> exact Iff.rfl) (fun u W' => ∃ g' q', u = .slice (some ⟨g', 0, none⟩) (n + 1) q' ∧ W'.ownsRow (rb + 1) 37 3 (.slice (some ⟨g', 0, none⟩) (n + 1) q') (n + 1) (cs.take (pl * 3) ++ [.string k0, .string k1, .slice none 0 0] ++ cs.drop (pl * 3)) ∧ Frm (fun b => (Value.slice p1 n q).ownBlock = some b) wq W' ∧ (p1 = some ⟨g', 0, none⟩ ∨ wq.heap.size ≤ g')) (fun W' => ∃ g' q', WBox W' rb 79 [.map (some mb), lv, .int .i64 at_, .slice (some ⟨p, o, none⟩) ws.length wc, .bool false, .slice (some ⟨g', 0, none⟩) (n + 1) q', .int .i64 op] ∧ W'.ownsRow (rb + 1) 37 3 (.slice (some ⟨g', 0, none⟩) (n + 1) q') (n + 1) (cs.take (pl * 3) ++ [.string k0, .string k1, .slice none 0 0] ++ cs.drop (pl * 3)) ∧ Frm (fun b => b = rb ∨ (Value.slice p1 n q).ownBlock = some b) wq W' ∧ (p1 = some ⟨g', 0, none⟩ ∨ wq.heap.size ≤ g')) 11 8 12 (by decide) (by kernel_rfl) (by kernel_rfl) (by kernel_rfl) (by kernel_rfl) rfl [8, 10] (by kernel_rfl) (by kernel_rfl) [4, 5, 7] (by kernel_rfl) (by kernel_rfl) (by kernel_rfl) _ _ rfl rfl rfl (by kernel_rfl) ?_ ?_ ?_ (by decide) ?_
    · intro ii o' ho hii hic a X hX0 hk hd
      match ii, ho with
      | 0, ho =>
        injection ho with ho; subst ho
        have e0 : a.tmps[0]?.getD undef = .pointer (some ⟨rb, 0, none⟩) := (RY.ev_tmp a 0).trans ((hk 0 (by kernel_rfl)).trans rfl)
        exact Or.inl ⟨.pointer (some ⟨rb, 0, none⟩), X, by simp [execOp, go_sem, e0], (fun _ => rfl), Below.refl _ _, rfl⟩
      | 1, ho =>
        injection ho with ho; subst ho
        have hX := hX0 (by decide)
        have e0 : a.tmps[0]?.getD undef = .pointer (some ⟨rb, 0, none⟩) := (RY.ev_tmp a 0).trans ((hk 0 (by kernel_rfl)).trans rfl)
        exact Or.inl ⟨.pointer (some ⟨rb, 0, none⟩), X, by simp [execOp, go_sem, e0], (fun _ => rfl), Below.refl _ _, rfl⟩
      | 2, ho =>
        injection ho with ho; subst ho
        have hX := hX0 (by decide)
        have e80 : a.tmps[80]?.getD undef = .pointer (some ⟨rb, 0, none⟩) := (RY.ev_tmp a 80).trans (hd 1 _ 80 rfl rfl ⟨⟨1, .data⟩, by simp, rfl, rfl⟩ (by decide) (by decide) (by decide))
        exact Or.inl ⟨.pointer (some ⟨rb, 0, none⟩), X, by simp [execOp, go_sem, e80], (fun _ => rfl), Below.refl _ _, rfl⟩
      | 3, ho =>
        injection ho with ho; subst ho
        have hX := hX0 (by decide)
        have e81 : a.tmps[81]?.getD undef = .pointer (some ⟨rb, 0, none⟩) := (RY.ev_tmp a 81).trans (hd 2 _ 81 rfl rfl ⟨⟨2, .data⟩, by simp, rfl, rfl⟩ (by decide) (by decide) (by decide))
        exact Or.inl ⟨.pointer (some ⟨rb, 5, none⟩), X, by simp [execOp, go_sem, e81], (fun _ => rfl), Below.refl _ _, rfl⟩
      | 4, ho =>
        injection ho with ho; subst ho
        have hX := hX0 (by decide)
        have zrb := HRD.out.later hX
        have zrbl := zrb.own.lt
        have zq4 := HQ4.out.later hX
        have zq4l := zq4.own.lt
        have e82 : a.tmps[82]?.getD undef = .pointer (some ⟨rb, 5, none⟩) := (RY.ev_tmp a 82).trans (hd 3 _ 82 rfl rfl ⟨⟨3, .data⟩, by simp, rfl, rfl⟩ (by decide) (by decide) (by decide))
        have ycl_ := zrb.get 5 _ rfl
        exact Or.inl ⟨.slice p1 n q, X, by simp [execOp, go_sem, e82, ycl_], (fun _ => rfl), Below.refl _ _, rfl⟩
      | 5, ho =>
        injection ho with ho; subst ho
        have hX := hX0 (by decide)
        have e7 : a.tmps[7]?.getD undef = .int .i64 (pl : Int) := (RY.ev_tmp a 7).trans ((hk 7 (by kernel_rfl)).trans rfl)
        exact Or.inl ⟨.int .i64 (pl : Int), X, by simp [execOp, go_sem, e7], (fun _ => rfl), Below.refl _ _, rfl⟩
      | 6, ho =>
        injection ho with ho; subst ho
        have hX := hX0 (by decide)
        have zrb := HRD.out.later hX
        have zrbl := zrb.own.lt
        have zq4 := HQ4.out.later hX
        have zq4l := zq4.own.lt
        have v4 : a.eval (.tmp 4) = .pointer (some ⟨q4, 0, none⟩) := (hk 4 (by kernel_rfl)).trans rfl
        exact Or.inl ⟨_, X, exec_load_mid 37 _ rfl q4 0 v4 [.string k0, .string k1, .slice none 0 0] _ zq4.at_ Tryz.underlying37 rfl (by kernel_rfl), (fun _ => rfl), Below.refl _ _, rfl⟩
      | 7, ho =>
        injection ho with ho; subst ho
        have hX := hX0 (by decide)
        have zrb := HRD.out.later hX
        have zrbl := zrb.own.lt
        have zq4 := HQ4.out.later hX
        have zq4l := zq4.own.lt
        have e85 : a.tmps[85]?.getD undef = .agg #[.string k0, .string k1, .slice none 0 0] := (RY.ev_tmp a 85).trans (hd 6 _ 85 rfl rfl ⟨⟨6, .data⟩, by simp, rfl, rfl⟩ (by decide) (by decide) (by decide))
        exact Or.inl ⟨.slice (some ⟨X.heap.size, 0, none⟩) 1 1, X.alloc (.cells #[.string k0, .string k1, .slice none 0 0] 37), by simp [execOp, go_sem, e85], (fun h => absurd h (by decide)), blw_alloc (Below.refl _ _) _, X.heap.size, rfl, made_one X wq.heap.size _ _ _ hX.size⟩
      | 8, ho =>
        exact absurd rfl hic
      | 9, ho =>
        injection ho with ho; subst ho
        have e79 : a.tmps[79]?.getD undef = .pointer (some ⟨rb, 0, none⟩) := (RY.ev_tmp a 79).trans (hd 0 _ 79 rfl rfl ⟨⟨0, .data⟩, by simp, rfl, rfl⟩ (by decide) (by decide) (by decide))
        exact Or.inl ⟨.pointer (some ⟨rb, 0, none⟩), X, by simp [execOp, go_sem, e79], (fun _ => rfl), Below.refl _ _, rfl⟩
      | 10, ho =>
        injection ho with ho; subst ho
        have e88 : a.tmps[88]?.getD undef = .pointer (some ⟨rb, 0, none⟩) := (RY.ev_tmp a 88).trans (hd 9 _ 88 rfl rfl ⟨⟨9, .data⟩, by simp, rfl, rfl⟩ (by decide) (by decide) (by decide))
        exact Or.inl ⟨.pointer (some ⟨rb, 5, none⟩), X, by simp [execOp, go_sem, e88], (fun _ => rfl), Below.refl _ _, rfl⟩
      | n + 11, ho => omega
    · intro a X hX hk hd
      have e83 : a.tmps[83]?.getD undef = .slice p1 n q := (RY.ev_tmp a 83).trans (hd 4 _ 83 rfl rfl ⟨⟨4, .data⟩, by simp, rfl, rfl⟩ (by decide) (by decide))
      have e84 : a.tmps[84]?.getD undef = .int .i64 (pl : Int) := (RY.ev_tmp a 84).trans (hd 5 _ 84 rfl rfl ⟨⟨5, .data⟩, by simp, rfl, rfl⟩ (by decide) (by decide))
      obtain ⟨g86, q86, ho86⟩ := hd 7 _ 86 rfl rfl ⟨⟨7, .data⟩, by simp, rfl, rfl⟩ (by decide) (by decide)
      have e86 : a.tmps[86]?.getD undef = .slice (some ⟨g86, 0, none⟩) 1 1 := (RY.ev_tmp a 86).trans q86
      refine ⟨70, #[.slice p1 n q, .int .i64 (pl : Int), .slice (some ⟨g86, 0, none⟩) 1 1], by simp [go_sem, e83, e84, e86], (insIBl (rb + 1) X p1 n q cs [.string k0, .string k1, .slice none 0 0] 1 (owns_frm HOWN.out (Frm.of_below (S := fun _ => False) hX) (fun _ _ h => h)) wq.heap.size (.slice (some ⟨g86, 0, none⟩) 1 1) HX1.out (by simp [Value.oneCell']) ho86 (by decide) (fun g hg => HGL.out g hg) pl HPL.out (by have := HN60.out; omega) (Nat.le_trans HLO.out hX.size)).mono ?_⟩
      rintro e W' ⟨g', q', rfl, h1, h2, h3⟩
      exact ⟨_, rfl, g', q', rfl, h1, ((Frm.of_below hX).trans (h2.frm.mono (fun b ⟨g, e1, e2⟩ => by rw [e1, e2]; rfl))), h3.imp id (fun h => Nat.le_trans hX.size h)⟩
    · intro a X vals hK1 hk hVp hd
      obtain ⟨g', q', e1, h1, h2, h3⟩ := hK1
      have e87 : a.eval (.tmp 87) = _ := (hd 8 _ 87 rfl rfl ⟨⟨8, .data⟩, by simp, rfl, rfl⟩ (by decide)).trans e1
      have e89 : a.eval (.tmp 89) = .pointer (some ⟨rb, 5, none⟩) := (hd 10 _ 89 rfl rfl ⟨⟨10, .data⟩, by simp, rfl, rfl⟩ (by decide)).trans (hVp 10 (by decide))
      have hb := HRD.out.frm h2 (fun e => by have := (owns_lo HOWN.out e).1; omega)
      have hc := hb.get 5 _ rfl
      have hl := hb.own.lt
      have hf := hb.own.frozen 5
      have e87' : a.tmps[87]?.getD undef = _ := (RY.ev_tmp a 87).trans e87
      have e89' : a.tmps[89]?.getD undef = _ := (RY.ev_tmp a 89).trans e89
      refine ⟨X.setCell ⟨rb, 5, none⟩ (.slice (some ⟨g', 0, none⟩) (n + 1) q'), by simp [execOp, go_sem, e87', e89', hc, hf], g', q', hb.set 5 _ (by simp), ?_, ?_, h3⟩
      · exact owns_frm h1 ((Marks.sc (S := fun b => b = rb) X rfl 5 _).frm (fun _ h => h)) (fun g hg e => by have := (owns_lo h1 hg).1; omega)
      · exact (h2.mono (fun _ h => Or.inr h)).trans ((Marks.sc (S := fun b => b = rb) X rfl 5 _).frm (fun _ h => Or.inl h))
    · intro vs X hK2
      simp only [RY.putAll, Act.put, List.setIfInBounds_toArray, List.set_cons_zero, List.set_cons_succ]
      generalize vs 79 = s79
      generalize vs 80 = s80
      generalize vs 81 = s81
      generalize vs 82 = s82
      generalize vs 83 = s83
      generalize vs 84 = s84
      generalize vs 85 = s85
      generalize vs 86 = s86
      generalize vs 87 = s87
      generalize vs 88 = s88
      generalize vs 89 = s89
      obtain ⟨g', q', hbx, how, hfr, hnew⟩ := hK2
      have HNW : Hid (p1 = some ⟨g', 0, none⟩ ∨ w.heap.size ≤ g') := hnew.imp id (fun h => Nat.le_trans HWB.out.size h)
      have HN2 := uh (And.intro hbx (And.intro how hfr))
      have d6 := hbx.get 6 _ rfl
      have dl := hbx.own.lt
      have df := hbx.own.frozen 6
      clear hbx how hfr hnew
      go_wp2
      go_ret
      refine Or.inr ⟨HCD.out, rfl, g', q', HN2.out.1.set 6 _ (by simp), ?_, ?_, HNW.out⟩
      · exact owns_frm HN2.out.2.1 ((Marks.sc (S := fun b => b = rb) X rfl 6 _).frm (fun _ h => h)) (fun g hg e => by have := (owns_lo HN2.out.2.1 hg).1; omega)
      · exact ((Frm.of_below HWB.out).trans HN2.out.2.2).trans ((Marks.sc (S := fun b => b = rb) X rfl 6 _).frm (fun _ h => Or.inl h))


end Go.Proofs.YtdllbcafbfkngaaGreatDoor
