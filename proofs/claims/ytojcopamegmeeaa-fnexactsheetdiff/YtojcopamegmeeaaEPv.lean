/-
  Sheets: where a block, a line belongs among those that are there: plain.
-/
import Derived.Test.YtojcopamegmeeaaEIo
import Derived.Test.YtojcopamegmeeaaRgG
import Derived.Test.YtojcopamegmeeaaEPt
namespace Go.Proofs.Ytojcopamegmeeaa
open Go.RowKit Go.Deep

def cmE (p : ByteArray × Int × Nat) : MapEntry := ⟨.string p.1, .int .i64 p.2.1, p.2.2⟩
def cmFind (x : ByteArray) : List (ByteArray × Int × Nat) → Nat → Option (Nat × Int)
  | [], _ => none
  | p :: M, i => if x.toList == p.1.toList then some (i, p.2.1) else cmFind x M (i + 1)
def cmGet (x : ByteArray) : List (ByteArray × Int × Nat) → Int
  | [] => 0
  | p :: M => if x.toList == p.1.toList then p.2.1 else cmGet x M
def cmPut (x : ByteArray) (v : Int) (cl : Nat) : List (ByteArray × Int × Nat) → List (ByteArray × Int × Nat)
  | [] => [(x, v, cl)]
  | p :: M => if x.toList == p.1.toList then (x, v, p.2.2) :: M else p :: cmPut x v cl M
theorem cm_now (x : ByteArray) : ∀ (M : List (ByteArray × Int × Nat)) (i : Nat), Instr.findNow .string (.string x) (M.map cmE) i = some ((cmFind x M i).map fun q => (q.1, .int .i64 q.2))
  | [], _ => rfl
  | p :: M, i => by
    have e := beq_text x p.1.toList p.1 rfl
    rw [List.map_cons]
    unfold cmE cmFind
    rw [Instr.findNow]
    simp only [Instr.sameNow, e]
    cases x.toList == p.1.toList
    · exact cm_now x M (i + 1)
    · rfl
theorem cm_get (x : ByteArray) : ∀ (M : List (ByteArray × Int × Nat)) (i : Nat), cmGet x M = match cmFind x M i with
      | none => 0
      | some q => q.2
  | [], _ => rfl
  | p :: M, i => by
    unfold cmGet cmFind
    cases x.toList == p.1.toList
    · exact cm_get x M (i + 1)
    · rfl
theorem tl_inj {a b : ByteArray} (h : (a.toList == b.toList) = true) : a = b := by
  have h := beq_iff_eq.1 h
  cases a with
  | mk a =>
    cases b with
    | mk b =>
      rw [Pl.tl, Pl.tl] at h
      exact congrArg ByteArray.mk (Array.toList_inj.1 h)
theorem cm_put_no (x : ByteArray) (v : Int) (cl : Nat) : ∀ (M : List (ByteArray × Int × Nat)) (i : Nat), cmFind x M i = none → M.map cmE ++ [⟨.string x, .int .i64 v, cl⟩] = (cmPut x v cl M).map cmE
  | [], _, _ => rfl
  | p :: M, i, h => by
    unfold cmFind at h
    unfold cmPut
    cases hq : x.toList == p.1.toList
    · rw [hq] at h
      simp only [Bool.false_eq_true, if_false] at h ⊢
      rw [List.map_cons, List.map_cons, List.cons_append, cm_put_no x v cl M (i + 1) h]
    · rw [hq] at h; simp at h
theorem cm_put_at (x : ByteArray) (v : Int) (cl : Nat) : ∀ (M : List (ByteArray × Int × Nat)) (i j : Nat) (u : Int), cmFind x M i = some (j, u) → i ≤ j ∧ ((M.map cmE)[j - i]?).map (·.key) = some (.string x) ∧ (M.map cmE).modify (j - i) (fun e => { e with key := .string x, val := .int .i64 v }) = (cmPut x v cl M).map cmE
  | [], _, _, _, h => by cases h
  | p :: M, i, j, u, h => by
    unfold cmFind at h
    unfold cmPut
    cases hq : x.toList == p.1.toList
    · rw [hq] at h
      simp only [Bool.false_eq_true, if_false] at h ⊢
      obtain ⟨h1, h2, h3⟩ := cm_put_at x v cl M (i + 1) j u h
      obtain ⟨d, hd⟩ : ∃ d, j - i = d + 1 := ⟨j - i - 1, by omega⟩
      have hd' : j - (i + 1) = d := by omega
      rw [hd'] at h2 h3
      refine ⟨by omega, ?_, ?_⟩
      · rw [hd]; simpa using h2
      · rw [hd, List.map_cons, List.map_cons, ← h3]; rfl
    · rw [hq] at h
      simp only [if_true] at h
      injection h with h
      injection h with e1 e2
      subst e1
      have := tl_inj hq
      refine ⟨Nat.le_refl _, ?_, ?_⟩
      · rw [Nat.sub_self, List.map_cons, this]; rfl
      · rw [Nat.sub_self, if_pos rfl, List.map_cons, List.map_cons]; rfl
theorem cm_get_put (x y : ByteArray) (v : Int) (cl : Nat) : ∀ M : List (ByteArray × Int × Nat), cmGet y (cmPut x v cl M) = if y.toList == x.toList then v else cmGet y M
  | [] => by unfold cmPut cmGet cmGet; rfl
  | p :: M => by
    unfold cmPut
    cases hq : x.toList == p.1.toList
    · simp only [Bool.false_eq_true, if_false]
      unfold cmGet
      rw [cm_get_put x y v cl M]
      cases hy : y.toList == p.1.toList
      · rfl
      · have : (y.toList == x.toList) = false := by
          have e := beq_iff_eq.1 hy
          rw [e, beq_eq_false_iff_ne]
          intro h; rw [h] at hq; simp at hq
        rw [this]; rfl
    · simp only [if_true]
      have e := tl_inj hq
      unfold cmGet
      rw [← e]
      cases y.toList == x.toList <;> rfl
theorem Try.und_cnt : Try.prog.underlying 107 = some (.map 9 3) := by kernel_rfl
theorem cm_look {W : World} {mb cl : Nat} {M : List (ByteArray × Int × Nat)} (hb : W.heap[mb]? = some (.map (M.map cmE).toArray cl)) (x : ByteArray) :
    (Instr.lookup 107 (.map (some mb)) (.string x) false).run Try.prog W = .ok (.int .i64 (cmGet x M)) W := by
  have hz : (zeroValue 3).run Try.prog W = .ok (.int .i64 0) W := by kernel_rfl
  have hf := find_text W x (M.map cmE) _ (cm_now x M 0)
  rw [cm_get x M 0]
  cases hc : cmFind x M 0 with
  | none =>
    rw [hc] at hf
    simp [Instr.lookup, run_underlying Try.und_cnt, MapKept.run_getObj_map hb, check_text, hf, hz, Result.andThen]
  | some q =>
    rw [hc] at hf
    simp [Instr.lookup, run_underlying Try.und_cnt, MapKept.run_getObj_map hb, check_text, hf, Result.andThen]
theorem stays_text (W : World) (x : ByteArray) : (Instr.keyThatStays (.string x) (.string x)).run Try.prog W = .ok (.string x) W := by
  have : Instr.sameBits 10000 (.string x) (.string x) = true := by
    show (x == x) = true
    exact (beq_text x x.toList x rfl).trans (by simp)
  simp [Instr.keyThatStays, this]
theorem cm_upd {W : World} {mb cl : Nat} {M : List (ByteArray × Int × Nat)} (hb : W.heap[mb]? = some (.map (M.map cmE).toArray cl)) (x : ByteArray) (v : Int) :
    ∃ cl', (Instr.mapUpdate 107 (.map (some mb)) (.string x) (.int .i64 v)).run Try.prog W = .ok () (kput W mb (.map ((cmPut x v cl M).map cmE).toArray cl')) := by
  have hf := find_text W x (M.map cmE) _ (cm_now x M 0)
  cases hc : cmFind x M 0 with
  | none =>
    rw [hc] at hf
    have e := cm_put_no x v cl M 0 hc
    refine ⟨cl + 1, ?_⟩
    rw [← e]
    simp [Instr.mapUpdate, run_underlying Try.und_cnt, MapKept.run_getObj_map hb, check_text, hf, MapKept.run_setObj_map _ hb, Result.andThen, kput]
  | some q =>
    obtain ⟨j, u⟩ := q
    rw [hc] at hf
    obtain ⟨_, h2, h3⟩ := cm_put_at x v cl M 0 j u hc
    rw [Nat.sub_zero] at h2 h3
    refine ⟨cl, ?_⟩
    rw [← h3]
    have hs := stays_text W x
    have h2' : (Option.map (fun e => e.key) (M.map cmE)[j]?) = some (.string x) := h2
    have h4 : Option.map ((fun x => x.key) ∘ cmE) M[j]? = some (.string x) := by rw [← h2']; simp
    simp [Instr.mapUpdate, run_underlying Try.und_cnt, MapKept.run_getObj_map hb, check_text, hf, MapKept.run_setObj_map _ hb, Result.andThen, kput, h4, hs]

set_option maxHeartbeats 1000000 in
theorem sheetMostI (c0 : ByteArray) (m : Bool) (v1 v3 : Value) (w : World) :
    Calls Try.prog 62 #[.agg #[.string c0, v1, .bool m, v3]] w fun e w' => e = .returned (.int .i64 (if m then 10 else 1)) ∧ Below w.heap.size w w' := by
  cases m
  all_goals
    go_enter Try.func62, Try.ntmps62
    go_wp2
    go_ret
    exact ⟨rfl, blw_alloc (Below.refl _ _) _⟩

namespace Pl
def fitsL (l : List Ru) (key : ByteArray) (ws : List ByteArray) : Bool := match ruIx l key with
  | none => false
  | some j => fitsW (l.getD j ruNo).args ws
def manyL (l : List Ru) (key : ByteArray) : Bool := match ruIx l key with
  | none => false
  | some j => (l.getD j ruNo).many
def lineOkL (l : List Ru) (L : List Ln) (i : Nat) : Bool := fitsL l (L.getD i lnNo).key (L.getD i lnNo).ws && !decide ((if manyL l (L.getD i lnNo).key then (10 : Int) else 1) < (keyCnt (L.take (i + 1)) (L.getD i lnNo).key : Nat))
end Pl
def holdsP (l : List Pl.Ru) (L : List Pl.Ln) : Bool := (List.range L.length).all (Pl.lineOkL l L) && ascLn l L
/-- What 'rule' answers, by its cells. -/
theorem ruAns_open {l : List Pl.Ru} {key : ByteArray} {W : World} {e : Ending} (h : RuAns l key W e) (har : ∀ r ∈ l, ∀ z ∈ r.args, 1 ≤ z ∧ z ≤ 6) :
    ∃ c0 a1 n1 c1 a3 n3 c3 kn, e = .returned (.tuple #[.agg #[.string c0, .slice a1 n1 c1, .bool (Pl.manyL l key), .slice a3 n3 c3], .bool kn]) ∧ (kn = false → ∀ ws, Pl.fitsL l key ws = false) ∧
      (kn = true → ∀ (X : World), Below W.heap.size W X → ∀ (ws : List ByteArray) (wv : Value), Raw X [.row 9 [.s]] [.row ws.length (txD ws)] [wv] → (∀ y ∈ ws, y.size ≤ maxLen) → Calls Try.prog 61 #[.agg #[.string c0, .slice a1 n1 c1, .bool (Pl.manyL l key), .slice a3 n3 c3], wv] X fun e w' => e = .returned (.bool (Pl.fitsL l key ws)) ∧ Below X.heap.size X w') := by
  unfold RuAns at h
  unfold Pl.manyL Pl.fitsL
  cases hix : Pl.ruIx l key with
  | none =>
    rw [hix] at h
    simp only at h ⊢
    exact ⟨_, _, _, _, _, _, _, false, h, by simp, (fun h => by cases h)⟩
  | some j =>
    rw [hix] at h
    simp only at h ⊢
    have hj := Pl.ruIx_lt hix
    obtain ⟨a1, c1, a3, c3, he, hA, hD⟩ := h
    refine ⟨_, _, _, _, _, _, _, true, he, (fun h => by cases h), fun _ X hX ws wv hw hs => sheetTakesI _ _ _ a1 c1 _ ws wv X (hA.later hX) hw ?_ hs⟩
    have e : l.getD j Pl.ruNo = l[j] := by simp [hj]
    rw [e]; exact har _ (List.getElem_mem hj)
theorem Pl.keyCnt_next (L : List Pl.Ln) (k : Nat) (hk : k < L.length) (y : ByteArray) : Pl.keyCnt (L.take (k + 1)) y = if y.toList == (L.getD k Pl.lnNo).key.toList then Pl.keyCnt (L.take k) (L.getD k Pl.lnNo).key + 1 else Pl.keyCnt (L.take k) y := by
  have e : L.getD k Pl.lnNo = L[k] := by simp [hk]
  unfold Pl.keyCnt
  rw [e, List.take_succ_eq_append_getElem hk, List.countP_append]
  have c : List.countP (fun x => Pl.txEq x.key y) [L[k]] = if Pl.txEq L[k].key y then 1 else 0 := by
    rw [List.countP_cons, List.countP_nil]; simp
  rw [c]
  unfold Pl.txEq
  cases hy : y.toList == L[k].key.toList
  · have : (L[k].key.toList == y.toList) = false := by
      rw [beq_eq_false_iff_ne] at hy ⊢
      exact fun h => hy h.symm
    rw [this]; rfl
  · have := tl_inj hy
    subst this
    simp
def VHA  : Nat → Value → World → Prop
  | 0, vv, _ => vv = .bool false
  | 1, vv, _ => vv = .bool true
  | 2, vv, _ => vv = .bool true
  | 3, vv, _ => vv = undef
  | 4, vv, _ => vv = undef
  | 5, vv, _ => vv = undef
  | 6, vv, _ => vv = undef
  | 7, vv, _ => vv = undef
  | 8, vv, _ => vv = .bool true
  | 9, vv, _ => vv = .bool true
  | 10, vv, _ => vv = undef
  | 11, vv, _ => vv = undef
  | 12, vv, _ => vv = undef
  | 13, vv, _ => vv = undef
  | 14, vv, _ => vv = undef
  | 15, vv, _ => vv = undef
  | 16, vv, _ => vv = undef
  | 17, vv, _ => vv = .bool true
  | _, _, _ => True
theorem VHA_mono  : ∀ jj vv W W', Below W.heap.size W W' → VHA  jj vv W → VHA  jj vv W' := by
  intro jj vv W W' hb h
  match jj with
  | 0 => exact h
  | 1 => exact h
  | 2 => exact h
  | 3 => exact h
  | 4 => exact h
  | 5 => exact h
  | 6 => exact h
  | 7 => exact h
  | 8 => exact h
  | 9 => exact h
  | 10 => exact h
  | 11 => exact h
  | 12 => exact h
  | 13 => exact h
  | 14 => exact h
  | 15 => exact h
  | 16 => exact h
  | 17 => exact h
  | n + 18 => exact trivial
def VHB (bl : Nat) (n1 : Nat) (c1 : Nat) (n3 : Nat) (c3 : Nat) (cx : Nat) (ax : Option Addr) (a1 : Option Addr) (a3 : Option Addr) (m : Bool) (c0 : ByteArray) (x : Pl.Ln) : Nat → Value → World → Prop
  | 0, vv, _ => vv = .bool true
  | 1, vv, _ => vv = .bool false
  | 2, vv, _ => vv = .bool false
  | 3, vv, _ => vv = .agg #[.string c0, .slice a1 n1 c1, .bool m, .slice a3 n3 c3]
  | 4, vv, _ => vv = .pointer (some ⟨bl, 1, none⟩)
  | 5, vv, _ => vv = .slice ax x.ws.length cx
  | 6, vv, _ => vv = .bool false
  | 7, vv, _ => vv = .bool true
  | 8, vv, _ => vv = .bool true
  | 9, vv, _ => vv = .bool true
  | 10, vv, _ => vv = undef
  | 11, vv, _ => vv = undef
  | 12, vv, _ => vv = undef
  | 13, vv, _ => vv = undef
  | 14, vv, _ => vv = undef
  | 15, vv, _ => vv = undef
  | 16, vv, _ => vv = undef
  | 17, vv, _ => vv = .bool true
  | _, _, _ => True
theorem VHB_mono (bl : Nat) (n1 : Nat) (c1 : Nat) (n3 : Nat) (c3 : Nat) (cx : Nat) (ax : Option Addr) (a1 : Option Addr) (a3 : Option Addr) (m : Bool) (c0 : ByteArray) (x : Pl.Ln) : ∀ jj vv W W', Below W.heap.size W W' → VHB bl n1 c1 n3 c3 cx ax a1 a3 m c0 x jj vv W → VHB bl n1 c1 n3 c3 cx ax a1 a3 m c0 x jj vv W' := by
  intro jj vv W W' hb h
  match jj with
  | 0 => exact h
  | 1 => exact h
  | 2 => exact h
  | 3 => exact h
  | 4 => exact h
  | 5 => exact h
  | 6 => exact h
  | 7 => exact h
  | 8 => exact h
  | 9 => exact h
  | 10 => exact h
  | 11 => exact h
  | 12 => exact h
  | 13 => exact h
  | 14 => exact h
  | 15 => exact h
  | 16 => exact h
  | 17 => exact h
  | n + 18 => exact trivial
def VHC (b0 : Nat) (bl : Nat) (n1 : Nat) (c1 : Nat) (n3 : Nat) (c3 : Nat) (cx : Nat) (nn : Nat) (mo : Int) (ax : Option Addr) (a1 : Option Addr) (a3 : Option Addr) (m : Bool) (c0 : ByteArray) (x : Pl.Ln) : Nat → Value → World → Prop
  | 0, vv, _ => vv = .bool true
  | 1, vv, _ => vv = .bool false
  | 2, vv, _ => vv = .bool false
  | 3, vv, _ => vv = .agg #[.string c0, .slice a1 n1 c1, .bool m, .slice a3 n3 c3]
  | 4, vv, _ => vv = .pointer (some ⟨bl, 1, none⟩)
  | 5, vv, _ => vv = .slice ax x.ws.length cx
  | 6, vv, _ => vv = .bool true
  | 7, vv, _ => vv = .bool false
  | 8, vv, _ => vv = .bool false
  | 9, vv, _ => vv = .bool false
  | 10, vv, _ => vv = .map (some (b0 + 1))
  | 11, vv, _ => vv = .pointer (some ⟨bl, 0, none⟩)
  | 12, vv, _ => vv = .string x.key
  | 13, vv, _ => vv = .int .i64 ((nn + 1 : Nat) : Int)
  | 14, vv, _ => vv = .agg #[.string c0, .slice a1 n1 c1, .bool m, .slice a3 n3 c3]
  | 15, vv, _ => vv = .int .i64 mo
  | 16, vv, _ => vv = .bool (decide (mo < ((nn + 1 : Nat) : Int)))
  | 17, vv, _ => vv = .bool (decide (mo < ((nn + 1 : Nat) : Int)))
  | _, _, _ => True
theorem VHC_mono (b0 : Nat) (bl : Nat) (n1 : Nat) (c1 : Nat) (n3 : Nat) (c3 : Nat) (cx : Nat) (nn : Nat) (mo : Int) (ax : Option Addr) (a1 : Option Addr) (a3 : Option Addr) (m : Bool) (c0 : ByteArray) (x : Pl.Ln) : ∀ jj vv W W', Below W.heap.size W W' → VHC b0 bl n1 c1 n3 c3 cx nn mo ax a1 a3 m c0 x jj vv W → VHC b0 bl n1 c1 n3 c3 cx nn mo ax a1 a3 m c0 x jj vv W' := by
  intro jj vv W W' hb h
  match jj with
  | 0 => exact h
  | 1 => exact h
  | 2 => exact h
  | 3 => exact h
  | 4 => exact h
  | 5 => exact h
  | 6 => exact h
  | 7 => exact h
  | 8 => exact h
  | 9 => exact h
  | 10 => exact h
  | 11 => exact h
  | 12 => exact h
  | 13 => exact h
  | 14 => exact h
  | 15 => exact h
  | 16 => exact h
  | 17 => exact h
  | n + 18 => exact trivial

set_option maxRecDepth 8000 in
set_option maxHeartbeats 16000000 in
theorem holdsI (l : List Pl.Ru) (va : Option Addr) (vc : Nat) (L : List Pl.Ln) (v : Value) (w : World) (hl : l.length ≤ 100) (har : ∀ r ∈ l, ∀ z ∈ r.args, 1 ≤ z ∧ z ≤ 6) (hr0 : Raw w [.row 73 shSheetRule] [rulesD l] [.slice va l.length vc]) (h : Raw w shLns [lnsD L] [v]) (hz : ∀ x ∈ L, ∀ y ∈ x.ws, y.size ≤ maxLen) :
    Calls Try.prog 39 #[.agg #[.slice va l.length vc], v] w fun e w' => e = .returned (.bool (holdsP l L)) ∧ Below w.heap.size w w' := by
  obtain ⟨a, c, ev⟩ := h.len0
  subst ev
  have hlen : L.length ≤ maxLen := by
    rcases lns_open h with ⟨e, _⟩ | ⟨_, _, _, _, _, e, _⟩
    · omega
    · exact e
  unfold maxLen at hlen
  obtain ⟨R, hR⟩ : ∃ R, R = holdsP l L := ⟨_, rfl⟩
  have HR : Hid (R = holdsP l L) := hR
  rw [← hR]
  have HH := uh h
  have HRL := uh hr0
  have HZ := uh hz
  have HL := uh hl
  have HAR := uh har
  clear h hr0 hR hz hl har
  obtain ⟨wa, hwa⟩ : ∃ wa, wa = (w.alloc (.cells #[.slice va l.length vc] 81)).alloc (.map #[] 0) := ⟨_, rfl⟩
  obtain ⟨b0, hb0⟩ : ∃ b0, b0 = w.heap.size := ⟨_, rfl⟩
  have HBZ := uh hb0
  have HB : Hid (Below w.heap.size w wa) := by show Below _ _ _; rw [hwa]; exact blw_alloc (blw_alloc (Below.refl _ _) _) _
  have HK0 : Hid (LBox wa b0 [.slice va l.length vc]) := by show LBox _ _ _; rw [hwa, hb0]; exact (LBox.new w #[.slice va l.length vc] _ _ rfl).past _
  have HM0 : Hid (wa.heap[b0 + 1]? = some (.map (([] : List (ByteArray × Int × Nat)).map cmE).toArray 0)) := by 
    show _ = _
    have q := (MapKept.heap_alloc (w.alloc (.cells #[.slice va l.length vc] 81)) (.map #[] 0)).1
    have hzz : (w.alloc (.cells #[.slice va l.length vc] 81)).heap.size = w.heap.size + 1 := by simp
    rw [hzz] at q
    rw [hwa, hb0]; exact q
  go_enter Try.func39, Try.ntmps39
  have hmk : ∀ W : World, (Instr.makeMap 107 none).run Try.prog W = .ok (.map (some W.heap.size)) (W.alloc (.map #[] 0)) := fun W => by kernel_rfl
  go_upto_region 3 with fail
  rw [← hwa, ← hb0]
  clear hwa hb0 hmk
  go_loopw [13] (fun i wr => ∃ (k : Nat) (M : List (ByteArray × Int × Nat)) (cl : Nat), k ≤ L.length ∧ i = .int .i64 k ∧ (List.range k).all (Pl.lineOkL l L) = true ∧ LBox wr b0 [.slice va l.length vc] ∧ wr.heap[b0 + 1]? = some (.map (M.map cmE).toArray cl) ∧ (∀ y, cmGet y M = (Pl.keyCnt (L.take k) y : Nat)) ∧ Below w.heap.size w wr) (fun i _ => L.length - (intOf i).toNat)
  case atStart => exact ⟨0, [], 0, Nat.zero_le _, rfl, rfl, HK0.out, HM0.out, fun y => rfl, HB.out⟩
  case round =>
    obtain ⟨k, M, cl, hk, rfl, hall, hK, hM, hG, hW⟩ := hrel
    have HK := uh hK
    have HM := uh hM
    have HG := uh hG
    have HALL := uh hall
    have HW := uh hW
    have zk := hK.get 0 _ rfl
    have zl := hK.lt
    clear hK hM hG hall hW
    by_cases hlt : k < L.length
    rotate_left
    · obtain rfl : k = L.length := by omega
      have HAS := uh (ascLnI l va vc HL.out L (.slice a L.length c) wr (HRL.out.later HW.out) (HH.out.later HW.out))
      have HE : Hid (R = ascLn l L) := by show R = _; rw [HR.out, holdsP, HALL.out, Bool.true_and]
      go_wp2_with (go_at_call 63; refine HAS.out.mono ?_; rintro e w2 ⟨rfl, hb2⟩)
      go_ret
      exact ⟨Pl.ret_bool HE.out.symm, blw_trans HW.out hb2⟩
    rcases lns_open HH.out with ⟨e0, _⟩ | ⟨p, o, c', hv, hp, _, hopen⟩
    · omega
    injection hv with g1 _ g3
    subst g1; subst g3
    obtain ⟨ax, cx, hg, hrx⟩ := hopen k hlt
    obtain ⟨x, hx⟩ : ∃ x, x = L.getD k Pl.lnNo := ⟨_, rfl⟩
    rw [← hx] at hg hrx
    have x0 : wr.cell? ⟨p, o + k * 2, none⟩ = some (.string x.key) := rA_get (rA_later hg hp HW.out) 0 _ rfl
    have x1 : wr.cell? ⟨p, o + k * 2 + 1, none⟩ = some (.slice ax x.ws.length cx) := rA_get (rA_later hg hp HW.out) 1 _ rfl
    have hpw : p < wr.heap.size := Nat.lt_of_lt_of_le hp HW.out.size
    have hk0 : (0 : Int) ≤ (k : Int) := by omega
    have hkn : (k : Int) < (L.length : Int) := by omega
    have HSZ : Hid (∀ y ∈ x.ws, y.size ≤ maxLen) := by
      have e : L.getD k Pl.lnNo = L[k] := by simp [hlt]
      rw [hx, e]; exact HZ.out _ (List.getElem_mem hlt)
    have HXW := uh hrx
    obtain ⟨nn, hnn⟩ : ∃ nn, nn = Pl.keyCnt (L.take k) x.key := ⟨_, rfl⟩
    have hnk : nn ≤ k := by
      rw [hnn]; unfold Pl.keyCnt
      exact Nat.le_trans List.countP_le_length (by rw [List.length_take]; omega)
    have HNX : Hid (∀ y, Pl.keyCnt (L.take (k + 1)) y = if y.toList == x.key.toList then nn + 1 else Pl.keyCnt (L.take k) y) := fun y => by rw [hnn, hx]; exact Pl.keyCnt_next L k hlt y
    have HOKL : Hid (Pl.lineOkL l L k = (Pl.fitsL l x.key x.ws && !decide ((if Pl.manyL l x.key then (10 : Int) else 1) < ((nn + 1 : Nat) : Int)))) := by
      show _ = _
      unfold Pl.lineOkL
      rw [← hx, HNX.out x.key]; simp
    have HGX : Hid (cmGet x.key M = (nn : Nat)) := by show _ = _; rw [HG.out, hnn]
    clear hopen hg hrx hx hnn
    obtain ⟨bl, hbl⟩ : ∃ bl, bl = wr.heap.size := ⟨_, rfl⟩
    obtain ⟨wb, hwb⟩ : ∃ wb, wb = wr.alloc (.cells #[.string x.key, .slice ax x.ws.length cx] 69) := ⟨_, rfl⟩
    have HWB : Hid (Below wr.heap.size wr wb) := by show Below _ _ _; rw [hwb]; exact blw_alloc (Below.refl _ _) _
    have HLB0 : Hid (LBox wb bl [.string x.key, .slice ax x.ws.length cx]) := by show LBox _ _ _; rw [hwb, hbl]; exact LBox.new wr #[.string x.key, .slice ax x.ws.length cx] _ _ rfl
    have HKB := uh (HK.out.later HWB.out)
    have zkb := HKB.out.get 0 _ rfl
    have zlb := HKB.out.lt
    have HBLZ := uh hbl
    have zb0 := HLB0.out.get 0 _ rfl
    have zb1 := HLB0.out.lt
    have HC := uh (ruleJ l va vc x.key w wb (blw_trans HW.out HWB.out) HL.out HRL.out)
    go_upto_region 5 with fail
    rw [← hwb, ← hbl]
    clear hwb hbl x0 x1
    go_wp2_with fail
    refine HC.out.mono ?_
    rintro e w1 ⟨hra, hb1⟩
    obtain ⟨c0, a1, n1, c1, a3, n3, c3, kn, he, hno, hyes⟩ := ruAns_open hra HAR.out
    subst he
    have HNO := uh hno
    have HYES := uh hyes
    clear hno hyes hra HC
    obtain ⟨m, hm⟩ : ∃ m, m = Pl.manyL l x.key := ⟨_, rfl⟩
    rw [← hm] at HYES HOKL ⊢
    clear hm
    obtain ⟨br, hbr⟩ : ∃ br, br = w1.heap.size := ⟨_, rfl⟩
    obtain ⟨w2, hw2⟩ : ∃ w2, w2 = w1.alloc (.cells #[.string c0, .slice a1 n1 c1, .bool m, .slice a3 n3 c3] 73) := ⟨_, rfl⟩
    have HB12 : Hid (Below w1.heap.size w1 w2) := by show Below _ _ _; rw [hw2]; exact blw_alloc (Below.refl _ _) _
    have HBR2 : Hid (Below wr.heap.size wr w2) := blw_trans HWB.out (blw_trans hb1 HB12.out)
    have HRB2 : Hid (LBox w2 br [.string c0, .slice a1 n1 c1, .bool m, .slice a3 n3 c3]) := by show LBox _ _ _; rw [hw2, hbr]; exact LBox.new w1 #[.string c0, .slice a1 n1 c1, .bool m, .slice a3 n3 c3] _ _ rfl
    have HLB2 := uh ((HLB0.out.later hb1).later HB12.out)
    have HK2 := uh ((HKB.out.later hb1).later HB12.out)
    have hz1 : w1.heap.size ≤ w2.heap.size := HB12.out.size
    have hz0 : wr.heap.size ≤ w1.heap.size := Nat.le_trans HWB.out.size hb1.size
    have hz9 : b0 + 1 < wr.heap.size := by
      by_cases q : b0 + 1 < wr.heap.size
      · exact q
      · have := HM.out; rw [Array.getElem?_eq_none (by omega)] at this; cases this
    have HM2 : Hid (w2.heap[b0 + 1]? = some (.map (M.map cmE).toArray cl)) := (HBR2.out.block _ hz9).trans HM.out
    have HWB1 := uh hb1
    have hlk := cm_look HM2.out x.key
    rw [HGX.out] at hlk
    obtain ⟨cl', hup⟩ := cm_upd HM2.out x.key ((nn + 1 : Nat) : Int)
    have hwr : IntKind.i64.wrap ((nn : Int) + 1) = (nn : Int) + 1 := wrapI _ (by omega) (by omega)
    have y0 := HLB2.out.get 0 _ rfl
    have yl := HLB2.out.lt
    obtain ⟨wm, hwm⟩ : ∃ wm, wm = kput w2 (b0 + 1) (.map ((cmPut x.key ((nn + 1 : Nat) : Int) cl M).map cmE).toArray cl') := ⟨_, rfl⟩
    rw [← hwm, show ((nn + 1 : Nat) : Int) = (nn : Int) + 1 by omega] at hup
    have HMK : Hid (Marks (fun b => b = b0 + 1) w2 wm) := by show Marks _ _ _; rw [hwm]; exact kput_marks _ HM2.out
    have HMM : Hid (wm.heap[b0 + 1]? = some (.map ((cmPut x.key ((nn + 1 : Nat) : Int) cl M).map cmE).toArray cl')) := by show _ = _; rw [hwm]; exact kput_at _ (by omega)
    go_upto_region 6 with fail
    rw [← hw2, ← hbr]
    clear hw2 hwm zk zl zkb zlb zb0 zb1
    have HBRZ := uh hbr
    have zbl := HBLZ.out
    have hbr1 : br ≠ b0 + 1 := by omega
    have hbl1 : bl ≠ b0 + 1 := by omega
    have hb01 : b0 ≠ b0 + 1 := by omega
    have HKM := uh (HK2.out.mks HMK.out hb01)
    have HLB := uh (HLB2.out.mks HMK.out hbl1)
    have HRB := uh (HRB2.out.mks HMK.out hbr1)
    have HBM : Hid (Below w.heap.size w wm) := HMK.out.below (fun b e => by have := HBZ.out; omega) (blw_trans HW.out HBR2.out)
    have HB1M : Hid (Below wr.heap.size wr wm → True) := fun _ => trivial
    have HMP : Hid (∀ X, Below wm.heap.size wm X → X.heap[b0 + 1]? = some (.map ((cmPut x.key ((nn + 1 : Nat) : Int) cl M).map cmE).toArray cl')) := fun X hX => (hX.block _ (by have := HMK.out.size; omega)).trans HMM.out
    have HGT : Hid (cmGet x.key (cmPut x.key ((nn + 1 : Nat) : Int) cl M) = ((nn + 1 : Nat) : Int)) := by show _ = _; rw [cm_get_put]; simp
    have HGA : Hid (∀ y, cmGet y (cmPut x.key ((nn + 1 : Nat) : Int) cl M) = (Pl.keyCnt (L.take (k + 1)) y : Nat)) := fun y => by
      rw [cm_get_put, HNX.out y, HG.out y]
      cases y.toList == x.key.toList <;> rfl
    clear zbl hbr hbr1 hbl1 hb01
    go_upto_region 7 with fail
    obtain ⟨mo, hmo⟩ : ∃ mo : Int, mo = if m then 10 else 1 := ⟨_, rfl⟩
    rw [← hmo] at HOKL
    have HMO : Hid (∀ X, Calls Try.prog 62 #[.agg #[.string c0, .slice a1 n1 c1, .bool m, .slice a3 n3 c3]] X fun e w' => e = .returned (.int .i64 mo) ∧ Below X.heap.size X w') := fun X => by rw [hmo]; exact sheetMostI _ _ _ _ X
    clear hmo hlk hup hwr y0 yl
    have HBADL : Hid (Pl.lineOkL l L k = false → R = false) := fun hq => by rw [HR.out, holdsP, Pl.rall_false hlt hq]; rfl
    cases kn
    · have HBAD : Hid (True → R = false) := fun _ => HBADL.out (by rw [HOKL.out, HNO.out rfl]; rfl)
      refine RY.region_pastG wm (Below.refl _ _) (VHA ) (VHA_mono ) (by kernel_rfl) (by kernel_rfl) (by kernel_rfl) (by kernel_rfl) ?_ ?_
      · intro ii o' ho a X hX hk hd
        have zbl := HLB.out.later hX
        have zbll := zbl.lt
        have zbr := HRB.out.later hX
        have zbrl := zbr.lt
        match ii, ho with
        | 0, ho =>
          injection ho with ho; subst ho
          have e9 : a.tmps[9]?.getD undef = .bool false := (RY.ev_tmp a 9).trans ((hk 9 (by kernel_rfl)).trans rfl)
          exact Or.inl ⟨RY.wanted_no rfl, Or.inl ⟨.bool false, X, by simp [execOp, go_sem, e9], Below.refl _ _, rfl⟩⟩
        | 1, ho =>
          injection ho with ho; subst ho
          have e29 : a.tmps[29]?.getD undef = .bool false := (RY.ev_tmp a 29).trans (hd 0 _ 29 rfl rfl ⟨⟨0, .data⟩, by simp, rfl, rfl⟩)
          exact Or.inl ⟨RY.wanted_no rfl, Or.inl ⟨.bool true, X, by simp [execOp, go_sem, e29], Below.refl _ _, rfl⟩⟩
        | 2, ho =>
          injection ho with ho; subst ho
          have e30 : a.tmps[30]?.getD undef = .bool true := (RY.ev_tmp a 30).trans (hd 1 _ 30 rfl rfl ⟨⟨1, .data⟩, by simp, rfl, rfl⟩)
          exact Or.inl ⟨RY.wanted_no rfl, Or.inl ⟨.bool true, X, by simp [execOp, go_sem, e30], Below.refl _ _, rfl⟩⟩
        | 3, ho =>
          injection ho with ho; subst ho
          have gd := hd 2 _ 31 rfl rfl ⟨⟨2, .guard⟩, by simp, rfl, rfl⟩
          exact Or.inr ⟨(RY.wanted_at rfl rfl rfl gd).trans rfl, rfl⟩
        | 4, ho =>
          injection ho with ho; subst ho
          have gd := hd 2 _ 31 rfl rfl ⟨⟨2, .guard⟩, by simp, rfl, rfl⟩
          exact Or.inr ⟨(RY.wanted_at rfl rfl rfl gd).trans rfl, rfl⟩
        | 5, ho =>
          injection ho with ho; subst ho
          have gd := hd 2 _ 31 rfl rfl ⟨⟨2, .guard⟩, by simp, rfl, rfl⟩
          exact Or.inr ⟨(RY.wanted_at rfl rfl rfl gd).trans rfl, rfl⟩
        | 6, ho =>
          injection ho with ho; subst ho
          have gd := hd 2 _ 31 rfl rfl ⟨⟨2, .guard⟩, by simp, rfl, rfl⟩
          exact Or.inr ⟨(RY.wanted_at rfl rfl rfl gd).trans rfl, rfl⟩
        | 7, ho =>
          injection ho with ho; subst ho
          have gd := hd 2 _ 31 rfl rfl ⟨⟨2, .guard⟩, by simp, rfl, rfl⟩
          exact Or.inr ⟨(RY.wanted_at rfl rfl rfl gd).trans rfl, rfl⟩
        | 8, ho =>
          injection ho with ho; subst ho
          have e31 : a.tmps[31]?.getD undef = .bool true := (RY.ev_tmp a 31).trans (hd 2 _ 31 rfl rfl ⟨⟨2, .data⟩, by simp, rfl, rfl⟩)
          have e36 : a.tmps[36]?.getD undef = undef := (RY.ev_tmp a 36).trans (hd 7 _ 36 rfl rfl ⟨⟨7, .data⟩, by simp, rfl, rfl⟩)
          exact Or.inl ⟨RY.wanted_no rfl, Or.inl ⟨.bool true, X, by simp [execOp, go_sem, e31, e36], Below.refl _ _, rfl⟩⟩
        | 9, ho =>
          injection ho with ho; subst ho
          have e37 : a.tmps[37]?.getD undef = .bool true := (RY.ev_tmp a 37).trans (hd 8 _ 37 rfl rfl ⟨⟨8, .data⟩, by simp, rfl, rfl⟩)
          exact Or.inl ⟨RY.wanted_no rfl, Or.inl ⟨.bool true, X, by simp [execOp, go_sem, e37], Below.refl _ _, rfl⟩⟩
        | 10, ho =>
          injection ho with ho; subst ho
          have gd := hd 9 _ 38 rfl rfl ⟨⟨9, .guard⟩, by simp, rfl, rfl⟩
          exact Or.inr ⟨(RY.wanted_at rfl rfl rfl gd).trans rfl, rfl⟩
        | 11, ho =>
          injection ho with ho; subst ho
          have gd := hd 9 _ 38 rfl rfl ⟨⟨9, .guard⟩, by simp, rfl, rfl⟩
          exact Or.inr ⟨(RY.wanted_at rfl rfl rfl gd).trans rfl, rfl⟩
        | 12, ho =>
          injection ho with ho; subst ho
          have gd := hd 9 _ 38 rfl rfl ⟨⟨9, .guard⟩, by simp, rfl, rfl⟩
          exact Or.inr ⟨(RY.wanted_at rfl rfl rfl gd).trans rfl, rfl⟩
        | 13, ho =>
          injection ho with ho; subst ho
          have gd := hd 9 _ 38 rfl rfl ⟨⟨9, .guard⟩, by simp, rfl, rfl⟩
          exact Or.inr ⟨(RY.wanted_at rfl rfl rfl gd).trans rfl, rfl⟩
        | 14, ho =>
          injection ho with ho; subst ho
          have gd := hd 9 _ 38 rfl rfl ⟨⟨9, .guard⟩, by simp, rfl, rfl⟩
          exact Or.inr ⟨(RY.wanted_at rfl rfl rfl gd).trans rfl, rfl⟩
        | 15, ho =>
          injection ho with ho; subst ho
          have gd := hd 9 _ 38 rfl rfl ⟨⟨9, .guard⟩, by simp, rfl, rfl⟩
          exact Or.inr ⟨(RY.wanted_at rfl rfl rfl gd).trans rfl, rfl⟩
        | 16, ho =>
          injection ho with ho; subst ho
          have gd := hd 9 _ 38 rfl rfl ⟨⟨9, .guard⟩, by simp, rfl, rfl⟩
          exact Or.inr ⟨(RY.wanted_at rfl rfl rfl gd).trans rfl, rfl⟩
        | 17, ho =>
          injection ho with ho; subst ho
          have e38 : a.tmps[38]?.getD undef = .bool true := (RY.ev_tmp a 38).trans (hd 9 _ 38 rfl rfl ⟨⟨9, .data⟩, by simp, rfl, rfl⟩)
          have e45 : a.tmps[45]?.getD undef = undef := (RY.ev_tmp a 45).trans (hd 16 _ 45 rfl rfl ⟨⟨16, .data⟩, by simp, rfl, rfl⟩)
          exact Or.inl ⟨RY.wanted_no rfl, Or.inl ⟨.bool true, X, by simp [execOp, go_sem, e38, e45], Below.refl _ _, rfl⟩⟩
        | n + 18, ho => simp at ho
      intro X vs hX hvs
      have q46 : vs 46 = _ := hvs 17 _ 46 rfl rfl
      simp only [RY.putAll, Act.put, List.setIfInBounds_toArray, List.set_cons_zero, List.set_cons_succ]
      rw [q46]
      generalize vs 29 = s29
      generalize vs 30 = s30
      generalize vs 31 = s31
      generalize vs 32 = s32
      generalize vs 33 = s33
      generalize vs 34 = s34
      generalize vs 35 = s35
      generalize vs 36 = s36
      generalize vs 37 = s37
      generalize vs 38 = s38
      generalize vs 39 = s39
      generalize vs 40 = s40
      generalize vs 41 = s41
      generalize vs 42 = s42
      generalize vs 43 = s43
      generalize vs 44 = s44
      generalize vs 45 = s45
      clear hvs q46
      go_wp2
      go_ret
      exact ⟨Pl.ret_bool (HBAD.out trivial).symm, blw_trans HBM.out hX⟩
    · cases hfit : Pl.fitsL l x.key x.ws
      · have HTK : Hid (∀ X, Below wm.heap.size wm X → Calls Try.prog 61 #[.agg #[.string c0, .slice a1 n1 c1, .bool m, .slice a3 n3 c3], .slice ax x.ws.length cx] X fun e w' => e = .returned (.bool false) ∧ Below X.heap.size X w') := fun X hX => by
          have q := HYES.out rfl X (blw_trans HBM.out hX) x.ws _ (HXW.out.later (blw_trans HBM.out hX)) HSZ.out
          rw [hfit] at q; exact q
        have HBAD : Hid (True → R = false) := fun _ => HBADL.out (by rw [HOKL.out, hfit]; rfl)
        clear hfit
        refine RY.region_pastG wm (Below.refl _ _) (VHB bl n1 c1 n3 c3 cx ax a1 a3 m c0 x) (VHB_mono _ _ _ _ _ _ _ _ _ _ _ _) (by kernel_rfl) (by kernel_rfl) (by kernel_rfl) (by kernel_rfl) ?_ ?_
        · intro ii o' ho a X hX hk hd
          have zbl := HLB.out.later hX
          have zbll := zbl.lt
          have zbr := HRB.out.later hX
          have zbrl := zbr.lt
          match ii, ho with
          | 0, ho =>
            injection ho with ho; subst ho
            have e9 : a.tmps[9]?.getD undef = .bool true := (RY.ev_tmp a 9).trans ((hk 9 (by kernel_rfl)).trans rfl)
            exact Or.inl ⟨RY.wanted_no rfl, Or.inl ⟨.bool true, X, by simp [execOp, go_sem, e9], Below.refl _ _, rfl⟩⟩
          | 1, ho =>
            injection ho with ho; subst ho
            have e29 : a.tmps[29]?.getD undef = .bool true := (RY.ev_tmp a 29).trans (hd 0 _ 29 rfl rfl ⟨⟨0, .data⟩, by simp, rfl, rfl⟩)
            exact Or.inl ⟨RY.wanted_no rfl, Or.inl ⟨.bool false, X, by simp [execOp, go_sem, e29], Below.refl _ _, rfl⟩⟩
          | 2, ho =>
            injection ho with ho; subst ho
            have e30 : a.tmps[30]?.getD undef = .bool false := (RY.ev_tmp a 30).trans (hd 1 _ 30 rfl rfl ⟨⟨1, .data⟩, by simp, rfl, rfl⟩)
            exact Or.inl ⟨RY.wanted_no rfl, Or.inl ⟨.bool false, X, by simp [execOp, go_sem, e30], Below.refl _ _, rfl⟩⟩
          | 3, ho =>
            injection ho with ho; subst ho
            have gd := hd 2 _ 31 rfl rfl ⟨⟨2, .guard⟩, by simp, rfl, rfl⟩
            have v8 : a.eval (.tmp 8) = .pointer (some ⟨br, 0, none⟩) := (hk 8 (by kernel_rfl)).trans rfl
            exact Or.inl ⟨(RY.wanted_at rfl rfl rfl gd).trans rfl, Or.inl ⟨_, X, exec_load_mid 73 _ rfl br 0 v8 [.string c0, .slice a1 n1 c1, .bool m, .slice a3 n3 c3] _ zbr.at_ Try.underlying73 rfl (by kernel_rfl), Below.refl _ _, rfl⟩⟩
          | 4, ho =>
            injection ho with ho; subst ho
            have gd := hd 2 _ 31 rfl rfl ⟨⟨2, .guard⟩, by simp, rfl, rfl⟩
            have e7 : a.tmps[7]?.getD undef = .pointer (some ⟨bl, 0, none⟩) := (RY.ev_tmp a 7).trans ((hk 7 (by kernel_rfl)).trans rfl)
            exact Or.inl ⟨(RY.wanted_at rfl rfl rfl gd).trans rfl, Or.inl ⟨.pointer (some ⟨bl, 1, none⟩), X, by simp [execOp, go_sem, e7], Below.refl _ _, rfl⟩⟩
          | 5, ho =>
            injection ho with ho; subst ho
            have gd := hd 2 _ 31 rfl rfl ⟨⟨2, .guard⟩, by simp, rfl, rfl⟩
            have e33 : a.tmps[33]?.getD undef = .pointer (some ⟨bl, 1, none⟩) := (RY.ev_tmp a 33).trans (hd 4 _ 33 rfl rfl ⟨⟨4, .data⟩, by simp, rfl, rfl⟩)
            have ycl_ := zbl.get 1 _ rfl
            exact Or.inl ⟨(RY.wanted_at rfl rfl rfl gd).trans rfl, Or.inl ⟨.slice ax x.ws.length cx, X, by simp [execOp, go_sem, e33, ycl_], Below.refl _ _, rfl⟩⟩
          | 6, ho =>
            injection ho with ho; subst ho
            have gd := hd 2 _ 31 rfl rfl ⟨⟨2, .guard⟩, by simp, rfl, rfl⟩
            have e32 : a.tmps[32]?.getD undef = .agg #[.string c0, .slice a1 n1 c1, .bool m, .slice a3 n3 c3] := (RY.ev_tmp a 32).trans (hd 3 _ 32 rfl rfl ⟨⟨3, .data⟩, by simp, rfl, rfl⟩)
            have e34 : a.tmps[34]?.getD undef = .slice ax x.ws.length cx := (RY.ev_tmp a 34).trans (hd 5 _ 34 rfl rfl ⟨⟨5, .data⟩, by simp, rfl, rfl⟩)
            refine Or.inl ⟨(RY.wanted_at rfl rfl rfl gd).trans rfl, Or.inr ⟨61, #[.agg #[.string c0, .slice a1 n1 c1, .bool m, .slice a3 n3 c3], .slice ax x.ws.length cx], by simp [go_sem, e32, e34], (HTK.out X hX).mono ?_⟩⟩
            rintro e W' ⟨rfl, hb⟩
            exact ⟨_, rfl, hb, rfl⟩
          | 7, ho =>
            injection ho with ho; subst ho
            have gd := hd 2 _ 31 rfl rfl ⟨⟨2, .guard⟩, by simp, rfl, rfl⟩
            have e35 : a.tmps[35]?.getD undef = .bool false := (RY.ev_tmp a 35).trans (hd 6 _ 35 rfl rfl ⟨⟨6, .data⟩, by simp, rfl, rfl⟩)
            exact Or.inl ⟨(RY.wanted_at rfl rfl rfl gd).trans rfl, Or.inl ⟨.bool true, X, by simp [execOp, go_sem, e35], Below.refl _ _, rfl⟩⟩
          | 8, ho =>
            injection ho with ho; subst ho
            have e31 : a.tmps[31]?.getD undef = .bool false := (RY.ev_tmp a 31).trans (hd 2 _ 31 rfl rfl ⟨⟨2, .data⟩, by simp, rfl, rfl⟩)
            have e36 : a.tmps[36]?.getD undef = .bool true := (RY.ev_tmp a 36).trans (hd 7 _ 36 rfl rfl ⟨⟨7, .data⟩, by simp, rfl, rfl⟩)
            exact Or.inl ⟨RY.wanted_no rfl, Or.inl ⟨.bool true, X, by simp [execOp, go_sem, e31, e36], Below.refl _ _, rfl⟩⟩
          | 9, ho =>
            injection ho with ho; subst ho
            have e37 : a.tmps[37]?.getD undef = .bool true := (RY.ev_tmp a 37).trans (hd 8 _ 37 rfl rfl ⟨⟨8, .data⟩, by simp, rfl, rfl⟩)
            exact Or.inl ⟨RY.wanted_no rfl, Or.inl ⟨.bool true, X, by simp [execOp, go_sem, e37], Below.refl _ _, rfl⟩⟩
          | 10, ho =>
            injection ho with ho; subst ho
            have gd := hd 9 _ 38 rfl rfl ⟨⟨9, .guard⟩, by simp, rfl, rfl⟩
            exact Or.inr ⟨(RY.wanted_at rfl rfl rfl gd).trans rfl, rfl⟩
          | 11, ho =>
            injection ho with ho; subst ho
            have gd := hd 9 _ 38 rfl rfl ⟨⟨9, .guard⟩, by simp, rfl, rfl⟩
            exact Or.inr ⟨(RY.wanted_at rfl rfl rfl gd).trans rfl, rfl⟩
          | 12, ho =>
            injection ho with ho; subst ho
            have gd := hd 9 _ 38 rfl rfl ⟨⟨9, .guard⟩, by simp, rfl, rfl⟩
            exact Or.inr ⟨(RY.wanted_at rfl rfl rfl gd).trans rfl, rfl⟩
          | 13, ho =>
            injection ho with ho; subst ho
            have gd := hd 9 _ 38 rfl rfl ⟨⟨9, .guard⟩, by simp, rfl, rfl⟩
            exact Or.inr ⟨(RY.wanted_at rfl rfl rfl gd).trans rfl, rfl⟩
          | 14, ho =>
            injection ho with ho; subst ho
            have gd := hd 9 _ 38 rfl rfl ⟨⟨9, .guard⟩, by simp, rfl, rfl⟩
            exact Or.inr ⟨(RY.wanted_at rfl rfl rfl gd).trans rfl, rfl⟩
          | 15, ho =>
            injection ho with ho; subst ho
            have gd := hd 9 _ 38 rfl rfl ⟨⟨9, .guard⟩, by simp, rfl, rfl⟩
            exact Or.inr ⟨(RY.wanted_at rfl rfl rfl gd).trans rfl, rfl⟩
          | 16, ho =>
            injection ho with ho; subst ho
            have gd := hd 9 _ 38 rfl rfl ⟨⟨9, .guard⟩, by simp, rfl, rfl⟩
            exact Or.inr ⟨(RY.wanted_at rfl rfl rfl gd).trans rfl, rfl⟩
          | 17, ho =>
            injection ho with ho; subst ho
            have e38 : a.tmps[38]?.getD undef = .bool true := (RY.ev_tmp a 38).trans (hd 9 _ 38 rfl rfl ⟨⟨9, .data⟩, by simp, rfl, rfl⟩)
            have e45 : a.tmps[45]?.getD undef = undef := (RY.ev_tmp a 45).trans (hd 16 _ 45 rfl rfl ⟨⟨16, .data⟩, by simp, rfl, rfl⟩)
            exact Or.inl ⟨RY.wanted_no rfl, Or.inl ⟨.bool true, X, by simp [execOp, go_sem, e38, e45], Below.refl _ _, rfl⟩⟩
          | n + 18, ho => simp at ho
        intro X vs hX hvs
        have q46 : vs 46 = _ := hvs 17 _ 46 rfl rfl
        simp only [RY.putAll, Act.put, List.setIfInBounds_toArray, List.set_cons_zero, List.set_cons_succ]
        rw [q46]
        generalize vs 29 = s29
        generalize vs 30 = s30
        generalize vs 31 = s31
        generalize vs 32 = s32
        generalize vs 33 = s33
        generalize vs 34 = s34
        generalize vs 35 = s35
        generalize vs 36 = s36
        generalize vs 37 = s37
        generalize vs 38 = s38
        generalize vs 39 = s39
        generalize vs 40 = s40
        generalize vs 41 = s41
        generalize vs 42 = s42
        generalize vs 43 = s43
        generalize vs 44 = s44
        generalize vs 45 = s45
        clear hvs q46
        go_wp2
        go_ret
        exact ⟨Pl.ret_bool (HBAD.out trivial).symm, blw_trans HBM.out hX⟩
      · have HTK : Hid (∀ X, Below wm.heap.size wm X → Calls Try.prog 61 #[.agg #[.string c0, .slice a1 n1 c1, .bool m, .slice a3 n3 c3], .slice ax x.ws.length cx] X fun e w' => e = .returned (.bool true) ∧ Below X.heap.size X w') := fun X hX => by
          have q := HYES.out rfl X (blw_trans HBM.out hX) x.ws _ (HXW.out.later (blw_trans HBM.out hX)) HSZ.out
          rw [hfit] at q; exact q
        have HBAD : Hid (mo < ((nn + 1 : Nat) : Int) → R = false) := fun hq => HBADL.out (by rw [HOKL.out, hfit, decide_eq_true hq]; rfl)
        have HGOOD : Hid (¬ mo < ((nn + 1 : Nat) : Int) → (List.range (k + 1)).all (Pl.lineOkL l L) = true) := fun hq => Pl.rall_step HALL.out (by rw [HOKL.out, hfit, decide_eq_false hq]; rfl)
        clear hfit
        refine RY.region_pastG wm (Below.refl _ _) (VHC b0 bl n1 c1 n3 c3 cx nn mo ax a1 a3 m c0 x) (VHC_mono _ _ _ _ _ _ _ _ _ _ _ _ _ _ _) (by kernel_rfl) (by kernel_rfl) (by kernel_rfl) (by kernel_rfl) ?_ ?_
        · intro ii o' ho a X hX hk hd
          have zbl := HLB.out.later hX
          have zbll := zbl.lt
          have zbr := HRB.out.later hX
          have zbrl := zbr.lt
          match ii, ho with
          | 0, ho =>
            injection ho with ho; subst ho
            have e9 : a.tmps[9]?.getD undef = .bool true := (RY.ev_tmp a 9).trans ((hk 9 (by kernel_rfl)).trans rfl)
            exact Or.inl ⟨RY.wanted_no rfl, Or.inl ⟨.bool true, X, by simp [execOp, go_sem, e9], Below.refl _ _, rfl⟩⟩
          | 1, ho =>
            injection ho with ho; subst ho
            have e29 : a.tmps[29]?.getD undef = .bool true := (RY.ev_tmp a 29).trans (hd 0 _ 29 rfl rfl ⟨⟨0, .data⟩, by simp, rfl, rfl⟩)
            exact Or.inl ⟨RY.wanted_no rfl, Or.inl ⟨.bool false, X, by simp [execOp, go_sem, e29], Below.refl _ _, rfl⟩⟩
          | 2, ho =>
            injection ho with ho; subst ho
            have e30 : a.tmps[30]?.getD undef = .bool false := (RY.ev_tmp a 30).trans (hd 1 _ 30 rfl rfl ⟨⟨1, .data⟩, by simp, rfl, rfl⟩)
            exact Or.inl ⟨RY.wanted_no rfl, Or.inl ⟨.bool false, X, by simp [execOp, go_sem, e30], Below.refl _ _, rfl⟩⟩
          | 3, ho =>
            injection ho with ho; subst ho
            have gd := hd 2 _ 31 rfl rfl ⟨⟨2, .guard⟩, by simp, rfl, rfl⟩
            have v8 : a.eval (.tmp 8) = .pointer (some ⟨br, 0, none⟩) := (hk 8 (by kernel_rfl)).trans rfl
            exact Or.inl ⟨(RY.wanted_at rfl rfl rfl gd).trans rfl, Or.inl ⟨_, X, exec_load_mid 73 _ rfl br 0 v8 [.string c0, .slice a1 n1 c1, .bool m, .slice a3 n3 c3] _ zbr.at_ Try.underlying73 rfl (by kernel_rfl), Below.refl _ _, rfl⟩⟩
          | 4, ho =>
            injection ho with ho; subst ho
            have gd := hd 2 _ 31 rfl rfl ⟨⟨2, .guard⟩, by simp, rfl, rfl⟩
            have e7 : a.tmps[7]?.getD undef = .pointer (some ⟨bl, 0, none⟩) := (RY.ev_tmp a 7).trans ((hk 7 (by kernel_rfl)).trans rfl)
            exact Or.inl ⟨(RY.wanted_at rfl rfl rfl gd).trans rfl, Or.inl ⟨.pointer (some ⟨bl, 1, none⟩), X, by simp [execOp, go_sem, e7], Below.refl _ _, rfl⟩⟩
          | 5, ho =>
            injection ho with ho; subst ho
            have gd := hd 2 _ 31 rfl rfl ⟨⟨2, .guard⟩, by simp, rfl, rfl⟩
            have e33 : a.tmps[33]?.getD undef = .pointer (some ⟨bl, 1, none⟩) := (RY.ev_tmp a 33).trans (hd 4 _ 33 rfl rfl ⟨⟨4, .data⟩, by simp, rfl, rfl⟩)
            have ycl_ := zbl.get 1 _ rfl
            exact Or.inl ⟨(RY.wanted_at rfl rfl rfl gd).trans rfl, Or.inl ⟨.slice ax x.ws.length cx, X, by simp [execOp, go_sem, e33, ycl_], Below.refl _ _, rfl⟩⟩
          | 6, ho =>
            injection ho with ho; subst ho
            have gd := hd 2 _ 31 rfl rfl ⟨⟨2, .guard⟩, by simp, rfl, rfl⟩
            have e32 : a.tmps[32]?.getD undef = .agg #[.string c0, .slice a1 n1 c1, .bool m, .slice a3 n3 c3] := (RY.ev_tmp a 32).trans (hd 3 _ 32 rfl rfl ⟨⟨3, .data⟩, by simp, rfl, rfl⟩)
            have e34 : a.tmps[34]?.getD undef = .slice ax x.ws.length cx := (RY.ev_tmp a 34).trans (hd 5 _ 34 rfl rfl ⟨⟨5, .data⟩, by simp, rfl, rfl⟩)
            refine Or.inl ⟨(RY.wanted_at rfl rfl rfl gd).trans rfl, Or.inr ⟨61, #[.agg #[.string c0, .slice a1 n1 c1, .bool m, .slice a3 n3 c3], .slice ax x.ws.length cx], by simp [go_sem, e32, e34], (HTK.out X hX).mono ?_⟩⟩
            rintro e W' ⟨rfl, hb⟩
            exact ⟨_, rfl, hb, rfl⟩
          | 7, ho =>
            injection ho with ho; subst ho
            have gd := hd 2 _ 31 rfl rfl ⟨⟨2, .guard⟩, by simp, rfl, rfl⟩
            have e35 : a.tmps[35]?.getD undef = .bool true := (RY.ev_tmp a 35).trans (hd 6 _ 35 rfl rfl ⟨⟨6, .data⟩, by simp, rfl, rfl⟩)
            exact Or.inl ⟨(RY.wanted_at rfl rfl rfl gd).trans rfl, Or.inl ⟨.bool false, X, by simp [execOp, go_sem, e35], Below.refl _ _, rfl⟩⟩
          | 8, ho =>
            injection ho with ho; subst ho
            have e31 : a.tmps[31]?.getD undef = .bool false := (RY.ev_tmp a 31).trans (hd 2 _ 31 rfl rfl ⟨⟨2, .data⟩, by simp, rfl, rfl⟩)
            have e36 : a.tmps[36]?.getD undef = .bool false := (RY.ev_tmp a 36).trans (hd 7 _ 36 rfl rfl ⟨⟨7, .data⟩, by simp, rfl, rfl⟩)
            exact Or.inl ⟨RY.wanted_no rfl, Or.inl ⟨.bool false, X, by simp [execOp, go_sem, e31, e36], Below.refl _ _, rfl⟩⟩
          | 9, ho =>
            injection ho with ho; subst ho
            have e37 : a.tmps[37]?.getD undef = .bool false := (RY.ev_tmp a 37).trans (hd 8 _ 37 rfl rfl ⟨⟨8, .data⟩, by simp, rfl, rfl⟩)
            exact Or.inl ⟨RY.wanted_no rfl, Or.inl ⟨.bool false, X, by simp [execOp, go_sem, e37], Below.refl _ _, rfl⟩⟩
          | 10, ho =>
            injection ho with ho; subst ho
            have gd := hd 9 _ 38 rfl rfl ⟨⟨9, .guard⟩, by simp, rfl, rfl⟩
            have e5 : a.tmps[5]?.getD undef = .map (some (b0 + 1)) := (RY.ev_tmp a 5).trans ((hk 5 (by kernel_rfl)).trans rfl)
            exact Or.inl ⟨(RY.wanted_at rfl rfl rfl gd).trans rfl, Or.inl ⟨.map (some (b0 + 1)), X, by simp [execOp, go_sem, e5], Below.refl _ _, rfl⟩⟩
          | 11, ho =>
            injection ho with ho; subst ho
            have gd := hd 9 _ 38 rfl rfl ⟨⟨9, .guard⟩, by simp, rfl, rfl⟩
            have e7 : a.tmps[7]?.getD undef = .pointer (some ⟨bl, 0, none⟩) := (RY.ev_tmp a 7).trans ((hk 7 (by kernel_rfl)).trans rfl)
            exact Or.inl ⟨(RY.wanted_at rfl rfl rfl gd).trans rfl, Or.inl ⟨.pointer (some ⟨bl, 0, none⟩), X, by simp [execOp, go_sem, e7], Below.refl _ _, rfl⟩⟩
          | 12, ho =>
            injection ho with ho; subst ho
            have gd := hd 9 _ 38 rfl rfl ⟨⟨9, .guard⟩, by simp, rfl, rfl⟩
            have e40 : a.tmps[40]?.getD undef = .pointer (some ⟨bl, 0, none⟩) := (RY.ev_tmp a 40).trans (hd 11 _ 40 rfl rfl ⟨⟨11, .data⟩, by simp, rfl, rfl⟩)
            have ycl_ := zbl.get 0 _ rfl
            exact Or.inl ⟨(RY.wanted_at rfl rfl rfl gd).trans rfl, Or.inl ⟨.string x.key, X, by simp [execOp, go_sem, e40, ycl_], Below.refl _ _, rfl⟩⟩
          | 13, ho =>
            injection ho with ho; subst ho
            have gd := hd 9 _ 38 rfl rfl ⟨⟨9, .guard⟩, by simp, rfl, rfl⟩
            have e39 : a.tmps[39]?.getD undef = .map (some (b0 + 1)) := (RY.ev_tmp a 39).trans (hd 10 _ 39 rfl rfl ⟨⟨10, .data⟩, by simp, rfl, rfl⟩)
            have e41 : a.tmps[41]?.getD undef = .string x.key := (RY.ev_tmp a 41).trans (hd 12 _ 41 rfl rfl ⟨⟨12, .data⟩, by simp, rfl, rfl⟩)
            have hlk := cm_look (HMP.out X hX) x.key
            rw [HGT.out] at hlk
            exact Or.inl ⟨(RY.wanted_at rfl rfl rfl gd).trans rfl, Or.inl ⟨_, X, by simp [execOp, go_sem, e39, e41, hlk], Below.refl _ _, rfl⟩⟩
          | 14, ho =>
            injection ho with ho; subst ho
            have gd := hd 9 _ 38 rfl rfl ⟨⟨9, .guard⟩, by simp, rfl, rfl⟩
            have v8 : a.eval (.tmp 8) = .pointer (some ⟨br, 0, none⟩) := (hk 8 (by kernel_rfl)).trans rfl
            exact Or.inl ⟨(RY.wanted_at rfl rfl rfl gd).trans rfl, Or.inl ⟨_, X, exec_load_mid 73 _ rfl br 0 v8 [.string c0, .slice a1 n1 c1, .bool m, .slice a3 n3 c3] _ zbr.at_ Try.underlying73 rfl (by kernel_rfl), Below.refl _ _, rfl⟩⟩
          | 15, ho =>
            injection ho with ho; subst ho
            have gd := hd 9 _ 38 rfl rfl ⟨⟨9, .guard⟩, by simp, rfl, rfl⟩
            have e43 : a.tmps[43]?.getD undef = .agg #[.string c0, .slice a1 n1 c1, .bool m, .slice a3 n3 c3] := (RY.ev_tmp a 43).trans (hd 14 _ 43 rfl rfl ⟨⟨14, .data⟩, by simp, rfl, rfl⟩)
            refine Or.inl ⟨(RY.wanted_at rfl rfl rfl gd).trans rfl, Or.inr ⟨62, #[.agg #[.string c0, .slice a1 n1 c1, .bool m, .slice a3 n3 c3]], by simp [go_sem, e43], (HMO.out X).mono ?_⟩⟩
            rintro e W' ⟨rfl, hb⟩
            exact ⟨_, rfl, hb, rfl⟩
          | 16, ho =>
            injection ho with ho; subst ho
            have gd := hd 9 _ 38 rfl rfl ⟨⟨9, .guard⟩, by simp, rfl, rfl⟩
            have e42 : a.tmps[42]?.getD undef = .int .i64 ((nn + 1 : Nat) : Int) := (RY.ev_tmp a 42).trans (hd 13 _ 42 rfl rfl ⟨⟨13, .data⟩, by simp, rfl, rfl⟩)
            have e44 : a.tmps[44]?.getD undef = .int .i64 mo := (RY.ev_tmp a 44).trans (hd 15 _ 44 rfl rfl ⟨⟨15, .data⟩, by simp, rfl, rfl⟩)
            exact Or.inl ⟨(RY.wanted_at rfl rfl rfl gd).trans rfl, Or.inl ⟨.bool (decide (mo < ((nn + 1 : Nat) : Int))), X, by simp [execOp, go_sem, e42, e44], Below.refl _ _, rfl⟩⟩
          | 17, ho =>
            injection ho with ho; subst ho
            have e38 : a.tmps[38]?.getD undef = .bool false := (RY.ev_tmp a 38).trans (hd 9 _ 38 rfl rfl ⟨⟨9, .data⟩, by simp, rfl, rfl⟩)
            have e45 : a.tmps[45]?.getD undef = .bool (decide (mo < ((nn + 1 : Nat) : Int))) := (RY.ev_tmp a 45).trans (hd 16 _ 45 rfl rfl ⟨⟨16, .data⟩, by simp, rfl, rfl⟩)
            exact Or.inl ⟨RY.wanted_no rfl, Or.inl ⟨.bool (decide (mo < ((nn + 1 : Nat) : Int))), X, by simp [execOp, go_sem, e38, e45], Below.refl _ _, rfl⟩⟩
          | n + 18, ho => simp at ho
        intro X vs hX hvs
        have q46 : vs 46 = _ := hvs 17 _ 46 rfl rfl
        simp only [RY.putAll, Act.put, List.setIfInBounds_toArray, List.set_cons_zero, List.set_cons_succ]
        rw [q46]
        generalize vs 29 = s29
        generalize vs 30 = s30
        generalize vs 31 = s31
        generalize vs 32 = s32
        generalize vs 33 = s33
        generalize vs 34 = s34
        generalize vs 35 = s35
        generalize vs 36 = s36
        generalize vs 37 = s37
        generalize vs 38 = s38
        generalize vs 39 = s39
        generalize vs 40 = s40
        generalize vs 41 = s41
        generalize vs 42 = s42
        generalize vs 43 = s43
        generalize vs 44 = s44
        generalize vs 45 = s45
        clear hvs q46
        by_cases hmo : mo < ((nn + 1 : Nat) : Int)
        · have d0 : decide (mo < ((nn + 1 : Nat) : Int)) = true := decide_eq_true hmo
          rw [d0]
          clear d0
          go_wp2
          go_ret
          exact ⟨Pl.ret_bool (HBAD.out hmo).symm, blw_trans HBM.out hX⟩
        · have d0 : decide (mo < ((nn + 1 : Nat) : Int)) = false := decide_eq_false hmo
          rw [d0]
          clear d0
          have HOK := uh (HGOOD.out hmo)
          go_wp2
          go_roundw
          case rel => exact ⟨k + 1, _, _, by omega, by go_num, HOK.out, HKM.out.later hX, HMP.out X hX, HGA.out, blw_trans HBM.out hX⟩
          case measure => simp [intOf]; omega
end Go.Proofs.Ytojcopamegmeeaa

namespace Go.Proofs.Ytojcopamegmeeaa
open Go.RowKit Go.Deep

theorem bl_irrefl : ∀ l : List UInt8, Op.bytesLess l l = false
  | [] => rfl
  | a :: x => by unfold Op.bytesLess; rw [bl_irrefl x]; simp
theorem tx_eq {a b : ByteArray} (h : Pl.txEq a b = true) : a = b := tl_inj h
theorem tx_irrefl (a : ByteArray) : Pl.txLt a a = false := bl_irrefl _
theorem keyCmp_neg (a b : ByteArray) : keyCmp a b < 0 ↔ Pl.txLt a b = true := by
  unfold keyCmp
  cases Pl.txLt a b
  · cases a.toList == b.toList <;> simp
  · simp
theorem keyCmp_zero (a b : ByteArray) : keyCmp a b = 0 ↔ Pl.txEq a b = true := by
  unfold keyCmp
  cases h : Pl.txEq a b
  · have h' : (a.toList == b.toList) = false := h
    rw [h']
    cases Pl.txLt a b <;> simp
  · have := tx_eq h
    subst this
    rw [tx_irrefl]
    simp
theorem cmpW_neg : ∀ A B : List ByteArray, cmpW A B < 0 ↔ Pl.lessW A B = true
  | [], [] => by unfold cmpW Pl.lessW <;> simp
  | [], _ :: _ => by unfold cmpW Pl.lessW <;> simp
  | _ :: _, [] => by unfold cmpW Pl.lessW <;> simp
  | a :: x, b :: y => by
    unfold cmpW Pl.lessW
    cases h : Pl.txEq a b
    · have h0 : ¬ keyCmp a b = 0 := fun e => by rw [(keyCmp_zero a b).1 e] at h; cases h
      rw [if_neg h0]; simp only [Bool.false_eq_true, if_false]
      exact keyCmp_neg a b
    · rw [if_pos ((keyCmp_zero a b).2 h)]; simp only [if_true]
      exact cmpW_neg x y
theorem numCmp_neg (a b : Int) : numCmp a b < 0 ↔ a < b := by unfold numCmp; split <;> (try split) <;> simp_all
theorem numCmp_zero (a b : Int) : numCmp a b = 0 ↔ a = b := by unfold numCmp; split <;> (try split) <;> constructor <;> intro h <;> omega
theorem cmpBl_neg (x y : Pl.Bl) : decide (cmpBl x y < 0) = Pl.ahead x y := by
  unfold cmpBl pick2 Pl.ahead
  by_cases h : keyCmp x.kind y.kind = 0
  · rw [if_pos h]
    have e := (keyCmp_zero _ _).1 h
    have e2 := tx_eq e
    rw [e, e2, tx_irrefl, Bool.false_or, Bool.true_and]
    rw [Bool.eq_iff_iff, decide_eq_true_iff]; exact keyCmp_neg _ _
  · rw [if_neg h]
    have e : Pl.txEq x.kind y.kind = false := by
      cases q : Pl.txEq x.kind y.kind
      · rfl
      · exact absurd ((keyCmp_zero _ _).2 q) h
    rw [e, Bool.false_and, Bool.or_false]
    rw [Bool.eq_iff_iff, decide_eq_true_iff]; exact keyCmp_neg _ _
theorem cmpLn_neg (kind : ByteArray) (x y : Pl.Ln) : decide (cmpLn (Pl.rulesOf kind) x y < 0) = Pl.lineLess kind x y := by
  have hu : cmpLn (Pl.rulesOf kind) x y = pick2 (numCmp (Pl.ruPos kind x.key) (Pl.ruPos kind y.key)) (cmpW x.ws y.ws) := rfl
  rw [hu]
  unfold pick2 Pl.lineLess
  by_cases h : numCmp (Pl.ruPos kind x.key) (Pl.ruPos kind y.key) = 0
  · rw [if_pos h]
    have e := (numCmp_zero _ _).1 h
    rw [e]
    have : decide (Pl.ruPos kind y.key < Pl.ruPos kind y.key) = false := decide_eq_false (by omega)
    rw [this]
    simp only [Bool.false_or, BEq.rfl, Bool.true_and]
    rw [Bool.eq_iff_iff, decide_eq_true_iff]; exact cmpW_neg _ _
  · rw [if_neg h]
    have e : (Pl.ruPos kind x.key == Pl.ruPos kind y.key) = false := by
      rw [beq_eq_false_iff_ne]; exact fun q => h ((numCmp_zero _ _).2 q)
    rw [e, Bool.false_and, Bool.or_false]
    rw [Bool.eq_iff_iff, decide_eq_true_iff, decide_eq_true_iff]; exact numCmp_neg _ _
theorem all_shift (n : Nat) (f : Nat → Bool) (g : Nat → Nat → Bool) : (List.range n).all (fun i => f i && (decide (i = 0) || g (i - 1) i)) = ((List.range n).all f && (List.range (n - 1)).all (fun i => g i (i + 1))) := by
  rw [Bool.eq_iff_iff]
  simp only [Bool.and_eq_true, List.all_eq_true, List.mem_range, Bool.or_eq_true, decide_eq_true_iff]
  constructor
  · intro h
    refine ⟨fun i hi => (h i hi).1, fun i hi => ?_⟩
    rcases (h (i + 1) (by omega)).2 with e | e
    · omega
    · exact e
  · rintro ⟨h1, h2⟩ i hi
    refine ⟨h1 i hi, ?_⟩
    cases i with
    | zero => exact Or.inl rfl
    | succ i => exact Or.inr (h2 i (by omega))
theorem cnt_eq (m : Bool) (n : Nat) : (!decide ((if m then (10 : Int) else 1) < (n : Nat))) = Pl.cntOk m n := by
  unfold Pl.cntOk
  cases m
  · rw [Bool.eq_iff_iff]; simp; omega
  · rw [Bool.eq_iff_iff]; simp; omega
theorem holds_eq (kind : ByteArray) (L : List Pl.Ln) : holdsP (Pl.rulesOf kind) L = Pl.linesOk kind L := by
  unfold holdsP Pl.linesOk ascLn
  have e1 : Pl.lineOkAt kind L = fun i => (Pl.lineOkL (Pl.rulesOf kind) L i) && (decide (i = 0) || Pl.lineLess kind (L.getD (i - 1) Pl.lnNo) (L.getD i Pl.lnNo)) := by
    funext i
    unfold Pl.lineOkAt Pl.lineOkL
    rw [cnt_eq]
    have a1 : Pl.sheetFits kind (L.getD i Pl.lnNo).key (L.getD i Pl.lnNo).ws = Pl.fitsL (Pl.rulesOf kind) (L.getD i Pl.lnNo).key (L.getD i Pl.lnNo).ws := rfl
    have a2 : Pl.manyOf kind (L.getD i Pl.lnNo).key = Pl.manyL (Pl.rulesOf kind) (L.getD i Pl.lnNo).key := rfl
    rw [a1, a2, Bool.and_assoc, Bool.and_assoc]
    congr 1
    exact Bool.and_comm _ _
  rw [e1, all_shift L.length (Pl.lineOkL (Pl.rulesOf kind) L) (fun i j => Pl.lineLess kind (L.getD i Pl.lnNo) (L.getD j Pl.lnNo))]
  congr 1
  congr 1
  funext i
  exact cmpLn_neg kind _ _
/-- One block by itself. -/
def blkP (b : Pl.Bl) : Bool := !decide ((Pl.rulesOf b.kind).length = 0) && Pl.nameOk20 b.name && holdsP (Pl.rulesOf b.kind) b.lines
theorem valid_eq (s : List Pl.Bl) : Pl.validS s = (decide (s.length ≤ 60) && (ascBl s && (List.range s.length).all fun i => blkP (s.getD i Pl.blNo))) := by
  unfold Pl.validS
  congr 1
  have e1 : Pl.blockOkAt s = fun i => blkP (s.getD i Pl.blNo) && (decide (i = 0) || Pl.ahead (s.getD (i - 1) Pl.blNo) (s.getD i Pl.blNo)) := by
    funext i
    unfold Pl.blockOkAt blkP
    rw [holds_eq]
  rw [e1, all_shift s.length (fun i => blkP (s.getD i Pl.blNo)) (fun i j => Pl.ahead (s.getD i Pl.blNo) (s.getD j Pl.blNo)), Bool.and_comm]
  congr 1
  unfold ascBl
  congr 1
  funext i
  exact (cmpBl_neg _ _).symm

end Go.Proofs.Ytojcopamegmeeaa

namespace Go.Proofs.Ytojcopamegmeeaa
open Go.RowKit Go.Deep

/-- An order, and the comparison that tells it. -/
structure Tot {α : Type} (lt : α → α → Bool) (cmp : α → α → Int) : Prop where
  neg : ∀ a b, cmp a b < 0 ↔ lt a b = true
  tr : ∀ a b c, lt a b = true → lt b c = true → lt a c = true
  tri : ∀ a b, lt a b = false → cmp a b ≠ 0 → lt b a = true
  eqr : ∀ a b c, cmp b c = 0 → lt a b = true → lt a c = true
/-- How many are ahead of it. -/
def plOf {α : Type} (lt : α → α → Bool) (l : List α) (t : α) : Nat := (l.takeWhile (fun y => lt y t)).length
theorem pl_le {α : Type} (lt : α → α → Bool) (l : List α) (t : α) : plOf lt l t ≤ l.length := by
  unfold plOf
  have := (List.takeWhile_prefix (l := l) (fun y => lt y t)).length_le
  exact this
theorem tw_true {α : Type} (d : α) (p : α → Bool) : ∀ (l : List α) (i : Nat), i < (l.takeWhile p).length → p (l.getD i d) = true
  | [], i, h => by simp at h
  | y :: l, i, h => by
    rw [List.takeWhile_cons] at h
    split at h
    · rename_i hy
      cases i with
      | zero => exact hy
      | succ i =>
        rw [List.length_cons] at h
        have := tw_true d p l i (by omega)
        simpa using this
    · simp at h
theorem tw_false {α : Type} (d : α) (p : α → Bool) : ∀ (l : List α), (l.takeWhile p).length < l.length → p (l.getD (l.takeWhile p).length d) = false
  | [], h => by simp at h
  | y :: l, h => by
    rw [List.takeWhile_cons] at h ⊢
    split
    · rename_i hy
      rw [if_pos hy] at h
      have := tw_false d p l (by simpa using h)
      simpa using this
    · rename_i hy
      simpa using hy
theorem pw_at {α : Type} {R : α → α → Prop} {l : List α} (d : α) (h : l.Pairwise R) {i j : Nat} (hij : i < j) (hj : j < l.length) : R (l.getD i d) (l.getD j d) := by
  have hi : i < l.length := by omega
  have e1 : l.getD i d = l[i] := by simp [hi]
  have e2 : l.getD j d = l[j] := by simp [hj]
  rw [e1, e2]
  exact List.pairwise_iff_getElem.1 h i j hi hj hij
theorem pl_head {α : Type} {lt : α → α → Bool} {cmp : α → α → Int} (T : Tot lt cmp) (d : α) (l : List α) (t : α) : ∀ i, i < plOf lt l t → cmp (l.getD i d) t < 0 := fun i hi => (T.neg _ _).2 (tw_true d (fun y => lt y t) l i hi)
theorem pl_tail {α : Type} {lt : α → α → Bool} {cmp : α → α → Int} (T : Tot lt cmp) (d : α) {l : List α} (h : l.Pairwise fun a b => lt a b = true) (t : α) : ∀ i, plOf lt l t ≤ i → i < l.length → 0 ≤ cmp (l.getD i d) t := fun i hi hl => by
  have hf := tw_false d (fun y => lt y t) l (Nat.lt_of_le_of_lt hi hl)
  by_cases e : cmp (l.getD i d) t < 0
  · have h1 := (T.neg _ _).1 e
    exfalso
    by_cases q : plOf lt l t = i
    · subst q
      unfold plOf at h1
      rw [hf] at h1; cases h1
    · have h2 := pw_at d h (i := plOf lt l t) (j := i) (by omega) hl
      have h3 := T.tr _ _ _ h2 h1
      unfold plOf at h3
      rw [hf] at h3; cases h3
  · omega
theorem pl_found {α : Type} {lt : α → α → Bool} {cmp : α → α → Int} (T : Tot lt cmp) (d : α) {l : List α} (h : l.Pairwise fun a b => lt a b = true) (t : α) : (∃ y ∈ l, cmp y t = 0) ↔ (plOf lt l t < l.length ∧ cmp (l.getD (plOf lt l t) d) t = 0) := by
  constructor
  · rintro ⟨y, hy, e⟩
    obtain ⟨i, hi, rfl⟩ := List.getElem_of_mem hy
    have eg : l.getD i d = l[i] := by simp [hi]
    have h1 : plOf lt l t ≤ i := by
      refine Nat.le_of_not_lt fun q => ?_
      have := pl_head T d l t i q
      rw [eg, e] at this; omega
    have h2 : i = plOf lt l t := by
      refine Nat.le_antisymm (Nat.le_of_not_lt fun q => ?_) h1
      have h3 := pw_at d h q hi
      rw [eg] at h3
      have h4 := T.eqr _ _ _ e h3
      have hf := tw_false d (fun y => lt y t) l (by show plOf lt l t < _; omega)
      unfold plOf at h4
      rw [hf] at h4; cases h4
    rw [← h2]
    exact ⟨hi, by rw [eg]; exact e⟩
  · rintro ⟨h1, h2⟩
    have eg : l.getD (plOf lt l t) d = l[plOf lt l t] := by simp [h1]
    exact ⟨_, List.getElem_mem h1, by rw [← eg]; exact h2⟩
theorem put_split {α : Type} (lt : α → α → Bool) (l : List α) (t : α) : Pl.putAt (fun y => lt y t) l t = l.take (plOf lt l t) ++ t :: l.drop (plOf lt l t) := by
  have e := List.takeWhile_append_dropWhile (p := fun y => lt y t) (l := l)
  have h1 : l.take (plOf lt l t) = l.takeWhile (fun y => lt y t) := by
    have q := List.take_left (l₁ := l.takeWhile (fun y => lt y t)) (l₂ := l.dropWhile (fun y => lt y t))
    rw [e] at q; exact q
  have h2 : l.drop (plOf lt l t) = l.dropWhile (fun y => lt y t) := by
    have q := List.drop_left (l₁ := l.takeWhile (fun y => lt y t)) (l₂ := l.dropWhile (fun y => lt y t))
    rw [e] at q; exact q
  rw [h1, h2]; rfl
theorem pl_pair {α : Type} {lt : α → α → Bool} {cmp : α → α → Int} (T : Tot lt cmp) (d : α) {l : List α} (h : l.Pairwise fun a b => lt a b = true) (t : α) (hn : ¬ (plOf lt l t < l.length ∧ cmp (l.getD (plOf lt l t) d) t = 0)) : (l.take (plOf lt l t) ++ t :: l.drop (plOf lt l t)).Pairwise fun a b => lt a b = true := by
  have hnf : ∀ y ∈ l, cmp y t ≠ 0 := fun y hy e => hn ((pl_found T d h t).1 ⟨y, hy, e⟩)
  rw [List.pairwise_append]
  refine ⟨h.sublist (List.take_sublist _ _), ?_, fun a ha b hb => ?_⟩
  · rw [List.pairwise_cons]
    refine ⟨fun b hb => ?_, h.sublist (List.drop_sublist _ _)⟩
    obtain ⟨i, hi, rfl⟩ := List.getElem_of_mem hb
    rw [List.length_drop] at hi
    have hl : plOf lt l t + i < l.length := by omega
    rw [List.getElem_drop]
    have h1 := pl_tail T d h t (plOf lt l t + i) (Nat.le_add_right _ _) hl
    have eg : l.getD (plOf lt l t + i) d = l[plOf lt l t + i] := by simp [hl]
    rw [eg] at h1
    refine T.tri _ _ ?_ (hnf _ (List.getElem_mem hl))
    cases hq : lt l[plOf lt l t + i] t
    · rfl
    · have := (T.neg _ _).2 hq; omega
  · obtain ⟨i, hi, rfl⟩ := List.getElem_of_mem ha
    rw [List.length_take] at hi
    have hl : i < l.length := by omega
    rw [List.getElem_take]
    have h1 := (T.neg _ _).1 (pl_head T d l t i (by omega))
    have eg : l.getD i d = l[i] := by simp [hl]
    rw [eg] at h1
    rcases List.mem_cons.1 hb with rfl | q
    · exact h1
    · obtain ⟨j, hj, rfl⟩ := List.getElem_of_mem q
      rw [List.length_drop] at hj
      rw [List.getElem_drop]
      exact List.pairwise_iff_getElem.1 h i (plOf lt l t + j) hl (by omega) (by omega)

theorem bl_trans : ∀ a b c : List UInt8, Op.bytesLess a b = true → Op.bytesLess b c = true → Op.bytesLess a c = true
  | _, _, [], _, h => by unfold Op.bytesLess at h; cases h
  | _, [], _ :: _, h, _ => by unfold Op.bytesLess at h; cases h
  | [], _ :: _, _ :: _, _, _ => by unfold Op.bytesLess; rfl
  | x :: a, y :: b, z :: c, h1, h2 => by
    unfold Op.bytesLess at h1 h2 ⊢
    simp only [Bool.or_eq_true, Bool.and_eq_true, decide_eq_true_iff, beq_iff_eq] at h1 h2 ⊢
    rcases h1 with h1 | ⟨e1, h1⟩
    · rcases h2 with h2 | ⟨e2, _⟩
      · exact Or.inl (UInt8.lt_trans h1 h2)
      · exact Or.inl (e2 ▸ h1)
    · rcases h2 with h2 | ⟨e2, h2⟩
      · exact Or.inl (e1 ▸ h2)
      · exact Or.inr ⟨e1.trans e2, bl_trans a b c h1 h2⟩
theorem bl_tri : ∀ a b : List UInt8, Op.bytesLess a b = false → (a == b) = false → Op.bytesLess b a = true
  | [], [], _, h => by simp at h
  | [], _ :: _, h, _ => by unfold Op.bytesLess at h; cases h
  | _ :: _, [], _, _ => by unfold Op.bytesLess; rfl
  | x :: a, y :: b, h1, h2 => by
    unfold Op.bytesLess at h1 ⊢
    simp only [Bool.or_eq_false_iff, Bool.and_eq_false_iff, decide_eq_false_iff_not, Bool.or_eq_true, Bool.and_eq_true, decide_eq_true_iff, beq_iff_eq] at h1 ⊢
    by_cases e : x = y
    · subst e
      refine Or.inr ⟨rfl, bl_tri a b ?_ ?_⟩
      · rcases h1.2 with q | q
        · simp at q
        · exact q
      · rw [beq_eq_false_iff_ne] at h2 ⊢
        exact fun q => h2 (by rw [q])
    · refine Or.inl ?_
      have h3 := h1.1
      rw [UInt8.lt_iff_toNat_lt] at h3 ⊢
      have : x.toNat ≠ y.toNat := fun q => e (UInt8.toNat_inj.1 q)
      omega
theorem totKey : Tot Pl.txLt keyCmp where
  neg := keyCmp_neg
  tr := fun a b c => bl_trans _ _ _
  tri := fun a b h hc => bl_tri _ _ h (by
    cases q : (a.toList == b.toList)
    · rfl
    · exact absurd ((keyCmp_zero a b).2 q) hc)
  eqr := fun a b c h hl => by rw [← tx_eq ((keyCmp_zero b c).1 h)]; exact hl
/-- First by one, then by the other. -/
theorem Tot.lex {α β γ : Type} {lt1 : β → β → Bool} {c1 : β → β → Int} {lt2 : γ → γ → Bool} {c2 : γ → γ → Int} (f : α → β) (g : α → γ) (T1 : Tot lt1 c1) (T2 : Tot lt2 c2) (i1 : ∀ a b c, c1 a b = 0 → lt1 b c = true → lt1 a c = true) (s1 : ∀ a b, c1 a b = 0 → c1 b a = 0) (t1 : ∀ a b c, c1 a b = 0 → c1 b c = 0 → c1 a c = 0)
    (lt : α → α → Bool) (cmp : α → α → Int) (hc : ∀ a b, cmp a b = pick2 (c1 (f a) (f b)) (c2 (g a) (g b))) (hn : ∀ a b, cmp a b < 0 ↔ lt a b = true) : Tot lt cmp := by
  have key : ∀ a b, lt a b = true ↔ (lt1 (f a) (f b) = true ∨ (c1 (f a) (f b) = 0 ∧ lt2 (g a) (g b) = true)) := fun a b => by
    rw [← hn, hc]
    unfold pick2
    by_cases h : c1 (f a) (f b) = 0
    · rw [if_pos h]
      have h0 : ¬ lt1 (f a) (f b) = true := fun q => by have := (T1.neg _ _).2 q; omega
      constructor
      · exact fun q => Or.inr ⟨h, (T2.neg _ _).1 q⟩
      · rintro (q | ⟨_, q⟩)
        · exact absurd q h0
        · exact (T2.neg _ _).2 q
    · rw [if_neg h]
      constructor
      · exact fun q => Or.inl ((T1.neg _ _).1 q)
      · rintro (q | ⟨q, _⟩)
        · exact (T1.neg _ _).2 q
        · exact absurd q h
  have zero : ∀ a b, cmp a b = 0 ↔ (c1 (f a) (f b) = 0 ∧ c2 (g a) (g b) = 0) := fun a b => by
    rw [hc]; unfold pick2
    by_cases h : c1 (f a) (f b) = 0
    · rw [if_pos h]; simp [h]
    · rw [if_neg h]; simp [h]
  refine ⟨hn, fun a b c h1 h2 => ?_, fun a b h1 h2 => ?_, fun a b c h1 h2 => ?_⟩
  · rw [key] at h1 h2 ⊢
    rcases h1 with h1 | ⟨e1, h1⟩
    · rcases h2 with h2 | ⟨e2, _⟩
      · exact Or.inl (T1.tr _ _ _ h1 h2)
      · exact Or.inl (T1.eqr _ _ _ e2 h1)
    · rcases h2 with h2 | ⟨e2, h2⟩
      · exact Or.inl (i1 _ _ _ e1 h2)
      · exact Or.inr ⟨t1 _ _ _ e1 e2, T2.tr _ _ _ h1 h2⟩
  · rw [key]
    have hnk : ¬ (lt1 (f a) (f b) = true ∨ (c1 (f a) (f b) = 0 ∧ lt2 (g a) (g b) = true)) := fun q => by rw [(key a b).2 q] at h1; cases h1
    by_cases e : c1 (f a) (f b) = 0
    · refine Or.inr ⟨s1 _ _ e, T2.tri _ _ ?_ (fun q => h2 ((zero a b).2 ⟨e, q⟩))⟩
      cases q : lt2 (g a) (g b)
      · rfl
      · exact absurd (Or.inr ⟨e, q⟩) hnk
    · refine Or.inl (T1.tri _ _ ?_ e)
      cases q : lt1 (f a) (f b)
      · rfl
      · exact absurd (Or.inl q) hnk
  · obtain ⟨e1, e2⟩ := (zero b c).1 h1
    rw [key] at h2 ⊢
    rcases h2 with h2 | ⟨q1, q2⟩
    · exact Or.inl (T1.eqr _ _ _ e1 h2)
    · exact Or.inr ⟨t1 _ _ _ q1 e1, T2.eqr _ _ _ e2 q2⟩
theorem key_sym {a b : ByteArray} (h : keyCmp a b = 0) : keyCmp b a = 0 := by
  have := tx_eq ((keyCmp_zero a b).1 h)
  subst this; exact h
theorem key_tr {a b c : ByteArray} (h : keyCmp a b = 0) (k : keyCmp b c = 0) : keyCmp a c = 0 := by
  have := tx_eq ((keyCmp_zero a b).1 h)
  subst this; exact k
theorem totBl : Tot Pl.ahead cmpBl :=
  Tot.lex Pl.Bl.kind Pl.Bl.name totKey totKey (fun a b c h k => by rw [tx_eq ((keyCmp_zero a b).1 h)]; exact k) (fun _ _ => key_sym) (fun _ _ _ => key_tr) _ _ (fun _ _ => rfl) (fun a b => by rw [← cmpBl_neg, decide_eq_true_iff])
theorem cmpW_zero : ∀ A B : List ByteArray, cmpW A B = 0 ↔ A = B
  | [], [] => by unfold cmpW; simp
  | [], _ :: _ => by unfold cmpW; simp
  | _ :: _, [] => by unfold cmpW; simp
  | a :: x, b :: y => by
    unfold cmpW
    by_cases h : keyCmp a b = 0
    · have e := tx_eq ((keyCmp_zero a b).1 h)
      subst e
      rw [if_pos h, cmpW_zero x y]; simp
    · rw [if_neg h]
      constructor
      · exact fun q => absurd q h
      · intro q
        injection q with q1 _
        subst q1
        exact absurd ((keyCmp_zero a a).2 (by unfold Pl.txEq; simp)) h
theorem lessW_tr : ∀ A B C : List ByteArray, cmpW A B < 0 → cmpW B C < 0 → cmpW A C < 0
  | _, [], [], _, h => by unfold cmpW at h; omega
  | [], _, _ :: _, _, _ => by unfold cmpW; omega
  | _ :: _, [], _, h, _ => by unfold cmpW at h; omega
  | [], _ :: _, [], _, h => by unfold cmpW at h; omega
  | _ :: _, _ :: _, [], _, h => by unfold cmpW at h; omega
  | a :: x, b :: y, c :: z, h1, h2 => by
    unfold cmpW at h1 h2 ⊢
    by_cases e1 : keyCmp a b = 0
    · have q1 := tx_eq ((keyCmp_zero a b).1 e1)
      subst q1
      rw [if_pos e1] at h1
      by_cases e2 : keyCmp a c = 0
      · rw [if_pos e2] at h2 ⊢
        exact lessW_tr x y z h1 h2
      · rw [if_neg e2] at h2 ⊢
        exact h2
    · rw [if_neg e1] at h1
      by_cases e2 : keyCmp b c = 0
      · have q2 := tx_eq ((keyCmp_zero b c).1 e2)
        subst q2
        rw [if_neg e1]; exact h1
      · rw [if_neg e2] at h2
        have h3 := totKey.tr a b c ((totKey.neg _ _).1 h1) ((totKey.neg _ _).1 h2)
        have h4 := (totKey.neg _ _).2 h3
        rw [if_neg (by omega)]; exact h4
theorem lessW_tri : ∀ A B : List ByteArray, ¬ cmpW A B < 0 → cmpW A B ≠ 0 → cmpW B A < 0
  | [], [], _, h => by unfold cmpW at h; omega
  | [], _ :: _, h, _ => by unfold cmpW at h; omega
  | _ :: _, [], _, _ => by unfold cmpW; omega
  | a :: x, b :: y, h1, h2 => by
    unfold cmpW at h1 h2 ⊢
    by_cases e1 : keyCmp a b = 0
    · rw [if_pos e1] at h1 h2
      rw [if_pos (key_sym e1)]
      exact lessW_tri x y h1 h2
    · rw [if_neg e1] at h1 h2
      have h3 : Pl.txLt a b = false := by
        cases q : Pl.txLt a b
        · rfl
        · exact absurd ((totKey.neg _ _).2 q) h1
      have h4 := (totKey.neg _ _).2 (totKey.tri a b h3 e1)
      rw [if_neg (by omega)]; exact h4
theorem totW : Tot Pl.lessW cmpW where
  neg := cmpW_neg
  tr := fun a b c h k => (cmpW_neg _ _).1 (lessW_tr a b c ((cmpW_neg _ _).2 h) ((cmpW_neg _ _).2 k))
  tri := fun a b h k => (cmpW_neg _ _).1 (lessW_tri a b (fun q => by rw [(cmpW_neg _ _).1 q] at h; cases h) k)
  eqr := fun a b c h k => by rw [← (cmpW_zero b c).1 h]; exact k
theorem totNum : Tot (fun a b : Int => decide (a < b)) numCmp where
  neg := fun a b => by rw [numCmp_neg, decide_eq_true_iff]
  tr := fun a b c h k => by rw [decide_eq_true_iff] at h k ⊢; omega
  tri := fun a b h k => by
    rw [decide_eq_false_iff_not] at h
    rw [decide_eq_true_iff]
    have : a ≠ b := fun e => k ((numCmp_zero a b).2 e)
    omega
  eqr := fun a b c h k => by rw [← (numCmp_zero b c).1 h]; exact k
theorem totLn (kind : ByteArray) : Tot (Pl.lineLess kind) (cmpLn (Pl.rulesOf kind)) :=
  Tot.lex (fun x : Pl.Ln => Pl.ixI (Pl.ruIx (Pl.rulesOf kind) x.key)) Pl.Ln.ws totNum totW (fun a b c h k => by rw [(numCmp_zero a b).1 h]; exact k) (fun a b h => by rw [(numCmp_zero a b).1 h]; exact (numCmp_zero b b).2 rfl) (fun a b c h k => by rw [(numCmp_zero a b).1 h]; exact k) _ _ (fun _ _ => rfl) (fun a b => by rw [← cmpLn_neg, decide_eq_true_iff])

end Go.Proofs.Ytojcopamegmeeaa
