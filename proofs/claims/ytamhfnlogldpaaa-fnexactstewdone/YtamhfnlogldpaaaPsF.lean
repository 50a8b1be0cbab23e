/-
  Stewards: copies that are replaced one at a time, by the program.
-/
import Derived.Test.YtamhfnlogldpaaaStCo
import Derived.Test.YtamhfnlogldpaaaPut
import Derived.Test.YtamhfnlogldpaaaRegT
import Derived.Test.YtamhfnlogldpaaaPsA
import Derived.Test.YtamhfnlogldpaaaPsC
import Derived.Test.YtamhfnlogldpaaaOwV
namespace Go.Proofs.Ytamhfnlogldpaaa
open Go.RowKit Go.Deep

/-- The best of the first k copies. -/
def bestC (f : Cp → Cp → Int) (C : List Cp) : Nat → Cp
  | 0 => Cp.none
  | k + 1 => if (decide (k = 0) || decide (f (C.getD k Cp.none) (bestC f C k) < 0)) = true then C.getD k Cp.none else bestC f C k
/-- What is kept while the first to end is looked for. -/
structure FI (w wa wr : World) (b : Cp) : Prop where
  bx : BelX (w.heap.size + 1) wa wr
  fo : OwnBlk wr (w.heap.size + 1) 63 7
  ro : OwnBlk wr w.heap.size 63 7
  at_ : LBox wr (w.heap.size + 1) [.string b.svc, .int .i64 b.num, .int .i64 b.ver, .int .i64 b.image, .int .i64 b.state, .bool b.ending, .string b.berth]
theorem FI.later {w wa wr W : World} {b : Cp} (h : FI w wa wr b) (hb : Below wr.heap.size wr W) : FI w wa W b := ⟨h.bx.on hb, h.fo.later hb, h.ro.later hb, h.at_.later hb⟩
theorem FI.put {w wa wr : World} {b : Cp} (h : FI w wa wr b) (x : Cp) : FI w wa (wr.setCells (w.heap.size + 1) 0 [.string x.svc, .int .i64 x.num, .int .i64 x.ver, .int .i64 x.image, .int .i64 x.state, .bool x.ending, .string x.berth]) x := by
  have hs : (wr.setCells (w.heap.size + 1) 0 [.string x.svc, .int .i64 x.num, .int .i64 x.ver, .int .i64 x.image, .int .i64 x.state, .bool x.ending, .string x.berth]).heap.size = wr.heap.size := by simp [World.setCells, World.setCell]
  refine ⟨h.bx.scs _ _, RY.own_setCells _ 0 wr h.fo, ?_, ⟨by rw [hs]; exact h.at_.lt, World.rangeAt_setCells_same _ _ _ _ (RY.own_there h.fo)⟩⟩
  simp only [World.setCells]
  exact ((((((h.ro.sc_other (by omega) _ _).sc_other (by omega) _ _).sc_other (by omega) _ _).sc_other (by omega) _ _).sc_other (by omega) _ _).sc_other (by omega) _ _).sc_other (by omega) _ _

end Go.Proofs.Ytamhfnlogldpaaa

namespace Go.Proofs.Ytamhfnlogldpaaa
open Go.RowKit Go.Deep

/-- The three rules by which one ends ahead of another. -/
def rule3 (K : SBk) (s : Sv) (j : Nat) (c : Cp) : Bool := match j with
  | 0 => c.state != 3
  | 1 => c.image != s.image
  | _ => leaves K c
def sgn (b : Bool) : Int := if b then -1 else 1
def cmpE (K : SBk) (s : Sv) (x y : Cp) : Int :=
  if rule3 K s 0 x != rule3 K s 0 y then sgn (rule3 K s 0 x)
  else if rule3 K s 1 x != rule3 K s 1 y then sgn (rule3 K s 1 x)
  else if rule3 K s 2 x != rule3 K s 2 y then sgn (rule3 K s 2 x)
  else numCmp y.num x.num
theorem cmpE_at {K : SBk} {s : Sv} {x y : Cp} (k : Nat) (hk : k < 3) (h : ∀ j, j < k → rule3 K s j x = rule3 K s j y) (hn : rule3 K s k x ≠ rule3 K s k y) : cmpE K s x y = sgn (rule3 K s k x) := by
  unfold cmpE
  match k, hk with
  | 0, _ => rw [if_pos (by simpa using hn)]
  | 1, _ => rw [if_neg (by simp [h 0 (by omega)]), if_pos (by simpa using hn)]
  | 2, _ => rw [if_neg (by simp [h 0 (by omega)]), if_neg (by simp [h 1 (by omega)]), if_pos (by simpa using hn)]
theorem cmpE_end {K : SBk} {s : Sv} {x y : Cp} (h : ∀ j, j < 3 → rule3 K s j x = rule3 K s j y) : cmpE K s x y = numCmp y.num x.num := by
  unfold cmpE
  rw [if_neg (by simp [h 0 (by omega)]), if_neg (by simp [h 1 (by omega)]), if_neg (by simp [h 2 (by omega)])]

end Go.Proofs.Ytamhfnlogldpaaa

namespace Go.Proofs.Ytamhfnlogldpaaa
open Go.RowKit Go.Deep

theorem load_mid_g {P : Program} {ops : Array Oper} {rest : List Oper} {op : Oper} {a : Act} {w : World} {Q : Exit → Act → World → Prop} (hw : Region.wanted op (yielded ops a.tmps) = true) (ty : TypeId) (x : Operand) (ho : op.op = .load ty x)
    (b o : Nat) (hx : a.eval x = .pointer (some ⟨b, o, none⟩)) (cs : List Value) (d : TypeDesc) (hc : w.rangeAt b o cs)
    (hu : P.underlying ty = some d) (hd : d.isRow = true) (hi : (P.info? ty).map (·.size) = some cs.length)
    (h : wpList P ops Q rest (a.put op.dst (.agg cs.toArray)) w) : wpList P ops Q (op :: rest) a w :=
  BigFrame.wpList_want hw fun _ hK => wp_load_mid ty x ho b o hx cs d hc hu hd hi (hK _ _ h)

theorem CpsV.mem {w : World} {a : Option Addr} {C : List Cp} (h : CpsV w a C) : ∀ c ∈ C, c.sized := fun c hc => by
  obtain ⟨i, hi, rfl⟩ := List.getElem_of_mem hc
  obtain ⟨b, off, _, _, hx⟩ := h.at_ i hi
  have e : C.getD i Cp.none = C[i] := by simp [hi]
  rw [← e]; exact hx.sized
theorem bestC_mem (f : Cp → Cp → Int) (C : List Cp) : ∀ k, 0 < k → k ≤ C.length → bestC f C k ∈ C
  | 0, h, _ => absurd h (Nat.lt_irrefl 0)
  | k + 1, _, hk => by
    have hm : C.getD k Cp.none ∈ C := by
      have e : C.getD k Cp.none = C[k]'(by omega) := by simp [show k < C.length by omega]
      rw [e]; exact List.getElem_mem _
    rw [bestC]
    split
    · exact hm
    · rename_i h
      by_cases k0 : k = 0
      · simp [k0] at h
      · exact bestC_mem f C k (by omega) (by omega)
theorem cpsOne (w : World) (x : Cp) (hx : x.sized) : CpsV (w.alloc (.cells #[.string x.svc, .int .i64 x.num, .int .i64 x.ver, .int .i64 x.image, .int .i64 x.state, .bool x.ending, .string x.berth] 63)) (some ⟨w.heap.size, 0, none⟩) [x] := by
  have hb := LBox.new w #[.string x.svc, .int .i64 x.num, .int .i64 x.ver, .int .i64 x.image, .int .i64 x.state, .bool x.ending, .string x.berth] 63 w.heap.size rfl
  refine ⟨by simp [maxLen], fun i hi => ⟨w.heap.size, 0, rfl, hb.lt, ?_⟩⟩
  have : i = 0 := by simpa using hi
  subst this
  exact ⟨hb.get 0 _ rfl, hb.get 1 _ rfl, hb.get 2 _ rfl, hb.get 3 _ rfl, hb.get 4 _ rfl, hb.get 5 _ rfl, hb.get 6 _ rfl, hx⟩
/-- The first to end, if it may. -/
def efE (K : SBk) (s : Sv) (C : List Cp) : List En := if (decide (0 < C.length) && mayGo K s (bestC (cmpE K s) C C.length)) = true then [endOf (bestC (cmpE K s) C C.length)] else []

end Go.Proofs.Ytamhfnlogldpaaa

namespace Go.Proofs.Ytamhfnlogldpaaa
open Go.RowKit Go.Deep

theorem LBox.mid {W : World} {p : Nat} {cs xs bs ds : List Value} (h : LBox W p cs) (e : cs = xs ++ (bs ++ ds)) : W.rangeAt p xs.length bs := fun j v hv => by
  refine h.get (xs.length + j) v ?_
  rw [e, List.getElem?_append_right (by omega), Nat.add_sub_cancel_left, List.getElem?_append_left (List.getElem?_eq_some_iff.1 hv).1]
  exact hv
theorem exec_loadM {P : Program} {o : Oper} {a : Act} {W : World} (ty : TypeId) (x : Operand) (ho : o.op = .load ty x) (b off : Nat) (hx : a.eval x = .pointer (some ⟨b, off, none⟩)) (cs : List Value) (d : TypeDesc) (hc : W.rangeAt b off cs)
    (hu : P.underlying ty = some d) (hd : d.isRow = true) (hi : (P.info? ty).map (·.size) = some cs.length) : (execOp a.eval o).run P W = .ok (.value (.agg cs.toArray)) W := by
  unfold execOp
  simp only [ho, hx, Instr.loadAt, Instr.sureAddr, Sem.run_bind, Sem.run_pure, Result.andThen_ok, run_loadVar_mid W b off ty cs d hc hu hd hi]
theorem range_bx {p b : Nat} {v W : World} {cs : List Value} (h : LBox v b cs) (hx : BelX p v W) (hn : b ≠ p) : LBox W b cs :=
  ⟨Nat.lt_of_lt_of_le h.lt hx.size, fun j u hu => (hx.cell h.lt hn (0 + j)).trans (h.at_ j u hu)⟩

/-- What is asked to replace copies for which q holds: how many are made, ends, whether it is asked for. -/
def rpl (K : SBk) (s : Sv) (n : Cn) (L : List Cp) (q : Cp → Bool) : Int × List En × Bool :=
  if n.live < s.want then (0, [], false)
  else if n.live < s.want + s.over then (1, [], true)
  else (0, efE K s (L.filter fun c => q c && mayGo K s c), decide (0 < (efE K s (L.filter fun c => q c && mayGo K s c)).length))
theorem Try.infoAct : (Try.prog.info? 143).map (·.size) = some 8 := by kernel_rfl
theorem Try.infoSgt : (Try.prog.info? 88).map (·.size) = some 24 := by kernel_rfl

end Go.Proofs.Ytamhfnlogldpaaa
