/-
  Stewards: StewApply, by the program.
-/
import Derived.WalkKit
import Derived.LaidEql
import Derived.Stop.Asserts
import Derived.RowKitTokens
import Derived.Laws.Externs
import Derived.Test.YtpamkibnahhphaaGreatDoorOwn
import Derived.Test.YtpamkibnahhphaaGreatDoorIaZ
import Derived.Test.YtpamkibnahhphaaGreatDoorStMI
namespace Go.Proofs.YtpamkibnahhphaaGreatDoor
open Go.RowKit Go.Extern.Stop Go.Stop Go.Extern

theorem as_nil (t : Value) (w : World) : Calls Tryz.prog 28 #[.nilIface, t] w fun e w' => e = .returned (.bool false) ∧ w = w' := by
  go_enter Tryz.func28, Tryz.ntmps28
  go_wp2
  go_ret
  exact ⟨rfl, rfl⟩

theorem Tryz.valueOf70 (t : Addr) (w : World) : (ReflectliteValue.unpack (.iface 66 (.pointer (some t)))).run Tryz.prog w
    = .ok (.agg #[.pointer (some ⟨1, 66, none⟩), .pointer (some ⟨w.heap.size, 0, none⟩), .int .u64 150]) (w.alloc (.cells #[.pointer (some t)] 66)) := by kernel_rfl
theorem Tryz.type70 (a : Addr) (w : World) : (ReflectliteValue.methodAny (ReflectliteValue.valueError "reflectlite.Value.Type" 0) (fun t _ _ _ => ReflectliteType.toType t) #[.agg #[.pointer (some ⟨1, 66, none⟩), .pointer (some a), .int .u64 150]]).run Tryz.prog w
    = .ok (.iface 161 (.agg #[.pointer (some ⟨1, 66, none⟩)])) w := by kernel_rfl
theorem Tryz.methodKind (h : Value) (w : World) : (Go.method 325 161 (.agg #[h]) "Kind").run Tryz.prog w = .ok (136, h) w := by kernel_rfl
theorem Tryz.kind70 (w : World) : ((ReflectliteType.abiMethod fun t => (fun a : Nat => Value.int IntKind.u8 (a : Int)) <$> Rtype.kind t) #[.pointer (some ⟨1, 66, none⟩)]).run Tryz.prog w = .ok (.int .u8 22) w := by kernel_rfl
theorem Tryz.kind68 (w : World) : ((ReflectliteType.abiMethod fun t => (fun a : Nat => Value.int IntKind.u8 (a : Int)) <$> Rtype.kind t) #[.pointer (some ⟨1, 64, none⟩)]).run Tryz.prog w = .ok (.int .u8 25) w := by kernel_rfl
theorem Tryz.parts70 (a : Addr) (w : World) : (ReflectliteValue.parts (.agg #[.pointer (some ⟨1, 66, none⟩), .pointer (some a), .int .u64 150])).run Tryz.prog w = .ok (some (66, a, 150)) w := by kernel_rfl
theorem Tryz.methodElem (h : Value) (w : World) : (Go.method 325 161 (.agg #[h]) "Elem").run Tryz.prog w = .ok (146, .agg #[h]) w := by kernel_rfl
theorem Tryz.methodImplements (h : Value) (w : World) : (Go.method 325 161 (.agg #[h]) "Implements").run Tryz.prog w = .ok (147, .agg #[h]) w := by kernel_rfl
theorem Tryz.methodAssignableTo (h : Value) (w : World) : (Go.method 325 161 (.agg #[h]) "AssignableTo").run Tryz.prog w = .ok (144, .agg #[h]) w := by kernel_rfl
theorem Tryz.elem70 (w : World) : (ReflectliteType.method ReflectliteType.elem #[.agg #[.pointer (some ⟨1, 66, none⟩)]]).run Tryz.prog w = .ok (.iface 161 (.agg #[.pointer (some ⟨1, 64, none⟩)])) w := by kernel_rfl
theorem Tryz.implements68 (w : World) : (ReflectliteType.relation "Implements" ReflectliteType.implements_ #[.agg #[.pointer (some ⟨1, 64, none⟩)], .iface 161 (.agg #[.pointer (some ⟨1, 60, none⟩)])]).run Tryz.prog w = .ok (.bool true) w := by kernel_rfl
theorem Tryz.typeOf68 (v : Value) (w : World) : (ReflectliteType.typeOf #[.iface 64 v]).run Tryz.prog w = .ok (.iface 161 (.agg #[.pointer (some ⟨1, 64, none⟩)])) w := by kernel_rfl
theorem Tryz.assignable68 (w : World) : (ReflectliteType.relation "AssignableTo" ReflectliteType.assignableTo #[.agg #[.pointer (some ⟨1, 64, none⟩)], .iface 161 (.agg #[.pointer (some ⟨1, 64, none⟩)])]).run Tryz.prog w = .ok (.bool true) w := by kernel_rfl
theorem Tryz.valueOf68 (x : Value) (w : World) : (ReflectliteValue.unpack (.iface 64 (.agg #[x]))).run Tryz.prog w
    = .ok (.agg #[.pointer (some ⟨1, 64, none⟩), .pointer (some ⟨w.heap.size, 0, none⟩), .int .u64 153]) (w.alloc (.cells #[x] 64)) := by kernel_rfl
theorem Tryz.elemOf70 (w : World) : (Rtype.elem? 66).run Tryz.prog w = .ok (some 64) w := by kernel_rfl
theorem Tryz.mk68 (p : Addr) (w : World) : (ReflectliteValue.mk 64 p ReflectliteValue.flagAddr).run Tryz.prog w = .ok (.agg #[.pointer (some ⟨1, 64, none⟩), .pointer (some p), .int .u64 409]) w := by kernel_rfl
theorem Tryz.parts68a (a : Addr) (w : World) : (ReflectliteValue.parts (.agg #[.pointer (some ⟨1, 64, none⟩), .pointer (some a), .int .u64 409])).run Tryz.prog w = .ok (some (64, a, 409)) w := by kernel_rfl
theorem Tryz.parts68 (a : Addr) (w : World) : (ReflectliteValue.parts (.agg #[.pointer (some ⟨1, 64, none⟩), .pointer (some a), .int .u64 153])).run Tryz.prog w = .ok (some (64, a, 153)) w := by kernel_rfl
theorem Tryz.direct68 (w : World) : (Rtype.directlyAssignable 64 64).run Tryz.prog w = .ok true w := by kernel_rfl
theorem Tryz.size68 (w : World) : (sizeOf 64).run Tryz.prog w = .ok 1 w := by kernel_rfl
theorem Tryz.agg68 (w : World) : (isAgg 64).run Tryz.prog w = .ok true w := by kernel_rfl

theorem Tryz.isNil70 (a p : Addr) (W : World) (ha : W.cell? a = some (.pointer (some p))) :
    (ReflectliteValue.method (ReflectliteValue.valueError "reflectlite.Value.IsNil" 0) ReflectliteValue.isNil #[.agg #[.pointer (some ⟨1, 66, none⟩), .pointer (some a), .int .u64 150]]).run Tryz.prog W = .ok (.bool false) W := by
  have e : (ReflectliteValue.method (ReflectliteValue.valueError "reflectlite.Value.IsNil" 0) ReflectliteValue.isNil #[.agg #[.pointer (some ⟨1, 66, none⟩), .pointer (some a), .int .u64 150]]).run Tryz.prog W = (ReflectliteValue.isNil 66 a 150 22).run Tryz.prog W := by kernel_rfl
  rw [e]
  simp [ReflectliteValue.isNil, loadVar, isAgg, underlying, Tryz.underlying66, ha, Result.andThen]

theorem Tryz.elemV70 (a p : Addr) (W : World) (ha : W.cell? a = some (.pointer (some p))) :
    (ReflectliteValue.method (ReflectliteValue.valueError "reflectlite.Value.Elem" 0) ReflectliteValue.elem #[.agg #[.pointer (some ⟨1, 66, none⟩), .pointer (some a), .int .u64 150]]).run Tryz.prog W
      = .ok (.agg #[.pointer (some ⟨1, 64, none⟩), .pointer (some p), .int .u64 409]) W := by
  have e : (ReflectliteValue.method (ReflectliteValue.valueError "reflectlite.Value.Elem" 0) ReflectliteValue.elem #[.agg #[.pointer (some ⟨1, 66, none⟩), .pointer (some a), .int .u64 150]]).run Tryz.prog W = (ReflectliteValue.elem 66 a 150 22).run Tryz.prog W := by kernel_rfl
  rw [e]
  simp [ReflectliteValue.elem, loadVar, isAgg, underlying, Tryz.underlying66, ha, Result.andThen, Tryz.elemOf70, Tryz.mk68]

theorem load68 (b : Nat) (x : Value) (W : World) (hb0 : W.cell? ⟨b, 0, none⟩ = some x) : (loadVar 64 ⟨b, 0, none⟩).run Tryz.prog W = .ok (.agg #[x]) W := by
  simp [loadVar, loadCells, loadCellsFrom, Addr.add, hb0, Result.andThen]

theorem store68 (tb : Nat) (x : Int) (o0 : Value) (W : World) (ht0 : W.cell? ⟨tb, 0, none⟩ = some o0) (hf : ∀ o, W.frozen? ⟨tb, o, none⟩ = false) :
    (storeVar 64 ⟨tb, 0, none⟩ (.agg #[.int .i64 x])).run Tryz.prog W = .ok () (W.setCell ⟨tb, 0, none⟩ (.int .i64 x)) := by
  simp [storeVar, Value.cells, storeCells, Addr.add, Result.andThen]
  rw [run_store Tryz.prog W ⟨tb, 0, none⟩ _ _ (by rfl)]
  simp [ht0, hf]

/-- The refusal at tb gets the number that lies at b. -/
theorem Tryz.set68 (tb b : Nat) (x : Int) (o0 : Value) (W : World) (hb0 : W.cell? ⟨b, 0, none⟩ = some (.int .i64 x)) (ht0 : W.cell? ⟨tb, 0, none⟩ = some o0) (hf : ∀ o, W.frozen? ⟨tb, o, none⟩ = false) :
    (ReflectliteValue.set #[.agg #[.pointer (some ⟨1, 64, none⟩), .pointer (some ⟨tb, 0, none⟩), .int .u64 409], .agg #[.pointer (some ⟨1, 64, none⟩), .pointer (some ⟨b, 0, none⟩), .int .u64 153]]).run Tryz.prog W
      = .ok (.tuple #[]) (W.setCell ⟨tb, 0, none⟩ (.int .i64 x)) := by
  have e : (ReflectliteValue.set #[.agg #[.pointer (some ⟨1, 64, none⟩), .pointer (some ⟨tb, 0, none⟩), .int .u64 409], .agg #[.pointer (some ⟨1, 64, none⟩), .pointer (some ⟨b, 0, none⟩), .int .u64 153]]).run Tryz.prog W
      = (((loadVar 64 ⟨b, 0, none⟩) >>= fun val => (storeVar 64 ⟨tb, 0, none⟩ val) >>= fun _ => pure (Value.tuple #[])) : Sem Value).run Tryz.prog W := by kernel_rfl
  rw [e]
  simp only [Sem.run_bind, load68 b _ W hb0, Result.andThen, store68 tb x o0 W ht0 hf]
  rfl

set_option maxHeartbeats 4000000 in
theorem as_hit (tb : Nat) (x : Int) (o0 : Value) (w : World) (hg : w.cell? ⟨0, 0, none⟩ = some (.iface 161 (.agg #[.pointer (some ⟨1, 60, none⟩)]))) (ht0 : w.cell? ⟨tb, 0, none⟩ = some o0) (hf0 : ∀ o, w.frozen? ⟨tb, o, none⟩ = false) (htl : tb < w.heap.size) :
    Calls Tryz.prog 28 #[.iface 64 (.agg #[.int .i64 x]), .iface 66 (.pointer (some ⟨tb, 0, none⟩))] w fun ev w' => ev = .returned (.bool true) ∧ w' = ((((w.alloc (.cells #[.pointer (some ⟨tb, 0, none⟩)] 66)).alloc (.cells #[.pointer (some ⟨1, 66, none⟩), .pointer (some ⟨w.heap.size, 0, none⟩), .int .u64 150] 119)).alloc (.cells #[.pointer (some ⟨1, 66, none⟩), .pointer (some ⟨w.heap.size, 0, none⟩), .int .u64 150] 119)).alloc (.cells #[.int .i64 x] 64)).setCell ⟨tb, 0, none⟩ (.int .i64 x) := by
  have h49 := @run_callFunc_extern Tryz.prog 70 _ (fun args => ReflectliteValue.unpack (args.getD 0 (.tuple #[]))) Tryz.func70 (by kernel_rfl) (by kernel_rfl) (by kernel_rfl) (by kernel_rfl)
  have h50 := @run_callFunc_extern Tryz.prog 71 _ (ReflectliteValue.methodAny (ReflectliteValue.valueError "reflectlite.Value.Type" 0) (fun t _ _ _ => ReflectliteType.toType t)) Tryz.func71 (by kernel_rfl) (by kernel_rfl) (by kernel_rfl) (by kernel_rfl)
  have h51 := @run_callFunc_extern Tryz.prog 72 _ (ReflectliteValue.method (ReflectliteValue.valueError "reflectlite.Value.IsNil" 0) ReflectliteValue.isNil) Tryz.func72 (by kernel_rfl) (by kernel_rfl) (by kernel_rfl) (by kernel_rfl)
  have h85 := @run_callFunc_extern Tryz.prog 136 _ (ReflectliteType.abiMethod fun t => do pure (.int .u8 (← Rtype.kind t))) Tryz.func136 (by kernel_rfl) (by kernel_rfl) (by kernel_rfl) (by kernel_rfl)
  have h95 := @run_callFunc_extern Tryz.prog 146 _ (ReflectliteType.method ReflectliteType.elem) Tryz.func146 (by kernel_rfl) (by kernel_rfl) (by kernel_rfl) (by kernel_rfl)
  have h96 := @run_callFunc_extern Tryz.prog 147 _ (ReflectliteType.relation "Implements" ReflectliteType.implements_) Tryz.func147 (by kernel_rfl) (by kernel_rfl) (by kernel_rfl) (by kernel_rfl)
  have h60 := @run_callFunc_extern Tryz.prog 104 _ ReflectliteType.typeOf Tryz.func104 (by kernel_rfl) (by kernel_rfl) (by kernel_rfl) (by kernel_rfl)
  have h93 := @run_callFunc_extern Tryz.prog 144 _ (ReflectliteType.relation "AssignableTo" ReflectliteType.assignableTo) Tryz.func144 (by kernel_rfl) (by kernel_rfl) (by kernel_rfl) (by kernel_rfl)
  have h61 := @run_callFunc_extern Tryz.prog 105 _ (ReflectliteValue.method (ReflectliteValue.valueError "reflectlite.Value.Elem" 0) ReflectliteValue.elem) Tryz.func105 (by kernel_rfl) (by kernel_rfl) (by kernel_rfl) (by kernel_rfl)
  have h62 := @run_callFunc_extern Tryz.prog 106 _ ReflectliteValue.set Tryz.func106 (by kernel_rfl) (by kernel_rfl) (by kernel_rfl) (by kernel_rfl)
  have tO := Tryz.typeOf68
  have mA := Tryz.methodAssignableTo
  have a68 := Tryz.assignable68
  have v68 := Tryz.valueOf68
  have f6 := Tryz.valueOf70
  have f7 := Tryz.type70
  have mK := Tryz.methodKind
  have mE := Tryz.methodElem
  have mI := Tryz.methodImplements
  have k70 := Tryz.kind70
  have k68 := Tryz.kind68
  have e70 := Tryz.elem70
  have i68 := Tryz.implements68
  have hlt : 0 < w.heap.size := by omega
  have n8 := Tryz.isNil70 ⟨w.heap.size, 0, none⟩ ⟨tb, 0, none⟩ ((w.alloc (.cells #[.pointer (some ⟨tb, 0, none⟩)] 66)).alloc (.cells #[.pointer (some ⟨1, 66, none⟩), .pointer (some ⟨w.heap.size, 0, none⟩), .int .u64 150] 119)) (by simp)
  have hg2 : ((w.alloc (.cells #[.pointer (some ⟨tb, 0, none⟩)] 66)).alloc (.cells #[.pointer (some ⟨1, 66, none⟩), .pointer (some ⟨w.heap.size, 0, none⟩), .int .u64 150] 119)).cell? ⟨0, 0, none⟩ = some (.iface 161 (.agg #[.pointer (some ⟨1, 60, none⟩)])) := by
    rw [World.cell?_alloc_lt _ _ ⟨0, 0, none⟩ (by simp), World.cell?_alloc_lt _ _ ⟨0, 0, none⟩ hlt]; exact hg
  have el := Tryz.elemV70 ⟨w.heap.size, 0, none⟩ ⟨tb, 0, none⟩ (((w.alloc (.cells #[.pointer (some ⟨tb, 0, none⟩)] 66)).alloc (.cells #[.pointer (some ⟨1, 66, none⟩), .pointer (some ⟨w.heap.size, 0, none⟩), .int .u64 150] 119)).alloc (.cells #[.pointer (some ⟨1, 66, none⟩), .pointer (some ⟨w.heap.size, 0, none⟩), .int .u64 150] 119)) (by rw [World.cell?_alloc_lt _ _ ⟨w.heap.size, 0, none⟩ (by simp; omega)]; simp)
  have hold : Below w.heap.size w ((((w.alloc (.cells #[.pointer (some ⟨tb, 0, none⟩)] 66)).alloc (.cells #[.pointer (some ⟨1, 66, none⟩), .pointer (some ⟨w.heap.size, 0, none⟩), .int .u64 150] 119)).alloc (.cells #[.pointer (some ⟨1, 66, none⟩), .pointer (some ⟨w.heap.size, 0, none⟩), .int .u64 150] 119)).alloc (.cells #[.int .i64 x] 64)) := blw_alloc (blw_alloc (blw_alloc (blw_alloc (Below.refl _ _) _) _) _) _
  have st := Tryz.set68 tb (w.heap.size + 1 + 1 + 1) x o0 ((((w.alloc (.cells #[.pointer (some ⟨tb, 0, none⟩)] 66)).alloc (.cells #[.pointer (some ⟨1, 66, none⟩), .pointer (some ⟨w.heap.size, 0, none⟩), .int .u64 150] 119)).alloc (.cells #[.pointer (some ⟨1, 66, none⟩), .pointer (some ⟨w.heap.size, 0, none⟩), .int .u64 150] 119)).alloc (.cells #[.int .i64 x] 64))
    (by rw [World.cell?_alloc_at _ _ _ _ (by simp)]; rfl)
    ((hold.cell (p := ⟨tb, 0, none⟩) htl).trans ht0) (fun o => (hold.frozen (p := ⟨tb, o, none⟩) htl).trans (hf0 o))
  clear hold
  go_enter Tryz.func28, Tryz.ntmps28
  go_wp2
  refine wp_loop_rounds 1 ?_
  rw [rounds_succ]
  go_wp2
  go_ret
  exact ⟨rfl, rfl⟩

end Go.Proofs.YtpamkibnahhphaaGreatDoor

namespace Go.Proofs.YtpamkibnahhphaaGreatDoor
open Go.RowKit Go.Deep

/-- The variable that errors.As reads. -/
def ErrT (w : World) : Prop := w.cell? ⟨0, 0, none⟩ = some (.iface 161 (.agg #[.pointer (some ⟨1, 60, none⟩)]))
theorem ErrT.lt {w : World} (h : ErrT w) : 0 < w.heap.size := by
  unfold ErrT at h
  rcases Nat.lt_or_ge 0 w.heap.size with q | q
  · exact q
  · simp [World.cell?, Array.getElem?_eq_none q] at h
theorem ErrT.later {w w' : World} (h : ErrT w) (hb : Below w.heap.size w w') : ErrT w' := (hb.cell (p := ⟨0, 0, none⟩) h.lt).trans h
/-- The answer by the program: the book, the code. -/
def pAp (K : SBk) (X : Ac) : SBk := if sbOk K then (if pCode K X = 0 then pBook K X else K) else noK
def pApC (K : SBk) (X : Ac) : Int := if sbOk K then pCode K X else 1
def VAp (lo : Nat) (K : SBk) (b0 b1 b2 c0 c1 c2 tb : Nat) (c : Int) : Nat → Value → World → Prop
  | 0, u, _ => u = .agg #[.int .i64 K.now, .slice (some ⟨b0, 0, none⟩) K.svcs.length c0, .slice (some ⟨b1, 0, none⟩) K.cps.length c1, .slice (some ⟨b2, 0, none⟩) K.bts.length c2]
  | 1, u, W => ∃ s0 s1 s2, u = .agg #[.int .i64 K.now, s0, s1, s2] ∧ BkOwn W lo K s0 s1 s2
  | 2, u, _ => u = .pointer (some ⟨tb, 0, none⟩)
  | 3, u, _ => u = .int .i64 c
  | 5, u, _ => u = .int .i64 c
  | _, _, _ => True
theorem VAp_mono (lo : Nat) (K : SBk) (b0 b1 b2 c0 c1 c2 tb : Nat) (c : Int) : ∀ j u W W', Below W.heap.size W W' → VAp lo K b0 b1 b2 c0 c1 c2 tb c j u W → VAp lo K b0 b1 b2 c0 c1 c2 tb c j u W' := by
  intro j u W W' hb h
  match j, h with
  | 0, h => exact h
  | 1, ⟨s0, s1, s2, e, h⟩ => exact ⟨s0, s1, s2, e, h.later hb⟩
  | 2, h => exact h
  | 3, h => exact h
  | 4, _ => trivial
  | 5, h => exact h
  | n + 6, _ => trivial
theorem BkOwn.scLow {W : World} {lo p : Nat} {R : SBk} {s0 s1 s2 : Value} (h : BkOwn W lo R s0 s1 s2) (hp : p < lo) (o : Nat) (x : Value) : BkOwn (W.setCell ⟨p, o, none⟩ x) lo R s0 s1 s2 :=
  ⟨owns_sc h.o0 hp o x, owns_sc h.o1 hp o x, owns_sc h.o2 hp o x, h.z0, h.z1, h.z2, h.sm⟩
theorem VAp_sc (lo : Nat) (K : SBk) (b0 b1 b2 c0 c1 c2 tb : Nat) (c : Int) (p : Nat) (hp : p < lo) : ∀ j u W o x, VAp lo K b0 b1 b2 c0 c1 c2 tb c j u W → VAp lo K b0 b1 b2 c0 c1 c2 tb c j u (W.setCell ⟨p, o, none⟩ x) := by
  intro j u W o x h
  match j, h with
  | 0, h => exact h
  | 1, ⟨s0, s1, s2, e, h⟩ => exact ⟨s0, s1, s2, e, h.scLow hp o x⟩
  | 2, h => exact h
  | 3, h => exact h
  | 4, _ => trivial
  | 5, h => exact h
  | n + 6, _ => trivial
theorem bkown_no (w : World) (lo : Nat) : BkOwn w lo noK (.slice none 0 0) (.slice none 0 0) (.slice none 0 0) :=
  ⟨World.ownsRow_nil _ _ _ _, World.ownsRow_nil _ _ _ _, World.ownsRow_nil _ _ _ _, fun i h => by simp [noK] at h, fun i h => by simp [noK] at h, fun i h => by simp [noK] at h, ⟨by simp [noK], by simp [noK], by simp [noK]⟩⟩

set_option maxRecDepth 8000 in
set_option maxHeartbeats 40000000 in
theorem applyP (K : SBk) (b0 b1 b2 c0 c1 c2 : Nat) (X : Ac) (ae : Option Addr) (ce : Nat) (w : World) (h : SBkV w (some ⟨b0, 0, none⟩) (some ⟨b1, 0, none⟩) (some ⟨b2, 0, none⟩) K) (hE : EnsV w ae X.ends) (hsz : X.svc.size ≤ maxLen) (hg : ErrT w) :
    Calls Tryz.prog 9 #[.agg #[.int .i64 K.now, .slice (some ⟨b0, 0, none⟩) K.svcs.length c0, .slice (some ⟨b1, 0, none⟩) K.cps.length c1, .slice (some ⟨b2, 0, none⟩) K.bts.length c2], .agg #[.string X.svc, .int .i64 X.seen, .int .i64 X.create, .int .i64 X.want, .int .i64 X.cool, .bool X.scale, .slice ae X.ends.length ce, .bool X.drop]] w fun e w' => (∃ s0 s1 s2, e = .returned (.tuple #[.agg #[.int .i64 (pAp K X).now, s0, s1, s2], .int .i64 (pApC K X)]) ∧ BkOwn w' w.heap.size (pAp K X) s0 s1 s2) ∧ Below w.heap.size w w' := by
  have HH := hid h
  have HEN := hid hE
  have HSZ := hid hsz
  have HG := hid hg
  clear h hE hsz hg
  obtain ⟨R, hR⟩ : ∃ R, R = pAp K X := ⟨_, rfl⟩
  obtain ⟨C, hC⟩ : ∃ C, C = pApC K X := ⟨_, rfl⟩
  have HR := hid hR
  have HCd := hid hC
  rw [← hR, ← hC]
  clear hR hC
  obtain ⟨wa, hwa⟩ : ∃ wa, wa = ((w.alloc (.cells #[.int .i64 K.now, .slice (some ⟨b0, 0, none⟩) K.svcs.length c0, .slice (some ⟨b1, 0, none⟩) K.cps.length c1, .slice (some ⟨b2, 0, none⟩) K.bts.length c2] 36)).alloc (.cells #[.string X.svc, .int .i64 X.seen, .int .i64 X.create, .int .i64 X.want, .int .i64 X.cool, .bool X.scale, .slice ae X.ends.length ce, .bool X.drop] 42)).alloc (.cells #[.int .i64 0, .slice none 0 0, .slice none 0 0, .slice none 0 0] 36) := ⟨_, rfl⟩
  have HB : Hid (Below w.heap.size w wa) := by show Below _ _ _; rw [hwa]; exact blw_alloc (blw_alloc (blw_alloc (Below.refl _ _) _) _) _
  have HX : Hid (Box4 wa w.heap.size (.int .i64 K.now) (.slice (some ⟨b0, 0, none⟩) K.svcs.length c0) (.slice (some ⟨b1, 0, none⟩) K.cps.length c1) (.slice (some ⟨b2, 0, none⟩) K.bts.length c2)) := by show Box4 _ _ _ _ _ _; rw [hwa]; exact ((Box4.new' _ _ _ _ _ _ _ rfl).past _).past _
  have HY : Hid (BoxA wa (w.heap.size + 1) (.string X.svc) (.int .i64 X.seen) (.int .i64 X.create) (.int .i64 X.want) (.int .i64 X.cool) (.bool X.scale) (.slice ae X.ends.length ce) (.bool X.drop)) := by show BoxA _ _ _ _ _ _ _ _ _ _; rw [hwa]; exact (BoxA.new' _ _ _ _ _ _ _ _ _ _ _ (by simp)).past _
  have HO : Hid (wa.heap[w.heap.size + 2]? = some (.cells #[.int .i64 0, .slice none 0 0, .slice none 0 0, .slice none 0 0] 36 (0, 0))) := by
    show _ = _
    rw [hwa]
    have e : ((w.alloc (.cells #[.int .i64 K.now, .slice (some ⟨b0, 0, none⟩) K.svcs.length c0, .slice (some ⟨b1, 0, none⟩) K.cps.length c1, .slice (some ⟨b2, 0, none⟩) K.bts.length c2] 36)).alloc (.cells #[.string X.svc, .int .i64 X.seen, .int .i64 X.create, .int .i64 X.want, .int .i64 X.cool, .bool X.scale, .slice ae X.ends.length ce, .bool X.drop] 42)).heap.size = w.heap.size + 2 := by simp
    rw [← e]
    exact heap_alloc_new _ _
  go_enter Tryz.func9, Tryz.ntmps9
  go_upto_region 1 with fail
  rw [← hwa]
  clear hwa
  obtain ⟨yz, y0, y1, y2, y3⟩ := HX.out
  go_wp2_with fail
  refine (stewValidV K _ _ _ c0 c1 c2 wa (HH.out.later HB.out)).mono ?_
  rintro e w1 ⟨rfl, hb1⟩
  have HB1 := hid (blw_trans HB.out hb1)
  have HX1 := hid (HX.out.later hb1)
  have HY1 := hid (HY.out.later hb1)
  have HO1 := hid ((hb1.block _ (lt_heap HO.out)).trans HO.out)
  clear yz y0 y1 y2 y3 hb1 HX HY HB HO
  cases hv : sbOk K
  · have HE1 : Hid (R = noK) := by show R = _; rw [HR.out, pAp, hv]; rfl
    have HE2 : Hid (C = 1) := by show C = _; rw [HCd.out, pApC, hv]; rfl
    clear hv HR HCd
    have HOw : Hid (OwnBlk w1 (w.heap.size + 2) 36 4) := ⟨_, HO1.out, rfl⟩
    have oz := lt_block HO1.out
    have o0 := cellsOf_block HO1.out 0
    have o1 := cellsOf_block HO1.out 1
    have o2 := cellsOf_block HO1.out 2
    have o3 := cellsOf_block HO1.out 3
    have f0 := frozen_block HO1.out 0
    have f1 := frozen_block HO1.out 1
    have f2 := frozen_block HO1.out 2
    have f3 := frozen_block HO1.out 3
    simp only [List.getElem?_toArray, List.getElem?_cons_zero, List.getElem?_cons_succ] at o0 o1 o2 o3
    go_wp2
    have p := fun i hi => puts_at 0 [.int .i64 0, .slice none 0 0, .slice none 0 0, .slice none 0 0] w1 0 HOw.out (by simp) i hi
    have t0 := p 0 (by simp)
    have t1 := p 1 (by simp)
    have t2 := p 2 (by simp)
    have t3 := p 3 (by simp)
    simp only [puts, Nat.add_zero, Nat.zero_add, Nat.reduceAdd, List.getElem?_cons_zero, List.getElem?_cons_succ] at t0 t1 t2 t3
    refine bodyPost_ret (v := .tuple #[.agg #[.int .i64 0, .slice none 0 0, .slice none 0 0, .slice none 0 0], .int .i64 1]) (by simp [results, Tryz.results9, go_sem, t0, t1, t2, t3]) rfl ⟨⟨.slice none 0 0, .slice none 0 0, .slice none 0 0, by rw [HE1.out, HE2.out]; rfl, by rw [HE1.out]; exact bkown_no _ _⟩, ?_⟩
    exact puts_below (a := w) 0 (B := w.heap.size + 2) (by omega) [.int .i64 0, .slice none 0 0, .slice none 0 0, .slice none 0 0] w1 0 HB1.out
  have HV := hid hv
  have HE1 : Hid (R = if pCode K X = 0 then pBook K X else K) := by show R = _; rw [HR.out, pAp, hv]; rfl
  have HE2 : Hid (C = pCode K X) := by show C = _; rw [HCd.out, pApC, hv]; rfl
  clear hv HR HCd
  obtain ⟨yz, y0, y1, y2, y3⟩ := HX1.out
  obtain ⟨xz, x0, x1, x2, x3, x4, x5, x6, x7⟩ := HY1.out
  go_wp2_with fail
  refine (actedI K b0 b1 b2 c0 c1 c2 X ae ce w1 (HH.out.later HB1.out) (HEN.out.later HB1.out) HV.out HSZ.out).mono ?_
  rintro e w2 ⟨hcase, hb2⟩
  have HB2 := hid (blw_trans HB1.out hb2)
  have HX2 := hid (HX1.out.later hb2)
  have HO2 := hid ((hb2.block _ (lt_heap HO1.out)).trans HO1.out)
  have HL2 : Hid (w.heap.size + 2 < w1.heap.size ∧ w1.heap.size ≤ w2.heap.size) := ⟨lt_heap HO1.out, hb2.size⟩
  have HG2 := hid (HG.out.later HB2.out)
  clear yz y0 y1 y2 y3 xz x0 x1 x2 x3 x4 x5 x6 x7 hb2 HX1 HY1 HO1
  rcases hcase with ⟨hc, rfl⟩ | ⟨hc, s0, s1, s2, rfl, hbo⟩
  · have HE3 : Hid (R = K) := by show R = _; rw [HE1.out, if_neg hc]
    obtain ⟨c, hcc⟩ : ∃ c, c = pCode K X := ⟨_, rfl⟩
    rw [← hcc] at HE2 ⊢
    clear hc hcc HE1
    unfold refV
    obtain ⟨w3, hw3⟩ : ∃ w3, w3 = (w2.alloc (.cells #[.int .i64 0, .slice none 0 0, .slice none 0 0, .slice none 0 0] 36)).alloc (.cells #[.int .i64 0] 64) := ⟨_, rfl⟩
    have hb3 : Below w2.heap.size w2 w3 := by rw [hw3]; exact blw_alloc (blw_alloc (Below.refl _ _) _) _
    have HT3 : Hid (w3.heap[w2.heap.size + 1]? = some (.cells #[.int .i64 0] 64 (0, 0))) := by
      show _ = _
      rw [hw3]
      have e : (w2.alloc (.cells #[.int .i64 0, .slice none 0 0, .slice none 0 0, .slice none 0 0] 36)).heap.size = w2.heap.size + 1 := by simp
      rw [← e]
      exact heap_alloc_new _ _
    have HB3 := hid (blw_trans HB2.out hb3)
    have HX3 := hid (HX2.out.later hb3)
    have HO3 := hid ((hb3.block _ (lt_heap HO2.out)).trans HO2.out)
    have HG3 := hid (HG2.out.later hb3)
    go_upto_region 5 with fail
    rw [← hw3]
    clear hw3 hb3 HX2 HO2
    go_wp2_with fail
    refine (as_hit (w2.heap.size + 1) c (.int .i64 0) w3 HG3.out (cellsOf_block HT3.out 0) (frozen_block HT3.out) (lt_heap HT3.out)).mono ?_
    rintro e w4 ⟨rfl, hw4⟩
    obtain ⟨v3, hv3⟩ : ∃ v3, v3 = (((w3.alloc (.cells #[.pointer (some ⟨w2.heap.size + 1, 0, none⟩)] 66)).alloc (.cells #[.pointer (some ⟨1, 66, none⟩), .pointer (some ⟨w3.heap.size, 0, none⟩), .int .u64 150] 119)).alloc (.cells #[.pointer (some ⟨1, 66, none⟩), .pointer (some ⟨w3.heap.size, 0, none⟩), .int .u64 150] 119)).alloc (.cells #[.int .i64 c] 64) := ⟨_, rfl⟩
    have hbv : Below w3.heap.size w3 v3 := by rw [hv3]; exact blw_alloc (blw_alloc (blw_alloc (blw_alloc (Below.refl _ _) _) _) _) _
    rw [← hv3] at hw4
    clear hv3
    have HT4 : Hid (w4.heap[w2.heap.size + 1]? = some (.cells #[.int .i64 c] 64 (0, 0))) := by show _ = _; rw [hw4]; exact (set_block ((hbv.block _ (lt_heap HT3.out)).trans HT3.out) 0 _).trans rfl
    have hb4 : Below (w2.heap.size + 1) w3 w4 := by rw [hw4]; exact blw_sc (blw_less hbv (Nat.le_of_lt (lt_heap HT3.out))) (Nat.le_refl _) _ _
    have hlx := HL2.out
    have HB4 : Hid (Below w.heap.size w w4) := blw_two HB3.out (blw_less hb4 (by omega))
    have HO4 : Hid (w4.heap[w.heap.size + 2]? = some (.cells #[.int .i64 0, .slice none 0 0, .slice none 0 0, .slice none 0 0] 36 (0, 0))) := (hb4.block _ (by omega)).trans HO3.out
    have HX4 : Hid (Box4 w4 w.heap.size (.int .i64 K.now) (.slice (some ⟨b0, 0, none⟩) K.svcs.length c0) (.slice (some ⟨b1, 0, none⟩) K.cps.length c1) (.slice (some ⟨b2, 0, none⟩) K.bts.length c2)) := by
      obtain ⟨a, b0', b1', b2', b3'⟩ := HX3.out
      have c := fun j => hb4.cell (p := ⟨w.heap.size, j, none⟩) (by show w.heap.size < _; omega)
      exact ⟨Nat.lt_of_lt_of_le a hb4.size, (c 0).trans b0', (c 1).trans b1', (c 2).trans b2', (c 3).trans b3'⟩
    have HOw : Hid (OwnBlk w4 (w.heap.size + 2) 36 4) := ⟨_, HO4.out, rfl⟩
    have HL4 : Hid (w.heap.size + 3 ≤ w4.heap.size) := lt_heap HO4.out
    have HTE : Hid (w2.heap.size + 1 ≠ w.heap.size + 2) := by show _ ≠ _; omega
    have HSM : Hid K.small := by
      obtain ⟨h0, h1, h2⟩ := small_ok HV.out
      exact ⟨by omega, by omega, by omega⟩
    clear hw4 hbv hb4 hlx HB3 HX3 HO3 HT3 HG3
    go_upto_region 6 with fail
    refine RY.region_put (VAp (w.heap.size + 3) K b0 b1 b2 c0 c1 c2 (w2.heap.size + 1) c) (VAp_mono _ K b0 b1 b2 c0 c1 c2 _ c) 1 4 23 4 36 4 (w.heap.size + 2) (VAp_sc _ K b0 b1 b2 c0 c1 c2 _ c _ (by omega)) (by kernel_rfl) (by kernel_rfl) (by kernel_rfl) (by kernel_rfl) _ _ rfl rfl rfl rfl rfl (by decide) (by kernel_rfl) rfl (by kernel_rfl) HOw.out Tryz.infoBk ?_ ?_ ?_
    · rintro u W ⟨s0, s1, s2, rfl, hbo⟩
      obtain ⟨_, _, rfl⟩ := owns_is hbo.o0
      obtain ⟨_, _, rfl⟩ := owns_is hbo.o1
      obtain ⟨_, _, rfl⟩ := owns_is hbo.o2
      exact ⟨[_, _, _, _], rfl, rfl, by simp [Value.oneCell']⟩
    · intro i o ho hne a W hW hk hd
      obtain ⟨yz, y0, y1, y2, y3⟩ := HX4.out
      have z0 := (hW.cell yz (by omega) 0).trans y0
      have z1 := (hW.cell yz (by omega) 1).trans y1
      have z2 := (hW.cell yz (by omega) 2).trans y2
      have z3 := (hW.cell yz (by omega) 3).trans y3
      have tz := lt_block HT4.out
      have tc : W.cell? ⟨w2.heap.size + 1, 0, none⟩ = some (.int .i64 c) := (hW.cell tz HTE.out 0).trans (cellsOf_block HT4.out 0)
      have et2 : a.tmps[2]?.getD undef = .pointer (some ⟨w.heap.size, 0, none⟩) := (RY.ev_tmp a 2).trans ((hk 2 (by kernel_rfl)).trans rfl)
      have et8 : a.tmps[8]?.getD undef = .pointer (some ⟨w2.heap.size + 1, 0, none⟩) := (RY.ev_tmp a 8).trans ((hk 8 (by kernel_rfl)).trans rfl)
      match i, ho with
      | 0, ho =>
        injection ho with ho; subst ho
        exact Or.inl ⟨_, W, by simp [execOp, go_sem, et2, z0, z1, z2, z3], Below.refl _ _, rfl⟩
      | 1, ho =>
        injection ho with ho; subst ho
        have e0 : a.tmps[22]?.getD undef = _ := (RY.ev_tmp a 22).trans (hd 0 _ 22 rfl rfl ⟨⟨0, .data⟩, by simp, rfl, rfl⟩)
        refine Or.inr ⟨29, #[.agg #[.int .i64 K.now, .slice (some ⟨b0, 0, none⟩) K.svcs.length c0, .slice (some ⟨b1, 0, none⟩) K.cps.length c1, .slice (some ⟨b2, 0, none⟩) K.bts.length c2]], by simp [go_sem, e0], (copyBookI K b0 b1 b2 c0 c1 c2 W (HH.out.later (hW.below HB4.out (by omega))) HSM.out).mono ?_⟩
        rintro e W' ⟨⟨s0, s1, s2, rfl, ho⟩, hb⟩
        exact ⟨_, rfl, hb, s0, s1, s2, rfl, ho.lo (by have := HL4.out; have := hW.size; omega)⟩
      | 2, ho =>
        injection ho with ho; subst ho
        exact Or.inl ⟨_, W, by simp [execOp, go_sem, et8], Below.refl _ _, rfl⟩
      | 3, ho =>
        injection ho with ho; subst ho
        have e0 : a.tmps[24]?.getD undef = _ := (RY.ev_tmp a 24).trans (hd 2 _ 24 rfl rfl ⟨⟨2, .data⟩, by simp, rfl, rfl⟩)
        exact Or.inl ⟨_, W, by simp [execOp, go_sem, e0, tc], Below.refl _ _, rfl⟩
      | 4, ho => exact absurd rfl hne
      | 5, ho =>
        injection ho with ho; subst ho
        have e0 : a.tmps[25]?.getD undef = _ := (RY.ev_tmp a 25).trans (hd 3 _ 25 rfl rfl ⟨⟨3, .data⟩, by simp, rfl, rfl⟩)
        exact Or.inl ⟨.int .i64 c, W, by simp [execOp, go_sem, e0], Below.refl _ _, rfl⟩
      | n + 6, ho => simp at ho
    intro w5 vs hW hvs hOw hrg
    obtain ⟨s0, s1, s2, e23, hbo⟩ := hvs 1 _ 23 rfl rfl
    have e5 : vs 5 = .int .i64 c := hvs 5 _ 5 rfl rfl
    have rg := hrg [.int .i64 K.now, s0, s1, s2] e23
    have t0 := rg 0 _ rfl
    have t1 := rg 1 _ rfl
    have t2 := rg 2 _ rfl
    have t3 := rg 3 _ rfl
    have HB5 := hid (hW.below HB4.out (by omega))
    have HK5 := hid (hbo.lo (show w.heap.size ≤ w.heap.size + 3 by omega))
    simp only [Nat.zero_add, Nat.add_zero] at t0 t1 t2 t3
    simp only [RY.putAll, Act.put, List.setIfInBounds_toArray, List.set_cons_zero, List.set_cons_succ]
    rw [e5]
    clear hvs hrg rg e5 e23 hbo
    generalize vs 22 = z22
    generalize vs 23 = z23
    generalize vs 24 = z24
    generalize vs 25 = z25
    go_wp2
    refine bodyPost_ret (v := .tuple #[.agg #[.int .i64 K.now, s0, s1, s2], .int .i64 c]) (by simp [results, Tryz.results9, go_sem, t0, t1, t2, t3]) rfl ⟨⟨s0, s1, s2, by rw [HE3.out, HE2.out], by rw [HE3.out]; exact HK5.out⟩, HB5.out⟩
  · have HE3 : Hid (R = pBook K X) := by show R = _; rw [HE1.out, if_pos hc]
    have HE4 : Hid (C = 0) := by show C = _; rw [HE2.out, hc]
    have hlx := HL2.out
    have HBO := hid hbo
    clear hc HE1 HE2 hbo
    obtain ⟨_, _, rfl⟩ := owns_is HBO.out.o0
    obtain ⟨_, _, rfl⟩ := owns_is HBO.out.o1
    obtain ⟨_, _, rfl⟩ := owns_is HBO.out.o2
    rename_i a0 q0 a1 q1 a2 q2
    obtain ⟨n0, hn0⟩ : ∃ n0, n0 = (pBook K X).svcs.length := ⟨_, rfl⟩
    obtain ⟨n1, hn1⟩ : ∃ n1, n1 = (pBook K X).cps.length := ⟨_, rfl⟩
    obtain ⟨n2, hn2⟩ : ∃ n2, n2 = (pBook K X).bts.length := ⟨_, rfl⟩
    rw [← hn0, ← hn1, ← hn2] at HBO ⊢
    clear hn0 hn1 hn2
    obtain ⟨w3, hw3⟩ : ∃ w3, w3 = (w2.alloc (.cells #[.int .i64 (K.now + 1), .slice a0 n0 q0, .slice a1 n1 q1, .slice a2 n2 q2] 36)).alloc (.cells #[.int .i64 0] 64) := ⟨_, rfl⟩
    have hb3 : Below w2.heap.size w2 w3 := by rw [hw3]; exact blw_alloc (blw_alloc (Below.refl _ _) _) _
    have HX3 : Hid (Box4 w3 w2.heap.size (.int .i64 (K.now + 1)) (.slice a0 n0 q0) (.slice a1 n1 q1) (.slice a2 n2 q2)) := by show Box4 _ _ _ _ _ _; rw [hw3]; exact (Box4.new' _ _ _ _ _ _ _ rfl).past _
    have HB3 := hid (blw_trans HB2.out hb3)
    have HO3 := hid ((hb3.block _ (lt_heap HO2.out)).trans HO2.out)
    have HBO3 := hid ((HBO.out.later hb3).lo (show w.heap.size + 3 ≤ w1.heap.size by omega))
    go_upto_region 5 with fail
    rw [← hw3]
    clear hw3 hb3 HX2 HO2 HBO HG2
    go_wp2_with fail
    refine (as_nil _ _).mono ?_
    rintro e w4 ⟨rfl, hw4⟩
    obtain rfl := hw4
    have HOw : Hid (OwnBlk w3 (w.heap.size + 2) 36 4) := ⟨_, HO3.out, rfl⟩
    obtain ⟨yz, y0, y1, y2, y3⟩ := HX3.out
    have oz := lt_block HO3.out
    have o0 := cellsOf_block HO3.out 0
    have o1 := cellsOf_block HO3.out 1
    have o2 := cellsOf_block HO3.out 2
    have o3 := cellsOf_block HO3.out 3
    have f0 := frozen_block HO3.out 0
    have f1 := frozen_block HO3.out 1
    have f2 := frozen_block HO3.out 2
    have f3 := frozen_block HO3.out 3
    simp only [List.getElem?_toArray, List.getElem?_cons_zero, List.getElem?_cons_succ] at o0 o1 o2 o3
    go_wp2
    have p := fun i hi => puts_at 0 [.int .i64 (K.now + 1), .slice a0 n0 q0, .slice a1 n1 q1, .slice a2 n2 q2] w3 0 HOw.out (by simp) i hi
    have t0 := p 0 (by simp)
    have t1 := p 1 (by simp)
    have t2 := p 2 (by simp)
    have t3 := p 3 (by simp)
    simp only [puts, Nat.add_zero, Nat.zero_add, Nat.reduceAdd, List.getElem?_cons_zero, List.getElem?_cons_succ] at t0 t1 t2 t3
    refine bodyPost_ret (v := .tuple #[.agg #[.int .i64 (K.now + 1), .slice a0 n0 q0, .slice a1 n1 q1, .slice a2 n2 q2], .int .i64 0]) (by simp [results, Tryz.results9, go_sem, t0, t1, t2, t3]) rfl ⟨⟨_, _, _, by rw [HE3.out, HE4.out]; rfl, ?_⟩, ?_⟩
    · rw [HE3.out]
      exact ((((HBO3.out.scLow (show w.heap.size + 2 < w.heap.size + 3 by omega) 0 _).scLow (show w.heap.size + 2 < w.heap.size + 3 by omega) 1 _).scLow (show w.heap.size + 2 < w.heap.size + 3 by omega) 2 _).scLow (show w.heap.size + 2 < w.heap.size + 3 by omega) 3 _).lo (by omega)
    · exact puts_below (a := w) 0 (B := w.heap.size + 2) (by omega) [.int .i64 (K.now + 1), .slice a0 n0 q0, .slice a1 n1 q1, .slice a2 n2 q2] w3 0 HB3.out

end Go.Proofs.YtpamkibnahhphaaGreatDoor
