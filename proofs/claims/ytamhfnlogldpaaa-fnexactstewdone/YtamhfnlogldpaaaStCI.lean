/-
  Stewards: counting: the program's StewCountOf.
-/
import Derived.Test.YtamhfnlogldpaaaStD
import Derived.Test.YtamhfnlogldpaaaStF
import Derived.Test.YtamhfnlogldpaaaStVI
import Derived.Test.YtamhfnlogldpaaaPgG
import Derived.Test.YtamhfnlogldpaaaPut
namespace Go.Proofs.Ytamhfnlogldpaaa
open Go.RowKit Go.Deep

def stewCount (K : SBk) (svc : ByteArray) : Cn := if sbOk K then countOf K svc else Cn.zero
def stewMayEnd (K : SBk) (svc : ByteArray) (num : Int) : Bool := sbOk K && mayEnd K svc num

end Go.Proofs.Ytamhfnlogldpaaa

namespace Go.Proofs.Ytamhfnlogldpaaa
open Go.RowKit Go.Deep

theorem chk_all {K : SBk} (h : sbOk K = true) : Apart K ∧ ascCp K.cps = true ∧ K.cps.length ≤ 200 ∧ ∀ i, i < K.cps.length → 1 ≤ (K.cps.getD i Cp.none).num := by
  rw [sbOk_eq, allTo_iff] at h
  have h1 := h 1 (by omega)
  have h2 := h 2 (by omega)
  have h3 := h 3 (by omega)
  simp only [chk, Bool.and_eq_true, decide_eq_true_eq] at h1 h2 h3
  refine ⟨apart_of h1.1.2 h2.1.2, h3.1.2, h3.1.1, fun i hi => ?_⟩
  have := (allTo_iff _ _).1 h3.2 i hi
  simp only [cpOk, inB, Bool.and_eq_true, decide_eq_true_eq] at this
  omega

def VCt (B : Nat) (K : SBk) (a0 a1 a2 : Option Addr) (c0 c1 c2 : Nat) (b off k : Nat) (s : Sv) (n : Cn) (i : Nat) (u : Value) (_ : World) : Prop :=
  match i with
  | 0 => u = .agg #[.int .i64 K.now, .slice a0 K.svcs.length c0, .slice a1 K.cps.length c1, .slice a2 K.bts.length c2]
  | 1 => u = .pointer (some ⟨B, 1, none⟩)
  | 2 => u = .slice a0 K.svcs.length c0
  | 3 => u = .int .i64 (k : Nat)
  | 4 => u = .pointer (some ⟨b, off + k * 13, none⟩)
  | 5 => u = .agg #[.string s.nm, .int .i64 s.ver, .bool s.gone, .int .i64 s.image, .int .i64 s.want, .int .i64 s.down, .int .i64 s.over, .int .i64 s.next, .int .i64 s.per, .int .i64 s.least, .int .i64 s.most, .int .i64 s.load, .int .i64 s.cool]
  | 6 => u = .agg #[.int .i64 n.live, .int .i64 n.ready, .int .i64 n.old, .int .i64 n.failed, .int .i64 n.ending]
  | _ => True
theorem VCt_mono (B : Nat) (K : SBk) (a0 a1 a2 : Option Addr) (c0 c1 c2 : Nat) (b off k : Nat) (s : Sv) (n : Cn) : ∀ j u W W', Below W.heap.size W W' → VCt B K a0 a1 a2 c0 c1 c2 b off k s n j u W → VCt B K a0 a1 a2 c0 c1 c2 b off k s n j u W' := fun _ _ _ _ _ h => h
theorem Try.infoCt : (Try.prog.info? 59).map (·.size) = some 5 := by kernel_rfl

end Go.Proofs.Ytamhfnlogldpaaa
