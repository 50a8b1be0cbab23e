/-
  Stewards: what may be taken away, by the specification.
-/
import Derived.Test.YtamhfnlogldpaaaStE
import Derived.Test.YtamhfnlogldpaaaLet
namespace Go.Proofs.Ytamhfnlogldpaaa
open Go.RowKit Go.Deep

def mayEnd (K : SBk) (svc : ByteArray) (num : Int) : Bool :=
  if cpIx K.cps svc num < 0 then false
  else if (cpGet K.cps (cpIx K.cps svc num)).ending then false
  else if (cpGet K.cps (cpIx K.cps svc num)).state ≠ 3 then true
  else if (svGet K.svcs (svIx K.svcs svc)).gone then true
  else decide ((svGet K.svcs (svIx K.svcs svc)).want - (svGet K.svcs (svIx K.svcs svc)).down ≤ (countOf K svc).ready - 1)

/-- What the walks want of a book: what a book that is ok has, and what it has while its copies are turned. -/
structure Sane (K : SBk) : Prop where
  cps : K.cps.length ≤ 1048576
  svc : ∀ i, i < K.cps.length → 0 ≤ svIx K.svcs (K.cps.getD i Cp.none).svc
  num : ∀ i, i < K.svcs.length → 0 ≤ (K.svcs.getD i Sv.none).want ∧ (K.svcs.getD i Sv.none).want ≤ 10 ∧ 0 ≤ (K.svcs.getD i Sv.none).down ∧ (K.svcs.getD i Sv.none).down ≤ 10

theorem svIx_same (l : List Sv) {a b : ByteArray} (h : same a b = true) : svIx l a = svIx l b := by
  have e : a.toList = b.toList := by simpa [same] using h
  unfold svIx same
  rw [e]

theorem sane_ok {K : SBk} (h : sbOk K = true) : Sane K := by
  simp only [sbOk, Bool.and_eq_true, decide_eq_true_eq] at h
  obtain ⟨⟨⟨⟨⟨⟨_, _⟩, h2⟩, _⟩, hs⟩, _⟩, hc⟩ := h
  refine ⟨by omega, fun i hi => ?_, fun i hi => ?_⟩
  · have q := (allTo_iff _ _).1 hc i hi
    simp only [cpOk, Bool.and_eq_true, decide_eq_true_eq] at q
    exact q.1.1.1.1.1.1
  · have q := (allTo_iff _ _).1 hs i hi
    simp only [svOk, inB, Bool.and_eq_true, decide_eq_true_eq] at q
    omega

theorem count_le (K : SBk) (svc : ByteArray) : (countOf K svc).le K.cps.length := by
  unfold countOf
  split
  · exact cnTo_le _ _ _ _
  · exact ⟨⟨by simp [Cn.zero], by simp [Cn.zero]⟩, ⟨by simp [Cn.zero], by simp [Cn.zero]⟩, ⟨by simp [Cn.zero], by simp [Cn.zero]⟩, ⟨by simp [Cn.zero], by simp [Cn.zero]⟩, ⟨by simp [Cn.zero], by simp [Cn.zero]⟩⟩

theorem field_ready (a b c d e : Value) (W : World) : (Instr.field 59 (.agg #[a, b, c, d, e]) 1).run Try.prog W = .ok b W := by kernel_rfl


/-- What the operations of the region that takes the service yield. -/
def VSv (p : Nat) (sl bk : Value) (svc : ByteArray) (s : Int) (b o : Nat) (cs : Array Value) (i : Nat) (u : Value) : Prop :=
  match i with
  | 0 => u = .pointer (some ⟨p, 1, none⟩)
  | 1 => u = sl
  | 2 => u = bk
  | 3 => u = .string svc
  | 4 => u = .int .i64 s
  | 5 => u = .pointer (some ⟨b, o, none⟩)
  | _ => u = .agg cs

end Go.Proofs.Ytamhfnlogldpaaa
