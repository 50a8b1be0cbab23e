/-
  Sheets that are valid: the specification.
-/
import Derived.BigFrame
import Derived.Test.YtdllbcafbfkngaaGreatDoorELa
import Derived.Test.YtdllbcafbfkngaaGreatDoorRgG
import Derived.Test.YtdllbcafbfkngaaGreatDoorUC
namespace Go.Proofs.YtdllbcafbfkngaaGreatDoor
open Go.RowKit Go.Deep

end Go.Proofs.YtdllbcafbfkngaaGreatDoor

namespace Go.Proofs.YtdllbcafbfkngaaGreatDoor
open Go.RowKit Go.Deep

set_option maxHeartbeats 4000000 in
theorem l39AheadS (x y : Pl.Bl) (v1 v2 : Value) (w : World) :
    Calls Tryz.prog 23 #[.agg #[.string x.kind, .string x.name, v1], .agg #[.string y.kind, .string y.name, v2]] w fun e w' => e = .returned (.bool (Pl.ahead x y)) ∧ Below w.heap.size w w' := by
  obtain ⟨wa, hwa⟩ : ∃ wa, wa = (w.alloc (.cells #[.string x.kind, .string x.name, v1] 37)).alloc (.cells #[.string y.kind, .string y.name, v2] 37) := ⟨_, rfl⟩
  have HB0 : Hid (Below w.heap.size w wa) := by show Below _ _ _; rw [hwa]; exact blw_alloc (blw_alloc (Below.refl _ _) _) _
  have HX : LBox wa w.heap.size [.string x.kind, .string x.name, v1] := by rw [hwa]; exact (LBox.new w #[.string x.kind, .string x.name, v1] _ _ rfl).past _
  have HY : LBox wa (w.heap.size + 1) [.string y.kind, .string y.name, v2] := by rw [hwa]; exact LBox.new (w.alloc (.cells #[.string x.kind, .string x.name, v1] 37)) #[.string y.kind, .string y.name, v2] _ _ (by simp)
  have HR : Hid (Pl.ahead x y = (Op.bytesLess x.kind.toList y.kind.toList || ((x.kind.toList == y.kind.toList) && Op.bytesLess x.name.toList y.name.toList))) := rfl
  go_enter Tryz.func23, Tryz.ntmps23
  go_upto_region 1 with fail
  rw [← hwa]
  clear hwa
  have x0 := HX.get 0 _ rfl
  have x1 := HX.get 1 _ rfl
  have xl := HX.lt
  have y0 := HY.get 0 _ rfl
  have y1 := HY.get 1 _ rfl
  have yl := HY.lt
  clear HX HY
  cases h1 : Op.bytesLess x.kind.toList y.kind.toList
  · cases h2 : (x.kind.toList == y.kind.toList)
    · go_wp2
      go_ret
      exact ⟨Pl.ret_bool (by rw [HR.out, h1, h2]; rfl), HB0.out⟩
    · go_wp2
      go_ret
      exact ⟨Pl.ret_bool (by rw [HR.out, h1, h2]; simp), HB0.out⟩
  · go_wp2
    go_ret
    exact ⟨Pl.ret_bool (by rw [HR.out, h1]; rfl), HB0.out⟩
end Go.Proofs.YtdllbcafbfkngaaGreatDoor
