/-
  Is there such a recorder?
-/
import Derived.Test.YtnjomikieiocpaaRpA
namespace Go.Proofs.Ytnjomikieiocpaa
open Go.RowKit Go.Deep

def newOk (n o : Int) : Bool := inB o 1 5 && inB n 1 o
theorem setCells_size : ∀ (vs : List Value) (w : World) (b o : Nat), (w.setCells b o vs).heap.size = w.heap.size
  | [], _, _, _ => rfl
  | v :: vs, w, b, o => by rw [World.setCells, setCells_size vs]; simp [World.setCell]
theorem Try.sizeRec : (Try.prog.info? 39).map (·.size) = some 18 := by kernel_rfl

set_option maxHeartbeats 1000000 in
theorem isRecI (n o : Int) (w : World) :
    Calls Try.prog 22 #[.int .i64 n, .int .i64 o] w fun e w' => e = .returned (.bool (newOk n o)) ∧ w = w' := by
  unfold newOk
  go_enter Try.func22, Try.ntmps22
  cases h0 : inB o 1 5
  · go_wp2_with (go_at_call 11; refine (withinI _ _ _ _).mono ?_; rintro e w' ⟨rfl, rfl⟩)
    go_ret
    exact ⟨rfl, rfl⟩
  · go_wp2_with (go_at_call 11; refine (withinI _ _ _ _).mono ?_; rintro e w' ⟨rfl, rfl⟩)
    go_ret
    exact ⟨Pl.ret_bool (by simp), rfl⟩

end Go.Proofs.Ytnjomikieiocpaa
