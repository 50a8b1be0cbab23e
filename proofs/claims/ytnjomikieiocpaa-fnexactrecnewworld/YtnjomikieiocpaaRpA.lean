/-
  Recorders: comparing, bounds, slots: the program's.
-/
import Derived.StillTailTactics
import Derived.WalkSpells
import Derived.WalkLawsBesides
import Derived.Deep.DeepCutAuto
import Derived.Test.YtnjomikieiocpaaClr
namespace Go.Proofs.Ytnjomikieiocpaa
open Go.RowKit Go.Deep

def numCmp (a b : Int) : Int := if a < b then -1 else if b < a then 1 else 0

theorem wrapI (n : Int) (h0 : 0 ≤ n) (h1 : n ≤ 9223372036854775807) : IntKind.i64.wrap n = n := by
  simp [IntKind.wrap, IntKind.bits, IntKind.signed]; omega

set_option maxHeartbeats 1000000 in
theorem withinI (x lo hi : Int) (w : World) : Calls Try.prog 11 #[.int .i64 x, .int .i64 lo, .int .i64 hi] w fun e w' => e = .returned (.bool (inB x lo hi)) ∧ w = w' := by
  obtain ⟨R, hR⟩ : ∃ R, R = inB x lo hi := ⟨_, rfl⟩
  have HR : Hid (R = inB x lo hi) := hR
  rw [← hR]
  clear hR
  go_enter Try.func11, Try.ntmps11
  by_cases h1 : lo ≤ x
  · by_cases h2 : x ≤ hi
    · have HE : Hid (R = true) := by show R = _; rw [HR.out]; simp [inB, h1, h2]
      go_wp2
      go_ret
      exact ⟨Pl.ret_bool HE.out.symm, rfl⟩
    · have HE : Hid (R = false) := by show R = _; rw [HR.out]; simp [inB, h2]
      go_wp2
      go_ret
      exact ⟨Pl.ret_bool HE.out.symm, rfl⟩
  · have HE : Hid (R = false) := by show R = _; rw [HR.out]; simp [inB, h1]
    go_wp2
    go_ret
    exact ⟨Pl.ret_bool HE.out.symm, rfl⟩

/-- A region that draws its order: a head that leaves the world, then a tail that is forced. -/
theorem region_tail {P : Program} {id : Nat} {Q : Exit → Act → World → Prop} {a : Act} {w : World} {l : List Oper} (n : Nat) (hm : P.follows .mixedOrders = true) (hB : Region.lexTailB .any l.toArray n = true)
    (h : ∀ W, W = w.drew → wpStill P l.toArray W (fun a' => wpList P l.toArray Q (l.drop n) a' W) (l.take n) a) : (Code.region id l.toArray true).wp P Q a w :=
  wp_region_still_tail n hm hB (h _ rfl)

theorem allTo_step {p : Nat → Bool} {k : Nat} (h : allTo p k = true) (hp : p k = true) : allTo p (k + 1) = true := by rw [allTo, h, hp]; rfl

/-- A slot that is ok, under no ballot above m. -/
def slotM (m : Int) (s : Rs) : Bool := inB s.bal 0 m && decide (s.txt.size ≤ 160) && !((s.bal == 0) && !s.txt.toList.isEmpty)
def slotsM (l : List Rs) (m : Int) : Bool := decide (l.length ≤ 120) && allTo (fun i => slotM m (l.getD i Rs.none)) l.length

end Go.Proofs.Ytnjomikieiocpaa
