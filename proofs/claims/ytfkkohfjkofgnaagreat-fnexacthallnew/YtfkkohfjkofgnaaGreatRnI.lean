/-
  RecNew by the program.
-/
import Derived.StillTailTactics
import Derived.WalkSpells
import Derived.WalkLawsBesides
import Derived.Deep.DeepCutAuto
import Derived.Test.YtfkkohfjkofgnaaGreatRnA
import Derived.Test.YtfkkohfjkofgnaaGreatRcA
namespace Go.Proofs.YtfkkohfjkofgnaaGreat
open Go.RowKit Go.Deep

def numCmp (a b : Int) : Int := if a < b then -1 else if b < a then 1 else 0

theorem wrapI (n : Int) (h0 : 0 ≤ n) (h1 : n ≤ 9223372036854775807) : IntKind.i64.wrap n = n := by
  simp [IntKind.wrap, IntKind.bits, IntKind.signed]; omega

set_option maxHeartbeats 1000000 in
theorem withinI (x lo hi : Int) (w : World) : Calls Tryz.prog 45 #[.int .i64 x, .int .i64 lo, .int .i64 hi] w fun e w' => e = .returned (.bool (inB x lo hi)) ∧ w = w' := by
  obtain ⟨R, hR⟩ : ∃ R, R = inB x lo hi := ⟨_, rfl⟩
  have HR : Hid (R = inB x lo hi) := hR
  rw [← hR]
  clear hR
  go_enter Tryz.func45, Tryz.ntmps45
  by_cases h1 : lo ≤ x
  · by_cases h2 : x ≤ hi
    · have HE : Hid (R = true) := by show R = _; rw [HR.out]; simp [inB, h1, h2]
      go_wp2
      go_ret
      exact ⟨Pl.ret_bool HE.out.symm, rfl⟩
    · have HE : Hid (R = false) := by show R = _; rw [HR.out]; simp [inB, h2]
      go_wp2
      go_ret
      exact ⟨Pl.ret_bool HE.out.symm, rfl⟩
  · have HE : Hid (R = false) := by show R = _; rw [HR.out]; simp [inB, h1]
    go_wp2
    go_ret
    exact ⟨Pl.ret_bool HE.out.symm, rfl⟩

/-- A region that draws its order: a head that leaves the world, then a tail that is forced. -/
theorem region_tail {P : Program} {id : Nat} {Q : Exit → Act → World → Prop} {a : Act} {w : World} {l : List Oper} (n : Nat) (hm : P.follows .mixedOrders = true) (hB : Region.lexTailB .any l.toArray n = true)
    (h : ∀ W, W = w.drew → wpStill P l.toArray W (fun a' => wpList P l.toArray Q (l.drop n) a' W) (l.take n) a) : (Code.region id l.toArray true).wp P Q a w :=
  wp_region_still_tail n hm hB (h _ rfl)

theorem allTo_step {p : Nat → Bool} {k : Nat} (h : allTo p k = true) (hp : p k = true) : allTo p (k + 1) = true := by rw [allTo, h, hp]; rfl

/-- A slot that is ok, under no ballot above m. -/
def slotM (m : Int) (s : Rs) : Bool := inB s.bal 0 m && decide (s.txt.size ≤ 160) && !((s.bal == 0) && !s.txt.toList.isEmpty)
def slotsM (l : List Rs) (m : Int) : Bool := decide (l.length ≤ 120) && allTo (fun i => slotM m (l.getD i Rs.none)) l.length

end Go.Proofs.YtfkkohfjkofgnaaGreat

namespace Go.Proofs.YtfkkohfjkofgnaaGreat
open Go.RowKit Go.Deep

def newOk (n o : Int) : Bool := inB o 1 5 && inB n 1 o
theorem setCells_size : ∀ (vs : List Value) (w : World) (b o : Nat), (w.setCells b o vs).heap.size = w.heap.size
  | [], _, _, _ => rfl
  | v :: vs, w, b, o => by rw [World.setCells, setCells_size vs]; simp [World.setCell]
theorem Tryz.sizeRec : (Tryz.prog.info? 84).map (·.size) = some 18 := by kernel_rfl

set_option maxHeartbeats 1000000 in
theorem isRecI (n o : Int) (w : World) :
    Calls Tryz.prog 73 #[.int .i64 n, .int .i64 o] w fun e w' => e = .returned (.bool (newOk n o)) ∧ w = w' := by
  unfold newOk
  go_enter Tryz.func73, Tryz.ntmps73
  cases h0 : inB o 1 5
  · go_wp2_with (go_at_call 45; refine (withinI _ _ _ _).mono ?_; rintro e w' ⟨rfl, rfl⟩)
    go_ret
    exact ⟨rfl, rfl⟩
  · go_wp2_with (go_at_call 45; refine (withinI _ _ _ _).mono ?_; rintro e w' ⟨rfl, rfl⟩)
    go_ret
    exact ⟨Pl.ret_bool (by simp), rfl⟩

end Go.Proofs.YtfkkohfjkofgnaaGreat

namespace Go.Proofs.YtfkkohfjkofgnaaGreat
open Go.RowKit Go.Deep

def newN (n o : Int) : Int := if newOk n o then n else 0
def newO (n o : Int) : Int := if newOk n o then o else 0

set_option maxRecDepth 8000 in
set_option maxHeartbeats 8000000 in
theorem recNewS (n o : Int) (w : World) :
    Calls Tryz.prog 42 #[.int .i64 n, .int .i64 o] w fun e w' => e = .returned (.agg #[.int .i64 (newN n o), .int .i64 (newO n o), .bool (newOk n o), .int .i64 0, .int .i64 0, .slice ((fun _ => none) 0) 0 ((fun _ => 0) 0), .int .i64 0, .int .i64 0, .slice ((fun _ => none) 1) 0 ((fun _ => 0) 1), .slice ((fun _ => none) 2) 0 ((fun _ => 0) 2), .slice ((fun _ => none) 3) 0 ((fun _ => 0) 3), .bool false, .bool false, .int .i64 0, .slice ((fun _ => none) 4) 0 ((fun _ => 0) 4), .slice ((fun _ => none) 5) 0 ((fun _ => 0) 5), .slice ((fun _ => none) 6) 0 ((fun _ => 0) 6), .int .i64 0]) ∧ Below w.heap.size w w' := by
  obtain ⟨N, hN⟩ : ∃ N, N = newN n o := ⟨_, rfl⟩
  obtain ⟨O, hO⟩ : ∃ O, O = newO n o := ⟨_, rfl⟩
  obtain ⟨U, hU⟩ : ∃ U, U = newOk n o := ⟨_, rfl⟩
  rw [← hN, ← hO, ← hU]
  have HN := hid (And.intro hN (And.intro hO hU))
  clear hN hO hU
  obtain ⟨wa, hwa⟩ : ∃ wa, wa = w.alloc (.cells #[.int .i64 0, .int .i64 0, .bool false, .int .i64 0, .int .i64 0, .slice none 0 0, .int .i64 0, .int .i64 0, .slice none 0 0, .slice none 0 0, .slice none 0 0, .bool false, .bool false, .int .i64 0, .slice none 0 0, .slice none 0 0, .slice none 0 0, .int .i64 0] 84) := ⟨_, rfl⟩
  have HB : Hid (Below w.heap.size w wa) := by show Below _ _ _; rw [hwa]; exact blw_alloc (Below.refl _ _) _
  have HO : Hid (OwnBlk wa w.heap.size 84 18) := by show OwnBlk _ _ _ _; rw [hwa]; exact OwnBlk.alloc w _ _ _ rfl
  go_enter Tryz.func42, Tryz.ntmps42
  go_upto_region 1 with fail
  rw [← hwa]
  clear hwa
  have hth := RY.own_there HO.out
  cases h1 : inB o 1 5
  · have HE : Hid (N = 0 ∧ O = 0 ∧ U = false) := by
      have e : newOk n o = false := by unfold newOk; rw [h1]; rfl
      exact ⟨by rw [HN.out.1, newN, e]; rfl, by rw [HN.out.2.1, newO, e]; rfl, by rw [HN.out.2.2, e]⟩
    have hrt : World.rangeAt (wa.setCells w.heap.size 0 [.int .i64 0, .int .i64 0, .bool false, .int .i64 0, .int .i64 0, .slice none 0 0, .int .i64 0, .int .i64 0, .slice none 0 0, .slice none 0 0, .slice none 0 0, .bool false, .bool false, .int .i64 0, .slice none 0 0, .slice none 0 0, .slice none 0 0, .int .i64 0]) w.heap.size 0 [.int .i64 0, .int .i64 0, .bool false, .int .i64 0, .int .i64 0, .slice none 0 0, .int .i64 0, .int .i64 0, .slice none 0 0, .slice none 0 0, .slice none 0 0, .bool false, .bool false, .int .i64 0, .slice none 0 0, .slice none 0 0, .slice none 0 0, .int .i64 0] := World.rangeAt_setCells_same _ _ _ _ hth
    go_wp2_with (first | (go_at_call 41; refine (l21InS _ _ _ _).mono ?_; rintro e w' ⟨rfl, rfl⟩) | (refine wpList_store_mid rfl 84 _ _ rfl w.heap.size 0 #[.int .i64 0, .int .i64 0, .bool false, .int .i64 0, .int .i64 0, .slice none 0 0, .int .i64 0, .int .i64 0, .slice none 0 0, .slice none 0 0, .slice none 0 0, .bool false, .bool false, .int .i64 0, .slice none 0 0, .slice none 0 0, .slice none 0 0, .int .i64 0] rfl rfl hth (by kernel_rfl) (by simp [Value.oneCell']) ?_))
    simp only [Act.put]
    refine bodyPost_ret (v := .agg #[.int .i64 0, .int .i64 0, .bool false, .int .i64 0, .int .i64 0, .slice none 0 0, .int .i64 0, .int .i64 0, .slice none 0 0, .slice none 0 0, .slice none 0 0, .bool false, .bool false, .int .i64 0, .slice none 0 0, .slice none 0 0, .slice none 0 0, .int .i64 0]) (by simp [results, Tryz.results42, asAddr, run_loadVar_mid (P := Tryz.prog) _ _ _ 84 [.int .i64 0, .int .i64 0, .bool false, .int .i64 0, .int .i64 0, .slice none 0 0, .int .i64 0, .int .i64 0, .slice none 0 0, .slice none 0 0, .slice none 0 0, .bool false, .bool false, .int .i64 0, .slice none 0 0, .slice none 0 0, .slice none 0 0, .int .i64 0] _ hrt Tryz.underlying84 rfl (by kernel_rfl)]) rfl ⟨?_, puts_below (a := w) 0 (B := w.heap.size) (Nat.le_refl _) [.int .i64 0, .int .i64 0, .bool false, .int .i64 0, .int .i64 0, .slice none 0 0, .int .i64 0, .int .i64 0, .slice none 0 0, .slice none 0 0, .slice none 0 0, .bool false, .bool false, .int .i64 0, .slice none 0 0, .slice none 0 0, .slice none 0 0, .int .i64 0] wa 0 HB.out⟩
    rw [HE.out.1, HE.out.2.1, HE.out.2.2]
  cases h2 : inB n 1 o
  · have HE : Hid (N = 0 ∧ O = 0 ∧ U = false) := by
      have e : newOk n o = false := by unfold newOk; rw [h1, h2]; rfl
      exact ⟨by rw [HN.out.1, newN, e]; rfl, by rw [HN.out.2.1, newO, e]; rfl, by rw [HN.out.2.2, e]⟩
    have hrt : World.rangeAt (wa.setCells w.heap.size 0 [.int .i64 0, .int .i64 0, .bool false, .int .i64 0, .int .i64 0, .slice none 0 0, .int .i64 0, .int .i64 0, .slice none 0 0, .slice none 0 0, .slice none 0 0, .bool false, .bool false, .int .i64 0, .slice none 0 0, .slice none 0 0, .slice none 0 0, .int .i64 0]) w.heap.size 0 [.int .i64 0, .int .i64 0, .bool false, .int .i64 0, .int .i64 0, .slice none 0 0, .int .i64 0, .int .i64 0, .slice none 0 0, .slice none 0 0, .slice none 0 0, .bool false, .bool false, .int .i64 0, .slice none 0 0, .slice none 0 0, .slice none 0 0, .int .i64 0] := World.rangeAt_setCells_same _ _ _ _ hth
    go_wp2_with (first | (go_at_call 41; refine (l21InS _ _ _ _).mono ?_; rintro e w' ⟨rfl, rfl⟩) | (refine wpList_store_mid rfl 84 _ _ rfl w.heap.size 0 #[.int .i64 0, .int .i64 0, .bool false, .int .i64 0, .int .i64 0, .slice none 0 0, .int .i64 0, .int .i64 0, .slice none 0 0, .slice none 0 0, .slice none 0 0, .bool false, .bool false, .int .i64 0, .slice none 0 0, .slice none 0 0, .slice none 0 0, .int .i64 0] rfl rfl hth (by kernel_rfl) (by simp [Value.oneCell']) ?_))
    simp only [Act.put]
    refine bodyPost_ret (v := .agg #[.int .i64 0, .int .i64 0, .bool false, .int .i64 0, .int .i64 0, .slice none 0 0, .int .i64 0, .int .i64 0, .slice none 0 0, .slice none 0 0, .slice none 0 0, .bool false, .bool false, .int .i64 0, .slice none 0 0, .slice none 0 0, .slice none 0 0, .int .i64 0]) (by simp [results, Tryz.results42, asAddr, run_loadVar_mid (P := Tryz.prog) _ _ _ 84 [.int .i64 0, .int .i64 0, .bool false, .int .i64 0, .int .i64 0, .slice none 0 0, .int .i64 0, .int .i64 0, .slice none 0 0, .slice none 0 0, .slice none 0 0, .bool false, .bool false, .int .i64 0, .slice none 0 0, .slice none 0 0, .slice none 0 0, .int .i64 0] _ hrt Tryz.underlying84 rfl (by kernel_rfl)]) rfl ⟨?_, puts_below (a := w) 0 (B := w.heap.size) (Nat.le_refl _) [.int .i64 0, .int .i64 0, .bool false, .int .i64 0, .int .i64 0, .slice none 0 0, .int .i64 0, .int .i64 0, .slice none 0 0, .slice none 0 0, .slice none 0 0, .bool false, .bool false, .int .i64 0, .slice none 0 0, .slice none 0 0, .slice none 0 0, .int .i64 0] wa 0 HB.out⟩
    rw [HE.out.1, HE.out.2.1, HE.out.2.2]
  have HE : Hid (N = n ∧ O = o ∧ U = true) := by
    have e : newOk n o = true := by unfold newOk; rw [h1, h2]; rfl
    exact ⟨by rw [HN.out.1, newN, e]; rfl, by rw [HN.out.2.1, newO, e]; rfl, by rw [HN.out.2.2, e]⟩
  have hrt : World.rangeAt (wa.setCells w.heap.size 0 [.int .i64 n, .int .i64 o, .bool true, .int .i64 0, .int .i64 0, .slice none 0 0, .int .i64 0, .int .i64 0, .slice none 0 0, .slice none 0 0, .slice none 0 0, .bool false, .bool false, .int .i64 0, .slice none 0 0, .slice none 0 0, .slice none 0 0, .int .i64 0]) w.heap.size 0 [.int .i64 n, .int .i64 o, .bool true, .int .i64 0, .int .i64 0, .slice none 0 0, .int .i64 0, .int .i64 0, .slice none 0 0, .slice none 0 0, .slice none 0 0, .bool false, .bool false, .int .i64 0, .slice none 0 0, .slice none 0 0, .slice none 0 0, .int .i64 0] := World.rangeAt_setCells_same _ _ _ _ hth
  go_wp2_with (first | (go_at_call 41; refine (l21InS _ _ _ _).mono ?_; rintro e w' ⟨rfl, rfl⟩) | (refine wpList_store_mid rfl 84 _ _ rfl w.heap.size 0 #[.int .i64 n, .int .i64 o, .bool true, .int .i64 0, .int .i64 0, .slice none 0 0, .int .i64 0, .int .i64 0, .slice none 0 0, .slice none 0 0, .slice none 0 0, .bool false, .bool false, .int .i64 0, .slice none 0 0, .slice none 0 0, .slice none 0 0, .int .i64 0] rfl rfl hth (by kernel_rfl) (by simp [Value.oneCell']) ?_))
  simp only [Act.put]
  refine bodyPost_ret (v := .agg #[.int .i64 n, .int .i64 o, .bool true, .int .i64 0, .int .i64 0, .slice none 0 0, .int .i64 0, .int .i64 0, .slice none 0 0, .slice none 0 0, .slice none 0 0, .bool false, .bool false, .int .i64 0, .slice none 0 0, .slice none 0 0, .slice none 0 0, .int .i64 0]) (by simp [results, Tryz.results42, asAddr, run_loadVar_mid (P := Tryz.prog) _ _ _ 84 [.int .i64 n, .int .i64 o, .bool true, .int .i64 0, .int .i64 0, .slice none 0 0, .int .i64 0, .int .i64 0, .slice none 0 0, .slice none 0 0, .slice none 0 0, .bool false, .bool false, .int .i64 0, .slice none 0 0, .slice none 0 0, .slice none 0 0, .int .i64 0] _ hrt Tryz.underlying84 rfl (by kernel_rfl)]) rfl ⟨?_, puts_below (a := w) 0 (B := w.heap.size) (Nat.le_refl _) [.int .i64 n, .int .i64 o, .bool true, .int .i64 0, .int .i64 0, .slice none 0 0, .int .i64 0, .int .i64 0, .slice none 0 0, .slice none 0 0, .slice none 0 0, .bool false, .bool false, .int .i64 0, .slice none 0 0, .slice none 0 0, .slice none 0 0, .int .i64 0] wa 0 HB.out⟩
  rw [HE.out.1, HE.out.2.1, HE.out.2.2]

end Go.Proofs.YtfkkohfjkofgnaaGreat

namespace Go.Proofs.YtfkkohfjkofgnaaGreat
open Go.RowKit Go.Deep

set_option maxRecDepth 8000 in
set_option maxHeartbeats 8000000 in
theorem recNewV (n o : Int) (w : World) :
    Calls Tryz.prog 46 #[.int .i64 n, .int .i64 o] w fun e w' => e = .returned (.agg #[.int .i64 (newN n o), .int .i64 (newO n o), .bool (newOk n o), .int .i64 0, .int .i64 0, .slice ((fun _ => none) 0) 0 ((fun _ => 0) 0), .int .i64 0, .int .i64 0, .slice ((fun _ => none) 1) 0 ((fun _ => 0) 1), .slice ((fun _ => none) 2) 0 ((fun _ => 0) 2), .slice ((fun _ => none) 3) 0 ((fun _ => 0) 3), .bool false, .bool false, .int .i64 0, .slice ((fun _ => none) 4) 0 ((fun _ => 0) 4), .slice ((fun _ => none) 5) 0 ((fun _ => 0) 5), .slice ((fun _ => none) 6) 0 ((fun _ => 0) 6), .int .i64 0]) ∧ Below w.heap.size w w' := by
  obtain ⟨N, hN⟩ : ∃ N, N = newN n o := ⟨_, rfl⟩
  obtain ⟨O, hO⟩ : ∃ O, O = newO n o := ⟨_, rfl⟩
  obtain ⟨U, hU⟩ : ∃ U, U = newOk n o := ⟨_, rfl⟩
  rw [← hN, ← hO, ← hU]
  have HN := hid (And.intro hN (And.intro hO hU))
  clear hN hO hU
  obtain ⟨wa, hwa⟩ : ∃ wa, wa = w.alloc (.cells #[.int .i64 0, .int .i64 0, .bool false, .int .i64 0, .int .i64 0, .slice none 0 0, .int .i64 0, .int .i64 0, .slice none 0 0, .slice none 0 0, .slice none 0 0, .bool false, .bool false, .int .i64 0, .slice none 0 0, .slice none 0 0, .slice none 0 0, .int .i64 0] 84) := ⟨_, rfl⟩
  have HB : Hid (Below w.heap.size w wa) := by show Below _ _ _; rw [hwa]; exact blw_alloc (Below.refl _ _) _
  have HO : Hid (OwnBlk wa w.heap.size 84 18) := by show OwnBlk _ _ _ _; rw [hwa]; exact OwnBlk.alloc w _ _ _ rfl
  go_enter Tryz.func46, Tryz.ntmps46
  go_upto_region 1 with fail
  rw [← hwa]
  clear hwa
  have hth := RY.own_there HO.out
  cases h1 : newOk n o
  · have HE : Hid (N = 0 ∧ O = 0 ∧ U = false) := by
      have e := h1
      exact ⟨by rw [HN.out.1, newN, e]; rfl, by rw [HN.out.2.1, newO, e]; rfl, by rw [HN.out.2.2, e]⟩
    have hrt : World.rangeAt (wa.setCells w.heap.size 0 [.int .i64 0, .int .i64 0, .bool false, .int .i64 0, .int .i64 0, .slice none 0 0, .int .i64 0, .int .i64 0, .slice none 0 0, .slice none 0 0, .slice none 0 0, .bool false, .bool false, .int .i64 0, .slice none 0 0, .slice none 0 0, .slice none 0 0, .int .i64 0]) w.heap.size 0 [.int .i64 0, .int .i64 0, .bool false, .int .i64 0, .int .i64 0, .slice none 0 0, .int .i64 0, .int .i64 0, .slice none 0 0, .slice none 0 0, .slice none 0 0, .bool false, .bool false, .int .i64 0, .slice none 0 0, .slice none 0 0, .slice none 0 0, .int .i64 0] := World.rangeAt_setCells_same _ _ _ _ hth
    go_wp2_with (first | (go_at_call 73; refine (isRecI _ _ _).mono ?_; rintro e w' ⟨rfl, rfl⟩) | (refine wpList_store_mid rfl 84 _ _ rfl w.heap.size 0 #[.int .i64 0, .int .i64 0, .bool false, .int .i64 0, .int .i64 0, .slice none 0 0, .int .i64 0, .int .i64 0, .slice none 0 0, .slice none 0 0, .slice none 0 0, .bool false, .bool false, .int .i64 0, .slice none 0 0, .slice none 0 0, .slice none 0 0, .int .i64 0] rfl rfl hth (by kernel_rfl) (by simp [Value.oneCell']) ?_))
    simp only [Act.put]
    refine bodyPost_ret (v := .agg #[.int .i64 0, .int .i64 0, .bool false, .int .i64 0, .int .i64 0, .slice none 0 0, .int .i64 0, .int .i64 0, .slice none 0 0, .slice none 0 0, .slice none 0 0, .bool false, .bool false, .int .i64 0, .slice none 0 0, .slice none 0 0, .slice none 0 0, .int .i64 0]) (by simp [results, Tryz.results46, asAddr, run_loadVar_mid (P := Tryz.prog) _ _ _ 84 [.int .i64 0, .int .i64 0, .bool false, .int .i64 0, .int .i64 0, .slice none 0 0, .int .i64 0, .int .i64 0, .slice none 0 0, .slice none 0 0, .slice none 0 0, .bool false, .bool false, .int .i64 0, .slice none 0 0, .slice none 0 0, .slice none 0 0, .int .i64 0] _ hrt Tryz.underlying84 rfl (by kernel_rfl)]) rfl ⟨?_, puts_below (a := w) 0 (B := w.heap.size) (Nat.le_refl _) [.int .i64 0, .int .i64 0, .bool false, .int .i64 0, .int .i64 0, .slice none 0 0, .int .i64 0, .int .i64 0, .slice none 0 0, .slice none 0 0, .slice none 0 0, .bool false, .bool false, .int .i64 0, .slice none 0 0, .slice none 0 0, .slice none 0 0, .int .i64 0] wa 0 HB.out⟩
    rw [HE.out.1, HE.out.2.1, HE.out.2.2]
  have HE : Hid (N = n ∧ O = o ∧ U = true) := by
    have e := h1
    exact ⟨by rw [HN.out.1, newN, e]; rfl, by rw [HN.out.2.1, newO, e]; rfl, by rw [HN.out.2.2, e]⟩
  have hrt : World.rangeAt (wa.setCells w.heap.size 0 [.int .i64 n, .int .i64 o, .bool true, .int .i64 0, .int .i64 0, .slice none 0 0, .int .i64 0, .int .i64 0, .slice none 0 0, .slice none 0 0, .slice none 0 0, .bool false, .bool false, .int .i64 0, .slice none 0 0, .slice none 0 0, .slice none 0 0, .int .i64 0]) w.heap.size 0 [.int .i64 n, .int .i64 o, .bool true, .int .i64 0, .int .i64 0, .slice none 0 0, .int .i64 0, .int .i64 0, .slice none 0 0, .slice none 0 0, .slice none 0 0, .bool false, .bool false, .int .i64 0, .slice none 0 0, .slice none 0 0, .slice none 0 0, .int .i64 0] := World.rangeAt_setCells_same _ _ _ _ hth
  go_wp2_with (first | (go_at_call 73; refine (isRecI _ _ _).mono ?_; rintro e w' ⟨rfl, rfl⟩) | (refine wpList_store_mid rfl 84 _ _ rfl w.heap.size 0 #[.int .i64 n, .int .i64 o, .bool true, .int .i64 0, .int .i64 0, .slice none 0 0, .int .i64 0, .int .i64 0, .slice none 0 0, .slice none 0 0, .slice none 0 0, .bool false, .bool false, .int .i64 0, .slice none 0 0, .slice none 0 0, .slice none 0 0, .int .i64 0] rfl rfl hth (by kernel_rfl) (by simp [Value.oneCell']) ?_))
  simp only [Act.put]
  refine bodyPost_ret (v := .agg #[.int .i64 n, .int .i64 o, .bool true, .int .i64 0, .int .i64 0, .slice none 0 0, .int .i64 0, .int .i64 0, .slice none 0 0, .slice none 0 0, .slice none 0 0, .bool false, .bool false, .int .i64 0, .slice none 0 0, .slice none 0 0, .slice none 0 0, .int .i64 0]) (by simp [results, Tryz.results46, asAddr, run_loadVar_mid (P := Tryz.prog) _ _ _ 84 [.int .i64 n, .int .i64 o, .bool true, .int .i64 0, .int .i64 0, .slice none 0 0, .int .i64 0, .int .i64 0, .slice none 0 0, .slice none 0 0, .slice none 0 0, .bool false, .bool false, .int .i64 0, .slice none 0 0, .slice none 0 0, .slice none 0 0, .int .i64 0] _ hrt Tryz.underlying84 rfl (by kernel_rfl)]) rfl ⟨?_, puts_below (a := w) 0 (B := w.heap.size) (Nat.le_refl _) [.int .i64 n, .int .i64 o, .bool true, .int .i64 0, .int .i64 0, .slice none 0 0, .int .i64 0, .int .i64 0, .slice none 0 0, .slice none 0 0, .slice none 0 0, .bool false, .bool false, .int .i64 0, .slice none 0 0, .slice none 0 0, .slice none 0 0, .int .i64 0] wa 0 HB.out⟩
  rw [HE.out.1, HE.out.2.1, HE.out.2.2]

theorem recNewI (n o : Int) (W : World) :
    Calls Tryz.prog 46 #[.int .i64 n, .int .i64 o] W fun e w' => (∃ (A : Nat → Option Addr) (C : Nat → Nat), e = .returned (.agg #[.int .i64 (newN n o), .int .i64 (newO n o), .bool (newOk n o), .int .i64 0, .int .i64 0, .slice (A 0) 0 (C 0), .int .i64 0, .int .i64 0, .slice (A 1) 0 (C 1), .slice (A 2) 0 (C 2), .slice (A 3) 0 (C 3), .bool false, .bool false, .int .i64 0, .slice (A 4) 0 (C 4), .slice (A 5) 0 (C 5), .slice (A 6) 0 (C 6), .int .i64 0])) ∧ Below W.heap.size W w' :=
  (recNewV n o W).mono fun _ _ h => ⟨⟨fun _ => none, fun _ => 0, h.1⟩, h.2⟩

end Go.Proofs.YtfkkohfjkofgnaaGreat
