/-
  RecNew by the program.
-/
import Derived.Test.YtnjomikieiocpaaRnB
import Derived.Test.YtnjomikieiocpaaRpA
namespace Go.Proofs.Ytnjomikieiocpaa
open Go.RowKit Go.Deep

set_option maxRecDepth 8000 in
set_option maxHeartbeats 8000000 in
theorem recNewV (n o : Int) (w : World) :
    Calls Try.prog 12 #[.int .i64 n, .int .i64 o] w fun e w' => e = .returned (.agg #[.int .i64 (newN n o), .int .i64 (newO n o), .bool (newOk n o), .int .i64 0, .int .i64 0, .slice ((fun _ => none) 0) 0 ((fun _ => 0) 0), .int .i64 0, .int .i64 0, .slice ((fun _ => none) 1) 0 ((fun _ => 0) 1), .slice ((fun _ => none) 2) 0 ((fun _ => 0) 2), .slice ((fun _ => none) 3) 0 ((fun _ => 0) 3), .bool false, .bool false, .int .i64 0, .slice ((fun _ => none) 4) 0 ((fun _ => 0) 4), .slice ((fun _ => none) 5) 0 ((fun _ => 0) 5), .slice ((fun _ => none) 6) 0 ((fun _ => 0) 6), .int .i64 0]) ∧ Below w.heap.size w w' := by
  obtain ⟨N, hN⟩ : ∃ N, N = newN n o := ⟨_, rfl⟩
  obtain ⟨O, hO⟩ : ∃ O, O = newO n o := ⟨_, rfl⟩
  obtain ⟨U, hU⟩ : ∃ U, U = newOk n o := ⟨_, rfl⟩
  rw [← hN, ← hO, ← hU]
  have HN := hid (And.intro hN (And.intro hO hU))
  clear hN hO hU
  obtain ⟨wa, hwa⟩ : ∃ wa, wa = w.alloc (.cells #[.int .i64 0, .int .i64 0, .bool false, .int .i64 0, .int .i64 0, .slice none 0 0, .int .i64 0, .int .i64 0, .slice none 0 0, .slice none 0 0, .slice none 0 0, .bool false, .bool false, .int .i64 0, .slice none 0 0, .slice none 0 0, .slice none 0 0, .int .i64 0] 39) := ⟨_, rfl⟩
  have HB : Hid (Below w.heap.size w wa) := by show Below _ _ _; rw [hwa]; exact blw_alloc (Below.refl _ _) _
  have HO : Hid (OwnBlk wa w.heap.size 39 18) := by show OwnBlk _ _ _ _; rw [hwa]; exact OwnBlk.alloc w _ _ _ rfl
  go_enter Try.func12, Try.ntmps12
  go_upto_region 1 with fail
  rw [← hwa]
  clear hwa
  have hth := RY.own_there HO.out
  cases h1 : newOk n o
  · have HE : Hid (N = 0 ∧ O = 0 ∧ U = false) := by
      have e := h1
      exact ⟨by rw [HN.out.1, newN, e]; rfl, by rw [HN.out.2.1, newO, e]; rfl, by rw [HN.out.2.2, e]⟩
    have hrt : World.rangeAt (wa.setCells w.heap.size 0 [.int .i64 0, .int .i64 0, .bool false, .int .i64 0, .int .i64 0, .slice none 0 0, .int .i64 0, .int .i64 0, .slice none 0 0, .slice none 0 0, .slice none 0 0, .bool false, .bool false, .int .i64 0, .slice none 0 0, .slice none 0 0, .slice none 0 0, .int .i64 0]) w.heap.size 0 [.int .i64 0, .int .i64 0, .bool false, .int .i64 0, .int .i64 0, .slice none 0 0, .int .i64 0, .int .i64 0, .slice none 0 0, .slice none 0 0, .slice none 0 0, .bool false, .bool false, .int .i64 0, .slice none 0 0, .slice none 0 0, .slice none 0 0, .int .i64 0] := World.rangeAt_setCells_same _ _ _ _ hth
    go_wp2_with (first | (go_at_call 22; refine (isRecI _ _ _).mono ?_; rintro e w' ⟨rfl, rfl⟩) | (refine wpList_store_mid rfl 39 _ _ rfl w.heap.size 0 #[.int .i64 0, .int .i64 0, .bool false, .int .i64 0, .int .i64 0, .slice none 0 0, .int .i64 0, .int .i64 0, .slice none 0 0, .slice none 0 0, .slice none 0 0, .bool false, .bool false, .int .i64 0, .slice none 0 0, .slice none 0 0, .slice none 0 0, .int .i64 0] rfl rfl hth (by kernel_rfl) (by simp [Value.oneCell']) ?_))
    simp only [Act.put]
    refine bodyPost_ret (v := .agg #[.int .i64 0, .int .i64 0, .bool false, .int .i64 0, .int .i64 0, .slice none 0 0, .int .i64 0, .int .i64 0, .slice none 0 0, .slice none 0 0, .slice none 0 0, .bool false, .bool false, .int .i64 0, .slice none 0 0, .slice none 0 0, .slice none 0 0, .int .i64 0]) (by simp [results, Try.results12, asAddr, run_loadVar_mid (P := Try.prog) _ _ _ 39 [.int .i64 0, .int .i64 0, .bool false, .int .i64 0, .int .i64 0, .slice none 0 0, .int .i64 0, .int .i64 0, .slice none 0 0, .slice none 0 0, .slice none 0 0, .bool false, .bool false, .int .i64 0, .slice none 0 0, .slice none 0 0, .slice none 0 0, .int .i64 0] _ hrt Try.underlying39 rfl (by kernel_rfl)]) rfl ⟨?_, puts_below (a := w) 0 (B := w.heap.size) (Nat.le_refl _) [.int .i64 0, .int .i64 0, .bool false, .int .i64 0, .int .i64 0, .slice none 0 0, .int .i64 0, .int .i64 0, .slice none 0 0, .slice none 0 0, .slice none 0 0, .bool false, .bool false, .int .i64 0, .slice none 0 0, .slice none 0 0, .slice none 0 0, .int .i64 0] wa 0 HB.out⟩
    rw [HE.out.1, HE.out.2.1, HE.out.2.2]
  have HE : Hid (N = n ∧ O = o ∧ U = true) := by
    have e := h1
    exact ⟨by rw [HN.out.1, newN, e]; rfl, by rw [HN.out.2.1, newO, e]; rfl, by rw [HN.out.2.2, e]⟩
  have hrt : World.rangeAt (wa.setCells w.heap.size 0 [.int .i64 n, .int .i64 o, .bool true, .int .i64 0, .int .i64 0, .slice none 0 0, .int .i64 0, .int .i64 0, .slice none 0 0, .slice none 0 0, .slice none 0 0, .bool false, .bool false, .int .i64 0, .slice none 0 0, .slice none 0 0, .slice none 0 0, .int .i64 0]) w.heap.size 0 [.int .i64 n, .int .i64 o, .bool true, .int .i64 0, .int .i64 0, .slice none 0 0, .int .i64 0, .int .i64 0, .slice none 0 0, .slice none 0 0, .slice none 0 0, .bool false, .bool false, .int .i64 0, .slice none 0 0, .slice none 0 0, .slice none 0 0, .int .i64 0] := World.rangeAt_setCells_same _ _ _ _ hth
  go_wp2_with (first | (go_at_call 22; refine (isRecI _ _ _).mono ?_; rintro e w' ⟨rfl, rfl⟩) | (refine wpList_store_mid rfl 39 _ _ rfl w.heap.size 0 #[.int .i64 n, .int .i64 o, .bool true, .int .i64 0, .int .i64 0, .slice none 0 0, .int .i64 0, .int .i64 0, .slice none 0 0, .slice none 0 0, .slice none 0 0, .bool false, .bool false, .int .i64 0, .slice none 0 0, .slice none 0 0, .slice none 0 0, .int .i64 0] rfl rfl hth (by kernel_rfl) (by simp [Value.oneCell']) ?_))
  simp only [Act.put]
  refine bodyPost_ret (v := .agg #[.int .i64 n, .int .i64 o, .bool true, .int .i64 0, .int .i64 0, .slice none 0 0, .int .i64 0, .int .i64 0, .slice none 0 0, .slice none 0 0, .slice none 0 0, .bool false, .bool false, .int .i64 0, .slice none 0 0, .slice none 0 0, .slice none 0 0, .int .i64 0]) (by simp [results, Try.results12, asAddr, run_loadVar_mid (P := Try.prog) _ _ _ 39 [.int .i64 n, .int .i64 o, .bool true, .int .i64 0, .int .i64 0, .slice none 0 0, .int .i64 0, .int .i64 0, .slice none 0 0, .slice none 0 0, .slice none 0 0, .bool false, .bool false, .int .i64 0, .slice none 0 0, .slice none 0 0, .slice none 0 0, .int .i64 0] _ hrt Try.underlying39 rfl (by kernel_rfl)]) rfl ⟨?_, puts_below (a := w) 0 (B := w.heap.size) (Nat.le_refl _) [.int .i64 n, .int .i64 o, .bool true, .int .i64 0, .int .i64 0, .slice none 0 0, .int .i64 0, .int .i64 0, .slice none 0 0, .slice none 0 0, .slice none 0 0, .bool false, .bool false, .int .i64 0, .slice none 0 0, .slice none 0 0, .slice none 0 0, .int .i64 0] wa 0 HB.out⟩
  rw [HE.out.1, HE.out.2.1, HE.out.2.2]

theorem recNewI (n o : Int) (W : World) :
    Calls Try.prog 12 #[.int .i64 n, .int .i64 o] W fun e w' => (∃ (A : Nat → Option Addr) (C : Nat → Nat), e = .returned (.agg #[.int .i64 (newN n o), .int .i64 (newO n o), .bool (newOk n o), .int .i64 0, .int .i64 0, .slice (A 0) 0 (C 0), .int .i64 0, .int .i64 0, .slice (A 1) 0 (C 1), .slice (A 2) 0 (C 2), .slice (A 3) 0 (C 3), .bool false, .bool false, .int .i64 0, .slice (A 4) 0 (C 4), .slice (A 5) 0 (C 5), .slice (A 6) 0 (C 6), .int .i64 0])) ∧ Below W.heap.size W w' :=
  (recNewV n o W).mono fun _ _ h => ⟨⟨fun _ => none, fun _ => 0, h.1⟩, h.2⟩

end Go.Proofs.Ytnjomikieiocpaa
