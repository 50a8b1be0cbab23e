/-
  Stewards: comparing, bounds, names: the program's.
-/
import Derived.StillTailTactics
import Derived.WalkSpells
import Derived.WalkLawsBesides
import Derived.Deep.DeepCutAuto
import Derived.Test.YtclagbakddkjcaaGreatCls
namespace Go.Proofs.YtclagbakddkjcaaGreat
open Go.RowKit Go.Deep

def keyCmp (a b : ByteArray) : Int := if Pl.less a b then -1 else if a.toList == b.toList then 0 else 1
def numCmp (a b : Int) : Int := if a < b then -1 else if b < a then 1 else 0
def firstNZ : List Int → Int
  | [] => 0
  | x :: l => if x = 0 then firstNZ l else x
def pick2 (x y : Int) : Int := if x = 0 then y else x

theorem firstNZ_drop (l : List Int) (k : Nat) (hk : k < l.length) : firstNZ (l.drop k) = if l.getD k 0 = 0 then firstNZ (l.drop (k + 1)) else l.getD k 0 := by
  have e : l.drop k = l[k] :: l.drop (k + 1) := List.drop_eq_getElem_cons hk
  have e2 : l.getD k 0 = l[k] := by simp [hk]
  rw [e, e2]; rfl

set_option maxHeartbeats 400000 in
theorem isNaNs (a : ByteArray) (w : World) : Calls Tryz.prog 109 #[.string a] w fun e w' => e = .returned (.bool false) ∧ w = w' := by
  go_enter Tryz.func109, Tryz.ntmps109
  go_wp2
  go_ret
  exact ⟨Pl.ret_bool (by simp), rfl⟩

set_option maxHeartbeats 400000 in
theorem isNaNi (a : Int) (w : World) : Calls Tryz.prog 110 #[.int .i64 a] w fun e w' => e = .returned (.bool false) ∧ w = w' := by
  go_enter Tryz.func110, Tryz.ntmps110
  go_wp2
  go_ret
  exact ⟨Pl.ret_bool (by simp), rfl⟩

set_option maxHeartbeats 1000000 in
theorem cmpS (a b : ByteArray) (w : World) : Calls Tryz.prog 93 #[.string a, .string b] w fun e w' => e = .returned (.int .i64 (keyCmp a b)) ∧ w = w' := by
  obtain ⟨R, hR⟩ : ∃ R, R = keyCmp a b := ⟨_, rfl⟩
  have HR : Hid (R = keyCmp a b) := hR
  rw [← hR]
  clear hR
  go_enter Tryz.func93, Tryz.ntmps93
  cases h1 : Op.bytesLess a.toList b.toList <;> cases h2 : (a.toList == b.toList)
  all_goals
    have HE : Hid (R = if Op.bytesLess a.toList b.toList = true then (-1 : Int) else if (a.toList == b.toList) = true then 0 else 1) := HR.out
    have HE' : Hid (Op.bytesLess a.toList b.toList = _ ∧ (a.toList == b.toList) = _) := ⟨h1, h2⟩
    go_wp2_with (go_at_call 109; refine (isNaNs _ _).mono ?_; rintro e w' ⟨rfl, rfl⟩)
    go_ret
    exact ⟨Pl.ret_int (by rw [HE.out, HE'.out.1, HE'.out.2]; rfl), rfl⟩

set_option maxHeartbeats 1000000 in
theorem cmpI (a b : Int) (w : World) : Calls Tryz.prog 96 #[.int .i64 a, .int .i64 b] w fun e w' => e = .returned (.int .i64 (numCmp a b)) ∧ w = w' := by
  obtain ⟨R, hR⟩ : ∃ R, R = numCmp a b := ⟨_, rfl⟩
  have HR : Hid (R = numCmp a b) := hR
  rw [← hR]
  clear hR
  go_enter Tryz.func96, Tryz.ntmps96
  by_cases h1 : a < b
  · have HE : Hid (R = -1) := by show R = _; rw [HR.out]; unfold numCmp; rw [if_pos h1]
    go_wp2_with (go_at_call 110; refine (isNaNi _ _).mono ?_; rintro e w' ⟨rfl, rfl⟩)
    go_ret
    exact ⟨Pl.ret_int HE.out.symm, rfl⟩
  · by_cases h2 : b < a
    · have HE : Hid (R = 1) := by show R = _; rw [HR.out]; unfold numCmp; rw [if_neg h1, if_pos h2]
      go_wp2_with (go_at_call 110; refine (isNaNi _ _).mono ?_; rintro e w' ⟨rfl, rfl⟩)
      go_ret
      exact ⟨Pl.ret_int HE.out.symm, rfl⟩
    · have HE : Hid (R = 0) := by show R = _; rw [HR.out]; unfold numCmp; rw [if_neg h1, if_neg h2]
      go_wp2_with (go_at_call 110; refine (isNaNi _ _).mono ?_; rintro e w' ⟨rfl, rfl⟩)
      go_ret
      exact ⟨Pl.ret_int HE.out.symm, rfl⟩

set_option maxHeartbeats 1000000 in
theorem cmpOr (g c : Nat) (l : List Int) (w : World) (hl : l.length ≤ 1048576) (hc : ∀ i, i < l.length → w.cell? ⟨g, i, none⟩ = some (.int .i64 (l.getD i 0))) :
    Calls Tryz.prog 95 #[.slice (some ⟨g, 0, none⟩) l.length c] w fun e w' => e = .returned (.int .i64 (firstNZ l)) ∧ w = w' := by
  obtain ⟨R, hR⟩ : ∃ R, R = firstNZ l := ⟨_, rfl⟩
  have HR : Hid (R = firstNZ l) := hR
  rw [← hR]
  clear hR
  go_enter Tryz.func95, Tryz.ntmps95
  go_wp2
  go_loop [8] (fun i => ∃ k : Nat, k ≤ l.length ∧ i = .int .i64 k ∧ R = firstNZ (l.drop k)) (fun i => l.length - (intOf i).toNat)
  case atStart => exact ⟨0, Nat.zero_le _, rfl, HR.out⟩
  case round =>
    obtain ⟨k, hk, rfl, hq⟩ := hrel
    have HQ : Hid (R = firstNZ (l.drop k)) := hq
    clear hq
    by_cases hlt : k < l.length
    · have hck := hc k hlt
      obtain ⟨y, hy⟩ : ∃ y, y = l.getD k 0 := ⟨_, rfl⟩
      rw [← hy] at hck
      have HY : Hid (R = if y = 0 then firstNZ (l.drop (k + 1)) else y) := by show R = _; rw [HQ.out, firstNZ_drop l k hlt, hy]
      clear hy hc
      by_cases hz : y = 0
      · have HE : Hid (R = firstNZ (l.drop (k + 1))) := by show R = _; rw [HY.out, if_pos hz]
        go_wp2
        go_round
        case rel => exact ⟨k + 1, by omega, by go_num, HE.out⟩
        case measure => simp [intOf]; omega
      · have HE : Hid (R = y) := by show R = _; rw [HY.out, if_neg hz]
        go_wp2
        go_ret
        exact ⟨Pl.ret_int HE.out.symm, rfl⟩
    · have HE : Hid (R = 0) := by show R = _; rw [HQ.out, List.drop_eq_nil_of_le (by omega)]; rfl
      go_wp2
      go_ret
      exact ⟨Pl.ret_int HE.out.symm, rfl⟩

theorem nz2 (x y : Int) : firstNZ [x, y] = pick2 x y := by
  unfold firstNZ pick2; split
  · unfold firstNZ; split
    · rename_i h; rw [h]; rfl
    · rfl
  · rfl

theorem cmpOr2 (g c : Nat) (x y : Int) (w : World) (h0 : w.cell? ⟨g, 0, none⟩ = some (.int .i64 x)) (h1 : w.cell? ⟨g, 1, none⟩ = some (.int .i64 y)) :
    Calls Tryz.prog 95 #[.slice (some ⟨g, 0, none⟩) 2 c] w fun e w' => e = .returned (.int .i64 (pick2 x y)) ∧ w = w' := by
  have := cmpOr g c [x, y] w (by simp) (fun i hi => by
    match i, hi with
    | 0, _ => exact h0
    | 1, _ => exact h1
    | n + 2, h => simp at h; omega)
  rw [nz2] at this
  exact this

/-- A region that draws its order: a head that leaves the world, then a tail that is forced. -/
theorem region_tail {P : Program} {id : Nat} {Q : Exit → Act → World → Prop} {a : Act} {w : World} {l : List Oper} (n : Nat) (hm : P.follows .mixedOrders = true) (hB : Region.lexTailB .any l.toArray n = true)
    (h : ∀ W, W = w.drew → wpStill P l.toArray W (fun a' => wpList P l.toArray Q (l.drop n) a' W) (l.take n) a) : (Code.region id l.toArray true).wp P Q a w :=
  wp_region_still_tail n hm hB (h _ rfl)

theorem cmpS' (a b : ByteArray) (w : World) : Calls Tryz.prog 93 #[.string a, .string b] w fun e w' => e = .returned (.int .i64 (keyCmp a b)) ∧ w' = w := (cmpS a b w).mono (fun _ _ h => ⟨h.1, h.2.symm⟩)

theorem wrapI (n : Int) (h0 : 0 ≤ n) (h1 : n ≤ 9223372036854775807) : IntKind.i64.wrap n = n := by
  simp [IntKind.wrap, IntKind.bits, IntKind.signed]; omega

theorem cmpI' (a b : Int) (w : World) : Calls Tryz.prog 96 #[.int .i64 a, .int .i64 b] w fun e w' => e = .returned (.int .i64 (numCmp a b)) ∧ w' = w := (cmpI a b w).mono (fun _ _ h => ⟨h.1, h.2.symm⟩)

set_option maxHeartbeats 1000000 in
theorem withinI (x lo hi : Int) (w : World) : Calls Tryz.prog 67 #[.int .i64 x, .int .i64 lo, .int .i64 hi] w fun e w' => e = .returned (.bool (inB x lo hi)) ∧ w = w' := by
  obtain ⟨R, hR⟩ : ∃ R, R = inB x lo hi := ⟨_, rfl⟩
  have HR : Hid (R = inB x lo hi) := hR
  rw [← hR]
  clear hR
  go_enter Tryz.func67, Tryz.ntmps67
  by_cases h1 : lo ≤ x
  · by_cases h2 : x ≤ hi
    · have HE : Hid (R = true) := by show R = _; rw [HR.out]; simp [inB, h1, h2]
      go_wp2
      go_ret
      exact ⟨Pl.ret_bool HE.out.symm, rfl⟩
    · have HE : Hid (R = false) := by show R = _; rw [HR.out]; simp [inB, h2]
      go_wp2
      go_ret
      exact ⟨Pl.ret_bool HE.out.symm, rfl⟩
  · have HE : Hid (R = false) := by show R = _; rw [HR.out]; simp [inB, h1]
    go_wp2
    go_ret
    exact ⟨Pl.ret_bool HE.out.symm, rfl⟩

set_option maxHeartbeats 1000000 in
theorem nameBytes_any (s : ByteArray) (w : World) (hs : s.size ≤ maxLen) :
    Calls Tryz.prog 94 #[.string s] w fun e w' => e = .returned (.bool (Pl.nameBytes s)) ∧ w = w' := by
  unfold maxLen at hs
  go_enter Tryz.func94, Tryz.ntmps94
  go_wp2
  go_loop [7] (fun i => ∃ k : Nat, k ≤ s.size ∧ i = .int .i64 k ∧ (s.data.toList.take k).all Pl.nameByte = true) (fun i => s.size - (intOf i).toNat)
  case atStart => exact ⟨0, Nat.zero_le _, rfl, rfl⟩
  case round =>
    obtain ⟨k, hk, rfl, hall⟩ := hrel
    have HA : Hid ((s.data.toList.take k).all Pl.nameByte = true) := hall
    clear hall
    by_cases hlt : k < s.size
    · go_wp2
      all_goals simp only [Bool.not_eq_eq_eq_not, Bool.not_true, Bool.not_false, beq_iff_eq, beq_eq_false_iff_ne, decide_eq_true_eq, decide_eq_false_iff_not] at *
      all_goals first
        | (go_ret
           have hn : Pl.nameByte s[k] = false := by rw [Bool.eq_false_iff]; simp [Pl.nameByte]; omega
           exact ⟨Pl.ret_bool (Pl.all_false _ s k hlt hn).symm, rfl⟩)
        | (have hn : Pl.nameByte s[k] = true := by simp [Pl.nameByte]; omega
           go_round
           case rel => exact ⟨k + 1, by omega, by go_num, by rw [Pl.all_snoc _ _ _ hlt, HA.out, hn]; rfl⟩
           case measure => simp [intOf]; omega)
    · have HF : Hid (Pl.nameBytes s = true) := by
        show Pl.nameBytes s = true
        have := Pl.all_whole Pl.nameByte s k (by omega)
        simp only [Pl.nameBytes, ← this, HA.out]
      go_wp2
      go_ret
      exact ⟨Pl.ret_bool HF.out.symm, rfl⟩

set_option maxHeartbeats 1000000 in
theorem isNameI (s : ByteArray) (w : World) (hs : s.size ≤ maxLen) :
    Calls Tryz.prog 70 #[.string s] w fun e w' => e = .returned (.bool (snmOk s)) ∧ w = w' := by
  have HS := hid hs
  have hs' := hs
  unfold maxLen at hs'
  obtain ⟨R, hR⟩ : ∃ R, R = snmOk s := ⟨_, rfl⟩
  have HR := hid hR
  rw [← hR]
  clear hR hs
  cases h0 : inB (s.size : Int) 1 20
  · have HF : Hid (R = false) := by
      show R = false
      rw [HR.out]
      have : (decide (1 ≤ s.size) && decide (s.size ≤ 20)) = false := by
        rw [Bool.eq_false_iff]
        intro q
        have : inB (s.size : Int) 1 20 = true := by unfold inB; simp at q ⊢; omega
        rw [h0] at this; cases this
      simp [snmOk, this]
    go_enter Tryz.func70, Tryz.ntmps70
    go_wp2_with (go_at_call 67; refine (withinI _ _ _ _).mono ?_; rintro e w' ⟨rfl, rfl⟩)
    go_ret
    exact ⟨Pl.ret_bool HF.out.symm, rfl⟩
  · have HF : Hid (R = Pl.nameBytes s) := by
      show R = _
      rw [HR.out]
      have : (decide (1 ≤ s.size) && decide (s.size ≤ 20)) = true := by
        have q := h0
        unfold inB at q; simp at q ⊢; omega
      simp [snmOk, this]
    go_enter Tryz.func70, Tryz.ntmps70
    go_wp2_with (first | (go_at_call 67; refine (withinI _ _ _ _).mono ?_; rintro e w' ⟨rfl, rfl⟩) | (go_at_call 94; refine (nameBytes_any _ _ HS.out).mono ?_; rintro e w' ⟨rfl, rfl⟩))
    go_ret
    exact ⟨Pl.ret_bool HF.out.symm, rfl⟩

set_option maxRecDepth 8000 in
set_option maxHeartbeats 4000000 in
theorem cmpSvI (k j : ByteArray) (p1 p2 p3 p4 p5 p6 p7 p8 p9 p10 p11 p12 q1 q2 q3 q4 q5 q6 q7 q8 q9 q10 q11 q12 : Value) (w : World) : Calls Tryz.prog 69 #[.agg #[.string k, p1, p2, p3, p4, p5, p6, p7, p8, p9, p10, p11, p12], .agg #[.string j, q1, q2, q3, q4, q5, q6, q7, q8, q9, q10, q11, q12]] w fun e w' => e = .returned (.int .i64 (keyCmp k j)) ∧ Below w.heap.size w w' := by
  obtain ⟨wa, hwa⟩ : ∃ wa, wa = (w.alloc (.cells #[.string k, p1, p2, p3, p4, p5, p6, p7, p8, p9, p10, p11, p12] 41)).alloc (.cells #[.string j, q1, q2, q3, q4, q5, q6, q7, q8, q9, q10, q11, q12] 41) := ⟨_, rfl⟩
  have HB : Hid (Below w.heap.size w wa) := by show Below _ _ _; rw [hwa]; exact blw_alloc (blw_alloc (Below.refl _ _) _) _
  have a0 : wa.cell? ⟨w.heap.size, 0, none⟩ = some (.string k) := by
    rw [hwa]; exact (World.cell?_alloc_past _ _ _ (by simp)).trans (World.cell?_alloc_at _ _ _ _ rfl)
  have b0 : wa.cell? ⟨w.heap.size + 1, 0, none⟩ = some (.string j) := by
    rw [hwa]; exact (World.cell?_alloc_at _ _ _ _ (by simp))
  have z : w.heap.size + 1 < wa.heap.size := by rw [hwa]; simp
  have z' : w.heap.size < wa.heap.size := by omega
  go_enter Tryz.func69, Tryz.ntmps69
  go_upto_region 1 with fail
  rw [← hwa]
  clear hwa
  go_wp2_with (go_at_call 93; refine (cmpS _ _ _).mono ?_; rintro e w' ⟨rfl, rfl⟩)
  go_ret
  exact ⟨rfl, HB.out⟩

set_option maxRecDepth 8000 in
set_option maxHeartbeats 4000000 in
theorem cmpBtI (k j : ByteArray) (p1 q1 : Value) (w : World) : Calls Tryz.prog 74 #[.agg #[.string k, p1], .agg #[.string j, q1]] w fun e w' => e = .returned (.int .i64 (keyCmp k j)) ∧ Below w.heap.size w w' := by
  obtain ⟨wa, hwa⟩ : ∃ wa, wa = (w.alloc (.cells #[.string k, p1] 79)).alloc (.cells #[.string j, q1] 79) := ⟨_, rfl⟩
  have HB : Hid (Below w.heap.size w wa) := by show Below _ _ _; rw [hwa]; exact blw_alloc (blw_alloc (Below.refl _ _) _) _
  have a0 : wa.cell? ⟨w.heap.size, 0, none⟩ = some (.string k) := by
    rw [hwa]; exact (World.cell?_alloc_past _ _ _ (by simp)).trans (World.cell?_alloc_at _ _ _ _ rfl)
  have b0 : wa.cell? ⟨w.heap.size + 1, 0, none⟩ = some (.string j) := by
    rw [hwa]; exact (World.cell?_alloc_at _ _ _ _ (by simp))
  have z : w.heap.size + 1 < wa.heap.size := by rw [hwa]; simp
  have z' : w.heap.size < wa.heap.size := by omega
  go_enter Tryz.func74, Tryz.ntmps74
  go_upto_region 1 with fail
  rw [← hwa]
  clear hwa
  go_wp2_with (go_at_call 93; refine (cmpS _ _ _).mono ?_; rintro e w' ⟨rfl, rfl⟩)
  go_ret
  exact ⟨rfl, HB.out⟩

def cpCmp (k : ByteArray) (n : Int) (j : ByteArray) (m : Int) : Int := pick2 (keyCmp k j) (numCmp n m)

set_option maxRecDepth 8000 in
set_option maxHeartbeats 4000000 in
theorem cmpCpI (k j : ByteArray) (n m : Int) (p2 p3 p4 p5 p6 q2 q3 q4 q5 q6 : Value) (w : World) : Calls Tryz.prog 76 #[.agg #[.string k, .int .i64 n, p2, p3, p4, p5, p6], .agg #[.string j, .int .i64 m, q2, q3, q4, q5, q6]] w fun e w' => e = .returned (.int .i64 (cpCmp k n j m)) ∧ Below w.heap.size w w' := by
  obtain ⟨wa, hwa⟩ : ∃ wa, wa = (w.alloc (.cells #[.string k, .int .i64 n, p2, p3, p4, p5, p6] 81)).alloc (.cells #[.string j, .int .i64 m, q2, q3, q4, q5, q6] 81) := ⟨_, rfl⟩
  have HB : Hid (Below w.heap.size w wa.drew) := by show Below _ _ _; rw [hwa]; exact Below.drew (blw_alloc (blw_alloc (Below.refl _ _) _) _)
  have x0 : ∀ j, wa.drew.cell? ⟨w.heap.size, j, none⟩ = (#[.string k, .int .i64 n, p2, p3, p4, p5, p6] : Array Value)[j]? := fun j => by
    show wa.cell? _ = _
    rw [hwa]; exact (World.cell?_alloc_past _ _ _ (by simp)).trans (World.cell?_alloc_at _ _ _ _ rfl)
  have x1 : ∀ i, wa.drew.cell? ⟨w.heap.size + 1, i, none⟩ = (#[.string j, .int .i64 m, q2, q3, q4, q5, q6] : Array Value)[i]? := fun j => by
    show wa.cell? _ = _
    rw [hwa]; exact (World.cell?_alloc_at _ _ _ _ (by simp))
  have z : w.heap.size + 1 < wa.drew.heap.size := by show _ < wa.heap.size; rw [hwa]; simp
  go_enter Tryz.func76, Tryz.ntmps76
  go_upto_region 1 with fail
  rw [← hwa]
  refine region_tail 10 (by kernel_rfl) (by kernel_rfl) ?_
  intro W hW
  rw [← hW] at HB x0 x1 z
  simp only [List.take_succ_cons, List.take_zero, List.drop_succ_cons, List.drop_zero]
  have a0 := x0 0
  have b0 := x1 0
  have a1 := x0 1
  have b1 := x1 1
  simp at a0 b0 a1 b1
  clear x0 x1 hwa hW
  still_step
  still_step
  still_step
  still_step
  still_call (cmpS' _ _ _)
  still_step
  still_step
  still_step
  still_step
  still_call (cmpI' _ _ _)
  refine wpStill_nil ?_
  go_wp2_with (go_at_call 95; refine (cmpOr2 _ _ (keyCmp k j) (numCmp n m) _ (by simp) (by simp)).mono ?_; rintro e w' ⟨rfl, rfl⟩)
  go_ret
  exact ⟨rfl, blw_alloc HB.out _⟩

end Go.Proofs.YtclagbakddkjcaaGreat
