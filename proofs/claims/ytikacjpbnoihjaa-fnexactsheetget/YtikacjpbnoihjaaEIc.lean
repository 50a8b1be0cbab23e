/-
  Sheets: comparing words, lines, blocks: the program.
-/
import Derived.StillTailTactics
import Derived.WalkSpells
import Derived.Test.YtikacjpbnoihjaaEIr
import Derived.Test.YtikacjpbnoihjaaEPs
import Derived.Test.YtikacjpbnoihjaaESd
namespace Go.Proofs.Ytikacjpbnoihjaa
open Go.RowKit Go.Deep

def keyCmp (a b : ByteArray) : Int := if Pl.txLt a b then -1 else if a.toList == b.toList then 0 else 1
def numCmp (a b : Int) : Int := if a < b then -1 else if b < a then 1 else 0
def firstNZ : List Int → Int
  | [] => 0
  | x :: l => if x = 0 then firstNZ l else x
def pick2 (x y : Int) : Int := if x = 0 then y else x

theorem firstNZ_drop (l : List Int) (k : Nat) (hk : k < l.length) : firstNZ (l.drop k) = if l.getD k 0 = 0 then firstNZ (l.drop (k + 1)) else l.getD k 0 := by
  have e : l.drop k = l[k] :: l.drop (k + 1) := List.drop_eq_getElem_cons hk
  have e2 : l.getD k 0 = l[k] := by simp [hk]
  rw [e, e2]; rfl

set_option maxHeartbeats 400000 in
theorem isNaNs (a : ByteArray) (w : World) : Calls Try.prog 63 #[.string a] w fun e w' => e = .returned (.bool false) ∧ w = w' := by
  go_enter Try.func63, Try.ntmps63
  go_wp2
  go_ret
  exact ⟨Pl.ret_bool (by simp), rfl⟩

set_option maxHeartbeats 400000 in
theorem isNaNi (a : Int) (w : World) : Calls Try.prog 80 #[.int .i64 a] w fun e w' => e = .returned (.bool false) ∧ w = w' := by
  go_enter Try.func80, Try.ntmps80
  go_wp2
  go_ret
  exact ⟨Pl.ret_bool (by simp), rfl⟩

set_option maxHeartbeats 1000000 in
theorem cmpS (a b : ByteArray) (w : World) : Calls Try.prog 44 #[.string a, .string b] w fun e w' => e = .returned (.int .i64 (keyCmp a b)) ∧ w = w' := by
  obtain ⟨R, hR⟩ : ∃ R, R = keyCmp a b := ⟨_, rfl⟩
  have HR : Hid (R = keyCmp a b) := hR
  rw [← hR]
  clear hR
  go_enter Try.func44, Try.ntmps44
  cases h1 : Op.bytesLess a.toList b.toList <;> cases h2 : (a.toList == b.toList)
  all_goals
    have HE : Hid (R = if Op.bytesLess a.toList b.toList = true then (-1 : Int) else if (a.toList == b.toList) = true then 0 else 1) := HR.out
    have HE' : Hid (Op.bytesLess a.toList b.toList = _ ∧ (a.toList == b.toList) = _) := ⟨h1, h2⟩
    go_wp2_with (go_at_call 63; refine (isNaNs _ _).mono ?_; rintro e w' ⟨rfl, rfl⟩)
    go_ret
    exact ⟨Pl.ret_int (by rw [HE.out, HE'.out.1, HE'.out.2]; rfl), rfl⟩

set_option maxHeartbeats 1000000 in
theorem cmpI (a b : Int) (w : World) : Calls Try.prog 73 #[.int .i64 a, .int .i64 b] w fun e w' => e = .returned (.int .i64 (numCmp a b)) ∧ w = w' := by
  obtain ⟨R, hR⟩ : ∃ R, R = numCmp a b := ⟨_, rfl⟩
  have HR : Hid (R = numCmp a b) := hR
  rw [← hR]
  clear hR
  go_enter Try.func73, Try.ntmps73
  by_cases h1 : a < b
  · have HE : Hid (R = -1) := by show R = _; rw [HR.out]; unfold numCmp; rw [if_pos h1]
    go_wp2_with (go_at_call 80; refine (isNaNi _ _).mono ?_; rintro e w' ⟨rfl, rfl⟩)
    go_ret
    exact ⟨Pl.ret_int HE.out.symm, rfl⟩
  · by_cases h2 : b < a
    · have HE : Hid (R = 1) := by show R = _; rw [HR.out]; unfold numCmp; rw [if_neg h1, if_pos h2]
      go_wp2_with (go_at_call 80; refine (isNaNi _ _).mono ?_; rintro e w' ⟨rfl, rfl⟩)
      go_ret
      exact ⟨Pl.ret_int HE.out.symm, rfl⟩
    · have HE : Hid (R = 0) := by show R = _; rw [HR.out]; unfold numCmp; rw [if_neg h1, if_neg h2]
      go_wp2_with (go_at_call 80; refine (isNaNi _ _).mono ?_; rintro e w' ⟨rfl, rfl⟩)
      go_ret
      exact ⟨Pl.ret_int HE.out.symm, rfl⟩

set_option maxHeartbeats 1000000 in
theorem cmpOr (g c : Nat) (l : List Int) (w : World) (hl : l.length ≤ 1048576) (hc : ∀ i, i < l.length → w.cell? ⟨g, i, none⟩ = some (.int .i64 (l.getD i 0))) :
    Calls Try.prog 43 #[.slice (some ⟨g, 0, none⟩) l.length c] w fun e w' => e = .returned (.int .i64 (firstNZ l)) ∧ w = w' := by
  obtain ⟨R, hR⟩ : ∃ R, R = firstNZ l := ⟨_, rfl⟩
  have HR : Hid (R = firstNZ l) := hR
  rw [← hR]
  clear hR
  go_enter Try.func43, Try.ntmps43
  go_wp2
  go_loop [8] (fun i => ∃ k : Nat, k ≤ l.length ∧ i = .int .i64 k ∧ R = firstNZ (l.drop k)) (fun i => l.length - (intOf i).toNat)
  case atStart => exact ⟨0, Nat.zero_le _, rfl, HR.out⟩
  case round =>
    obtain ⟨k, hk, rfl, hq⟩ := hrel
    have HQ : Hid (R = firstNZ (l.drop k)) := hq
    clear hq
    by_cases hlt : k < l.length
    · have hck := hc k hlt
      obtain ⟨y, hy⟩ : ∃ y, y = l.getD k 0 := ⟨_, rfl⟩
      rw [← hy] at hck
      have HY : Hid (R = if y = 0 then firstNZ (l.drop (k + 1)) else y) := by show R = _; rw [HQ.out, firstNZ_drop l k hlt, hy]
      clear hy hc
      by_cases hz : y = 0
      · have HE : Hid (R = firstNZ (l.drop (k + 1))) := by show R = _; rw [HY.out, if_pos hz]
        go_wp2
        go_round
        case rel => exact ⟨k + 1, by omega, by go_num, HE.out⟩
        case measure => simp [intOf]; omega
      · have HE : Hid (R = y) := by show R = _; rw [HY.out, if_neg hz]
        go_wp2
        go_ret
        exact ⟨Pl.ret_int HE.out.symm, rfl⟩
    · have HE : Hid (R = 0) := by show R = _; rw [HQ.out, List.drop_eq_nil_of_le (by omega)]; rfl
      go_wp2
      go_ret
      exact ⟨Pl.ret_int HE.out.symm, rfl⟩

theorem nz2 (x y : Int) : firstNZ [x, y] = pick2 x y := by
  unfold firstNZ pick2; split
  · unfold firstNZ; split
    · rename_i h; rw [h]; rfl
    · rfl
  · rfl

theorem cmpOr2 (g c : Nat) (x y : Int) (w : World) (h0 : w.cell? ⟨g, 0, none⟩ = some (.int .i64 x)) (h1 : w.cell? ⟨g, 1, none⟩ = some (.int .i64 y)) :
    Calls Try.prog 43 #[.slice (some ⟨g, 0, none⟩) 2 c] w fun e w' => e = .returned (.int .i64 (pick2 x y)) ∧ w = w' := by
  have := cmpOr g c [x, y] w (by simp) (fun i hi => by
    match i, hi with
    | 0, _ => exact h0
    | 1, _ => exact h1
    | n + 2, h => simp at h; omega)
  rw [nz2] at this
  exact this

/-- A region that draws its order: a head that leaves the world, then a tail that is forced. -/
theorem region_tail {P : Program} {id : Nat} {Q : Exit → Act → World → Prop} {a : Act} {w : World} {l : List Oper} (n : Nat) (hm : P.follows .mixedOrders = true) (hB : Region.lexTailB .any l.toArray n = true)
    (h : ∀ W, W = w.drew → wpStill P l.toArray W (fun a' => wpList P l.toArray Q (l.drop n) a' W) (l.take n) a) : (Code.region id l.toArray true).wp P Q a w :=
  wp_region_still_tail n hm hB (h _ rfl)

theorem cmpS' (a b : ByteArray) (w : World) : Calls Try.prog 44 #[.string a, .string b] w fun e w' => e = .returned (.int .i64 (keyCmp a b)) ∧ w' = w := (cmpS a b w).mono (fun _ _ h => ⟨h.1, h.2.symm⟩)

theorem wrapI (n : Int) (h0 : 0 ≤ n) (h1 : n ≤ 9223372036854775807) : IntKind.i64.wrap n = n := by
  simp [IntKind.wrap, IntKind.bits, IntKind.signed]; omega

def cmpBl (x y : Pl.Bl) : Int := pick2 (keyCmp x.kind y.kind) (keyCmp x.name y.name)
set_option maxRecDepth 8000 in
set_option maxHeartbeats 2000000 in
theorem cmpBlI (k0 k1 j0 j1 : ByteArray) (p2 q2 : Value) (w : World) : Calls Try.prog 22 #[.agg #[.string k0, .string k1, p2], .agg #[.string j0, .string j1, q2]] w fun e w' => e = .returned (.int .i64 (pick2 (keyCmp k0 j0) (keyCmp k1 j1))) ∧ Below w.heap.size w w' := by
  obtain ⟨wa, hwa⟩ : ∃ wa, wa = (w.alloc (.cells #[.string k0, .string k1, p2] 44)).alloc (.cells #[.string j0, .string j1, q2] 44) := ⟨_, rfl⟩
  have HB : Hid (Below w.heap.size w wa.drew) := by show Below _ _ _; rw [hwa]; exact Below.drew (blw_alloc (blw_alloc (Below.refl _ _) _) _)
  have x0 : ∀ j, wa.drew.cell? ⟨w.heap.size, j, none⟩ = (#[.string k0, .string k1, p2] : Array Value)[j]? := fun j => by
    show wa.cell? _ = _
    rw [hwa]; exact (World.cell?_alloc_past _ _ _ (by simp)).trans (World.cell?_alloc_at _ _ _ _ rfl)
  have x1 : ∀ j, wa.drew.cell? ⟨w.heap.size + 1, j, none⟩ = (#[.string j0, .string j1, q2] : Array Value)[j]? := fun j => by
    show wa.cell? _ = _
    rw [hwa]; exact (World.cell?_alloc_at _ _ _ _ (by simp))
  have z : w.heap.size + 1 < wa.drew.heap.size := by show _ < wa.heap.size; rw [hwa]; simp
  go_enter Try.func22, Try.ntmps22
  go_upto_region 1 with fail
  rw [← hwa]
  refine region_tail 10 (by kernel_rfl) (by kernel_rfl) ?_
  intro W hW
  rw [← hW] at HB x0 x1 z
  simp only [List.take_succ_cons, List.take_zero, List.drop_succ_cons, List.drop_zero]
  have a0 := x0 0
  have b0 := x1 0
  have a1 := x0 1
  have b1 := x1 1
  simp at a0 b0 a1 b1
  clear x0 x1 hwa hW
  still_step
  still_step
  still_step
  still_step
  still_call (cmpS' _ _ _)
  still_step
  still_step
  still_step
  still_step
  still_call (cmpS' _ _ _)
  refine wpStill_nil ?_
  go_wp2_with (go_at_call 43; refine (cmpOr2 _ _ (keyCmp k0 j0) (keyCmp k1 j1) _ (by simp) (by simp)).mono ?_; rintro e w' ⟨rfl, rfl⟩)
  go_ret
  exact ⟨rfl, blw_alloc HB.out _⟩

/-- Words, one after the other. -/
def cmpW : List ByteArray → List ByteArray → Int
  | [], [] => 0
  | [], _ :: _ => -1
  | _ :: _, [] => 1
  | a :: x, b :: y => if keyCmp a b = 0 then cmpW x y else keyCmp a b
theorem cmpW_at {A B : List ByteArray} {k : Nat} (h1 : k < A.length) (h2 : k < B.length) : cmpW (A.drop k) (B.drop k) = if keyCmp (A.getD k Pl.txNo) (B.getD k Pl.txNo) = 0 then cmpW (A.drop (k + 1)) (B.drop (k + 1)) else keyCmp (A.getD k Pl.txNo) (B.getD k Pl.txNo) := by
  have e1 : A.getD k Pl.txNo = A[k] := by simp [h1]
  have e2 : B.getD k Pl.txNo = B[k] := by simp [h2]
  rw [List.drop_eq_getElem_cons h1, List.drop_eq_getElem_cons h2, cmpW, e1, e2]
theorem cmpW_long {A B : List ByteArray} {k : Nat} (h1 : k < A.length) (h2 : B.length ≤ k) : cmpW (A.drop k) (B.drop k) = 1 := by
  rw [List.drop_eq_getElem_cons h1, List.drop_of_length_le h2]; rfl
theorem cmpW_end {A B : List ByteArray} {k : Nat} (h1 : A.length ≤ k) (h2 : k < B.length) : cmpW (A.drop k) (B.drop k) = -1 := by
  rw [List.drop_eq_getElem_cons h2, List.drop_of_length_le h1]; rfl
theorem cmpW_same {A B : List ByteArray} {k : Nat} (h1 : A.length ≤ k) (h2 : B.length ≤ k) : cmpW (A.drop k) (B.drop k) = 0 := by
  rw [List.drop_of_length_le h2, List.drop_of_length_le h1]; rfl

set_option maxRecDepth 8000 in
set_option maxHeartbeats 4000000 in
theorem cmpWsI (A B : List ByteArray) (va vb : Value) (w : World) (hA : Raw w shTxs [.row A.length (txD A)] [va]) (hB : Raw w shTxs [.row B.length (txD B)] [vb]) :
    Calls Try.prog 74 #[va, vb] w fun e w' => e = .returned (.int .i64 (cmpW A B)) ∧ w = w' := by
  obtain ⟨a1, c1, rfl⟩ := hA.len0
  obtain ⟨a2, c2, rfl⟩ := hB.len0
  obtain ⟨R, hR⟩ : ∃ R, R = cmpW A B := ⟨_, rfl⟩
  have HR : Hid (R = cmpW A B) := hR
  rw [← hR]
  have HA := uh (txs_open hA)
  have HB := uh (txs_open hB)
  obtain ⟨n, hn⟩ : ∃ n, n = A.length := ⟨_, rfl⟩
  obtain ⟨m, hm⟩ : ∃ m, m = B.length := ⟨_, rfl⟩
  rw [← hn] at HA
  rw [← hm] at HB
  rw [← hn, ← hm]
  have HN := uh (And.intro hn hm)
  have hnm : n ≤ maxLen := by
    rcases HA.out with h | ⟨_, _, _, _, _, h, _⟩
    · omega
    · exact h
  unfold maxLen at hnm
  clear hR hA hB hn hm
  go_enter Try.func74, Try.ntmps74
  go_wp2
  go_loop [11] (fun i => ∃ k : Nat, k ≤ n ∧ k ≤ m ∧ i = .int .i64 k ∧ Hid (R = cmpW (A.drop k) (B.drop k))) (fun i => n - (intOf i).toNat)
  case atStart => exact ⟨0, Nat.zero_le _, Nat.zero_le _, rfl, HR⟩
  case round =>
    obtain ⟨k, hk, hkm, rfl, HI⟩ := hrel
    by_cases hlt : k < n
    rotate_left
    · obtain rfl : k = n := by omega
      by_cases hlm : k < m
      · have HE : Hid (R = -1) := by show R = _; rw [HI.out]; exact cmpW_end (by rw [← HN.out.1]; exact Nat.le_refl _) (by rw [← HN.out.2]; exact hlm)
        go_wp2
        go_ret
        exact ⟨Pl.ret_int HE.out.symm, rfl⟩
      · have HE : Hid (R = 0) := by show R = _; rw [HI.out]; exact cmpW_same (by rw [← HN.out.1]; exact Nat.le_refl _) (by rw [← HN.out.2]; omega)
        go_wp2
        go_ret
        exact ⟨Pl.ret_int HE.out.symm, rfl⟩
    rcases HA.out with ⟨e0, _⟩ | ⟨p, o, c, hv, hp, _, hc⟩
    · omega
    injection hv with g1 _ g3
    subst g1; subst g3
    have x0 := hc k hlt
    have hk0 : (0 : Int) ≤ (k : Int) := by omega
    have hkn : (k : Int) < (n : Int) := by omega
    by_cases hlm : k < m
    rotate_left
    · have HE : Hid (R = 1) := by show R = _; rw [HI.out]; exact cmpW_long (by rw [← HN.out.1]; exact hlt) (by rw [← HN.out.2]; omega)
      go_wp2
      go_ret
      exact ⟨Pl.ret_int HE.out.symm, rfl⟩
    rcases HB.out with ⟨e0, _⟩ | ⟨p2, o2, c2', hv2, hp2, _, hc2⟩
    · omega
    injection hv2 with k1 _ k3
    subst k1; subst k3
    have y0 := hc2 k hlm
    have hkm2 : (k : Int) < (m : Int) := by omega
    have HS : Hid _ := uh (cmpW_at (A := A) (B := B) (k := k) (by rw [← HN.out.1]; exact hlt) (by rw [← HN.out.2]; exact hlm))
    obtain ⟨x, hx⟩ : ∃ x, x = A.getD k Pl.txNo := ⟨_, rfl⟩
    obtain ⟨y, hy⟩ : ∃ y, y = B.getD k Pl.txNo := ⟨_, rfl⟩
    rw [← hx] at HS x0
    rw [← hy] at HS y0
    obtain ⟨r, hr⟩ : ∃ r, r = keyCmp x y := ⟨_, rfl⟩
    have HC : Hid (∀ W, Calls Try.prog 44 #[.string x, .string y] W fun e w' => e = .returned (.int .i64 r) ∧ W = w') := fun W => by rw [hr]; exact cmpS x y W
    rw [← hr] at HS
    clear hx hy hr hc hc2 hp hp2
    by_cases hz : r = 0
    · have HE : Hid (R = cmpW (A.drop (k + 1)) (B.drop (k + 1))) := by show R = _; rw [HI.out, HS.out, if_pos hz]
      subst hz
      go_wp2_with (go_at_call 44; refine (HC.out _).mono ?_; rintro e w' ⟨rfl, rfl⟩)
      go_round
      case rel => exact ⟨k + 1, by omega, by omega, by go_num, HE⟩
      case measure => simp [intOf]; omega
    · have HE : Hid (R = r) := by show R = _; rw [HI.out, HS.out, if_neg hz]
      have hb : ((r : Int) != 0) = true := by simp [hz]
      go_wp2_with (go_at_call 44; refine (HC.out _).mono ?_; rintro e w' ⟨rfl, rfl⟩)
      go_ret
      exact ⟨Pl.ret_int HE.out.symm, rfl⟩

end Go.Proofs.Ytikacjpbnoihjaa
