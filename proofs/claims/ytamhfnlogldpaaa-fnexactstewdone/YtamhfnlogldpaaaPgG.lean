/-
  Stewards: counting: the program's stewCounted.
-/
import Derived.RangeFuncCalls
import Derived.RangeFuncFrom
import Derived.Shelf.Abstract
import Derived.OwnWalkIn
import Derived.TacticsInMore
import Derived.LoopIn
import Derived.Test.YtamhfnlogldpaaaPgF
import Derived.Test.YtamhfnlogldpaaaStE
namespace Go.Proofs.Ytamhfnlogldpaaa
open Go.RowKit Go.Deep

/-- One copy more. -/
def Cn.one (n : Cn) (img : Int) (c : Cp) : Cn := if c.ending then ⟨n.live, n.ready, n.old, n.failed, n.ending + 1⟩ else ⟨n.live + 1, n.ready + bit (c.state == 3), n.old + bit (c.image != img), n.failed + bit (c.state == 4), n.ending⟩
theorem Cn.add_same {n : Cn} {svc : ByteArray} {img : Int} {c : Cp} (h : same c.svc svc = true) : n.add svc img c = n.one img c := by unfold Cn.add Cn.one; rw [if_pos h]
theorem Cn.add_else {n : Cn} {svc : ByteArray} {img : Int} {c : Cp} (h : same c.svc svc = false) : n.add svc img c = n := by unfold Cn.add; rw [h]; rfl
theorem Cn.one_le {n : Cn} {k : Nat} (h : n.le k) (img : Int) (c : Cp) : (n.one img c).le (k + 1) := by
  have e : n.one img c = n.add c.svc img c := (Cn.add_same ((same_iff _ _).2 rfl)).symm
  rw [e]; exact Cn.add_le h _ _ _
/-- The count over these places. -/
def cnL (l : List Cp) (img : Int) (xs : List Nat) : Cn := xs.foldl (fun n i => n.one img (l.getD i Cp.none)) Cn.zero
theorem cnL_snoc (l : List Cp) (img : Int) (xs : List Nat) (i : Nat) : cnL l img (xs ++ [i]) = (cnL l img xs).one img (l.getD i Cp.none) := by
  unfold cnL; rw [List.foldl_append]; rfl
theorem foldl_le (l : List Cp) (img : Int) : ∀ (xs : List Nat) (n : Cn) (k : Nat), n.le k → (xs.foldl (fun n i => n.one img (l.getD i Cp.none)) n).le (k + xs.length)
  | [], n, k, h => h
  | x :: xs, n, k, h => by
    have := foldl_le l img xs _ (k + 1) (Cn.one_le h img (l.getD x Cp.none))
    rw [show k + 1 + xs.length = k + (x :: xs).length by simp; omega] at this
    exact this
theorem cnL_le (l : List Cp) (img : Int) (xs : List Nat) : (cnL l img xs).le xs.length := by
  have := foldl_le l img xs Cn.zero 0 ⟨⟨by simp [Cn.zero], by simp [Cn.zero]⟩, ⟨by simp [Cn.zero], by simp [Cn.zero]⟩, ⟨by simp [Cn.zero], by simp [Cn.zero]⟩, ⟨by simp [Cn.zero], by simp [Cn.zero]⟩, ⟨by simp [Cn.zero], by simp [Cn.zero]⟩⟩
  rwa [Nat.zero_add] at this

theorem same_kc (a b : ByteArray) : same a b = true ↔ kc a.toList b.toList = 0 := by
  rw [kc_lin.z]; unfold same; exact beq_iff_eq
theorem place_not {l : List Cp} {svc : ByteArray} (hn : ∀ i, i < l.length → 1 ≤ (l.getD i Cp.none).num) (i : Nat) (h : i < placeCp l svc) : same (l.getD i Cp.none).svc svc = false := by
  rw [Bool.eq_false_iff]
  intro e
  have h1 := placeCp_lt l svc i h
  rw [cp_lex] at h1
  unfold lex at h1
  rw [if_pos ((same_kc _ _).1 e)] at h1
  have := hn i (Nat.lt_of_lt_of_le h (placeCp_le l svc))
  unfold numCmp at h1
  simp only at h1
  split at h1 <;> (try split at h1) <;> omega
theorem after_not {l : List Cp} {svc : ByteArray} (ha : ascCp l = true) (i : Nat) (h : placeCp l svc + runCp l svc (placeCp l svc) ≤ i) (hi : i < l.length) : same (l.getD i Cp.none).svc svc = false := by
  obtain ⟨j, hj⟩ : ∃ j, j = placeCp l svc + runCp l svc (placeCp l svc) := ⟨_, rfl⟩
  rw [← hj] at h
  have h0 : same (l.getD j Cp.none).svc svc = false := by rw [hj]; exact runCp_no _ _ _ (by omega)
  have h1 := placeCp_ge ha svc j (by omega) (by omega)
  rw [Bool.eq_false_iff]
  intro e
  have ne : ¬ kc (l.getD j Cp.none).svc.toList svc.toList = 0 := fun q => by rw [(same_kc _ _).2 q] at h0; cases h0
  rw [cp_lex] at h1
  unfold lex at h1
  rw [if_neg ne] at h1
  simp only at h1
  by_cases q : j = i
  · rw [q] at ne; exact ne ((same_kc _ _).1 e)
  · have h2 := row_lt (lex_lin kc_lin num_lin) ((ascCp_iff l).1 ha) j i (by omega) hi
    unfold lex at h2
    have e' := (kc_lin.z _ _).1 ((same_kc _ _).1 e)
    simp only at h2
    rw [e', if_neg ne] at h2
    omega

theorem cnTo_row {l : List Cp} {svc : ByteArray} (ha : ascCp l = true) (hn : ∀ i, i < l.length → 1 ≤ (l.getD i Cp.none).num) (img : Int) : cnTo l svc img l.length = cnL l img (rowCp l svc) := by
  obtain ⟨p, hp⟩ : ∃ p, p = placeCp l svc := ⟨_, rfl⟩
  obtain ⟨M, hM⟩ : ∃ M, M = runCp l svc p := ⟨_, rfl⟩
  have hpl : p ≤ l.length := by rw [hp]; exact placeCp_le _ _
  have hml : p + M ≤ l.length := by rw [hM]; exact runCp_le _ _ _ hpl
  have h0 : ∀ k, k ≤ p → cnTo l svc img k = Cn.zero := by
    intro k
    induction k with
    | zero => intro _; rfl
    | succ k ih => intro hk; rw [cnTo, ih (by omega), Cn.add_else (place_not hn k (by rw [← hp]; omega))]
  have h1 : ∀ j, j ≤ M → cnTo l svc img (p + j) = cnL l img (List.range' p j) := by
    intro j
    induction j with
    | zero => intro _; exact h0 p (Nat.le_refl _)
    | succ j ih =>
      intro hj
      rw [← Nat.add_assoc, cnTo, ih (by omega), ← range_snoc, cnL_snoc, Cn.add_same (runCp_yes _ _ _ j (by rw [← hM]; omega))]
  have h2 : ∀ k, p + M + k ≤ l.length → cnTo l svc img (p + M + k) = cnL l img (List.range' p M) := by
    intro k
    induction k with
    | zero => intro _; exact h1 M (Nat.le_refl _)
    | succ k ih =>
      intro hk
      rw [← Nat.add_assoc, cnTo, ih (by omega), Cn.add_else (after_not ha (p + M + k) (by rw [← hp, ← hM]; omega) (by omega))]
  have h3 := h2 (l.length - (p + M)) (by omega)
  rw [show p + M + (l.length - (p + M)) = l.length by omega] at h3
  rw [h3, hM, hp]; rfl

/-- What is kept while copies are counted. -/
structure CI (B : Nat) (s : Sv) (n : Cn) (W : World) : Prop where
  sv : W.heap[B + 1]? = some (.cells #[.string s.nm, .int .i64 s.ver, .bool s.gone, .int .i64 s.image, .int .i64 s.want, .int .i64 s.down, .int .i64 s.over, .int .i64 s.next, .int .i64 s.per, .int .i64 s.least, .int .i64 s.most, .int .i64 s.load, .int .i64 s.cool] 46 (0, 0))
  res : OwnBlk W (B + 2) 59 5
  cnt : W.heap[B + 3]? = some (.cells #[.int .i64 n.live, .int .i64 n.ready, .int .i64 n.old, .int .i64 n.failed, .int .i64 n.ending] 59 (0, 0))
theorem CI.keep {B : Nat} {s : Sv} {n : Cn} {W W' : World} (h : CI B s n W) (k : ∀ b : Nat, (∃ (cs : Array Value) (t : TypeId), W.heap[b]? = some (Obj.cells cs t (0, 0))) → W'.heap[b]? = W.heap[b]?) : CI B s n W' := by
  obtain ⟨h1, ⟨cs, h2, h3⟩, h4⟩ := h
  exact ⟨(k _ ⟨_, _, h1⟩).trans h1, ⟨cs, (k _ ⟨_, _, h2⟩).trans h2, h3⟩, (k _ ⟨_, _, h4⟩).trans h4⟩
theorem CI.own (B : Nat) (s : Sv) (g : List Nat → Cn) (A : Nat) : OwnFrom A (fun xs W => CI B s (g xs) W) := fun xs W W' row hs hg hr => hs.keep fun b ⟨cs, t, hb⟩ => by
  refine hg.block b (Array.getElem?_eq_some_iff.1 hb).1 fun e => ?_
  obtain ⟨_, o, ho, hc⟩ := hr b e.symm
  rw [hb] at ho
  cases ho
  cases hc
theorem CI.later {B : Nat} {s : Sv} {n : Cn} {W W' : World} (h : CI B s n W) (hb : Below W.heap.size W W') : CI B s n W' := h.keep fun b ⟨_, _, hc⟩ => hb.block b (Array.getElem?_eq_some_iff.1 hc).1
theorem cellsOf_block {W : World} {b : Nat} {cs : Array Value} {t : TypeId} (h : W.heap[b]? = some (.cells cs t (0, 0))) (j : Nat) : W.cell? ⟨b, j, none⟩ = cs[j]? := by simp [World.cell?, h]
theorem frozen_block {W : World} {b : Nat} {cs : Array Value} {t : TypeId} (h : W.heap[b]? = some (.cells cs t (0, 0))) (j : Nat) : W.frozen? ⟨b, j, none⟩ = false := by simp [World.frozen?, h]
theorem lt_block {W : World} {b : Nat} {o : Obj} (h : W.heap[b]? = some o) : b < W.heap.size := (Array.getElem?_eq_some_iff.1 h).1
theorem set_block {W : World} {b : Nat} {cs : Array Value} {t : TypeId} (h : W.heap[b]? = some (.cells cs t (0, 0))) (j : Nat) (v : Value) : (W.setCell ⟨b, j, none⟩ v).heap[b]? = some (.cells (cs.setIfInBounds j v) t (0, 0)) := by
  simp [World.setCell, Array.getElem?_modify, h]
theorem set_other {W : World} {b b' : Nat} (hne : b' ≠ b) (j : Nat) (v : Value) : (W.setCell ⟨b, j, none⟩ v).heap[b']? = W.heap[b']? := Below.heap_setCell W ⟨b, j, none⟩ v b' hne
/-- A store into the count. -/
theorem CI.set {B : Nat} {s : Sv} {n : Cn} {W : World} (h : CI B s n W) (j : Nat) (v : Value) (m : Cn) (hm : ((#[.int .i64 n.live, .int .i64 n.ready, .int .i64 n.old, .int .i64 n.failed, .int .i64 n.ending] : Array Value).setIfInBounds j v) = #[.int .i64 m.live, .int .i64 m.ready, .int .i64 m.old, .int .i64 m.failed, .int .i64 m.ending]) : CI B s m (W.setCell ⟨B + 3, j, none⟩ v) := by
  obtain ⟨h1, ⟨cs, h2, h3⟩, h4⟩ := h
  refine ⟨(set_other (by omega) _ _).trans h1, ⟨cs, (set_other (by omega) _ _).trans h2, h3⟩, ?_⟩
  rw [set_block h4, hm]
theorem kpt_set {B n : Nat} {W : World} (j : Nat) (v : Value) : Kpt (fun b => b ≠ B + 3 ∧ b < n) W (W.setCell ⟨B + 3, j, none⟩ v) :=
  ⟨by rw [show (W.setCell ⟨B + 3, j, none⟩ v).heap.size = W.heap.size by simp [World.setCell]]; exact Nat.le_refl _, fun b hb _ => set_other hb.1 _ _⟩

theorem copiesOfI (v0 v1 v2 v3 : Value) (svc : ByteArray) (w : World) :
    Calls Try.prog 82 #[.agg #[v0, v1, v2, v3], .string svc] w fun e w' =>
      e = .returned (.func (.func 89) #[] #[.pointer (some ⟨w.heap.size, 0, none⟩), .pointer (some ⟨w.heap.size + 1, 0, none⟩)]) ∧
      w' = (w.alloc (.cells #[v0, v1, v2, v3] 33)).alloc (.cells #[.string svc] 9) := by
  go_enter Try.func82, Try.ntmps82
  go_wp2
  go_ret
  exact ⟨rfl, rfl⟩

attribute [local go_sem] Oper.semAt_some

set_option maxRecDepth 8000 in
set_option maxHeartbeats 40000000 in
theorem countedI (K : SBk) (a0 a1 a2 : Option Addr) (c0 c1 c2 : Nat) (s : Sv) (w : World) (h : SBkV w a0 a1 a2 K) (hasc : ascCp K.cps = true) (hlen : K.cps.length ≤ 200) :
    Calls Try.prog 81 #[.agg #[.int .i64 K.now, .slice a0 K.svcs.length c0, .slice a1 K.cps.length c1, .slice a2 K.bts.length c2], .agg #[.string s.nm, .int .i64 s.ver, .bool s.gone, .int .i64 s.image, .int .i64 s.want, .int .i64 s.down, .int .i64 s.over, .int .i64 s.next, .int .i64 s.per, .int .i64 s.least, .int .i64 s.most, .int .i64 s.load, .int .i64 s.cool]] w fun e w' => e = .returned (.agg #[.int .i64 (cnL K.cps s.image (rowCp K.cps s.nm)).live, .int .i64 (cnL K.cps s.image (rowCp K.cps s.nm)).ready, .int .i64 (cnL K.cps s.image (rowCp K.cps s.nm)).old, .int .i64 (cnL K.cps s.image (rowCp K.cps s.nm)).failed, .int .i64 (cnL K.cps s.image (rowCp K.cps s.nm)).ending]) ∧ Below w.heap.size w w' := by
  have HH := hid h
  have HAS := hid hasc
  have HLN := hid hlen
  clear h hasc hlen
  obtain ⟨R, hR⟩ : ∃ R, R = cnL K.cps s.image (rowCp K.cps s.nm) := ⟨_, rfl⟩
  have HR := hid hR
  rw [← hR]
  clear hR
  obtain ⟨B, hB⟩ : ∃ B, B = w.heap.size := ⟨_, rfl⟩
  obtain ⟨wa, hwa⟩ : ∃ wa, wa = (((w.alloc (.cells #[.int .i64 K.now, .slice a0 K.svcs.length c0, .slice a1 K.cps.length c1, .slice a2 K.bts.length c2] 33)).alloc (.cells #[.string s.nm, .int .i64 s.ver, .bool s.gone, .int .i64 s.image, .int .i64 s.want, .int .i64 s.down, .int .i64 s.over, .int .i64 s.next, .int .i64 s.per, .int .i64 s.least, .int .i64 s.most, .int .i64 s.load, .int .i64 s.cool] 46)).alloc (.cells #[.int .i64 0, .int .i64 0, .int .i64 0, .int .i64 0, .int .i64 0] 59)).alloc (.cells #[.int .i64 0, .int .i64 0, .int .i64 0, .int .i64 0, .int .i64 0] 59) := ⟨_, rfl⟩
  have hza : wa.heap.size = B + 4 := by rw [hwa, hB]; simp
  have HB : Hid (Below w.heap.size w wa) := by show Below _ _ _; rw [hwa]; exact blw_alloc (blw_alloc (blw_alloc (blw_alloc (Below.refl _ _) _) _) _) _
  have HC0 : Hid (wa.heap[B]? = some (.cells #[.int .i64 K.now, .slice a0 K.svcs.length c0, .slice a1 K.cps.length c1, .slice a2 K.bts.length c2] 33 (0, 0)) ∧ CI B s Cn.zero wa) := by
    have n0 := World.alloc_heap_new w (.cells #[.int .i64 K.now, .slice a0 K.svcs.length c0, .slice a1 K.cps.length c1, .slice a2 K.bts.length c2] 33)
    obtain ⟨wx, hwx⟩ : ∃ wx, wx = w.alloc (.cells #[.int .i64 K.now, .slice a0 K.svcs.length c0, .slice a1 K.cps.length c1, .slice a2 K.bts.length c2] 33) := ⟨_, rfl⟩
    have z1 : wx.heap.size = B + 1 := by rw [hwx, hB]; simp
    have n1 := World.alloc_heap_new wx (.cells #[.string s.nm, .int .i64 s.ver, .bool s.gone, .int .i64 s.image, .int .i64 s.want, .int .i64 s.down, .int .i64 s.over, .int .i64 s.next, .int .i64 s.per, .int .i64 s.least, .int .i64 s.most, .int .i64 s.load, .int .i64 s.cool] 46)
    obtain ⟨wy, hwy⟩ : ∃ wy, wy = wx.alloc (.cells #[.string s.nm, .int .i64 s.ver, .bool s.gone, .int .i64 s.image, .int .i64 s.want, .int .i64 s.down, .int .i64 s.over, .int .i64 s.next, .int .i64 s.per, .int .i64 s.least, .int .i64 s.most, .int .i64 s.load, .int .i64 s.cool] 46) := ⟨_, rfl⟩
    have z2 : wy.heap.size = B + 2 := by rw [hwy]; simp [z1]
    have n2 := World.alloc_heap_new wy (.cells #[.int .i64 0, .int .i64 0, .int .i64 0, .int .i64 0, .int .i64 0] 59)
    obtain ⟨wz, hwz⟩ : ∃ wz, wz = wy.alloc (.cells #[.int .i64 0, .int .i64 0, .int .i64 0, .int .i64 0, .int .i64 0] 59) := ⟨_, rfl⟩
    have z3 : wz.heap.size = B + 3 := by rw [hwz]; simp [z2]
    have n3 := World.alloc_heap_new wz (.cells #[.int .i64 0, .int .i64 0, .int .i64 0, .int .i64 0, .int .i64 0] 59)
    rw [← hB, ← hwx] at n0
    rw [← hwy, z1] at n1
    rw [← hwz, z2] at n2
    rw [z3] at n3
    have hwa' : wa = wz.alloc (.cells #[.int .i64 0, .int .i64 0, .int .i64 0, .int .i64 0, .int .i64 0] 59) := by rw [hwa, hwz, hwy, hwx]
    have k1 : ∀ i, i < B + 1 → wy.heap[i]? = wx.heap[i]? := fun i hi => by rw [hwy]; exact Below.heap_alloc _ _ i (by omega)
    have k2 : ∀ i, i < B + 2 → wz.heap[i]? = wy.heap[i]? := fun i hi => by rw [hwz]; exact Below.heap_alloc _ _ i (by omega)
    have k3 : ∀ i, i < B + 3 → wa.heap[i]? = wz.heap[i]? := fun i hi => by rw [hwa']; exact Below.heap_alloc _ _ i (by omega)
    refine ⟨(k3 _ (by omega)).trans ((k2 _ (by omega)).trans ((k1 _ (by omega)).trans n0)), (k3 _ (by omega)).trans ((k2 _ (by omega)).trans n1), ⟨_, (k3 _ (by omega)).trans n2, rfl⟩, ?_⟩
    rw [hwa']; exact n3
  refine (callsIn_wide (n := 4)).1 (callsIn_of_wp_marks Try.func81 rfl trivial ?_)
  simp only [Try.ntmps81, List.size_toArray, List.length_cons, List.length_nil, Nat.reduceAdd, Nat.reduceSub, Array.replicate_succ, Array.replicate_zero, List.push_toArray, List.append_toArray, List.nil_append, List.cons_append]
  refine wpIn_wide.2 ?_
  go_upto_region 2 with fail
  rw [← hwa]
  have q3 : w.heap.size + 1 + 1 + 1 = B + 3 := by omega
  have q2 : w.heap.size + 1 + 1 = B + 2 := by omega
  have q1 : w.heap.size + 1 = B + 1 := by omega
  rw [q3, q2, q1, ← hB]
  have HBW := hid hB
  clear q1 q2 q3 hwa hB
  have z0 := cellsOf_block HC0.out.1
  have x0 : wa.cell? ⟨B, 0, none⟩ = some (.int .i64 K.now) := z0 0
  have x1 : wa.cell? ⟨B, 1, none⟩ = some (.slice a0 K.svcs.length c0) := z0 1
  have x2 : wa.cell? ⟨B, 2, none⟩ = some (.slice a1 K.cps.length c1) := z0 2
  have x3 : wa.cell? ⟨B, 3, none⟩ = some (.slice a2 K.bts.length c2) := z0 3
  have y0 : wa.cell? ⟨B + 1, 0, none⟩ = some (.string s.nm) := cellsOf_block HC0.out.2.sv 0
  clear z0
  go_wp2_with fail
  refine (copiesOfI _ _ _ _ s.nm wa).mono ?_
  rintro e w10 ⟨rfl, hw10⟩
  rw [hza, show B + 4 + 1 = B + 5 from rfl]
  clear x0 x1 x2 x3 y0
  have hb10 : Below wa.heap.size wa w10 := by rw [hw10]; exact blw_alloc (blw_alloc (Below.refl _ _) _) _
  have HS10 : Hid (w10.heap.size = B + 6) := by show _ = _; rw [hw10]; simp [hza]
  have HC10 := hid (HC0.out.2.later hb10)
  have HB10 := hid (blw_trans HB.out hb10)
  have HIT : Hid (ItW K a1 c1 (.int .i64 K.now) (.slice a0 K.svcs.length c0) (.slice a2 K.bts.length c2) s.nm (B + 4) (B + 5) w10) := by
    refine ⟨?_, ?_, ?_, (HH.out.later HB10.out).c⟩
    · rw [hw10]; exact (Box4.new' wa _ _ _ _ _ _ hza.symm).past _
    · rw [hw10]; exact World.cell?_alloc_at _ _ _ _ (by simp [hza])
    · rw [HS10.out]; omega
  clear hw10 hb10 HC0 hza HB
  have HSEQ := copies_stops 3 w10 K a1 c1 _ _ _ s.nm (B + 4) (B + 5) (fun b => b ≠ B + 3 ∧ b < B + 6) HIT.out ⟨by omega, by omega⟩ ⟨by omega, by omega⟩ (fun b off ha hn => by
    obtain ⟨b', off', ha', hb', _⟩ := HH.out.c.at_ 0 hn
    rw [ha] at ha'
    injection ha' with ha'
    injection ha' with e1 _ _
    subst e1
    have := HBW.out
    exact ⟨by omega, by omega⟩) HAS.out (Nat.le_trans HLN.out (by omega))
  go_wp2_with fail
  refine (wpIn_wide (n := 4)).1 ?_
  obtain ⟨fr, hfr⟩ : ∃ fr : Nat → Nat → Act, fr = fun x E => { tmps := #[.agg #[.int .i64 K.now, .slice a0 K.svcs.length c0, .slice a1 K.cps.length c1, .slice a2 K.bts.length c2], .agg #[.string s.nm, .int .i64 s.ver, .bool s.gone, .int .i64 s.image, .int .i64 s.want, .int .i64 s.down, .int .i64 s.over, .int .i64 s.next, .int .i64 s.per, .int .i64 s.least, .int .i64 s.most, .int .i64 s.load, .int .i64 s.cool], .pointer (some ⟨B, 0, none⟩), .pointer (some ⟨B + 1, 0, none⟩), .pointer (some ⟨B + 2, 0, none⟩), .pointer (some ⟨B + 3, 0, none⟩), undef, .pointer (some ⟨E, 0, none⟩), .agg #[.int .i64 0, .int .i64 0, .int .i64 0, .int .i64 0, .int .i64 0], .agg #[.int .i64 K.now, .slice a0 K.svcs.length c0, .slice a1 K.cps.length c1, .slice a2 K.bts.length c2], .pointer (some ⟨B + 1, 0, none⟩), .string s.nm, .func (.func 89) #[] #[.pointer (some ⟨B + 4, 0, none⟩), .pointer (some ⟨B + 5, 0, none⟩)], .int .i64 (x : Nat), .agg #[.string (K.cps.getD x Cp.none).svc, .int .i64 (K.cps.getD x Cp.none).num, .int .i64 (K.cps.getD x Cp.none).ver, .int .i64 (K.cps.getD x Cp.none).image, .int .i64 (K.cps.getD x Cp.none).state, .bool (K.cps.getD x Cp.none).ending, .string (K.cps.getD x Cp.none).berth], undef, undef, undef, undef, undef, undef, undef, undef, undef, undef, undef, undef, undef, undef, undef, undef, undef, undef, undef, undef, undef, undef, undef, undef, undef, undef, undef, undef, undef, undef, undef, undef, undef, undef], defers := [] } := ⟨_, rfl⟩
  refine wpIn_rangeFunc_ownH rfl (by decide) (gf := 89) (lb := #[.pointer (some ⟨B + 4, 0, none⟩), .pointer (some ⟨B + 5, 0, none⟩)]) rfl trivial (enters_of Try.func89 (by kernel_rfl) rfl) HSEQ (fun h k => Kpt.trans h k)
    (fun W l o o' hl ho _ _ => ⟨by simp, fun b hb _ => World.putObj_heap_other (by have := HS10.out; omega)⟩) (Below.refl _ _) (fun _ => rfl)
    (fun pre W => CI B s (cnL K.cps s.image pre) W ∧ Below w.heap.size w W)
    (fun _ _ _ => False)
    (OwnFrom.and (CI.own B s (cnL K.cps s.image) _) (ownFrom_below (Nat.le_refl _) HB10.out.size))
    (fun c s A A' row hs _ _ => hs)
    ⟨HC10.out, HB10.out⟩
    (fun x a' W => ∃ E, a' = fr x E ∧ W.heap[E]? = some (.cells #[.string (K.cps.getD x Cp.none).svc, .int .i64 (K.cps.getD x Cp.none).num, .int .i64 (K.cps.getD x Cp.none).ver, .int .i64 (K.cps.getD x Cp.none).image, .int .i64 (K.cps.getD x Cp.none).state, .bool (K.cps.getD x Cp.none).ending, .string (K.cps.getD x Cp.none).berth] 63 (0, 0)) ∧ B + 3 < E)
    (fun x a' _ W W' row hs hg hr => by
      obtain ⟨E, h1, h2, h3⟩ := hs
      refine ⟨E, h1, (hg.block E (lt_block h2) fun e => ?_).trans h2, h3⟩
      obtain ⟨_, o, ho, hc⟩ := hr E e.symm
      rw [h2] at ho
      cases ho
      cases hc)
    ?assign ?body ?done ?stop
  case assign =>
    rintro l pre x W K1 ⟨hC, hBl⟩ hK
    try dsimp only
    rw [hfr] at hK
    dsimp only at hK
    obtain ⟨y, hy⟩ : ∃ y, y = K.cps.getD x Cp.none := ⟨_, rfl⟩
    rw [← hy] at hK ⊢
    have HK := hid hK
    have HC := hid hC
    have HBl := hid hBl
    clear hK hy hfr hC hBl
    gi_wp2
    refine HK.out _ _ ⟨by simp, fun k o _ hk _ => (Below.heap_alloc W _ k (lt_block hk)).trans hk⟩ (Kpt.of_below (blw_alloc (Below.refl _ _) _)) ⟨HC.out.later (blw_alloc (Below.refl _ _) _), blw_alloc HBl.out _⟩ ⟨W.heap.size, rfl, World.alloc_heap_new W _, ?_⟩
    exact lt_block HC.out.cnt
  case body =>
    rintro l pre x a' W hl hr ⟨hC, hBl⟩ ⟨E, ha, hE, hEz⟩ hlen
    rw [hfr] at ha
    dsimp only at ha
    subst ha
    obtain ⟨y, hy⟩ : ∃ y, y = K.cps.getD x Cp.none := ⟨_, rfl⟩
    obtain ⟨n, hn⟩ : ∃ n, n = cnL K.cps s.image pre := ⟨_, rfl⟩
    have HN : Hid (cnL K.cps s.image (pre ++ [x]) = n.one s.image y) := by show _ = _; rw [cnL_snoc, hn, hy]
    have hle := cnL_le K.cps s.image pre
    rw [← hn] at hle hC
    rw [← hy] at hE ⊢
    have hln := HLN.out
    obtain ⟨⟨m0, m1⟩, ⟨m2, m3⟩, ⟨m4, m5⟩, ⟨m6, m7⟩, ⟨m8, m9⟩⟩ := hle
    have HC := hid hC
    have HBl := hid hBl
    have hEne : E ≠ B + 3 := by omega
    have hEE : E < W.heap.size := lt_block hE
    have E3 : W.cell? ⟨E, 3, none⟩ = some (.int .i64 y.image) := cellsOf_block hE 3
    have E4 : W.cell? ⟨E, 4, none⟩ = some (.int .i64 y.state) := cellsOf_block hE 4
    have E5 : W.cell? ⟨E, 5, none⟩ = some (.bool y.ending) := cellsOf_block hE 5
    have hcc := hC.cnt
    have hcz : B + 3 < W.heap.size := lt_block hcc
    have hcf : ∀ j, W.frozen? ⟨B + 3, j, none⟩ = false := frozen_block hcc
    have r0 : W.cell? ⟨B + 3, 0, none⟩ = some (.int .i64 n.live) := cellsOf_block hcc 0
    have r1 : W.cell? ⟨B + 3, 1, none⟩ = some (.int .i64 n.ready) := cellsOf_block hcc 1
    have r2 : W.cell? ⟨B + 3, 2, none⟩ = some (.int .i64 n.old) := cellsOf_block hcc 2
    have r3 : W.cell? ⟨B + 3, 3, none⟩ = some (.int .i64 n.failed) := cellsOf_block hcc 3
    have r4 : W.cell? ⟨B + 3, 4, none⟩ = some (.int .i64 n.ending) := cellsOf_block hcc 4
    have hsv := hC.sv
    have hsz : B + 1 < W.heap.size := lt_block hsv
    have i3 : W.cell? ⟨B + 1, 3, none⟩ = some (.int .i64 s.image) := cellsOf_block hsv 3
    clear hfr hy hn hC hBl hcc hsv hr hl
    cases he : y.ending
    · cases hi : (y.image == s.image) <;> cases h3 : (y.state == 3) <;> cases h4 : (y.state == 4)
      all_goals first | (exfalso; simp at h3 h4; omega) | skip
      · have HO : Hid (n.one s.image y = ⟨(n.live + 1), n.ready, (n.old + 1), n.failed, n.ending⟩) := by show _ = _; unfold Cn.one; rw [he, h3, h4, show (y.image != s.image) = true from by rw [bne, hi]; rfl]; simp [bit]
        have hi2 : (y.image != s.image) = true := by rw [bne, hi]; rfl
        have HS0 := hid (HC.out.set 0 (.int .i64 (n.live + 1)) ⟨(n.live + 1), n.ready, n.old, n.failed, n.ending⟩ rfl)
        have s0c := HS0.out.cnt
        have s0v := HS0.out.sv
        have s0_0 : (W.setCell ⟨B + 3, 0, none⟩ (.int .i64 (n.live + 1))).cell? ⟨B + 3, 0, none⟩ = some (.int .i64 (n.live + 1)) := cellsOf_block s0c 0
        have s0_1 : (W.setCell ⟨B + 3, 0, none⟩ (.int .i64 (n.live + 1))).cell? ⟨B + 3, 1, none⟩ = some (.int .i64 n.ready) := cellsOf_block s0c 1
        have s0_2 : (W.setCell ⟨B + 3, 0, none⟩ (.int .i64 (n.live + 1))).cell? ⟨B + 3, 2, none⟩ = some (.int .i64 n.old) := cellsOf_block s0c 2
        have s0_3 : (W.setCell ⟨B + 3, 0, none⟩ (.int .i64 (n.live + 1))).cell? ⟨B + 3, 3, none⟩ = some (.int .i64 n.failed) := cellsOf_block s0c 3
        have s0_4 : (W.setCell ⟨B + 3, 0, none⟩ (.int .i64 (n.live + 1))).cell? ⟨B + 3, 4, none⟩ = some (.int .i64 n.ending) := cellsOf_block s0c 4
        have s0z : B + 3 < (W.setCell ⟨B + 3, 0, none⟩ (.int .i64 (n.live + 1))).heap.size := lt_block s0c
        have s0f : ∀ j, (W.setCell ⟨B + 3, 0, none⟩ (.int .i64 (n.live + 1))).frozen? ⟨B + 3, j, none⟩ = false := frozen_block s0c
        have s0i : (W.setCell ⟨B + 3, 0, none⟩ (.int .i64 (n.live + 1))).cell? ⟨B + 1, 3, none⟩ = some (.int .i64 s.image) := cellsOf_block s0v 3
        have s0iz : B + 1 < (W.setCell ⟨B + 3, 0, none⟩ (.int .i64 (n.live + 1))).heap.size := lt_block s0v
        have s0E : (W.setCell ⟨B + 3, 0, none⟩ (.int .i64 (n.live + 1))).heap[E]? = _ := (set_other hEne _ _).trans hE
        have s0E3 : (W.setCell ⟨B + 3, 0, none⟩ (.int .i64 (n.live + 1))).cell? ⟨E, 3, none⟩ = some (.int .i64 y.image) := cellsOf_block s0E 3
        have s0E4 : (W.setCell ⟨B + 3, 0, none⟩ (.int .i64 (n.live + 1))).cell? ⟨E, 4, none⟩ = some (.int .i64 y.state) := cellsOf_block s0E 4
        have s0E5 : (W.setCell ⟨B + 3, 0, none⟩ (.int .i64 (n.live + 1))).cell? ⟨E, 5, none⟩ = some (.bool y.ending) := cellsOf_block s0E 5
        have s0Ez : E < (W.setCell ⟨B + 3, 0, none⟩ (.int .i64 (n.live + 1))).heap.size := lt_block s0E
        clear s0c s0v
        have HS1 := hid (HS0.out.set 2 (.int .i64 (n.old + 1)) ⟨(n.live + 1), n.ready, (n.old + 1), n.failed, n.ending⟩ rfl)
        have s1c := HS1.out.cnt
        have s1v := HS1.out.sv
        have s1_0 : ((W.setCell ⟨B + 3, 0, none⟩ (.int .i64 (n.live + 1))).setCell ⟨B + 3, 2, none⟩ (.int .i64 (n.old + 1))).cell? ⟨B + 3, 0, none⟩ = some (.int .i64 (n.live + 1)) := cellsOf_block s1c 0
        have s1_1 : ((W.setCell ⟨B + 3, 0, none⟩ (.int .i64 (n.live + 1))).setCell ⟨B + 3, 2, none⟩ (.int .i64 (n.old + 1))).cell? ⟨B + 3, 1, none⟩ = some (.int .i64 n.ready) := cellsOf_block s1c 1
        have s1_2 : ((W.setCell ⟨B + 3, 0, none⟩ (.int .i64 (n.live + 1))).setCell ⟨B + 3, 2, none⟩ (.int .i64 (n.old + 1))).cell? ⟨B + 3, 2, none⟩ = some (.int .i64 (n.old + 1)) := cellsOf_block s1c 2
        have s1_3 : ((W.setCell ⟨B + 3, 0, none⟩ (.int .i64 (n.live + 1))).setCell ⟨B + 3, 2, none⟩ (.int .i64 (n.old + 1))).cell? ⟨B + 3, 3, none⟩ = some (.int .i64 n.failed) := cellsOf_block s1c 3
        have s1_4 : ((W.setCell ⟨B + 3, 0, none⟩ (.int .i64 (n.live + 1))).setCell ⟨B + 3, 2, none⟩ (.int .i64 (n.old + 1))).cell? ⟨B + 3, 4, none⟩ = some (.int .i64 n.ending) := cellsOf_block s1c 4
        have s1z : B + 3 < ((W.setCell ⟨B + 3, 0, none⟩ (.int .i64 (n.live + 1))).setCell ⟨B + 3, 2, none⟩ (.int .i64 (n.old + 1))).heap.size := lt_block s1c
        have s1f : ∀ j, ((W.setCell ⟨B + 3, 0, none⟩ (.int .i64 (n.live + 1))).setCell ⟨B + 3, 2, none⟩ (.int .i64 (n.old + 1))).frozen? ⟨B + 3, j, none⟩ = false := frozen_block s1c
        have s1i : ((W.setCell ⟨B + 3, 0, none⟩ (.int .i64 (n.live + 1))).setCell ⟨B + 3, 2, none⟩ (.int .i64 (n.old + 1))).cell? ⟨B + 1, 3, none⟩ = some (.int .i64 s.image) := cellsOf_block s1v 3
        have s1iz : B + 1 < ((W.setCell ⟨B + 3, 0, none⟩ (.int .i64 (n.live + 1))).setCell ⟨B + 3, 2, none⟩ (.int .i64 (n.old + 1))).heap.size := lt_block s1v
        have s1E : ((W.setCell ⟨B + 3, 0, none⟩ (.int .i64 (n.live + 1))).setCell ⟨B + 3, 2, none⟩ (.int .i64 (n.old + 1))).heap[E]? = _ := (set_other hEne _ _).trans s0E
        have s1E3 : ((W.setCell ⟨B + 3, 0, none⟩ (.int .i64 (n.live + 1))).setCell ⟨B + 3, 2, none⟩ (.int .i64 (n.old + 1))).cell? ⟨E, 3, none⟩ = some (.int .i64 y.image) := cellsOf_block s1E 3
        have s1E4 : ((W.setCell ⟨B + 3, 0, none⟩ (.int .i64 (n.live + 1))).setCell ⟨B + 3, 2, none⟩ (.int .i64 (n.old + 1))).cell? ⟨E, 4, none⟩ = some (.int .i64 y.state) := cellsOf_block s1E 4
        have s1E5 : ((W.setCell ⟨B + 3, 0, none⟩ (.int .i64 (n.live + 1))).setCell ⟨B + 3, 2, none⟩ (.int .i64 (n.old + 1))).cell? ⟨E, 5, none⟩ = some (.bool y.ending) := cellsOf_block s1E 5
        have s1Ez : E < ((W.setCell ⟨B + 3, 0, none⟩ (.int .i64 (n.live + 1))).setCell ⟨B + 3, 2, none⟩ (.int .i64 (n.old + 1))).heap.size := lt_block s1E
        clear s1c s1v
        have HKF : Hid (KeepsFrom w10.heap.size W ((W.setCell ⟨B + 3, 0, none⟩ (.int .i64 (n.live + 1))).setCell ⟨B + 3, 2, none⟩ (.int .i64 (n.old + 1)))) := ((KeepsOthers.setCell _ _ _).from _).trans (((KeepsOthers.setCell _ _ _).from _))
        have HKP : Hid (Kpt (fun b => b ≠ B + 3 ∧ b < B + 6) W ((W.setCell ⟨B + 3, 0, none⟩ (.int .i64 (n.live + 1))).setCell ⟨B + 3, 2, none⟩ (.int .i64 (n.old + 1)))) := Kpt.trans (kpt_set _ _) (kpt_set _ _)
        have HBL : Hid (Below w.heap.size w ((W.setCell ⟨B + 3, 0, none⟩ (.int .i64 (n.live + 1))).setCell ⟨B + 3, 2, none⟩ (.int .i64 (n.old + 1)))) := ((HBl.out).setCell (p := ⟨B + 3, 0, none⟩) (by have := HBW.out; simp; omega) _).setCell (p := ⟨B + 3, 2, none⟩) (by have := HBW.out; simp; omega) _
        gi_wp2
        exact ⟨HKF.out, HKP.out, by rw [HN.out, HO.out]; exact HS1.out, HBL.out⟩
      · have HO : Hid (n.one s.image y = ⟨(n.live + 1), n.ready, (n.old + 1), (n.failed + 1), n.ending⟩) := by show _ = _; unfold Cn.one; rw [he, h3, h4, show (y.image != s.image) = true from by rw [bne, hi]; rfl]; simp [bit]
        have hi2 : (y.image != s.image) = true := by rw [bne, hi]; rfl
        have HS0 := hid (HC.out.set 0 (.int .i64 (n.live + 1)) ⟨(n.live + 1), n.ready, n.old, n.failed, n.ending⟩ rfl)
        have s0c := HS0.out.cnt
        have s0v := HS0.out.sv
        have s0_0 : (W.setCell ⟨B + 3, 0, none⟩ (.int .i64 (n.live + 1))).cell? ⟨B + 3, 0, none⟩ = some (.int .i64 (n.live + 1)) := cellsOf_block s0c 0
        have s0_1 : (W.setCell ⟨B + 3, 0, none⟩ (.int .i64 (n.live + 1))).cell? ⟨B + 3, 1, none⟩ = some (.int .i64 n.ready) := cellsOf_block s0c 1
        have s0_2 : (W.setCell ⟨B + 3, 0, none⟩ (.int .i64 (n.live + 1))).cell? ⟨B + 3, 2, none⟩ = some (.int .i64 n.old) := cellsOf_block s0c 2
        have s0_3 : (W.setCell ⟨B + 3, 0, none⟩ (.int .i64 (n.live + 1))).cell? ⟨B + 3, 3, none⟩ = some (.int .i64 n.failed) := cellsOf_block s0c 3
        have s0_4 : (W.setCell ⟨B + 3, 0, none⟩ (.int .i64 (n.live + 1))).cell? ⟨B + 3, 4, none⟩ = some (.int .i64 n.ending) := cellsOf_block s0c 4
        have s0z : B + 3 < (W.setCell ⟨B + 3, 0, none⟩ (.int .i64 (n.live + 1))).heap.size := lt_block s0c
        have s0f : ∀ j, (W.setCell ⟨B + 3, 0, none⟩ (.int .i64 (n.live + 1))).frozen? ⟨B + 3, j, none⟩ = false := frozen_block s0c
        have s0i : (W.setCell ⟨B + 3, 0, none⟩ (.int .i64 (n.live + 1))).cell? ⟨B + 1, 3, none⟩ = some (.int .i64 s.image) := cellsOf_block s0v 3
        have s0iz : B + 1 < (W.setCell ⟨B + 3, 0, none⟩ (.int .i64 (n.live + 1))).heap.size := lt_block s0v
        have s0E : (W.setCell ⟨B + 3, 0, none⟩ (.int .i64 (n.live + 1))).heap[E]? = _ := (set_other hEne _ _).trans hE
        have s0E3 : (W.setCell ⟨B + 3, 0, none⟩ (.int .i64 (n.live + 1))).cell? ⟨E, 3, none⟩ = some (.int .i64 y.image) := cellsOf_block s0E 3
        have s0E4 : (W.setCell ⟨B + 3, 0, none⟩ (.int .i64 (n.live + 1))).cell? ⟨E, 4, none⟩ = some (.int .i64 y.state) := cellsOf_block s0E 4
        have s0E5 : (W.setCell ⟨B + 3, 0, none⟩ (.int .i64 (n.live + 1))).cell? ⟨E, 5, none⟩ = some (.bool y.ending) := cellsOf_block s0E 5
        have s0Ez : E < (W.setCell ⟨B + 3, 0, none⟩ (.int .i64 (n.live + 1))).heap.size := lt_block s0E
        clear s0c s0v
        have HS1 := hid (HS0.out.set 2 (.int .i64 (n.old + 1)) ⟨(n.live + 1), n.ready, (n.old + 1), n.failed, n.ending⟩ rfl)
        have s1c := HS1.out.cnt
        have s1v := HS1.out.sv
        have s1_0 : ((W.setCell ⟨B + 3, 0, none⟩ (.int .i64 (n.live + 1))).setCell ⟨B + 3, 2, none⟩ (.int .i64 (n.old + 1))).cell? ⟨B + 3, 0, none⟩ = some (.int .i64 (n.live + 1)) := cellsOf_block s1c 0
        have s1_1 : ((W.setCell ⟨B + 3, 0, none⟩ (.int .i64 (n.live + 1))).setCell ⟨B + 3, 2, none⟩ (.int .i64 (n.old + 1))).cell? ⟨B + 3, 1, none⟩ = some (.int .i64 n.ready) := cellsOf_block s1c 1
        have s1_2 : ((W.setCell ⟨B + 3, 0, none⟩ (.int .i64 (n.live + 1))).setCell ⟨B + 3, 2, none⟩ (.int .i64 (n.old + 1))).cell? ⟨B + 3, 2, none⟩ = some (.int .i64 (n.old + 1)) := cellsOf_block s1c 2
        have s1_3 : ((W.setCell ⟨B + 3, 0, none⟩ (.int .i64 (n.live + 1))).setCell ⟨B + 3, 2, none⟩ (.int .i64 (n.old + 1))).cell? ⟨B + 3, 3, none⟩ = some (.int .i64 n.failed) := cellsOf_block s1c 3
        have s1_4 : ((W.setCell ⟨B + 3, 0, none⟩ (.int .i64 (n.live + 1))).setCell ⟨B + 3, 2, none⟩ (.int .i64 (n.old + 1))).cell? ⟨B + 3, 4, none⟩ = some (.int .i64 n.ending) := cellsOf_block s1c 4
        have s1z : B + 3 < ((W.setCell ⟨B + 3, 0, none⟩ (.int .i64 (n.live + 1))).setCell ⟨B + 3, 2, none⟩ (.int .i64 (n.old + 1))).heap.size := lt_block s1c
        have s1f : ∀ j, ((W.setCell ⟨B + 3, 0, none⟩ (.int .i64 (n.live + 1))).setCell ⟨B + 3, 2, none⟩ (.int .i64 (n.old + 1))).frozen? ⟨B + 3, j, none⟩ = false := frozen_block s1c
        have s1i : ((W.setCell ⟨B + 3, 0, none⟩ (.int .i64 (n.live + 1))).setCell ⟨B + 3, 2, none⟩ (.int .i64 (n.old + 1))).cell? ⟨B + 1, 3, none⟩ = some (.int .i64 s.image) := cellsOf_block s1v 3
        have s1iz : B + 1 < ((W.setCell ⟨B + 3, 0, none⟩ (.int .i64 (n.live + 1))).setCell ⟨B + 3, 2, none⟩ (.int .i64 (n.old + 1))).heap.size := lt_block s1v
        have s1E : ((W.setCell ⟨B + 3, 0, none⟩ (.int .i64 (n.live + 1))).setCell ⟨B + 3, 2, none⟩ (.int .i64 (n.old + 1))).heap[E]? = _ := (set_other hEne _ _).trans s0E
        have s1E3 : ((W.setCell ⟨B + 3, 0, none⟩ (.int .i64 (n.live + 1))).setCell ⟨B + 3, 2, none⟩ (.int .i64 (n.old + 1))).cell? ⟨E, 3, none⟩ = some (.int .i64 y.image) := cellsOf_block s1E 3
        have s1E4 : ((W.setCell ⟨B + 3, 0, none⟩ (.int .i64 (n.live + 1))).setCell ⟨B + 3, 2, none⟩ (.int .i64 (n.old + 1))).cell? ⟨E, 4, none⟩ = some (.int .i64 y.state) := cellsOf_block s1E 4
        have s1E5 : ((W.setCell ⟨B + 3, 0, none⟩ (.int .i64 (n.live + 1))).setCell ⟨B + 3, 2, none⟩ (.int .i64 (n.old + 1))).cell? ⟨E, 5, none⟩ = some (.bool y.ending) := cellsOf_block s1E 5
        have s1Ez : E < ((W.setCell ⟨B + 3, 0, none⟩ (.int .i64 (n.live + 1))).setCell ⟨B + 3, 2, none⟩ (.int .i64 (n.old + 1))).heap.size := lt_block s1E
        clear s1c s1v
        have HS2 := hid (HS1.out.set 3 (.int .i64 (n.failed + 1)) ⟨(n.live + 1), n.ready, (n.old + 1), (n.failed + 1), n.ending⟩ rfl)
        have s2c := HS2.out.cnt
        have s2v := HS2.out.sv
        have s2_0 : (((W.setCell ⟨B + 3, 0, none⟩ (.int .i64 (n.live + 1))).setCell ⟨B + 3, 2, none⟩ (.int .i64 (n.old + 1))).setCell ⟨B + 3, 3, none⟩ (.int .i64 (n.failed + 1))).cell? ⟨B + 3, 0, none⟩ = some (.int .i64 (n.live + 1)) := cellsOf_block s2c 0
        have s2_1 : (((W.setCell ⟨B + 3, 0, none⟩ (.int .i64 (n.live + 1))).setCell ⟨B + 3, 2, none⟩ (.int .i64 (n.old + 1))).setCell ⟨B + 3, 3, none⟩ (.int .i64 (n.failed + 1))).cell? ⟨B + 3, 1, none⟩ = some (.int .i64 n.ready) := cellsOf_block s2c 1
        have s2_2 : (((W.setCell ⟨B + 3, 0, none⟩ (.int .i64 (n.live + 1))).setCell ⟨B + 3, 2, none⟩ (.int .i64 (n.old + 1))).setCell ⟨B + 3, 3, none⟩ (.int .i64 (n.failed + 1))).cell? ⟨B + 3, 2, none⟩ = some (.int .i64 (n.old + 1)) := cellsOf_block s2c 2
        have s2_3 : (((W.setCell ⟨B + 3, 0, none⟩ (.int .i64 (n.live + 1))).setCell ⟨B + 3, 2, none⟩ (.int .i64 (n.old + 1))).setCell ⟨B + 3, 3, none⟩ (.int .i64 (n.failed + 1))).cell? ⟨B + 3, 3, none⟩ = some (.int .i64 (n.failed + 1)) := cellsOf_block s2c 3
        have s2_4 : (((W.setCell ⟨B + 3, 0, none⟩ (.int .i64 (n.live + 1))).setCell ⟨B + 3, 2, none⟩ (.int .i64 (n.old + 1))).setCell ⟨B + 3, 3, none⟩ (.int .i64 (n.failed + 1))).cell? ⟨B + 3, 4, none⟩ = some (.int .i64 n.ending) := cellsOf_block s2c 4
        have s2z : B + 3 < (((W.setCell ⟨B + 3, 0, none⟩ (.int .i64 (n.live + 1))).setCell ⟨B + 3, 2, none⟩ (.int .i64 (n.old + 1))).setCell ⟨B + 3, 3, none⟩ (.int .i64 (n.failed + 1))).heap.size := lt_block s2c
        have s2f : ∀ j, (((W.setCell ⟨B + 3, 0, none⟩ (.int .i64 (n.live + 1))).setCell ⟨B + 3, 2, none⟩ (.int .i64 (n.old + 1))).setCell ⟨B + 3, 3, none⟩ (.int .i64 (n.failed + 1))).frozen? ⟨B + 3, j, none⟩ = false := frozen_block s2c
        have s2i : (((W.setCell ⟨B + 3, 0, none⟩ (.int .i64 (n.live + 1))).setCell ⟨B + 3, 2, none⟩ (.int .i64 (n.old + 1))).setCell ⟨B + 3, 3, none⟩ (.int .i64 (n.failed + 1))).cell? ⟨B + 1, 3, none⟩ = some (.int .i64 s.image) := cellsOf_block s2v 3
        have s2iz : B + 1 < (((W.setCell ⟨B + 3, 0, none⟩ (.int .i64 (n.live + 1))).setCell ⟨B + 3, 2, none⟩ (.int .i64 (n.old + 1))).setCell ⟨B + 3, 3, none⟩ (.int .i64 (n.failed + 1))).heap.size := lt_block s2v
        have s2E : (((W.setCell ⟨B + 3, 0, none⟩ (.int .i64 (n.live + 1))).setCell ⟨B + 3, 2, none⟩ (.int .i64 (n.old + 1))).setCell ⟨B + 3, 3, none⟩ (.int .i64 (n.failed + 1))).heap[E]? = _ := (set_other hEne _ _).trans s1E
        have s2E3 : (((W.setCell ⟨B + 3, 0, none⟩ (.int .i64 (n.live + 1))).setCell ⟨B + 3, 2, none⟩ (.int .i64 (n.old + 1))).setCell ⟨B + 3, 3, none⟩ (.int .i64 (n.failed + 1))).cell? ⟨E, 3, none⟩ = some (.int .i64 y.image) := cellsOf_block s2E 3
        have s2E4 : (((W.setCell ⟨B + 3, 0, none⟩ (.int .i64 (n.live + 1))).setCell ⟨B + 3, 2, none⟩ (.int .i64 (n.old + 1))).setCell ⟨B + 3, 3, none⟩ (.int .i64 (n.failed + 1))).cell? ⟨E, 4, none⟩ = some (.int .i64 y.state) := cellsOf_block s2E 4
        have s2E5 : (((W.setCell ⟨B + 3, 0, none⟩ (.int .i64 (n.live + 1))).setCell ⟨B + 3, 2, none⟩ (.int .i64 (n.old + 1))).setCell ⟨B + 3, 3, none⟩ (.int .i64 (n.failed + 1))).cell? ⟨E, 5, none⟩ = some (.bool y.ending) := cellsOf_block s2E 5
        have s2Ez : E < (((W.setCell ⟨B + 3, 0, none⟩ (.int .i64 (n.live + 1))).setCell ⟨B + 3, 2, none⟩ (.int .i64 (n.old + 1))).setCell ⟨B + 3, 3, none⟩ (.int .i64 (n.failed + 1))).heap.size := lt_block s2E
        clear s2c s2v
        have HKF : Hid (KeepsFrom w10.heap.size W (((W.setCell ⟨B + 3, 0, none⟩ (.int .i64 (n.live + 1))).setCell ⟨B + 3, 2, none⟩ (.int .i64 (n.old + 1))).setCell ⟨B + 3, 3, none⟩ (.int .i64 (n.failed + 1)))) := (((KeepsOthers.setCell _ _ _).from _).trans (((KeepsOthers.setCell _ _ _).from _))).trans (((KeepsOthers.setCell _ _ _).from _))
        have HKP : Hid (Kpt (fun b => b ≠ B + 3 ∧ b < B + 6) W (((W.setCell ⟨B + 3, 0, none⟩ (.int .i64 (n.live + 1))).setCell ⟨B + 3, 2, none⟩ (.int .i64 (n.old + 1))).setCell ⟨B + 3, 3, none⟩ (.int .i64 (n.failed + 1)))) := Kpt.trans (Kpt.trans (kpt_set _ _) (kpt_set _ _)) (kpt_set _ _)
        have HBL : Hid (Below w.heap.size w (((W.setCell ⟨B + 3, 0, none⟩ (.int .i64 (n.live + 1))).setCell ⟨B + 3, 2, none⟩ (.int .i64 (n.old + 1))).setCell ⟨B + 3, 3, none⟩ (.int .i64 (n.failed + 1)))) := (((HBl.out).setCell (p := ⟨B + 3, 0, none⟩) (by have := HBW.out; simp; omega) _).setCell (p := ⟨B + 3, 2, none⟩) (by have := HBW.out; simp; omega) _).setCell (p := ⟨B + 3, 3, none⟩) (by have := HBW.out; simp; omega) _
        gi_wp2
        exact ⟨HKF.out, HKP.out, by rw [HN.out, HO.out]; exact HS2.out, HBL.out⟩
      · have HO : Hid (n.one s.image y = ⟨(n.live + 1), (n.ready + 1), (n.old + 1), n.failed, n.ending⟩) := by show _ = _; unfold Cn.one; rw [he, h3, h4, show (y.image != s.image) = true from by rw [bne, hi]; rfl]; simp [bit]
        have hi2 : (y.image != s.image) = true := by rw [bne, hi]; rfl
        have HS0 := hid (HC.out.set 0 (.int .i64 (n.live + 1)) ⟨(n.live + 1), n.ready, n.old, n.failed, n.ending⟩ rfl)
        have s0c := HS0.out.cnt
        have s0v := HS0.out.sv
        have s0_0 : (W.setCell ⟨B + 3, 0, none⟩ (.int .i64 (n.live + 1))).cell? ⟨B + 3, 0, none⟩ = some (.int .i64 (n.live + 1)) := cellsOf_block s0c 0
        have s0_1 : (W.setCell ⟨B + 3, 0, none⟩ (.int .i64 (n.live + 1))).cell? ⟨B + 3, 1, none⟩ = some (.int .i64 n.ready) := cellsOf_block s0c 1
        have s0_2 : (W.setCell ⟨B + 3, 0, none⟩ (.int .i64 (n.live + 1))).cell? ⟨B + 3, 2, none⟩ = some (.int .i64 n.old) := cellsOf_block s0c 2
        have s0_3 : (W.setCell ⟨B + 3, 0, none⟩ (.int .i64 (n.live + 1))).cell? ⟨B + 3, 3, none⟩ = some (.int .i64 n.failed) := cellsOf_block s0c 3
        have s0_4 : (W.setCell ⟨B + 3, 0, none⟩ (.int .i64 (n.live + 1))).cell? ⟨B + 3, 4, none⟩ = some (.int .i64 n.ending) := cellsOf_block s0c 4
        have s0z : B + 3 < (W.setCell ⟨B + 3, 0, none⟩ (.int .i64 (n.live + 1))).heap.size := lt_block s0c
        have s0f : ∀ j, (W.setCell ⟨B + 3, 0, none⟩ (.int .i64 (n.live + 1))).frozen? ⟨B + 3, j, none⟩ = false := frozen_block s0c
        have s0i : (W.setCell ⟨B + 3, 0, none⟩ (.int .i64 (n.live + 1))).cell? ⟨B + 1, 3, none⟩ = some (.int .i64 s.image) := cellsOf_block s0v 3
        have s0iz : B + 1 < (W.setCell ⟨B + 3, 0, none⟩ (.int .i64 (n.live + 1))).heap.size := lt_block s0v
        have s0E : (W.setCell ⟨B + 3, 0, none⟩ (.int .i64 (n.live + 1))).heap[E]? = _ := (set_other hEne _ _).trans hE
        have s0E3 : (W.setCell ⟨B + 3, 0, none⟩ (.int .i64 (n.live + 1))).cell? ⟨E, 3, none⟩ = some (.int .i64 y.image) := cellsOf_block s0E 3
        have s0E4 : (W.setCell ⟨B + 3, 0, none⟩ (.int .i64 (n.live + 1))).cell? ⟨E, 4, none⟩ = some (.int .i64 y.state) := cellsOf_block s0E 4
        have s0E5 : (W.setCell ⟨B + 3, 0, none⟩ (.int .i64 (n.live + 1))).cell? ⟨E, 5, none⟩ = some (.bool y.ending) := cellsOf_block s0E 5
        have s0Ez : E < (W.setCell ⟨B + 3, 0, none⟩ (.int .i64 (n.live + 1))).heap.size := lt_block s0E
        clear s0c s0v
        have HS1 := hid (HS0.out.set 2 (.int .i64 (n.old + 1)) ⟨(n.live + 1), n.ready, (n.old + 1), n.failed, n.ending⟩ rfl)
        have s1c := HS1.out.cnt
        have s1v := HS1.out.sv
        have s1_0 : ((W.setCell ⟨B + 3, 0, none⟩ (.int .i64 (n.live + 1))).setCell ⟨B + 3, 2, none⟩ (.int .i64 (n.old + 1))).cell? ⟨B + 3, 0, none⟩ = some (.int .i64 (n.live + 1)) := cellsOf_block s1c 0
        have s1_1 : ((W.setCell ⟨B + 3, 0, none⟩ (.int .i64 (n.live + 1))).setCell ⟨B + 3, 2, none⟩ (.int .i64 (n.old + 1))).cell? ⟨B + 3, 1, none⟩ = some (.int .i64 n.ready) := cellsOf_block s1c 1
        have s1_2 : ((W.setCell ⟨B + 3, 0, none⟩ (.int .i64 (n.live + 1))).setCell ⟨B + 3, 2, none⟩ (.int .i64 (n.old + 1))).cell? ⟨B + 3, 2, none⟩ = some (.int .i64 (n.old + 1)) := cellsOf_block s1c 2
        have s1_3 : ((W.setCell ⟨B + 3, 0, none⟩ (.int .i64 (n.live + 1))).setCell ⟨B + 3, 2, none⟩ (.int .i64 (n.old + 1))).cell? ⟨B + 3, 3, none⟩ = some (.int .i64 n.failed) := cellsOf_block s1c 3
        have s1_4 : ((W.setCell ⟨B + 3, 0, none⟩ (.int .i64 (n.live + 1))).setCell ⟨B + 3, 2, none⟩ (.int .i64 (n.old + 1))).cell? ⟨B + 3, 4, none⟩ = some (.int .i64 n.ending) := cellsOf_block s1c 4
        have s1z : B + 3 < ((W.setCell ⟨B + 3, 0, none⟩ (.int .i64 (n.live + 1))).setCell ⟨B + 3, 2, none⟩ (.int .i64 (n.old + 1))).heap.size := lt_block s1c
        have s1f : ∀ j, ((W.setCell ⟨B + 3, 0, none⟩ (.int .i64 (n.live + 1))).setCell ⟨B + 3, 2, none⟩ (.int .i64 (n.old + 1))).frozen? ⟨B + 3, j, none⟩ = false := frozen_block s1c
        have s1i : ((W.setCell ⟨B + 3, 0, none⟩ (.int .i64 (n.live + 1))).setCell ⟨B + 3, 2, none⟩ (.int .i64 (n.old + 1))).cell? ⟨B + 1, 3, none⟩ = some (.int .i64 s.image) := cellsOf_block s1v 3
        have s1iz : B + 1 < ((W.setCell ⟨B + 3, 0, none⟩ (.int .i64 (n.live + 1))).setCell ⟨B + 3, 2, none⟩ (.int .i64 (n.old + 1))).heap.size := lt_block s1v
        have s1E : ((W.setCell ⟨B + 3, 0, none⟩ (.int .i64 (n.live + 1))).setCell ⟨B + 3, 2, none⟩ (.int .i64 (n.old + 1))).heap[E]? = _ := (set_other hEne _ _).trans s0E
        have s1E3 : ((W.setCell ⟨B + 3, 0, none⟩ (.int .i64 (n.live + 1))).setCell ⟨B + 3, 2, none⟩ (.int .i64 (n.old + 1))).cell? ⟨E, 3, none⟩ = some (.int .i64 y.image) := cellsOf_block s1E 3
        have s1E4 : ((W.setCell ⟨B + 3, 0, none⟩ (.int .i64 (n.live + 1))).setCell ⟨B + 3, 2, none⟩ (.int .i64 (n.old + 1))).cell? ⟨E, 4, none⟩ = some (.int .i64 y.state) := cellsOf_block s1E 4
        have s1E5 : ((W.setCell ⟨B + 3, 0, none⟩ (.int .i64 (n.live + 1))).setCell ⟨B + 3, 2, none⟩ (.int .i64 (n.old + 1))).cell? ⟨E, 5, none⟩ = some (.bool y.ending) := cellsOf_block s1E 5
        have s1Ez : E < ((W.setCell ⟨B + 3, 0, none⟩ (.int .i64 (n.live + 1))).setCell ⟨B + 3, 2, none⟩ (.int .i64 (n.old + 1))).heap.size := lt_block s1E
        clear s1c s1v
        have HS2 := hid (HS1.out.set 1 (.int .i64 (n.ready + 1)) ⟨(n.live + 1), (n.ready + 1), (n.old + 1), n.failed, n.ending⟩ rfl)
        have s2c := HS2.out.cnt
        have s2v := HS2.out.sv
        have s2_0 : (((W.setCell ⟨B + 3, 0, none⟩ (.int .i64 (n.live + 1))).setCell ⟨B + 3, 2, none⟩ (.int .i64 (n.old + 1))).setCell ⟨B + 3, 1, none⟩ (.int .i64 (n.ready + 1))).cell? ⟨B + 3, 0, none⟩ = some (.int .i64 (n.live + 1)) := cellsOf_block s2c 0
        have s2_1 : (((W.setCell ⟨B + 3, 0, none⟩ (.int .i64 (n.live + 1))).setCell ⟨B + 3, 2, none⟩ (.int .i64 (n.old + 1))).setCell ⟨B + 3, 1, none⟩ (.int .i64 (n.ready + 1))).cell? ⟨B + 3, 1, none⟩ = some (.int .i64 (n.ready + 1)) := cellsOf_block s2c 1
        have s2_2 : (((W.setCell ⟨B + 3, 0, none⟩ (.int .i64 (n.live + 1))).setCell ⟨B + 3, 2, none⟩ (.int .i64 (n.old + 1))).setCell ⟨B + 3, 1, none⟩ (.int .i64 (n.ready + 1))).cell? ⟨B + 3, 2, none⟩ = some (.int .i64 (n.old + 1)) := cellsOf_block s2c 2
        have s2_3 : (((W.setCell ⟨B + 3, 0, none⟩ (.int .i64 (n.live + 1))).setCell ⟨B + 3, 2, none⟩ (.int .i64 (n.old + 1))).setCell ⟨B + 3, 1, none⟩ (.int .i64 (n.ready + 1))).cell? ⟨B + 3, 3, none⟩ = some (.int .i64 n.failed) := cellsOf_block s2c 3
        have s2_4 : (((W.setCell ⟨B + 3, 0, none⟩ (.int .i64 (n.live + 1))).setCell ⟨B + 3, 2, none⟩ (.int .i64 (n.old + 1))).setCell ⟨B + 3, 1, none⟩ (.int .i64 (n.ready + 1))).cell? ⟨B + 3, 4, none⟩ = some (.int .i64 n.ending) := cellsOf_block s2c 4
        have s2z : B + 3 < (((W.setCell ⟨B + 3, 0, none⟩ (.int .i64 (n.live + 1))).setCell ⟨B + 3, 2, none⟩ (.int .i64 (n.old + 1))).setCell ⟨B + 3, 1, none⟩ (.int .i64 (n.ready + 1))).heap.size := lt_block s2c
        have s2f : ∀ j, (((W.setCell ⟨B + 3, 0, none⟩ (.int .i64 (n.live + 1))).setCell ⟨B + 3, 2, none⟩ (.int .i64 (n.old + 1))).setCell ⟨B + 3, 1, none⟩ (.int .i64 (n.ready + 1))).frozen? ⟨B + 3, j, none⟩ = false := frozen_block s2c
        have s2i : (((W.setCell ⟨B + 3, 0, none⟩ (.int .i64 (n.live + 1))).setCell ⟨B + 3, 2, none⟩ (.int .i64 (n.old + 1))).setCell ⟨B + 3, 1, none⟩ (.int .i64 (n.ready + 1))).cell? ⟨B + 1, 3, none⟩ = some (.int .i64 s.image) := cellsOf_block s2v 3
        have s2iz : B + 1 < (((W.setCell ⟨B + 3, 0, none⟩ (.int .i64 (n.live + 1))).setCell ⟨B + 3, 2, none⟩ (.int .i64 (n.old + 1))).setCell ⟨B + 3, 1, none⟩ (.int .i64 (n.ready + 1))).heap.size := lt_block s2v
        have s2E : (((W.setCell ⟨B + 3, 0, none⟩ (.int .i64 (n.live + 1))).setCell ⟨B + 3, 2, none⟩ (.int .i64 (n.old + 1))).setCell ⟨B + 3, 1, none⟩ (.int .i64 (n.ready + 1))).heap[E]? = _ := (set_other hEne _ _).trans s1E
        have s2E3 : (((W.setCell ⟨B + 3, 0, none⟩ (.int .i64 (n.live + 1))).setCell ⟨B + 3, 2, none⟩ (.int .i64 (n.old + 1))).setCell ⟨B + 3, 1, none⟩ (.int .i64 (n.ready + 1))).cell? ⟨E, 3, none⟩ = some (.int .i64 y.image) := cellsOf_block s2E 3
        have s2E4 : (((W.setCell ⟨B + 3, 0, none⟩ (.int .i64 (n.live + 1))).setCell ⟨B + 3, 2, none⟩ (.int .i64 (n.old + 1))).setCell ⟨B + 3, 1, none⟩ (.int .i64 (n.ready + 1))).cell? ⟨E, 4, none⟩ = some (.int .i64 y.state) := cellsOf_block s2E 4
        have s2E5 : (((W.setCell ⟨B + 3, 0, none⟩ (.int .i64 (n.live + 1))).setCell ⟨B + 3, 2, none⟩ (.int .i64 (n.old + 1))).setCell ⟨B + 3, 1, none⟩ (.int .i64 (n.ready + 1))).cell? ⟨E, 5, none⟩ = some (.bool y.ending) := cellsOf_block s2E 5
        have s2Ez : E < (((W.setCell ⟨B + 3, 0, none⟩ (.int .i64 (n.live + 1))).setCell ⟨B + 3, 2, none⟩ (.int .i64 (n.old + 1))).setCell ⟨B + 3, 1, none⟩ (.int .i64 (n.ready + 1))).heap.size := lt_block s2E
        clear s2c s2v
        have HKF : Hid (KeepsFrom w10.heap.size W (((W.setCell ⟨B + 3, 0, none⟩ (.int .i64 (n.live + 1))).setCell ⟨B + 3, 2, none⟩ (.int .i64 (n.old + 1))).setCell ⟨B + 3, 1, none⟩ (.int .i64 (n.ready + 1)))) := (((KeepsOthers.setCell _ _ _).from _).trans (((KeepsOthers.setCell _ _ _).from _))).trans (((KeepsOthers.setCell _ _ _).from _))
        have HKP : Hid (Kpt (fun b => b ≠ B + 3 ∧ b < B + 6) W (((W.setCell ⟨B + 3, 0, none⟩ (.int .i64 (n.live + 1))).setCell ⟨B + 3, 2, none⟩ (.int .i64 (n.old + 1))).setCell ⟨B + 3, 1, none⟩ (.int .i64 (n.ready + 1)))) := Kpt.trans (Kpt.trans (kpt_set _ _) (kpt_set _ _)) (kpt_set _ _)
        have HBL : Hid (Below w.heap.size w (((W.setCell ⟨B + 3, 0, none⟩ (.int .i64 (n.live + 1))).setCell ⟨B + 3, 2, none⟩ (.int .i64 (n.old + 1))).setCell ⟨B + 3, 1, none⟩ (.int .i64 (n.ready + 1)))) := (((HBl.out).setCell (p := ⟨B + 3, 0, none⟩) (by have := HBW.out; simp; omega) _).setCell (p := ⟨B + 3, 2, none⟩) (by have := HBW.out; simp; omega) _).setCell (p := ⟨B + 3, 1, none⟩) (by have := HBW.out; simp; omega) _
        gi_wp2
        exact ⟨HKF.out, HKP.out, by rw [HN.out, HO.out]; exact HS2.out, HBL.out⟩
      · have HO : Hid (n.one s.image y = ⟨(n.live + 1), n.ready, n.old, n.failed, n.ending⟩) := by show _ = _; unfold Cn.one; rw [he, h3, h4, show (y.image != s.image) = false from by rw [bne, hi]; rfl]; simp [bit]
        have hi2 : (y.image != s.image) = false := by rw [bne, hi]; rfl
        have HS0 := hid (HC.out.set 0 (.int .i64 (n.live + 1)) ⟨(n.live + 1), n.ready, n.old, n.failed, n.ending⟩ rfl)
        have s0c := HS0.out.cnt
        have s0v := HS0.out.sv
        have s0_0 : (W.setCell ⟨B + 3, 0, none⟩ (.int .i64 (n.live + 1))).cell? ⟨B + 3, 0, none⟩ = some (.int .i64 (n.live + 1)) := cellsOf_block s0c 0
        have s0_1 : (W.setCell ⟨B + 3, 0, none⟩ (.int .i64 (n.live + 1))).cell? ⟨B + 3, 1, none⟩ = some (.int .i64 n.ready) := cellsOf_block s0c 1
        have s0_2 : (W.setCell ⟨B + 3, 0, none⟩ (.int .i64 (n.live + 1))).cell? ⟨B + 3, 2, none⟩ = some (.int .i64 n.old) := cellsOf_block s0c 2
        have s0_3 : (W.setCell ⟨B + 3, 0, none⟩ (.int .i64 (n.live + 1))).cell? ⟨B + 3, 3, none⟩ = some (.int .i64 n.failed) := cellsOf_block s0c 3
        have s0_4 : (W.setCell ⟨B + 3, 0, none⟩ (.int .i64 (n.live + 1))).cell? ⟨B + 3, 4, none⟩ = some (.int .i64 n.ending) := cellsOf_block s0c 4
        have s0z : B + 3 < (W.setCell ⟨B + 3, 0, none⟩ (.int .i64 (n.live + 1))).heap.size := lt_block s0c
        have s0f : ∀ j, (W.setCell ⟨B + 3, 0, none⟩ (.int .i64 (n.live + 1))).frozen? ⟨B + 3, j, none⟩ = false := frozen_block s0c
        have s0i : (W.setCell ⟨B + 3, 0, none⟩ (.int .i64 (n.live + 1))).cell? ⟨B + 1, 3, none⟩ = some (.int .i64 s.image) := cellsOf_block s0v 3
        have s0iz : B + 1 < (W.setCell ⟨B + 3, 0, none⟩ (.int .i64 (n.live + 1))).heap.size := lt_block s0v
        have s0E : (W.setCell ⟨B + 3, 0, none⟩ (.int .i64 (n.live + 1))).heap[E]? = _ := (set_other hEne _ _).trans hE
        have s0E3 : (W.setCell ⟨B + 3, 0, none⟩ (.int .i64 (n.live + 1))).cell? ⟨E, 3, none⟩ = some (.int .i64 y.image) := cellsOf_block s0E 3
        have s0E4 : (W.setCell ⟨B + 3, 0, none⟩ (.int .i64 (n.live + 1))).cell? ⟨E, 4, none⟩ = some (.int .i64 y.state) := cellsOf_block s0E 4
        have s0E5 : (W.setCell ⟨B + 3, 0, none⟩ (.int .i64 (n.live + 1))).cell? ⟨E, 5, none⟩ = some (.bool y.ending) := cellsOf_block s0E 5
        have s0Ez : E < (W.setCell ⟨B + 3, 0, none⟩ (.int .i64 (n.live + 1))).heap.size := lt_block s0E
        clear s0c s0v
        have HKF : Hid (KeepsFrom w10.heap.size W (W.setCell ⟨B + 3, 0, none⟩ (.int .i64 (n.live + 1)))) := (KeepsOthers.setCell _ _ _).from _
        have HKP : Hid (Kpt (fun b => b ≠ B + 3 ∧ b < B + 6) W (W.setCell ⟨B + 3, 0, none⟩ (.int .i64 (n.live + 1)))) := kpt_set _ _
        have HBL : Hid (Below w.heap.size w (W.setCell ⟨B + 3, 0, none⟩ (.int .i64 (n.live + 1)))) := (HBl.out).setCell (p := ⟨B + 3, 0, none⟩) (by have := HBW.out; simp; omega) _
        gi_wp2
        exact ⟨HKF.out, HKP.out, by rw [HN.out, HO.out]; exact HS0.out, HBL.out⟩
      · have HO : Hid (n.one s.image y = ⟨(n.live + 1), n.ready, n.old, (n.failed + 1), n.ending⟩) := by show _ = _; unfold Cn.one; rw [he, h3, h4, show (y.image != s.image) = false from by rw [bne, hi]; rfl]; simp [bit]
        have hi2 : (y.image != s.image) = false := by rw [bne, hi]; rfl
        have HS0 := hid (HC.out.set 0 (.int .i64 (n.live + 1)) ⟨(n.live + 1), n.ready, n.old, n.failed, n.ending⟩ rfl)
        have s0c := HS0.out.cnt
        have s0v := HS0.out.sv
        have s0_0 : (W.setCell ⟨B + 3, 0, none⟩ (.int .i64 (n.live + 1))).cell? ⟨B + 3, 0, none⟩ = some (.int .i64 (n.live + 1)) := cellsOf_block s0c 0
        have s0_1 : (W.setCell ⟨B + 3, 0, none⟩ (.int .i64 (n.live + 1))).cell? ⟨B + 3, 1, none⟩ = some (.int .i64 n.ready) := cellsOf_block s0c 1
        have s0_2 : (W.setCell ⟨B + 3, 0, none⟩ (.int .i64 (n.live + 1))).cell? ⟨B + 3, 2, none⟩ = some (.int .i64 n.old) := cellsOf_block s0c 2
        have s0_3 : (W.setCell ⟨B + 3, 0, none⟩ (.int .i64 (n.live + 1))).cell? ⟨B + 3, 3, none⟩ = some (.int .i64 n.failed) := cellsOf_block s0c 3
        have s0_4 : (W.setCell ⟨B + 3, 0, none⟩ (.int .i64 (n.live + 1))).cell? ⟨B + 3, 4, none⟩ = some (.int .i64 n.ending) := cellsOf_block s0c 4
        have s0z : B + 3 < (W.setCell ⟨B + 3, 0, none⟩ (.int .i64 (n.live + 1))).heap.size := lt_block s0c
        have s0f : ∀ j, (W.setCell ⟨B + 3, 0, none⟩ (.int .i64 (n.live + 1))).frozen? ⟨B + 3, j, none⟩ = false := frozen_block s0c
        have s0i : (W.setCell ⟨B + 3, 0, none⟩ (.int .i64 (n.live + 1))).cell? ⟨B + 1, 3, none⟩ = some (.int .i64 s.image) := cellsOf_block s0v 3
        have s0iz : B + 1 < (W.setCell ⟨B + 3, 0, none⟩ (.int .i64 (n.live + 1))).heap.size := lt_block s0v
        have s0E : (W.setCell ⟨B + 3, 0, none⟩ (.int .i64 (n.live + 1))).heap[E]? = _ := (set_other hEne _ _).trans hE
        have s0E3 : (W.setCell ⟨B + 3, 0, none⟩ (.int .i64 (n.live + 1))).cell? ⟨E, 3, none⟩ = some (.int .i64 y.image) := cellsOf_block s0E 3
        have s0E4 : (W.setCell ⟨B + 3, 0, none⟩ (.int .i64 (n.live + 1))).cell? ⟨E, 4, none⟩ = some (.int .i64 y.state) := cellsOf_block s0E 4
        have s0E5 : (W.setCell ⟨B + 3, 0, none⟩ (.int .i64 (n.live + 1))).cell? ⟨E, 5, none⟩ = some (.bool y.ending) := cellsOf_block s0E 5
        have s0Ez : E < (W.setCell ⟨B + 3, 0, none⟩ (.int .i64 (n.live + 1))).heap.size := lt_block s0E
        clear s0c s0v
        have HS1 := hid (HS0.out.set 3 (.int .i64 (n.failed + 1)) ⟨(n.live + 1), n.ready, n.old, (n.failed + 1), n.ending⟩ rfl)
        have s1c := HS1.out.cnt
        have s1v := HS1.out.sv
        have s1_0 : ((W.setCell ⟨B + 3, 0, none⟩ (.int .i64 (n.live + 1))).setCell ⟨B + 3, 3, none⟩ (.int .i64 (n.failed + 1))).cell? ⟨B + 3, 0, none⟩ = some (.int .i64 (n.live + 1)) := cellsOf_block s1c 0
        have s1_1 : ((W.setCell ⟨B + 3, 0, none⟩ (.int .i64 (n.live + 1))).setCell ⟨B + 3, 3, none⟩ (.int .i64 (n.failed + 1))).cell? ⟨B + 3, 1, none⟩ = some (.int .i64 n.ready) := cellsOf_block s1c 1
        have s1_2 : ((W.setCell ⟨B + 3, 0, none⟩ (.int .i64 (n.live + 1))).setCell ⟨B + 3, 3, none⟩ (.int .i64 (n.failed + 1))).cell? ⟨B + 3, 2, none⟩ = some (.int .i64 n.old) := cellsOf_block s1c 2
        have s1_3 : ((W.setCell ⟨B + 3, 0, none⟩ (.int .i64 (n.live + 1))).setCell ⟨B + 3, 3, none⟩ (.int .i64 (n.failed + 1))).cell? ⟨B + 3, 3, none⟩ = some (.int .i64 (n.failed + 1)) := cellsOf_block s1c 3
        have s1_4 : ((W.setCell ⟨B + 3, 0, none⟩ (.int .i64 (n.live + 1))).setCell ⟨B + 3, 3, none⟩ (.int .i64 (n.failed + 1))).cell? ⟨B + 3, 4, none⟩ = some (.int .i64 n.ending) := cellsOf_block s1c 4
        have s1z : B + 3 < ((W.setCell ⟨B + 3, 0, none⟩ (.int .i64 (n.live + 1))).setCell ⟨B + 3, 3, none⟩ (.int .i64 (n.failed + 1))).heap.size := lt_block s1c
        have s1f : ∀ j, ((W.setCell ⟨B + 3, 0, none⟩ (.int .i64 (n.live + 1))).setCell ⟨B + 3, 3, none⟩ (.int .i64 (n.failed + 1))).frozen? ⟨B + 3, j, none⟩ = false := frozen_block s1c
        have s1i : ((W.setCell ⟨B + 3, 0, none⟩ (.int .i64 (n.live + 1))).setCell ⟨B + 3, 3, none⟩ (.int .i64 (n.failed + 1))).cell? ⟨B + 1, 3, none⟩ = some (.int .i64 s.image) := cellsOf_block s1v 3
        have s1iz : B + 1 < ((W.setCell ⟨B + 3, 0, none⟩ (.int .i64 (n.live + 1))).setCell ⟨B + 3, 3, none⟩ (.int .i64 (n.failed + 1))).heap.size := lt_block s1v
        have s1E : ((W.setCell ⟨B + 3, 0, none⟩ (.int .i64 (n.live + 1))).setCell ⟨B + 3, 3, none⟩ (.int .i64 (n.failed + 1))).heap[E]? = _ := (set_other hEne _ _).trans s0E
        have s1E3 : ((W.setCell ⟨B + 3, 0, none⟩ (.int .i64 (n.live + 1))).setCell ⟨B + 3, 3, none⟩ (.int .i64 (n.failed + 1))).cell? ⟨E, 3, none⟩ = some (.int .i64 y.image) := cellsOf_block s1E 3
        have s1E4 : ((W.setCell ⟨B + 3, 0, none⟩ (.int .i64 (n.live + 1))).setCell ⟨B + 3, 3, none⟩ (.int .i64 (n.failed + 1))).cell? ⟨E, 4, none⟩ = some (.int .i64 y.state) := cellsOf_block s1E 4
        have s1E5 : ((W.setCell ⟨B + 3, 0, none⟩ (.int .i64 (n.live + 1))).setCell ⟨B + 3, 3, none⟩ (.int .i64 (n.failed + 1))).cell? ⟨E, 5, none⟩ = some (.bool y.ending) := cellsOf_block s1E 5
        have s1Ez : E < ((W.setCell ⟨B + 3, 0, none⟩ (.int .i64 (n.live + 1))).setCell ⟨B + 3, 3, none⟩ (.int .i64 (n.failed + 1))).heap.size := lt_block s1E
        clear s1c s1v
        have HKF : Hid (KeepsFrom w10.heap.size W ((W.setCell ⟨B + 3, 0, none⟩ (.int .i64 (n.live + 1))).setCell ⟨B + 3, 3, none⟩ (.int .i64 (n.failed + 1)))) := ((KeepsOthers.setCell _ _ _).from _).trans (((KeepsOthers.setCell _ _ _).from _))
        have HKP : Hid (Kpt (fun b => b ≠ B + 3 ∧ b < B + 6) W ((W.setCell ⟨B + 3, 0, none⟩ (.int .i64 (n.live + 1))).setCell ⟨B + 3, 3, none⟩ (.int .i64 (n.failed + 1)))) := Kpt.trans (kpt_set _ _) (kpt_set _ _)
        have HBL : Hid (Below w.heap.size w ((W.setCell ⟨B + 3, 0, none⟩ (.int .i64 (n.live + 1))).setCell ⟨B + 3, 3, none⟩ (.int .i64 (n.failed + 1)))) := ((HBl.out).setCell (p := ⟨B + 3, 0, none⟩) (by have := HBW.out; simp; omega) _).setCell (p := ⟨B + 3, 3, none⟩) (by have := HBW.out; simp; omega) _
        gi_wp2
        exact ⟨HKF.out, HKP.out, by rw [HN.out, HO.out]; exact HS1.out, HBL.out⟩
      · have HO : Hid (n.one s.image y = ⟨(n.live + 1), (n.ready + 1), n.old, n.failed, n.ending⟩) := by show _ = _; unfold Cn.one; rw [he, h3, h4, show (y.image != s.image) = false from by rw [bne, hi]; rfl]; simp [bit]
        have hi2 : (y.image != s.image) = false := by rw [bne, hi]; rfl
        have HS0 := hid (HC.out.set 0 (.int .i64 (n.live + 1)) ⟨(n.live + 1), n.ready, n.old, n.failed, n.ending⟩ rfl)
        have s0c := HS0.out.cnt
        have s0v := HS0.out.sv
        have s0_0 : (W.setCell ⟨B + 3, 0, none⟩ (.int .i64 (n.live + 1))).cell? ⟨B + 3, 0, none⟩ = some (.int .i64 (n.live + 1)) := cellsOf_block s0c 0
        have s0_1 : (W.setCell ⟨B + 3, 0, none⟩ (.int .i64 (n.live + 1))).cell? ⟨B + 3, 1, none⟩ = some (.int .i64 n.ready) := cellsOf_block s0c 1
        have s0_2 : (W.setCell ⟨B + 3, 0, none⟩ (.int .i64 (n.live + 1))).cell? ⟨B + 3, 2, none⟩ = some (.int .i64 n.old) := cellsOf_block s0c 2
        have s0_3 : (W.setCell ⟨B + 3, 0, none⟩ (.int .i64 (n.live + 1))).cell? ⟨B + 3, 3, none⟩ = some (.int .i64 n.failed) := cellsOf_block s0c 3
        have s0_4 : (W.setCell ⟨B + 3, 0, none⟩ (.int .i64 (n.live + 1))).cell? ⟨B + 3, 4, none⟩ = some (.int .i64 n.ending) := cellsOf_block s0c 4
        have s0z : B + 3 < (W.setCell ⟨B + 3, 0, none⟩ (.int .i64 (n.live + 1))).heap.size := lt_block s0c
        have s0f : ∀ j, (W.setCell ⟨B + 3, 0, none⟩ (.int .i64 (n.live + 1))).frozen? ⟨B + 3, j, none⟩ = false := frozen_block s0c
        have s0i : (W.setCell ⟨B + 3, 0, none⟩ (.int .i64 (n.live + 1))).cell? ⟨B + 1, 3, none⟩ = some (.int .i64 s.image) := cellsOf_block s0v 3
        have s0iz : B + 1 < (W.setCell ⟨B + 3, 0, none⟩ (.int .i64 (n.live + 1))).heap.size := lt_block s0v
        have s0E : (W.setCell ⟨B + 3, 0, none⟩ (.int .i64 (n.live + 1))).heap[E]? = _ := (set_other hEne _ _).trans hE
        have s0E3 : (W.setCell ⟨B + 3, 0, none⟩ (.int .i64 (n.live + 1))).cell? ⟨E, 3, none⟩ = some (.int .i64 y.image) := cellsOf_block s0E 3
        have s0E4 : (W.setCell ⟨B + 3, 0, none⟩ (.int .i64 (n.live + 1))).cell? ⟨E, 4, none⟩ = some (.int .i64 y.state) := cellsOf_block s0E 4
        have s0E5 : (W.setCell ⟨B + 3, 0, none⟩ (.int .i64 (n.live + 1))).cell? ⟨E, 5, none⟩ = some (.bool y.ending) := cellsOf_block s0E 5
        have s0Ez : E < (W.setCell ⟨B + 3, 0, none⟩ (.int .i64 (n.live + 1))).heap.size := lt_block s0E
        clear s0c s0v
        have HS1 := hid (HS0.out.set 1 (.int .i64 (n.ready + 1)) ⟨(n.live + 1), (n.ready + 1), n.old, n.failed, n.ending⟩ rfl)
        have s1c := HS1.out.cnt
        have s1v := HS1.out.sv
        have s1_0 : ((W.setCell ⟨B + 3, 0, none⟩ (.int .i64 (n.live + 1))).setCell ⟨B + 3, 1, none⟩ (.int .i64 (n.ready + 1))).cell? ⟨B + 3, 0, none⟩ = some (.int .i64 (n.live + 1)) := cellsOf_block s1c 0
        have s1_1 : ((W.setCell ⟨B + 3, 0, none⟩ (.int .i64 (n.live + 1))).setCell ⟨B + 3, 1, none⟩ (.int .i64 (n.ready + 1))).cell? ⟨B + 3, 1, none⟩ = some (.int .i64 (n.ready + 1)) := cellsOf_block s1c 1
        have s1_2 : ((W.setCell ⟨B + 3, 0, none⟩ (.int .i64 (n.live + 1))).setCell ⟨B + 3, 1, none⟩ (.int .i64 (n.ready + 1))).cell? ⟨B + 3, 2, none⟩ = some (.int .i64 n.old) := cellsOf_block s1c 2
        have s1_3 : ((W.setCell ⟨B + 3, 0, none⟩ (.int .i64 (n.live + 1))).setCell ⟨B + 3, 1, none⟩ (.int .i64 (n.ready + 1))).cell? ⟨B + 3, 3, none⟩ = some (.int .i64 n.failed) := cellsOf_block s1c 3
        have s1_4 : ((W.setCell ⟨B + 3, 0, none⟩ (.int .i64 (n.live + 1))).setCell ⟨B + 3, 1, none⟩ (.int .i64 (n.ready + 1))).cell? ⟨B + 3, 4, none⟩ = some (.int .i64 n.ending) := cellsOf_block s1c 4
        have s1z : B + 3 < ((W.setCell ⟨B + 3, 0, none⟩ (.int .i64 (n.live + 1))).setCell ⟨B + 3, 1, none⟩ (.int .i64 (n.ready + 1))).heap.size := lt_block s1c
        have s1f : ∀ j, ((W.setCell ⟨B + 3, 0, none⟩ (.int .i64 (n.live + 1))).setCell ⟨B + 3, 1, none⟩ (.int .i64 (n.ready + 1))).frozen? ⟨B + 3, j, none⟩ = false := frozen_block s1c
        have s1i : ((W.setCell ⟨B + 3, 0, none⟩ (.int .i64 (n.live + 1))).setCell ⟨B + 3, 1, none⟩ (.int .i64 (n.ready + 1))).cell? ⟨B + 1, 3, none⟩ = some (.int .i64 s.image) := cellsOf_block s1v 3
        have s1iz : B + 1 < ((W.setCell ⟨B + 3, 0, none⟩ (.int .i64 (n.live + 1))).setCell ⟨B + 3, 1, none⟩ (.int .i64 (n.ready + 1))).heap.size := lt_block s1v
        have s1E : ((W.setCell ⟨B + 3, 0, none⟩ (.int .i64 (n.live + 1))).setCell ⟨B + 3, 1, none⟩ (.int .i64 (n.ready + 1))).heap[E]? = _ := (set_other hEne _ _).trans s0E
        have s1E3 : ((W.setCell ⟨B + 3, 0, none⟩ (.int .i64 (n.live + 1))).setCell ⟨B + 3, 1, none⟩ (.int .i64 (n.ready + 1))).cell? ⟨E, 3, none⟩ = some (.int .i64 y.image) := cellsOf_block s1E 3
        have s1E4 : ((W.setCell ⟨B + 3, 0, none⟩ (.int .i64 (n.live + 1))).setCell ⟨B + 3, 1, none⟩ (.int .i64 (n.ready + 1))).cell? ⟨E, 4, none⟩ = some (.int .i64 y.state) := cellsOf_block s1E 4
        have s1E5 : ((W.setCell ⟨B + 3, 0, none⟩ (.int .i64 (n.live + 1))).setCell ⟨B + 3, 1, none⟩ (.int .i64 (n.ready + 1))).cell? ⟨E, 5, none⟩ = some (.bool y.ending) := cellsOf_block s1E 5
        have s1Ez : E < ((W.setCell ⟨B + 3, 0, none⟩ (.int .i64 (n.live + 1))).setCell ⟨B + 3, 1, none⟩ (.int .i64 (n.ready + 1))).heap.size := lt_block s1E
        clear s1c s1v
        have HKF : Hid (KeepsFrom w10.heap.size W ((W.setCell ⟨B + 3, 0, none⟩ (.int .i64 (n.live + 1))).setCell ⟨B + 3, 1, none⟩ (.int .i64 (n.ready + 1)))) := ((KeepsOthers.setCell _ _ _).from _).trans (((KeepsOthers.setCell _ _ _).from _))
        have HKP : Hid (Kpt (fun b => b ≠ B + 3 ∧ b < B + 6) W ((W.setCell ⟨B + 3, 0, none⟩ (.int .i64 (n.live + 1))).setCell ⟨B + 3, 1, none⟩ (.int .i64 (n.ready + 1)))) := Kpt.trans (kpt_set _ _) (kpt_set _ _)
        have HBL : Hid (Below w.heap.size w ((W.setCell ⟨B + 3, 0, none⟩ (.int .i64 (n.live + 1))).setCell ⟨B + 3, 1, none⟩ (.int .i64 (n.ready + 1)))) := ((HBl.out).setCell (p := ⟨B + 3, 0, none⟩) (by have := HBW.out; simp; omega) _).setCell (p := ⟨B + 3, 1, none⟩) (by have := HBW.out; simp; omega) _
        gi_wp2
        exact ⟨HKF.out, HKP.out, by rw [HN.out, HO.out]; exact HS1.out, HBL.out⟩
    · clear hEE E3 E4
      have HO : Hid (n.one s.image y = ⟨n.live, n.ready, n.old, n.failed, (n.ending + 1)⟩) := by show _ = _; unfold Cn.one; rw [he]; rfl
      have HS0 := hid (HC.out.set 4 (.int .i64 (n.ending + 1)) ⟨n.live, n.ready, n.old, n.failed, (n.ending + 1)⟩ rfl)
      have s0c := HS0.out.cnt
      have s0v := HS0.out.sv
      have s0_0 : (W.setCell ⟨B + 3, 4, none⟩ (.int .i64 (n.ending + 1))).cell? ⟨B + 3, 0, none⟩ = some (.int .i64 n.live) := cellsOf_block s0c 0
      have s0_1 : (W.setCell ⟨B + 3, 4, none⟩ (.int .i64 (n.ending + 1))).cell? ⟨B + 3, 1, none⟩ = some (.int .i64 n.ready) := cellsOf_block s0c 1
      have s0_2 : (W.setCell ⟨B + 3, 4, none⟩ (.int .i64 (n.ending + 1))).cell? ⟨B + 3, 2, none⟩ = some (.int .i64 n.old) := cellsOf_block s0c 2
      have s0_3 : (W.setCell ⟨B + 3, 4, none⟩ (.int .i64 (n.ending + 1))).cell? ⟨B + 3, 3, none⟩ = some (.int .i64 n.failed) := cellsOf_block s0c 3
      have s0_4 : (W.setCell ⟨B + 3, 4, none⟩ (.int .i64 (n.ending + 1))).cell? ⟨B + 3, 4, none⟩ = some (.int .i64 (n.ending + 1)) := cellsOf_block s0c 4
      have s0z : B + 3 < (W.setCell ⟨B + 3, 4, none⟩ (.int .i64 (n.ending + 1))).heap.size := lt_block s0c
      have s0f : ∀ j, (W.setCell ⟨B + 3, 4, none⟩ (.int .i64 (n.ending + 1))).frozen? ⟨B + 3, j, none⟩ = false := frozen_block s0c
      have s0i : (W.setCell ⟨B + 3, 4, none⟩ (.int .i64 (n.ending + 1))).cell? ⟨B + 1, 3, none⟩ = some (.int .i64 s.image) := cellsOf_block s0v 3
      have s0iz : B + 1 < (W.setCell ⟨B + 3, 4, none⟩ (.int .i64 (n.ending + 1))).heap.size := lt_block s0v
      have s0E : (W.setCell ⟨B + 3, 4, none⟩ (.int .i64 (n.ending + 1))).heap[E]? = _ := (set_other hEne _ _).trans hE
      have s0E3 : (W.setCell ⟨B + 3, 4, none⟩ (.int .i64 (n.ending + 1))).cell? ⟨E, 3, none⟩ = some (.int .i64 y.image) := cellsOf_block s0E 3
      have s0E4 : (W.setCell ⟨B + 3, 4, none⟩ (.int .i64 (n.ending + 1))).cell? ⟨E, 4, none⟩ = some (.int .i64 y.state) := cellsOf_block s0E 4
      have s0E5 : (W.setCell ⟨B + 3, 4, none⟩ (.int .i64 (n.ending + 1))).cell? ⟨E, 5, none⟩ = some (.bool y.ending) := cellsOf_block s0E 5
      have s0Ez : E < (W.setCell ⟨B + 3, 4, none⟩ (.int .i64 (n.ending + 1))).heap.size := lt_block s0E
      clear s0c s0v
      have HKF : Hid (KeepsFrom w10.heap.size W (W.setCell ⟨B + 3, 4, none⟩ (.int .i64 (n.ending + 1)))) := (KeepsOthers.setCell _ _ _).from _
      have HKP : Hid (Kpt (fun b => b ≠ B + 3 ∧ b < B + 6) W (W.setCell ⟨B + 3, 4, none⟩ (.int .i64 (n.ending + 1)))) := kpt_set _ _
      have HBL : Hid (Below w.heap.size w (W.setCell ⟨B + 3, 4, none⟩ (.int .i64 (n.ending + 1)))) := (HBl.out).setCell (p := ⟨B + 3, 4, none⟩) (by have := HBW.out; simp; omega) _
      gi_wp2
      exact ⟨HKF.out, HKP.out, by rw [HN.out, HO.out]; exact HS0.out, HBL.out⟩
  case done =>
    rintro D ys W hD rfl ⟨hC, hBl⟩ hK
    rw [← HR.out] at hC
    have hDB : B + 6 ≤ D := by rw [← HS10.out]; exact hD
    have HC := hid hC
    have HBl := hid hBl
    have HKD := hid hK
    have hcc := hC.cnt
    have hcz : B + 3 < W.heap.size := lt_block hcc
    have r0 : W.cell? ⟨B + 3, 0, none⟩ = some (.int .i64 R.live) := cellsOf_block hcc 0
    have r1 : W.cell? ⟨B + 3, 1, none⟩ = some (.int .i64 R.ready) := cellsOf_block hcc 1
    have r2 : W.cell? ⟨B + 3, 2, none⟩ = some (.int .i64 R.old) := cellsOf_block hcc 2
    have r3 : W.cell? ⟨B + 3, 3, none⟩ = some (.int .i64 R.failed) := cellsOf_block hcc 3
    have r4 : W.cell? ⟨B + 3, 4, none⟩ = some (.int .i64 R.ending) := cellsOf_block hcc 4
    have hfz := hC.res.frozen
    have hz := hC.res.lt
    obtain ⟨u0, e0⟩ := hC.res.cell 0 (by omega)
    obtain ⟨u1, e1⟩ := hC.res.cell 1 (by omega)
    obtain ⟨u2, e2⟩ := hC.res.cell 2 (by omega)
    obtain ⟨u3, e3⟩ := hC.res.cell 3 (by omega)
    obtain ⟨u4, e4⟩ := hC.res.cell 4 (by omega)
    clear hC hBl hK hcc hfr hD
    go_wp2
    have p := fun i hi => puts_at 0 [.int .i64 R.live, .int .i64 R.ready, .int .i64 R.old, .int .i64 R.failed, .int .i64 R.ending] W 0 HC.out.res (by simp) i hi
    have t0 := p 0 (by simp)
    have t1 := p 1 (by simp)
    have t2 := p 2 (by simp)
    have t3 := p 3 (by simp)
    have t4 := p 4 (by simp)
    have hbl := puts_below (a := w) 0 (B := B + 2) (by have := HBW.out; omega) [.int .i64 R.live, .int .i64 R.ready, .int .i64 R.old, .int .i64 R.failed, .int .i64 R.ending] W 0 HBl.out
    simp only [puts, Nat.add_zero, Nat.zero_add, Nat.reduceAdd, List.getElem?_cons_zero, List.getElem?_cons_succ] at t0 t1 t2 t3 t4 hbl
    have hK' := (set_other (b := B + 2) (b' := D) (by omega) 4 (.int .i64 R.ending)).trans ((set_other (b := B + 2) (b' := D) (by omega) 3 (.int .i64 R.failed)).trans ((set_other (b := B + 2) (b' := D) (by omega) 2 (.int .i64 R.old)).trans ((set_other (b := B + 2) (b' := D) (by omega) 1 (.int .i64 R.ready)).trans ((set_other (b := B + 2) (b' := D) (by omega) 0 (.int .i64 R.live)).trans HKD.out))))
    refine ⟨by simp, .inl ⟨_, _, rfl, run_takeDeferred hK', ?_⟩⟩
    have q0 := cell_kept t0 (grownBy_putObj' _ D (.deferred none)) (fun r e => by cases e; exact ⟨_, hK', rfl⟩)
    have q1 := cell_kept t1 (grownBy_putObj' _ D (.deferred none)) (fun r e => by cases e; exact ⟨_, hK', rfl⟩)
    have q2 := cell_kept t2 (grownBy_putObj' _ D (.deferred none)) (fun r e => by cases e; exact ⟨_, hK', rfl⟩)
    have q3 := cell_kept t3 (grownBy_putObj' _ D (.deferred none)) (fun r e => by cases e; exact ⟨_, hK', rfl⟩)
    have q4 := cell_kept t4 (grownBy_putObj' _ D (.deferred none)) (fun r e => by cases e; exact ⟨_, hK', rfl⟩)
    exact ⟨.agg #[.int .i64 R.live, .int .i64 R.ready, .int .i64 R.old, .int .i64 R.failed, .int .i64 R.ending], by simp [results, Try.f81, go_sem, q0, q1, q2, q3, q4], rfl, hbl.trans (belowK_b (w := w) (Nat.le_refl _) _ D _ _ (by have := HBW.out; omega) hK' rfl rfl)⟩
  case stop =>
    rintro D c pre W hD hpre hF
    exact hF.elim

end Go.Proofs.Ytamhfnlogldpaaa
