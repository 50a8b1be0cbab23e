/-
  Stewards: what is seen of a service, by the program.
-/
import Derived.Test.YtamhfnlogldpaaaPsF
import Derived.Test.YtamhfnlogldpaaaPgG
import Derived.Test.YtamhfnlogldpaaaOwV
namespace Go.Proofs.Ytamhfnlogldpaaa
open Go.RowKit Go.Deep

/-- A service's Live copies. -/
def liveC (K : SBk) (nm : ByteArray) : List Cp := ((rowCp K.cps nm).map fun i => K.cps.getD i Cp.none).filter fun c => !c.ending
def pickL (K : SBk) (xs : List Nat) : List Cp := (xs.map fun i => K.cps.getD i Cp.none).filter fun c => !c.ending
theorem pickL_snoc (K : SBk) (xs : List Nat) (x : Nat) : pickL K (xs ++ [x]) = pickL K xs ++ (if (K.cps.getD x Cp.none).ending then [] else [K.cps.getD x Cp.none]) := by
  unfold pickL
  rw [List.map_append, List.filter_append]
  congr 1
  rw [List.map_cons, List.map_nil, List.filter_cons, List.filter_nil]
  cases (K.cps.getD x Cp.none).ending <;> rfl
/-- What is kept while the Live copies are gathered. -/
structure SI (K : SBk) (a0 a1 a2 : Option Addr) (c0 c1 c2 : Nat) (s : Sv) (n : Cn) (B p N : Nat) (M : List Cp) (W : World) : Prop where
  res : OwnBlk W (B + 2) 88 24
  sg : ∃ a c, W.heap[p]? = some (.cells #[.int .i64 K.now, .slice a0 K.svcs.length c0, .slice a1 K.cps.length c1, .slice a2 K.bts.length c2, .string s.nm, .int .i64 s.ver, .bool s.gone, .int .i64 s.image, .int .i64 s.want, .int .i64 s.down, .int .i64 s.over, .int .i64 s.next, .int .i64 s.per, .int .i64 s.least, .int .i64 s.most, .int .i64 s.load, .int .i64 s.cool, .int .i64 n.live, .int .i64 n.ready, .int .i64 n.old, .int .i64 n.failed, .int .i64 n.ending, .slice a M.length c, .int .i64 0] 88 (0, 0)) ∧ W.ownsRow N 63 7 (.slice a M.length c) M.length (M.flatMap CpC)

theorem owns_keep {W W' : World} {lo e size m : Nat} {v : Value} {xs : List Value} (h : W.ownsRow lo e size v m xs) (k : ∀ b : Nat, (∃ (cs : Array Value) (t : TypeId), W.heap[b]? = some (Obj.cells cs t (0, 0))) → W'.heap[b]? = W.heap[b]?) : W'.ownsRow lo e size v m xs := by
  refine ⟨h.1, ?_⟩
  rcases h.2 with q | ⟨g, cap, cur, q1, q2, q3, q4⟩
  · exact Or.inl q
  · exact Or.inr ⟨g, cap, cur, q1, q2, (k g ⟨_, _, q3⟩).trans q3, q4⟩
theorem SI.keep {K : SBk} {a0 a1 a2 : Option Addr} {c0 c1 c2 : Nat} {s : Sv} {n : Cn} {B p N : Nat} {M : List Cp} {W W' : World} (h : SI K a0 a1 a2 c0 c1 c2 s n B p N M W) (k : ∀ b : Nat, (∃ (cs : Array Value) (t : TypeId), W.heap[b]? = some (Obj.cells cs t (0, 0))) → W'.heap[b]? = W.heap[b]?) : SI K a0 a1 a2 c0 c1 c2 s n B p N M W' := by
  obtain ⟨⟨cs, h2, h3⟩, a, c, h4, h5⟩ := h
  exact ⟨⟨cs, (k _ ⟨_, _, h2⟩).trans h2, h3⟩, a, c, (k _ ⟨_, _, h4⟩).trans h4, owns_keep h5 k⟩
theorem SI.own (K : SBk) (a0 a1 a2 : Option Addr) (c0 c1 c2 : Nat) (s : Sv) (n : Cn) (B p N : Nat) (g : List Nat → List Cp) (A : Nat) : OwnFrom A (fun xs W => SI K a0 a1 a2 c0 c1 c2 s n B p N (g xs) W) := fun xs W W' row hs hg hr => hs.keep fun b ⟨cs, t, hb⟩ => by
  refine hg.block b (Array.getElem?_eq_some_iff.1 hb).1 fun e => ?_
  obtain ⟨_, o, ho, hc⟩ := hr b e.symm
  rw [hb] at ho
  cases ho
  cases hc
theorem SI.later {K : SBk} {a0 a1 a2 : Option Addr} {c0 c1 c2 : Nat} {s : Sv} {n : Cn} {B p N : Nat} {M : List Cp} {W W' : World} (h : SI K a0 a1 a2 c0 c1 c2 s n B p N M W) (hb : Below W.heap.size W W') : SI K a0 a1 a2 c0 c1 c2 s n B p N M W' := h.keep fun b ⟨_, _, hc⟩ => hb.block b (Array.getElem?_eq_some_iff.1 hc).1
theorem own_ge {W : World} {lo c : Nat} {a : Option Addr} {L : List Cp} (h : W.ownsRow lo 63 7 (.slice a L.length c) L.length (L.flatMap CpC)) {i b off : Nat} (hi : i < L.length) (e : a = some ⟨b, off, none⟩) : lo ≤ b := by
  rcases h.2 with ⟨_, h0⟩ | ⟨g, cap, cur, q1, q2, _⟩
  · omega
  · rw [e] at q1
    injection q1 with q1 _ _
    injection q1 with q1
    injection q1 with q1 _ _
    omega
theorem range_block {W : World} {b : Nat} {cs : Array Value} {t : TypeId} (h : W.heap[b]? = some (.cells cs t (0, 0))) : LBox W b cs.toList :=
  ⟨lt_block h, fun j v hv => by rw [Nat.zero_add, cellsOf_block h]; simpa using hv⟩
theorem range_kept {W W' : World} {row : Option Nat} {b o : Nat} {cs : List Value} (h : W.rangeAt b o cs) (hg : W.grownBy W' row) (hrow : ∀ r, row = some r → ∃ o : Obj, W.heap[r]? = some o ∧ o.isCells = false) : W'.rangeAt b o cs := fun j v hv => cell_kept (h j v hv) hg hrow
def VSg (K : SBk) (a0 a1 a2 : Option Addr) (c0 c1 c2 : Nat) (s : Sv) (n : Cn) (B : Nat) (i : Nat) (u : Value) : Prop :=
  match i with
  | 0 => u = .agg #[.int .i64 K.now, .slice a0 K.svcs.length c0, .slice a1 K.cps.length c1, .slice a2 K.bts.length c2]
  | 1 => u = .agg #[.string s.nm, .int .i64 s.ver, .bool s.gone, .int .i64 s.image, .int .i64 s.want, .int .i64 s.down, .int .i64 s.over, .int .i64 s.next, .int .i64 s.per, .int .i64 s.least, .int .i64 s.most, .int .i64 s.load, .int .i64 s.cool]
  | 2 => u = .agg #[.int .i64 K.now, .slice a0 K.svcs.length c0, .slice a1 K.cps.length c1, .slice a2 K.bts.length c2]
  | 3 => u = .agg #[.string s.nm, .int .i64 s.ver, .bool s.gone, .int .i64 s.image, .int .i64 s.want, .int .i64 s.down, .int .i64 s.over, .int .i64 s.next, .int .i64 s.per, .int .i64 s.least, .int .i64 s.most, .int .i64 s.load, .int .i64 s.cool]
  | 4 => u = .agg #[.int .i64 n.live, .int .i64 n.ready, .int .i64 n.old, .int .i64 n.failed, .int .i64 n.ending]
  | 5 => u = .agg #[.int .i64 K.now, .slice a0 K.svcs.length c0, .slice a1 K.cps.length c1, .slice a2 K.bts.length c2, .string s.nm, .int .i64 s.ver, .bool s.gone, .int .i64 s.image, .int .i64 s.want, .int .i64 s.down, .int .i64 s.over, .int .i64 s.next, .int .i64 s.per, .int .i64 s.least, .int .i64 s.most, .int .i64 s.load, .int .i64 s.cool, .int .i64 n.live, .int .i64 n.ready, .int .i64 n.old, .int .i64 n.failed, .int .i64 n.ending, .slice none 0 0, .int .i64 0]
  | _ => B = B
attribute [local go_sem] Oper.semAt_some

set_option maxRecDepth 8000 in
set_option maxHeartbeats 40000000 in
theorem sightOfI (K : SBk) (a0 a1 a2 : Option Addr) (c0 c1 c2 : Nat) (s : Sv) (w : World) (h : SBkV w a0 a1 a2 K) (hasc : ascCp K.cps = true) (hlen : K.cps.length ≤ 200) :
    Calls Try.prog 52 #[.agg #[.int .i64 K.now, .slice a0 K.svcs.length c0, .slice a1 K.cps.length c1, .slice a2 K.bts.length c2], .agg #[.string s.nm, .int .i64 s.ver, .bool s.gone, .int .i64 s.image, .int .i64 s.want, .int .i64 s.down, .int .i64 s.over, .int .i64 s.next, .int .i64 s.per, .int .i64 s.least, .int .i64 s.most, .int .i64 s.load, .int .i64 s.cool]] w fun e w' => (∃ n al cl L lv, n = (cnL K.cps s.image (rowCp K.cps s.nm)) ∧ L = liveC K s.nm ∧ lv = ((L.filter fun c => leaves K c).length : Int) ∧ e = .returned (.agg #[.int .i64 K.now, .slice a0 K.svcs.length c0, .slice a1 K.cps.length c1, .slice a2 K.bts.length c2, .string s.nm, .int .i64 s.ver, .bool s.gone, .int .i64 s.image, .int .i64 s.want, .int .i64 s.down, .int .i64 s.over, .int .i64 s.next, .int .i64 s.per, .int .i64 s.least, .int .i64 s.most, .int .i64 s.load, .int .i64 s.cool, .int .i64 n.live, .int .i64 n.ready, .int .i64 n.old, .int .i64 n.failed, .int .i64 n.ending, .slice al L.length cl, .int .i64 lv]) ∧ CpsV w' al L) ∧ Below w.heap.size w w' := by
  have HH := hid h
  have HAS := hid hasc
  have HLN := hid hlen
  clear h hasc hlen
  obtain ⟨n, hn⟩ : ∃ n, n = (cnL K.cps s.image (rowCp K.cps s.nm)) := ⟨_, rfl⟩
  have HNN := hid hn
  obtain ⟨B, hB⟩ : ∃ B, B = w.heap.size := ⟨_, rfl⟩
  obtain ⟨wa, hwa⟩ : ∃ wa, wa = ((w.alloc (.cells #[.int .i64 K.now, .slice a0 K.svcs.length c0, .slice a1 K.cps.length c1, .slice a2 K.bts.length c2] 33)).alloc (.cells #[.string s.nm, .int .i64 s.ver, .bool s.gone, .int .i64 s.image, .int .i64 s.want, .int .i64 s.down, .int .i64 s.over, .int .i64 s.next, .int .i64 s.per, .int .i64 s.least, .int .i64 s.most, .int .i64 s.load, .int .i64 s.cool] 46)).alloc (.cells #[.int .i64 0, .slice none 0 0, .slice none 0 0, .slice none 0 0, .string { data := #[] }, .int .i64 0, .bool false, .int .i64 0, .int .i64 0, .int .i64 0, .int .i64 0, .int .i64 0, .int .i64 0, .int .i64 0, .int .i64 0, .int .i64 0, .int .i64 0, .int .i64 0, .int .i64 0, .int .i64 0, .int .i64 0, .int .i64 0, .slice none 0 0, .int .i64 0] 88) := ⟨_, rfl⟩
  have hza : wa.heap.size = B + 3 := by rw [hwa, hB]; simp
  have HB : Hid (Below w.heap.size w wa) := by show Below _ _ _; rw [hwa]; exact blw_alloc (blw_alloc (blw_alloc (Below.refl _ _) _) _) _
  have HX : Hid (LBox wa B [.int .i64 K.now, .slice a0 K.svcs.length c0, .slice a1 K.cps.length c1, .slice a2 K.bts.length c2]) := by show LBox _ _ _; rw [hwa, hB]; exact ((LBox.new w _ _ _ rfl).past _).past _
  have HY : Hid (LBox wa (B + 1) [.string s.nm, .int .i64 s.ver, .bool s.gone, .int .i64 s.image, .int .i64 s.want, .int .i64 s.down, .int .i64 s.over, .int .i64 s.next, .int .i64 s.per, .int .i64 s.least, .int .i64 s.most, .int .i64 s.load, .int .i64 s.cool]) := by show LBox _ _ _; rw [hwa, hB]; exact (LBox.new _ _ _ _ (by simp)).past _
  have HR : Hid (OwnBlk wa (B + 2) 88 24) := by show OwnBlk _ _ _ _; rw [hwa, hB]; exact OwnBlk.alloc_at2 _ _ _ _ _ rfl (by simp)
  refine (callsIn_wide (n := 4)).1 (callsIn_of_wp_marks Try.func52 rfl trivial ?_)
  simp only [Try.ntmps52, List.size_toArray, List.length_cons, List.length_nil, Nat.reduceAdd, Nat.reduceSub, Array.replicate_succ, Array.replicate_zero, List.push_toArray, List.append_toArray, List.nil_append, List.cons_append]
  refine wpIn_wide.2 ?_
  go_upto_region 1 with fail
  rw [← hwa]
  have q2 : w.heap.size + 1 + 1 = B + 2 := by omega
  have q1 : w.heap.size + 1 = B + 1 := by omega
  rw [q2, q1, ← hB]
  have HBW := hid hB
  clear q1 q2 hwa hB
  refine RY.region_let wa (Below.refl _ _) (VSg K a0 a1 a2 c0 c1 c2 s n B) 6 5 7 5 13 88 24 [.int .i64 K.now, .slice a0 K.svcs.length c0, .slice a1 K.cps.length c1, .slice a2 K.bts.length c2, .string s.nm, .int .i64 s.ver, .bool s.gone, .int .i64 s.image, .int .i64 s.want, .int .i64 s.down, .int .i64 s.over, .int .i64 s.next, .int .i64 s.per, .int .i64 s.least, .int .i64 s.most, .int .i64 s.load, .int .i64 s.cool, .int .i64 n.live, .int .i64 n.ready, .int .i64 n.old, .int .i64 n.failed, .int .i64 n.ending, .slice none 0 0, .int .i64 0] [.int .i64 0, .slice none 0 0, .slice none 0 0, .slice none 0 0, .string ByteArray.empty, .int .i64 0, .bool false, .int .i64 0, .int .i64 0, .int .i64 0, .int .i64 0, .int .i64 0, .int .i64 0, .int .i64 0, .int .i64 0, .int .i64 0, .int .i64 0, .int .i64 0, .int .i64 0, .int .i64 0, .int .i64 0, .int .i64 0, .slice none 0 0, .int .i64 0] (by kernel_rfl) (by kernel_rfl) (by kernel_rfl) (by kernel_rfl) _ _ _ rfl rfl rfl rfl rfl rfl rfl (by decide) (by decide) (by decide) (by kernel_rfl) (by kernel_rfl) rfl ?_ rfl ?_ (by kernel_rfl) (fun u hu => hu) ?_ ?_
  · intro a W
    kernel_rfl
  · intro x hx
    simp only [List.mem_cons, List.not_mem_nil, or_false] at hx
    rcases hx with rfl | rfl | rfl | rfl | rfl | rfl | rfl | rfl | rfl | rfl | rfl | rfl | rfl | rfl | rfl | rfl | rfl | rfl | rfl | rfl | rfl | rfl | rfl | rfl <;> rfl
  · intro i o ho nA nS a W hW hk hd
    have x2 : a.eval (.tmp 2) = .pointer (some ⟨B, 0, none⟩) := (hk 2 (by kernel_rfl)).trans rfl
    have x3 : a.eval (.tmp 3) = .pointer (some ⟨B + 1, 0, none⟩) := (hk 3 (by kernel_rfl)).trans rfl
    have hX := HX.out.later hW
    have hY := HY.out.later hW
    match i, ho with
    | 0, ho =>
      injection ho with ho; subst ho
      exact Or.inl ⟨_, W, exec_loadM 33 _ rfl B 0 x2 _ _ hX.at_ Try.underlying33 rfl (by kernel_rfl), Below.refl _ _, rfl⟩
    | 1, ho =>
      injection ho with ho; subst ho
      exact Or.inl ⟨_, W, exec_loadM 46 _ rfl (B + 1) 0 x3 _ _ hY.at_ Try.underlying46 rfl (by kernel_rfl), Below.refl _ _, rfl⟩
    | 2, ho =>
      injection ho with ho; subst ho
      exact Or.inl ⟨_, W, exec_loadM 33 _ rfl B 0 x2 _ _ hX.at_ Try.underlying33 rfl (by kernel_rfl), Below.refl _ _, rfl⟩
    | 3, ho =>
      injection ho with ho; subst ho
      exact Or.inl ⟨_, W, exec_loadM 46 _ rfl (B + 1) 0 x3 _ _ hY.at_ Try.underlying46 rfl (by kernel_rfl), Below.refl _ _, rfl⟩
    | 4, ho =>
      injection ho with ho; subst ho
      have e0 : a.tmps[10]?.getD undef = _ := (RY.ev_tmp a 10).trans (hd 2 _ 10 rfl rfl (by decide) ⟨⟨2, .data⟩, by simp, rfl, rfl⟩)
      have e1 : a.tmps[11]?.getD undef = _ := (RY.ev_tmp a 11).trans (hd 3 _ 11 rfl rfl (by decide) ⟨⟨3, .data⟩, by simp, rfl, rfl⟩)
      refine Or.inr ⟨81, #[.agg #[.int .i64 K.now, .slice a0 K.svcs.length c0, .slice a1 K.cps.length c1, .slice a2 K.bts.length c2], .agg #[.string s.nm, .int .i64 s.ver, .bool s.gone, .int .i64 s.image, .int .i64 s.want, .int .i64 s.down, .int .i64 s.over, .int .i64 s.next, .int .i64 s.per, .int .i64 s.least, .int .i64 s.most, .int .i64 s.load, .int .i64 s.cool]], by simp [go_sem, e0, e1], (countedI K a0 a1 a2 c0 c1 c2 s W (HH.out.later (blw_trans HB.out hW)) HAS.out HLN.out).mono ?_⟩
      rintro e W' ⟨rfl, hb⟩
      rw [← HNN.out]
      exact ⟨_, rfl, hb, rfl⟩
    | 5, ho =>
      injection ho with ho; subst ho
      have e0 : a.tmps[8]?.getD undef = _ := (RY.ev_tmp a 8).trans (hd 0 _ 8 rfl rfl (by decide) ⟨⟨0, .data⟩, by simp, rfl, rfl⟩)
      have e1 : a.tmps[9]?.getD undef = _ := (RY.ev_tmp a 9).trans (hd 1 _ 9 rfl rfl (by decide) ⟨⟨1, .data⟩, by simp, rfl, rfl⟩)
      have e2 : a.tmps[12]?.getD undef = _ := (RY.ev_tmp a 12).trans (hd 4 _ 12 rfl rfl (by decide) ⟨⟨4, .data⟩, by simp, rfl, rfl⟩)
      exact Or.inl ⟨.agg #[.int .i64 K.now, .slice a0 K.svcs.length c0, .slice a1 K.cps.length c1, .slice a2 K.bts.length c2, .string s.nm, .int .i64 s.ver, .bool s.gone, .int .i64 s.image, .int .i64 s.want, .int .i64 s.down, .int .i64 s.over, .int .i64 s.next, .int .i64 s.per, .int .i64 s.least, .int .i64 s.most, .int .i64 s.load, .int .i64 s.cool, .int .i64 n.live, .int .i64 n.ready, .int .i64 n.old, .int .i64 n.failed, .int .i64 n.ending, .slice none 0 0, .int .i64 0], W, by simp [execOp, go_sem, e0, e1, e2], Below.refl _ _, rfl⟩
    | 6, ho => exact absurd rfl nA
    | 7, ho => exact absurd rfl nS
    | n + 8, ho => simp at ho
  intro wb vs p hW hvs hp hpv hpo hpr
  simp only [RY.putAll, Act.put, List.setIfInBounds_toArray, List.set_cons_zero, List.set_cons_succ]
  rw [hp]
  generalize vs 8 = z8
  generalize vs 9 = z9
  generalize vs 10 = z10
  generalize vs 11 = z11
  generalize vs 12 = z12
  generalize vs 13 = z13
  clear hvs hp
  have HBb := hid (blw_trans HB.out hW)
  have HXb := hid (HX.out.later hW)
  have HYb := hid (HY.out.later hW)
  have HRb := hid (HR.out.later hW)
  have HPb : Hid (p < wb.heap.size ∧ OwnBlk wb p 88 24 ∧ wb.rangeAt p 0 [.int .i64 K.now, .slice a0 K.svcs.length c0, .slice a1 K.cps.length c1, .slice a2 K.bts.length c2, .string s.nm, .int .i64 s.ver, .bool s.gone, .int .i64 s.image, .int .i64 s.want, .int .i64 s.down, .int .i64 s.over, .int .i64 s.next, .int .i64 s.per, .int .i64 s.least, .int .i64 s.most, .int .i64 s.load, .int .i64 s.cool, .int .i64 n.live, .int .i64 n.ready, .int .i64 n.old, .int .i64 n.failed, .int .i64 n.ending, .slice none 0 0, .int .i64 0] ∧ B + 3 ≤ p) := ⟨hpo.lt, hpo, hpr, by omega⟩
  clear hW hpv hpo hpr hza hn HB HX HY HR
  have yz := HXb.out.lt
  have y0 := HXb.out.get 0 _ rfl
  have y1 := HXb.out.get 1 _ rfl
  have y2 := HXb.out.get 2 _ rfl
  have y3 := HXb.out.get 3 _ rfl
  have tz := HYb.out.lt
  have t0 := HYb.out.get 0 _ rfl
  go_wp2_with fail
  refine (copiesOfI _ _ _ _ s.nm wb).mono ?_
  rintro e w10 ⟨rfl, hw10⟩
  obtain ⟨Q, hQ⟩ : ∃ Q, Q = wb.heap.size := ⟨_, rfl⟩
  rw [← hQ]
  have hb10 : Below wb.heap.size wb w10 := by rw [hw10]; exact blw_alloc (blw_alloc (Below.refl _ _) _) _
  have HS10 : Hid (w10.heap.size = Q + 2) := by show _ = _; rw [hw10, hQ]; simp
  have hpQ : p < Q := by rw [hQ]; exact HPb.out.1
  have hBp : B + 3 ≤ p := HPb.out.2.2.2
  have HB10 := hid (blw_trans HBb.out hb10)
  have HC10 : Hid (SI K a0 a1 a2 c0 c1 c2 s n B p (Q + 2) [] w10) := by
    refine ⟨HRb.out.later hb10, none, 0, ?_, owns_nil _ _ _ _⟩
    obtain ⟨cs, g1, g2⟩ := HPb.out.2.1
    have e : cs = #[.int .i64 K.now, .slice a0 K.svcs.length c0, .slice a1 K.cps.length c1, .slice a2 K.bts.length c2, .string s.nm, .int .i64 s.ver, .bool s.gone, .int .i64 s.image, .int .i64 s.want, .int .i64 s.down, .int .i64 s.over, .int .i64 s.next, .int .i64 s.per, .int .i64 s.least, .int .i64 s.most, .int .i64 s.load, .int .i64 s.cool, .int .i64 n.live, .int .i64 n.ready, .int .i64 n.old, .int .i64 n.failed, .int .i64 n.ending, .slice none 0 0, .int .i64 0] := by
      have hr := HPb.out.2.2.1
      have hl : cs.toList.length = 24 := by simpa using g2
      have : cs.toList = [.int .i64 K.now, .slice a0 K.svcs.length c0, .slice a1 K.cps.length c1, .slice a2 K.bts.length c2, .string s.nm, .int .i64 s.ver, .bool s.gone, .int .i64 s.image, .int .i64 s.want, .int .i64 s.down, .int .i64 s.over, .int .i64 s.next, .int .i64 s.per, .int .i64 s.least, .int .i64 s.most, .int .i64 s.load, .int .i64 s.cool, .int .i64 n.live, .int .i64 n.ready, .int .i64 n.old, .int .i64 n.failed, .int .i64 n.ending, .slice none 0 0, .int .i64 0] := by
        refine List.ext_getElem? fun j => ?_
        by_cases hj : j < 24
        · have hv : ([.int .i64 K.now, .slice a0 K.svcs.length c0, .slice a1 K.cps.length c1, .slice a2 K.bts.length c2, .string s.nm, .int .i64 s.ver, .bool s.gone, .int .i64 s.image, .int .i64 s.want, .int .i64 s.down, .int .i64 s.over, .int .i64 s.next, .int .i64 s.per, .int .i64 s.least, .int .i64 s.most, .int .i64 s.load, .int .i64 s.cool, .int .i64 n.live, .int .i64 n.ready, .int .i64 n.old, .int .i64 n.failed, .int .i64 n.ending, .slice none 0 0, .int .i64 0] : List Value)[j]? = some (([.int .i64 K.now, .slice a0 K.svcs.length c0, .slice a1 K.cps.length c1, .slice a2 K.bts.length c2, .string s.nm, .int .i64 s.ver, .bool s.gone, .int .i64 s.image, .int .i64 s.want, .int .i64 s.down, .int .i64 s.over, .int .i64 s.next, .int .i64 s.per, .int .i64 s.least, .int .i64 s.most, .int .i64 s.load, .int .i64 s.cool, .int .i64 n.live, .int .i64 n.ready, .int .i64 n.old, .int .i64 n.failed, .int .i64 n.ending, .slice none 0 0, .int .i64 0] : List Value)[j]'(by simpa using hj)) := List.getElem?_eq_getElem _
          have := hr j _ hv
          rw [Nat.zero_add, cellsOf_block g1] at this
          rw [hv, ← this]; simp
        · rw [List.getElem?_eq_none (by omega), List.getElem?_eq_none (by simp; omega)]
      rw [← Array.toArray_toList (xs := cs), this]
    rw [e] at g1
    exact (hb10.block p HPb.out.1).trans g1
  have HIT : Hid (ItW K a1 c1 (.int .i64 K.now) (.slice a0 K.svcs.length c0) (.slice a2 K.bts.length c2) s.nm Q (Q + 1) w10) := by
    refine ⟨?_, ?_, ?_, (HH.out.later HB10.out).c⟩
    · rw [hw10]; exact (Box4.new' wb _ _ _ _ _ _ hQ).past _
    · rw [hw10, hQ]; exact World.cell?_alloc_at _ _ _ _ (by simp)
    · rw [HS10.out]; omega
  clear hw10 hb10 hQ HBb HXb HYb HRb HPb yz y0 y1 y2 y3 tz t0
  have HSEQ := copies_stops 3 w10 K a1 c1 _ _ _ s.nm Q (Q + 1) (fun b => b ≠ p ∧ b < Q + 2) HIT.out ⟨by omega, by omega⟩ ⟨by omega, by omega⟩ (fun b off ha hn => by
    obtain ⟨b', off', ha', hb', _⟩ := HH.out.c.at_ 0 hn
    rw [ha] at ha'
    injection ha' with ha'
    injection ha' with e1 _ _
    subst e1
    have := HBW.out
    exact ⟨by omega, by omega⟩) HAS.out (Nat.le_trans HLN.out (by omega))
  go_wp2_with fail
  refine (wpIn_wide (n := 4)).1 ?_
  obtain ⟨fr, hfr⟩ : ∃ fr : Nat → Nat → Act, fr = fun x E => { tmps := #[.agg #[.int .i64 K.now, .slice a0 K.svcs.length c0, .slice a1 K.cps.length c1, .slice a2 K.bts.length c2], .agg #[.string s.nm, .int .i64 s.ver, .bool s.gone, .int .i64 s.image, .int .i64 s.want, .int .i64 s.down, .int .i64 s.over, .int .i64 s.next, .int .i64 s.per, .int .i64 s.least, .int .i64 s.most, .int .i64 s.load, .int .i64 s.cool], .pointer (some ⟨B, 0, none⟩), .pointer (some ⟨B + 1, 0, none⟩), .pointer (some ⟨B + 2, 0, none⟩), .pointer (some ⟨p, 0, none⟩), undef, .pointer (some ⟨E, 0, none⟩), z8, z9, z10, z11, z12, z13, .agg #[.int .i64 K.now, .slice a0 K.svcs.length c0, .slice a1 K.cps.length c1, .slice a2 K.bts.length c2], .pointer (some ⟨B + 1, 0, none⟩), .string s.nm, .func (.func 89) #[] #[.pointer (some ⟨Q, 0, none⟩), .pointer (some ⟨Q + 1, 0, none⟩)], .int .i64 (x : Nat), .agg #[.string (K.cps.getD x Cp.none).svc, .int .i64 (K.cps.getD x Cp.none).num, .int .i64 (K.cps.getD x Cp.none).ver, .int .i64 (K.cps.getD x Cp.none).image, .int .i64 (K.cps.getD x Cp.none).state, .bool (K.cps.getD x Cp.none).ending, .string (K.cps.getD x Cp.none).berth], undef, undef, undef, undef, undef, undef, undef, undef, undef, undef, undef, undef, undef, undef, undef, undef], defers := [] } := ⟨_, rfl⟩
  refine wpIn_rangeFunc_ownH rfl (by decide) (gf := 89) (lb := #[.pointer (some ⟨Q, 0, none⟩), .pointer (some ⟨Q + 1, 0, none⟩)]) rfl trivial (enters_of Try.func89 (by kernel_rfl) rfl) HSEQ (fun h k => Kpt.trans h k)
    (fun W l o o' hl ho _ _ => ⟨by simp, fun b hb _ => World.putObj_heap_other (by have := HS10.out; omega)⟩) (Below.refl _ _) (fun _ => rfl)
    (fun pre W => SI K a0 a1 a2 c0 c1 c2 s n B p (Q + 2) (pickL K pre) W ∧ Below w.heap.size w W)
    (fun _ _ _ => False)
    (OwnFrom.and (SI.own K a0 a1 a2 c0 c1 c2 s n B p (Q + 2) (pickL K) _) (ownFrom_below (Nat.le_refl _) HB10.out.size))
    (fun c s A A' row hs _ _ => hs)
    ⟨HC10.out, HB10.out⟩
    (fun x a' W => ∃ E, a' = fr x E ∧ W.heap[E]? = some (.cells #[.string (K.cps.getD x Cp.none).svc, .int .i64 (K.cps.getD x Cp.none).num, .int .i64 (K.cps.getD x Cp.none).ver, .int .i64 (K.cps.getD x Cp.none).image, .int .i64 (K.cps.getD x Cp.none).state, .bool (K.cps.getD x Cp.none).ending, .string (K.cps.getD x Cp.none).berth] 63 (0, 0)) ∧ p < E)
    (fun x a' _ W W' row hs hg hr => by
      obtain ⟨E, h1, h2, h3⟩ := hs
      refine ⟨E, h1, (hg.block E (lt_block h2) fun e => ?_).trans h2, h3⟩
      obtain ⟨_, o, ho, hc⟩ := hr E e.symm
      rw [h2] at ho
      cases ho
      cases hc)
    ?assign ?body ?done ?stop
  case assign =>
    rintro l pre x W K1 ⟨hC, hBl⟩ hK
    try dsimp only
    rw [hfr] at hK
    dsimp only at hK
    obtain ⟨y, hy⟩ : ∃ y, y = K.cps.getD x Cp.none := ⟨_, rfl⟩
    rw [← hy] at hK ⊢
    have HK := hid hK
    have HC := hid hC
    have HBl := hid hBl
    clear hK hy hfr hC hBl
    gi_wp2
    refine HK.out _ _ ⟨by simp, fun k o _ hk _ => (Below.heap_alloc W _ k (lt_block hk)).trans hk⟩ (Kpt.of_below (blw_alloc (Below.refl _ _) _)) ⟨HC.out.later (blw_alloc (Below.refl _ _) _), blw_alloc HBl.out _⟩ ⟨W.heap.size, rfl, World.alloc_heap_new W _, ?_⟩
    obtain ⟨_, _, hq, _⟩ := HC.out.sg
    exact lt_block hq
  case body =>
    rintro l pre x a' W hl hr ⟨hC, hBl⟩ ⟨E, ha, hE, hEz⟩ hlen
    rw [hfr] at ha
    dsimp only at ha
    subst ha
    obtain ⟨y, hy⟩ : ∃ y, y = K.cps.getD x Cp.none := ⟨_, rfl⟩
    obtain ⟨M, hM⟩ : ∃ M, M = pickL K pre := ⟨_, rfl⟩
    have HN : Hid (pickL K (pre ++ [x]) = M ++ (if y.ending then [] else [y])) := by show _ = _; rw [pickL_snoc, hM, hy]
    have hml : M.length ≤ 200 := by
      have h1 : M.length ≤ pre.length := by rw [hM]; unfold pickL; exact Nat.le_trans (List.length_filter_le _ _) (by simp)
      have := HLN.out
      omega
    rw [← hM] at hC
    rw [← hy] at hE ⊢
    have HC := hid hC
    have HBl := hid hBl
    have hEE : E < W.heap.size := lt_block hE
    have E0 : W.cell? ⟨E, 0, none⟩ = some (.string y.svc) := cellsOf_block hE 0
    have E1 : W.cell? ⟨E, 1, none⟩ = some (.int .i64 y.num) := cellsOf_block hE 1
    have E2 : W.cell? ⟨E, 2, none⟩ = some (.int .i64 y.ver) := cellsOf_block hE 2
    have E3 : W.cell? ⟨E, 3, none⟩ = some (.int .i64 y.image) := cellsOf_block hE 3
    have E4 : W.cell? ⟨E, 4, none⟩ = some (.int .i64 y.state) := cellsOf_block hE 4
    have E5 : W.cell? ⟨E, 5, none⟩ = some (.bool y.ending) := cellsOf_block hE 5
    have E6 : W.cell? ⟨E, 6, none⟩ = some (.string y.berth) := cellsOf_block hE 6
    obtain ⟨a, c, hsg, hown⟩ := hC.sg
    have HO := hid hown
    have HSG := hid hsg
    have hpz : p < W.heap.size := lt_block hsg
    have hpf : ∀ j, W.frozen? ⟨p, j, none⟩ = false := frozen_block hsg
    have g22 : W.cell? ⟨p, 22, none⟩ = some (.slice a M.length c) := cellsOf_block hsg 22
    have hWN : Q + 2 ≤ W.heap.size := by rw [← HS10.out]; exact Nat.le_trans hl (Nat.le_of_lt (by obtain ⟨_, hr⟩ := hr; exact lt_block hr))
    clear hfr hy hM hC hBl hown hsg hr hl
    cases he : y.ending
    · obtain ⟨i0, hi, hz0, hz1, hz2⟩ := info_parts Try.infCp
      have HM2 : Hid (pickL K (pre ++ [x]) = M ++ [y]) := by show _ = _; rw [HN.out, he]; rfl
      rw [he] at E5
      have HE2 := hid hE
      clear HN hE
      gi_wp2_with (gi_at_builtin; refine wpListIn_append_own _ rfl _ _ 30 rfl (Q + 2) 63 i0 _ 7 72 Try.undCp hi hz0 hz1 hz2 rfl (by decide) (.slice a M.length c) M.length (M.flatMap CpC) rfl ?c0 ⟨W.heap.size, 0, none⟩ 1 1 ([.string y.svc, .int .i64 y.num, .int .i64 y.ver, .int .i64 y.image, .int .i64 y.state, .bool false, .string y.berth]) rfl ?c1 ?c2 ?c3 ?c4 ?c5 ?c6 ?_)
      case c0 => exact owns_later HO.out (blw_alloc (Below.refl _ _) _)
      case c1 => rfl
      case c2 => exact World.news_of_block (World.alloc_heap_new _ _)
      case c3 => intro u hu; simp at hu; rcases hu with rfl | rfl | rfl | rfl | rfl | rfl | rfl <;> rfl
      case c4 => unfold maxLen; omega
      case c5 => omega
      case c6 => simp; omega
      intro v' w3 hown hgrow _
      have hgrow' : (W.alloc (.cells #[.string y.svc, .int .i64 y.num, .int .i64 y.ver, .int .i64 y.image, .int .i64 y.state, .bool false, .string y.berth] 63)).grownBy w3 (Value.slice a M.length c).ownBlock := hgrow
      have hbt : Below W.heap.size W (W.alloc (.cells #[.string y.svc, .int .i64 y.num, .int .i64 y.ver, .int .i64 y.image, .int .i64 y.state, .bool false, .string y.berth] 63)) := blw_alloc (Below.refl _ _) _
      have hown' : w3.ownsRow (Q + 2) 63 7 v' (M ++ [y]).length ((M ++ [y]).flatMap CpC) := by
        have e : (M ++ [y]).flatMap CpC = M.flatMap CpC ++ [.string y.svc, .int .i64 y.num, .int .i64 y.ver, .int .i64 y.image, .int .i64 y.state, .bool false, .string y.berth] := by simp [CpC, he]
        rw [e]; simpa using hown
      obtain ⟨a', c', rfl⟩ := owns_slice hown'
      obtain ⟨m1, hm1⟩ : ∃ m1, m1 = (M ++ [y]).length := ⟨_, rfl⟩
      rw [← hm1]
      have hrow : ∀ q, (Value.slice a M.length c).ownBlock = some q → Q + 2 ≤ q := fun q hq => (World.ownsRow.lt HO.out q hq).1
      have k3 : ∀ b, b < W.heap.size → (∀ q, (Value.slice a M.length c).ownBlock = some q → b ≠ q) → w3.heap[b]? = W.heap[b]? := fun b hb hn => (hgrow'.block b (by have := hbt.size; omega) (fun e => hn b e.symm rfl)).trans (hbt.block b hb)
      have kp : w3.heap[p]? = _ := (k3 p hpz (fun q hq => by have := hrow q hq; omega)).trans HSG.out
      have hpz3 : p < w3.heap.size := lt_block kp
      have hpf3 : ∀ j, w3.frozen? ⟨p, j, none⟩ = false := frozen_block kp
      have h22 : w3.cell? ⟨p, 22, none⟩ = some (.slice a M.length c) := cellsOf_block kp 22
      obtain ⟨w4, hw4⟩ : ∃ w4, w4 = w3.setCell ⟨p, 22, none⟩ (.slice a' m1 c') := ⟨_, rfl⟩
      have HKF : Hid (KeepsFrom w10.heap.size W w4) := by
        rw [hw4]
        refine (((KeepsOthers.alloc W _).trans (KeepsOthers.of_grownBy hgrow' fun j o hj ho => ?_)).trans (KeepsOthers.setCell _ _ _)).from _
        have := (owns_later HO.out hbt).2
        rcases this with ⟨q1, _⟩ | ⟨g, cap, cur, q1, q2, q3, q4⟩
        · rw [q1] at hj; cases hj
        · rw [q1] at hj; injection hj with hj; subst hj; rw [q3] at ho; cases ho; rfl
      have HKP : Hid (Kpt (fun b => b ≠ p ∧ b < Q + 2) W w4) := by
        rw [hw4]
        refine ⟨by rw [sc_size]; exact Nat.le_trans hbt.size hgrow'.size, fun b hb hlt => ?_⟩
        rw [set_other hb.1]
        exact k3 b hlt (fun q hq => by have := hrow q hq; omega)
      have HBL : Hid (Below w.heap.size w w4) := by
        rw [hw4]
        refine Below.setCell (p := ⟨p, 22, none⟩) ?_ (by have := HBW.out; show w.heap.size ≤ p; omega) _
        exact Below.grown (blw_trans HBl.out hbt) hgrow' (blw_trans HBl.out hbt).size (fun q hq => by have := hrow q hq; have := HBW.out; omega)
      have HSI : Hid (SI K a0 a1 a2 c0 c1 c2 s n B p (Q + 2) (pickL K (pre ++ [x])) w4) := by
        rw [HM2.out]
        refine ⟨?_, a', c', ?_, ?_⟩
        · obtain ⟨cs, g1, g2⟩ := HC.out.res
          refine ⟨cs, ?_, g2⟩
          rw [hw4, set_other (by omega)]
          exact (k3 (B + 2) (lt_block g1) (fun q hq => by have := hrow q hq; omega)).trans g1
        · rw [hw4, set_block kp, hm1]; rfl
        · rw [hw4]
          refine ⟨hown'.1, ?_⟩
          rcases hown'.2 with q | ⟨g, cap, cur, q1, q2, q3, q4⟩
          · exact Or.inl q
          · exact Or.inr ⟨g, cap, cur, q1, q2, by rw [set_other (by omega)]; exact q3, q4⟩
      clear hm1 hown hown' hgrow hgrow' hbt hrow k3 kp E0 E1 E2 E3 E4 E5 E6 hEE g22 hpf hpz
      gi_wp2
      rw [← hw4]
      exact ⟨HKF.out, HKP.out, HSI.out, HBL.out⟩
    · have HM2 : Hid (pickL K (pre ++ [x]) = M) := by show _ = _; rw [HN.out, he]; simp
      rw [he] at E5
      clear HN
      gi_wp2
      exact ⟨KeepsFrom.refl _ _, ⟨Nat.le_refl _, fun _ _ _ => rfl⟩, by rw [HM2.out]; exact HC.out, HBl.out⟩
  case done =>
    rintro D ys W hD rfl ⟨hC, hBl⟩ hK
    have hDB : Q + 2 ≤ D := by rw [← HS10.out]; exact hD
    obtain ⟨L, hL⟩ : ∃ L, L = liveC K s.nm := ⟨_, rfl⟩
    have hL' : pickL K (rowCp K.cps s.nm) = L := by rw [hL]; rfl
    rw [hL'] at hC
    have HLL : Hid (L.length ≤ 200) := by
      show _ ≤ _
      rw [hL]; unfold liveC
      refine Nat.le_trans (List.length_filter_le _ _) ?_
      rw [List.length_map]
      have := HLN.out
      have h2 := runCp_le K.cps s.nm (placeCp K.cps s.nm) (placeCp_le _ _)
      simp only [rowCp, List.length_range']
      omega
    have HLS : Hid (∀ c ∈ L, c.sized) := by
      intro c hc
      rw [hL] at hc
      obtain ⟨i, hi, rfl⟩ := List.mem_map.1 (List.mem_filter.1 hc).1
      by_cases hl : i < K.cps.length
      · obtain ⟨_, _, _, _, hx⟩ := HH.out.c.at_ i hl
        exact hx.sized
      · have e : K.cps.getD i Cp.none = Cp.none := by simp [hl]
        rw [e]; exact ⟨by simp [Cp.none, maxLen], by simp [Cp.none, maxLen]⟩
    have HLE := hid hL
    have HC := hid hC
    have HBl := hid hBl
    have HKD := hid hK
    obtain ⟨al, cl, hsg, hown⟩ := hC.sg
    obtain ⟨al', cl', hvv, hcv⟩ := owns_Cps hown (fun i hi => HLS.out _ (by have e : L.getD i Cp.none = L[i] := by simp [hi]
                                                                            rw [e]; exact List.getElem_mem _)) (by have := HLL.out; unfold maxLen; omega)
    injection hvv with e1 _ e2
    subst e1 e2
    have HCV := hid hcv
    have HOW := hid hown
    have HSG := hid hsg
    have HLB := hid (range_block hsg)
    have hrg := HLB.out.at_
    have hpz : p < W.heap.size := lt_block hsg
    clear hC hBl hK hL hL' hown hcv hsg hfr hD
    go_wp2_with (refine wpList_load_mid rfl 88 _ rfl p 0 rfl [.int .i64 K.now, .slice a0 K.svcs.length c0, .slice a1 K.cps.length c1, .slice a2 K.bts.length c2, .string s.nm, .int .i64 s.ver, .bool s.gone, .int .i64 s.image, .int .i64 s.want, .int .i64 s.down, .int .i64 s.over, .int .i64 s.next, .int .i64 s.per, .int .i64 s.least, .int .i64 s.most, .int .i64 s.load, .int .i64 s.cool, .int .i64 n.live, .int .i64 n.ready, .int .i64 n.old, .int .i64 n.failed, .int .i64 n.ending, .slice al L.length cl, .int .i64 0] _ hrg Try.underlying88 rfl (by kernel_rfl) ?_)
    refine (liveThatLeave K a0 a1 a2 c0 c1 c2 s n al cl L 0 (fun c => leaves K c) W HCV.out (by have := HLL.out; omega) (fun c W' hW' => mustLeaveI K a0 a1 a2 c0 c1 c2 s n al cl L 0 c W' (HH.out.later (blw_trans HBl.out hW')))).mono ?_
    rintro e w2 ⟨⟨v, rfl, ho⟩, hb2⟩
    obtain ⟨av, cv, rfl⟩ := owns_slice ho
    obtain ⟨cnt, hcnt⟩ : ∃ cnt : Nat, cnt = (L.filter fun c => leaves K c).length := ⟨_, rfl⟩
    rw [← hcnt]
    have HCN := hid hcnt
    have HB2 := hid (blw_trans HBl.out hb2)
    have HKD2 : Hid (w2.heap[D]? = some (.deferred (some []))) := (hb2.block D (lt_block HKD.out)).trans HKD.out
    have HSG2 : Hid (w2.heap[p]? = some (.cells #[.int .i64 K.now, .slice a0 K.svcs.length c0, .slice a1 K.cps.length c1, .slice a2 K.bts.length c2, .string s.nm, .int .i64 s.ver, .bool s.gone, .int .i64 s.image, .int .i64 s.want, .int .i64 s.down, .int .i64 s.over, .int .i64 s.next, .int .i64 s.per, .int .i64 s.least, .int .i64 s.most, .int .i64 s.load, .int .i64 s.cool, .int .i64 n.live, .int .i64 n.ready, .int .i64 n.old, .int .i64 n.failed, .int .i64 n.ending, .slice al L.length cl, .int .i64 0] 88 (0, 0))) := (hb2.block p hpz).trans HSG.out
    have HCV2 := hid (HCV.out.later hb2)
    have HRS2 : Hid (OwnBlk w2 (B + 2) 88 24) := HC.out.res.later hb2
    have hp2z : p < w2.heap.size := lt_block HSG2.out
    have hp2f : ∀ j, w2.frozen? ⟨p, j, none⟩ = false := frozen_block HSG2.out
    have h23 : w2.cell? ⟨p, 23, none⟩ = some (.int .i64 0) := cellsOf_block HSG2.out 23
    obtain ⟨w4, hw4⟩ : ∃ w4, w4 = w2.setCell ⟨p, 23, none⟩ (.int .i64 (cnt : Nat)) := ⟨_, rfl⟩
    have HLB4 : Hid (LBox w4 p [.int .i64 K.now, .slice a0 K.svcs.length c0, .slice a1 K.cps.length c1, .slice a2 K.bts.length c2, .string s.nm, .int .i64 s.ver, .bool s.gone, .int .i64 s.image, .int .i64 s.want, .int .i64 s.down, .int .i64 s.over, .int .i64 s.next, .int .i64 s.per, .int .i64 s.least, .int .i64 s.most, .int .i64 s.load, .int .i64 s.cool, .int .i64 n.live, .int .i64 n.ready, .int .i64 n.old, .int .i64 n.failed, .int .i64 n.ending, .slice al L.length cl, .int .i64 (cnt : Nat)]) := by
      have : w4.heap[p]? = some (.cells #[.int .i64 K.now, .slice a0 K.svcs.length c0, .slice a1 K.cps.length c1, .slice a2 K.bts.length c2, .string s.nm, .int .i64 s.ver, .bool s.gone, .int .i64 s.image, .int .i64 s.want, .int .i64 s.down, .int .i64 s.over, .int .i64 s.next, .int .i64 s.per, .int .i64 s.least, .int .i64 s.most, .int .i64 s.load, .int .i64 s.cool, .int .i64 n.live, .int .i64 n.ready, .int .i64 n.old, .int .i64 n.failed, .int .i64 n.ending, .slice al L.length cl, .int .i64 (cnt : Nat)] 88 (0, 0)) := by rw [hw4, set_block HSG2.out]; rfl
      exact range_block this
    have HRS4 : Hid (OwnBlk w4 (B + 2) 88 24) := by rw [hw4]; exact HRS2.out.sc_other (by omega) _ _
    have HKD4 : Hid (w4.heap[D]? = some (.deferred (some []))) := by rw [hw4, set_other (by omega)]; exact HKD2.out
    have HB4 : Hid (Below w.heap.size w w4) := by rw [hw4]; exact HB2.out.setCell (p := ⟨p, 23, none⟩) (by have := HBW.out; show w.heap.size ≤ p; omega) _
    have HCV4 : Hid (CpsV w4 al L) := by
      rw [hw4]
      refine ⟨HCV2.out.len, fun i hi => ?_⟩
      obtain ⟨b, off, e1, e2, e3⟩ := HCV2.out.at_ i hi
      refine ⟨b, off, e1, by rw [sc_size]; exact e2, ?_⟩
      have hbp : b ≠ p := by
        have := own_ge HOW.out hi e1
        omega
      have c : ∀ j, (w2.setCell ⟨p, 23, none⟩ (.int .i64 (cnt : Nat))).cell? ⟨b, j, none⟩ = w2.cell? ⟨b, j, none⟩ := fun j => sc_ne _ _ _ _ _ _ (Or.inl hbp)
      exact ⟨(c _).trans e3.c0, (c _).trans e3.c1, (c _).trans e3.c2, (c _).trans e3.c3, (c _).trans e3.c4, (c _).trans e3.c5, (c _).trans e3.c6, e3.sized⟩
    clear hcnt ho hb2 hrg HLB HSG HSG2 HKD2 HRS2 HCV2 HB2 HC HBl HKD
    go_upto_region 7 with fail
    rw [← hw4]
    clear hw4 h23 hp2f hp2z
    have hth := RY.own_there HRS4.out
    have hrg4 := HLB4.out.at_
    obtain ⟨w5, hw5⟩ : ∃ w5, w5 = w4.setCells (B + 2) 0 [.int .i64 K.now, .slice a0 K.svcs.length c0, .slice a1 K.cps.length c1, .slice a2 K.bts.length c2, .string s.nm, .int .i64 s.ver, .bool s.gone, .int .i64 s.image, .int .i64 s.want, .int .i64 s.down, .int .i64 s.over, .int .i64 s.next, .int .i64 s.per, .int .i64 s.least, .int .i64 s.most, .int .i64 s.load, .int .i64 s.cool, .int .i64 n.live, .int .i64 n.ready, .int .i64 n.old, .int .i64 n.failed, .int .i64 n.ending, .slice al L.length cl, .int .i64 (cnt : Nat)] := ⟨_, rfl⟩
    have hrt : w5.rangeAt (B + 2) 0 [.int .i64 K.now, .slice a0 K.svcs.length c0, .slice a1 K.cps.length c1, .slice a2 K.bts.length c2, .string s.nm, .int .i64 s.ver, .bool s.gone, .int .i64 s.image, .int .i64 s.want, .int .i64 s.down, .int .i64 s.over, .int .i64 s.next, .int .i64 s.per, .int .i64 s.least, .int .i64 s.most, .int .i64 s.load, .int .i64 s.cool, .int .i64 n.live, .int .i64 n.ready, .int .i64 n.old, .int .i64 n.failed, .int .i64 n.ending, .slice al L.length cl, .int .i64 (cnt : Nat)] := by rw [hw5]; exact World.rangeAt_setCells_same _ _ _ _ hth
    have HB5 : Hid (Below w.heap.size w w5) := by rw [hw5]; exact setCells_below HB4.out (by have := HBW.out; omega) _ _
    have hx5 : BelX (B + 2) w4 w5 := by rw [hw5]; exact BelX.scs _ 0 w4 (BelX.refl (B + 2) w4)
    have hK5 : w5.heap[D]? = some (.deferred (some [])) := (hx5.block D (lt_block HKD4.out) (by omega)).trans HKD4.out
    have HCV5 : Hid (CpsV w5 al L) := by
      refine ⟨HCV4.out.len, fun i hi => ?_⟩
      obtain ⟨b, off, e1, e2, e3⟩ := HCV4.out.at_ i hi
      have hbp : b ≠ B + 2 := by
        have := own_ge HOW.out hi e1
        omega
      have c := fun j => hx5.cell e2 hbp j
      exact ⟨b, off, e1, Nat.lt_of_lt_of_le e2 hx5.size, (c _).trans e3.c0, (c _).trans e3.c1, (c _).trans e3.c2, (c _).trans e3.c3, (c _).trans e3.c4, (c _).trans e3.c5, (c _).trans e3.c6, e3.sized⟩
    clear hx5
    refine wp_region_lit ?_
    refine wpList_load_mid rfl 88 _ rfl p 0 rfl [.int .i64 K.now, .slice a0 K.svcs.length c0, .slice a1 K.cps.length c1, .slice a2 K.bts.length c2, .string s.nm, .int .i64 s.ver, .bool s.gone, .int .i64 s.image, .int .i64 s.want, .int .i64 s.down, .int .i64 s.over, .int .i64 s.next, .int .i64 s.per, .int .i64 s.least, .int .i64 s.most, .int .i64 s.load, .int .i64 s.cool, .int .i64 n.live, .int .i64 n.ready, .int .i64 n.old, .int .i64 n.failed, .int .i64 n.ending, .slice al L.length cl, .int .i64 (cnt : Nat)] _ hrg4 Try.underlying88 rfl (by kernel_rfl) ?_
    refine wpList_store_mid rfl 88 _ _ rfl (B + 2) 0 #[.int .i64 K.now, .slice a0 K.svcs.length c0, .slice a1 K.cps.length c1, .slice a2 K.bts.length c2, .string s.nm, .int .i64 s.ver, .bool s.gone, .int .i64 s.image, .int .i64 s.want, .int .i64 s.down, .int .i64 s.over, .int .i64 s.next, .int .i64 s.per, .int .i64 s.least, .int .i64 s.most, .int .i64 s.load, .int .i64 s.cool, .int .i64 n.live, .int .i64 n.ready, .int .i64 n.old, .int .i64 n.failed, .int .i64 n.ending, .slice al L.length cl, .int .i64 (cnt : Nat)] rfl rfl hth (by kernel_rfl) (by simp [Value.oneCell']) ?_
    simp only [Act.put, List.setIfInBounds_toArray, List.set_cons_zero, List.set_cons_succ]
    rw [← hw5]
    clear hw5 hth hrg4
    go_wp2
    refine ⟨by simp, .inl ⟨_, _, rfl, run_takeDeferred hK5, ?_⟩⟩
    have hrt2 := range_kept hrt (grownBy_putObj' _ D (.deferred none)) (fun r e => by cases e; exact ⟨_, hK5, rfl⟩)
    refine ⟨.agg #[.int .i64 K.now, .slice a0 K.svcs.length c0, .slice a1 K.cps.length c1, .slice a2 K.bts.length c2, .string s.nm, .int .i64 s.ver, .bool s.gone, .int .i64 s.image, .int .i64 s.want, .int .i64 s.down, .int .i64 s.over, .int .i64 s.next, .int .i64 s.per, .int .i64 s.least, .int .i64 s.most, .int .i64 s.load, .int .i64 s.cool, .int .i64 n.live, .int .i64 n.ready, .int .i64 n.old, .int .i64 n.failed, .int .i64 n.ending, .slice al L.length cl, .int .i64 (cnt : Nat)], by simp [results, Try.f52, asAddr, run_loadVar_mid (P := Try.prog) _ _ _ 88 [.int .i64 K.now, .slice a0 K.svcs.length c0, .slice a1 K.cps.length c1, .slice a2 K.bts.length c2, .string s.nm, .int .i64 s.ver, .bool s.gone, .int .i64 s.image, .int .i64 s.want, .int .i64 s.down, .int .i64 s.over, .int .i64 s.next, .int .i64 s.per, .int .i64 s.least, .int .i64 s.most, .int .i64 s.load, .int .i64 s.cool, .int .i64 n.live, .int .i64 n.ready, .int .i64 n.old, .int .i64 n.failed, .int .i64 n.ending, .slice al L.length cl, .int .i64 (cnt : Nat)] _ hrt2 Try.underlying88 rfl (by kernel_rfl)], ⟨n, al, cl, L, (cnt : Int), HNN.out, HLE.out, by rw [HCN.out], rfl, ?_⟩, HB5.out.trans (belowK_b (w := w) (Nat.le_refl _) _ D _ _ (by have := HBW.out; omega) hK5 rfl rfl)⟩
    refine ⟨HCV5.out.len, fun i hi => ?_⟩
    obtain ⟨b, off, e1, e2, e3⟩ := HCV5.out.at_ i hi
    have c : ∀ j v, w5.cell? ⟨b, j, none⟩ = some v → (w5.putObj D (.deferred none)).cell? ⟨b, j, none⟩ = some v := fun j v hv => cell_kept hv (grownBy_putObj' _ D (.deferred none)) (fun r e => by cases e; exact ⟨_, hK5, rfl⟩)
    exact ⟨b, off, e1, by simpa using e2, c _ _ e3.c0, c _ _ e3.c1, c _ _ e3.c2, c _ _ e3.c3, c _ _ e3.c4, c _ _ e3.c5, c _ _ e3.c6, e3.sized⟩
  case stop =>
    rintro D c pre W hD hpre hF
    exact hF.elim

end Go.Proofs.Ytamhfnlogldpaaa
