/-
  Stewards: the copies of a service: an iterator.
-/
import Derived.RangeFuncNested
import Derived.RangeFuncLeaves
import Derived.Test.YtamhfnlogldpaaaOrdT
import Derived.Test.YtamhfnlogldpaaaPgE
import Derived.Test.YtamhfnlogldpaaaRelIn
namespace Go.Proofs.Ytamhfnlogldpaaa
open Go.RowKit Go.Deep

def placeCp (l : List Cp) (svc : ByteArray) : Nat := l.findIdx fun x => !decide (cpCmp x.svc x.num svc 0 < 0)
theorem placeCp_le (l : List Cp) (svc : ByteArray) : placeCp l svc ≤ l.length := List.findIdx_le_length
theorem placeCp_lt (l : List Cp) (svc : ByteArray) : ∀ i, i < placeCp l svc → cpCmp (l.getD i Cp.none).svc (l.getD i Cp.none).num svc 0 < 0 := by
  intro i hi
  have hl : i < l.length := Nat.lt_of_lt_of_le hi (placeCp_le l svc)
  have := List.not_of_lt_findIdx hi
  have e : l.getD i Cp.none = l[i] := by simp [hl]
  rw [e]
  simpa using this
theorem placeCp_ge {l : List Cp} (h : ascCp l = true) (svc : ByteArray) : ∀ i, placeCp l svc ≤ i → i < l.length → 0 ≤ cpCmp (l.getD i Cp.none).svc (l.getD i Cp.none).num svc 0 := by
  intro i hi hl
  have hp : placeCp l svc < l.length := by omega
  have h0 : 0 ≤ cpCmp (l.getD (placeCp l svc) Cp.none).svc (l.getD (placeCp l svc) Cp.none).num svc 0 := by
    have := List.findIdx_getElem (w := hp)
    have e : l.getD (placeCp l svc) Cp.none = l[placeCp l svc] := by simp [hp]
    rw [e]
    have q : (!decide (cpCmp l[placeCp l svc].svc l[placeCp l svc].num svc 0 < 0)) = true := this
    simp at q
    omega
  exact row_ge (lex_lin kc_lin num_lin) ((ascCp_iff l).1 h) (t := (svc.toList, 0)) h0 i hi hl

/-- How many of them stand together from p on. -/
def runCp (l : List Cp) (svc : ByteArray) (p : Nat) : Nat := ((l.drop p).takeWhile fun x => same x.svc svc).length
theorem run_yes (svc : ByteArray) : ∀ (l : List Cp) (j : Nat), j < (l.takeWhile fun x => same x.svc svc).length → same (l.getD j Cp.none).svc svc = true
  | [], _, h => by simp at h
  | x :: l, j, h => by
    rw [List.takeWhile_cons] at h
    by_cases e : same x.svc svc = true
    · rw [if_pos e] at h
      cases j with
      | zero => simpa using e
      | succ j => have := run_yes svc l j (by simpa using h); simpa using this
    · rw [if_neg e] at h; simp at h
theorem run_no (svc : ByteArray) : ∀ (l : List Cp), (l.takeWhile fun x => same x.svc svc).length < l.length → same (l.getD (l.takeWhile fun x => same x.svc svc).length Cp.none).svc svc = false
  | [], h => by simp at h
  | x :: l, h => by
    rw [List.takeWhile_cons] at h ⊢
    by_cases e : same x.svc svc = true
    · rw [if_pos e] at h ⊢
      have := run_no svc l (by simpa using h)
      simpa using this
    · rw [if_neg e]; simpa using e
theorem getD_drop (l : List Cp) (p j : Nat) : (l.drop p).getD j Cp.none = l.getD (p + j) Cp.none := by simp
theorem runCp_yes (l : List Cp) (svc : ByteArray) (p j : Nat) (h : j < runCp l svc p) : same (l.getD (p + j) Cp.none).svc svc = true := by
  rw [← getD_drop]; exact run_yes svc _ j h
theorem runCp_le (l : List Cp) (svc : ByteArray) (p : Nat) (hp : p ≤ l.length) : p + runCp l svc p ≤ l.length := by
  have := List.takeWhile_prefix (fun x : Cp => same x.svc svc) (l := l.drop p)
  have := this.length_le
  rw [List.length_drop] at this
  unfold runCp; omega
theorem runCp_no (l : List Cp) (svc : ByteArray) (p : Nat) (h : p + runCp l svc p < l.length) : same (l.getD (p + runCp l svc p) Cp.none).svc svc = false := by
  rw [← getD_drop]; exact run_no svc _ (by rw [List.length_drop]; unfold runCp at h; omega)

/-- The places of a service's copies. -/
def rowCp (l : List Cp) (svc : ByteArray) : List Nat := List.range' (placeCp l svc) (runCp l svc (placeCp l svc))

theorem range_snoc (p m : Nat) : List.range' p m ++ [p + m] = List.range' p (m + 1) := by
  have := List.range'_append (s := p) (m := m) (n := 1) (step := 1)
  simpa using this
theorem range_pre (p m M : Nat) (h : m ≤ M) : List.range' p m <+: List.range' p M := by
  obtain ⟨k, rfl⟩ : ∃ k, M = m + k := ⟨M - m, by omega⟩
  have := List.range'_append (s := p) (m := m) (n := k) (step := 1)
  refine ⟨List.range' (p + m) k, ?_⟩
  rw [Nat.one_mul] at this
  exact this

/-- What an iterator wants kept: the blocks of P lie as they lay. -/
def Kpt (P : Nat → Prop) (A B : World) : Prop := A.heap.size ≤ B.heap.size ∧ ∀ b, P b → b < A.heap.size → B.heap[b]? = A.heap[b]?
theorem Kpt.trans {P : Nat → Prop} {A B C : World} (h : Kpt P A B) (k : Kpt P B C) : Kpt P A C := ⟨Nat.le_trans h.1 k.1, fun b hb hl => (k.2 b hb (Nat.lt_of_lt_of_le hl h.1)).trans (h.2 b hb hl)⟩
theorem Kpt.of_below {P : Nat → Prop} {A B : World} (h : Below A.heap.size A B) : Kpt P A B := ⟨h.size, fun b _ hl => h.block b hl⟩
theorem Kpt.cell {P : Nat → Prop} {A B : World} (h : Kpt P A B) {b : Nat} (hb : P b) (hl : b < A.heap.size) (j : Nat) : B.cell? ⟨b, j, none⟩ = A.cell? ⟨b, j, none⟩ := by
  unfold World.cell?; rw [h.2 b hb hl]

/-- What the iterator reads: the book's box, the service's, the copies. -/
structure ItW (K : SBk) (a1 : Option Addr) (c1 : Nat) (v0 v1 v3 : Value) (svc : ByteArray) (bb bs : Nat) (W : World) : Prop where
  box : Box4 W bb v0 v1 (.slice a1 K.cps.length c1) v3
  str : W.cell? ⟨bs, 0, none⟩ = some (.string svc)
  lt : bs < W.heap.size
  cps : CpsV W a1 K.cps
theorem ItW.keep {K : SBk} {a1 : Option Addr} {c1 : Nat} {v0 v1 v3 : Value} {svc : ByteArray} {bb bs : Nat} {P : Nat → Prop} {A B : World} (h : ItW K a1 c1 v0 v1 v3 svc bb bs A) (k : Kpt P A B) (h1 : P bb) (h2 : P bs) (h3 : ∀ b off, a1 = some ⟨b, off, none⟩ → 0 < K.cps.length → P b) : ItW K a1 c1 v0 v1 v3 svc bb bs B := by
  obtain ⟨⟨xl, x0, x1, x2, x3⟩, hs, hl, hc⟩ := h
  have cb := fun j => k.cell h1 xl j
  refine ⟨⟨Nat.lt_of_lt_of_le xl k.1, (cb 0).trans x0, (cb 1).trans x1, (cb 2).trans x2, (cb 3).trans x3⟩, (k.cell h2 hl 0).trans hs, Nat.lt_of_lt_of_le hl k.1, hc.len, fun i hi => ?_⟩
  obtain ⟨b, off, ha, hb, hf⟩ := hc.at_ i hi
  have c := fun j => k.cell (h3 b off ha (by omega)) hb j
  exact ⟨b, off, ha, Nat.lt_of_lt_of_le hb k.1, (c _).trans hf.c0, (c _).trans hf.c1, (c _).trans hf.c2, (c _).trans hf.c3, (c _).trans hf.c4, (c _).trans hf.c5, (c _).trans hf.c6, hf.sized⟩
theorem ItW.later {K : SBk} {a1 : Option Addr} {c1 : Nat} {v0 v1 v3 : Value} {svc : ByteArray} {bb bs : Nat} {A B : World} (h : ItW K a1 c1 v0 v1 v3 svc bb bs A) (k : Below A.heap.size A B) : ItW K a1 c1 v0 v1 v3 svc bb bs B :=
  h.keep (P := fun _ => True) (Kpt.of_below k) trivial trivial (fun _ _ _ _ => trivial)

theorem abides_below {β : Type} {B : Nat} {J : β → World → Prop} (h : AbidesFrom B J) {s : β} {W W' : World} (hj : J s W) (hb : Below W.heap.size W W') : J s W' :=
  h s W W' none hj ⟨hb.os, hb.tape, hb.output, hb.size, fun i hi _ => hb.block i hi⟩ (fun _ e => by cases e)

def VIt (l bb b off n c1 q : Nat) (svc : ByteArray) (x : Cp) (R : Bool → World → Prop) : Nat → Value → World → Prop
  | 0, u, _ => u = .int .i64 (q : Nat)
  | 1, u, _ => u = .pointer (some ⟨bb, 2, none⟩)
  | 2, u, _ => u = .slice (some ⟨b, off, none⟩) n c1
  | 3, u, _ => u = .int .i64 (n : Nat)
  | 4, u, _ => u = .bool true
  | 5, u, _ => u = .bool true
  | 6, u, _ => u = .pointer (some ⟨bb, 2, none⟩)
  | 7, u, _ => u = .slice (some ⟨b, off, none⟩) n c1
  | 8, u, _ => u = .int .i64 (q : Nat)
  | 9, u, _ => u = .pointer (some ⟨b, off + q * 7, none⟩)
  | 10, u, _ => u = .pointer (some ⟨b, off + q * 7, none⟩)
  | 11, u, _ => u = .string x.svc
  | 12, u, _ => u = .string svc
  | 13, u, _ => u = .bool true
  | 14, u, _ => u = .bool true
  | 15, u, _ => u = .bool true
  | 16, u, _ => u = .func (.yield l) #[] #[]
  | 17, u, _ => u = .int .i64 (q : Nat)
  | 18, u, _ => u = .pointer (some ⟨bb, 2, none⟩)
  | 19, u, _ => u = .slice (some ⟨b, off, none⟩) n c1
  | 20, u, _ => u = .int .i64 (q : Nat)
  | 21, u, _ => u = .pointer (some ⟨b, off + q * 7, none⟩)
  | 22, u, _ => u = .agg #[.string x.svc, .int .i64 x.num, .int .i64 x.ver, .int .i64 x.image, .int .i64 x.state, .bool x.ending, .string x.berth]
  | 23, u, W => ∃ c, u = .bool c ∧ R c W
  | 24, u, W => ∃ c, u = .bool c ∧ R c W
  | _, _, _ => True

theorem VIt_mono {l bb b off n c1 q : Nat} {svc : ByteArray} {x : Cp} {R : Bool → World → Prop} {j : Nat} {u : Value} {W W' : World} (h0 : j ≠ 23) (h1 : j ≠ 24) (h : VIt l bb b off n c1 q svc x R j u W) : VIt l bb b off n c1 q svc x R j u W' := by
  match j, h0, h1, h with
  | 0, _, _, h => exact h
  | 1, _, _, h => exact h
  | 2, _, _, h => exact h
  | 3, _, _, h => exact h
  | 4, _, _, h => exact h
  | 5, _, _, h => exact h
  | 6, _, _, h => exact h
  | 7, _, _, h => exact h
  | 8, _, _, h => exact h
  | 9, _, _, h => exact h
  | 10, _, _, h => exact h
  | 11, _, _, h => exact h
  | 12, _, _, h => exact h
  | 13, _, _, h => exact h
  | 14, _, _, h => exact h
  | 15, _, _, h => exact h
  | 16, _, _, h => exact h
  | 17, _, _, h => exact h
  | 18, _, _, h => exact h
  | 19, _, _, h => exact h
  | 20, _, _, h => exact h
  | 21, _, _, h => exact h
  | 22, _, _, h => exact h
  | 23, h0, _, _ => exact absurd rfl h0
  | 24, _, h1, _ => exact absurd rfl h1
  | n + 25, _, _, _ => trivial

set_option maxRecDepth 8000 in
set_option maxHeartbeats 40000000 in
theorem copies_stops (n : Nat) (w : World) (K : SBk) (a1 : Option Addr) (c1 : Nat) (v0 v1 v3 : Value) (svc : ByteArray) (bb bs : Nat) (P : Nat → Prop) (hI : ItW K a1 c1 v0 v1 v3 svc bb bs w) (h1 : P bb) (h2 : P bs) (h3 : ∀ b off, a1 = some ⟨b, off, none⟩ → 0 < K.cps.length → P b) (hasc : ascCp K.cps = true) (hlen : K.cps.length ≤ 1048576) :
    SeqStopsK (α := Nat) Fence.wide n Try.prog 89 #[.pointer (some ⟨bb, 0, none⟩), .pointer (some ⟨bs, 0, none⟩)] (fun q => #[.int .i64 (q : Nat), .agg #[.string (K.cps.getD q Cp.none).svc, .int .i64 (K.cps.getD q Cp.none).num, .int .i64 (K.cps.getD q Cp.none).ver, .int .i64 (K.cps.getD q Cp.none).image, .int .i64 (K.cps.getD q Cp.none).state, .bool (K.cps.getD q Cp.none).ending, .string (K.cps.getD q Cp.none).berth]]) (Kpt P)
      (fun xs => xs = rowCp K.cps svc) (fun pre => pre <+: rowCp K.cps svc) K.cps.length w := by
  intro l J Jx W hW hJ hJx hY h0
  refine callsIn_wide.2 ?_
  show Calls Try.prog 89 #[.func (.yield l) #[] #[], .pointer (some ⟨bb, 0, none⟩), .pointer (some ⟨bs, 0, none⟩)] W _
  have HIt := hid (hI.later hW)
  have HJ := hid (And.intro hJ hJx)
  have HP := hid (And.intro h1 (And.intro h2 h3))
  have HY := hid hY
  have HA := hid hasc
  have HJ0 := hid h0
  clear hI h1 h2 h3 hJ hJx hY hasc h0 hW
  obtain ⟨p, hp⟩ : ∃ p, p = placeCp K.cps svc := ⟨_, rfl⟩
  obtain ⟨M, hM⟩ : ∃ M, M = runCp K.cps svc p := ⟨_, rfl⟩
  have HR : Hid (rowCp K.cps svc = List.range' p M) := by show _ = _; rw [hM, hp]; rfl
  have HM : Hid ((∀ j, j < M → same (K.cps.getD (p + j) Cp.none).svc svc = true) ∧ p + M ≤ K.cps.length ∧ (p + M < K.cps.length → same (K.cps.getD (p + M) Cp.none).svc svc = false)) := by
    show _ ∧ _ ∧ _
    have hpl : p ≤ K.cps.length := by rw [hp]; exact placeCp_le _ _
    rw [hM]
    exact ⟨fun j hj => runCp_yes _ _ _ j hj, runCp_le _ _ _ hpl, fun h => runCp_no _ _ _ h⟩
  have HBn := hid (binCp a1 c1 K.cps svc 0 (.int .i64 0) (.int .i64 0) (.int .i64 0) (.bool false) (.string ByteArray.empty) p W HIt.out.cps hlen (by rw [hp]; exact placeCp_le _ _) (by rw [hp]; exact placeCp_lt _ _) (by rw [hp]; exact placeCp_ge HA.out svc))
  clear hp hM
  obtain ⟨yz, y0, y1, y2, y3⟩ := HIt.out.box
  have ys := HIt.out.str
  have ysl := HIt.out.lt
  go_enter Try.func89, Try.ntmps89
  go_wp2_with fail
  refine HBn.out.mono ?_
  rintro e w1 ⟨rfl, hb1⟩
  have HI1 := hid (HIt.out.later hb1)
  have HJ1 := hid (abides_below HJ.out.1 HJ0.out hb1)
  clear yz y0 y1 y2 y3 ys ysl hb1 HBn HJ0
  go_wp2
  go_loopw [4] (fun i wr => ∃ m : Nat, m ≤ M ∧ i = .int .i64 ((p + m : Nat) : Int) ∧ ItW K a1 c1 v0 v1 v3 svc bb bs wr ∧ J (List.range' p m) wr) (fun i _ => K.cps.length - (intOf i).toNat)
  case atStart => exact ⟨0, Nat.zero_le _, rfl, HI1.out, HJ1.out⟩
  case round =>
    obtain ⟨m, hm, rfl, hIw, hj⟩ := hrel
    have HI2 := hid hIw
    have HJ2 := hid hj
    clear hIw hj HI1 HJ1 HIt
    obtain ⟨q, hq⟩ : ∃ q, q = p + m := ⟨_, rfl⟩
    rw [← hq]
    have HQ := hid hq
    have hNE := pst_some wr
    obtain ⟨yz, y0, y1, y2, y3⟩ := HI2.out.box
    have ys := HI2.out.str
    have ysl := HI2.out.lt
    have YZ : ∀ px : Pst wr, bb < px.W.heap.size := fun px => px.size yz
    have Y2 : ∀ px : Pst wr, px.W.cell? ⟨bb, 2, none⟩ = some (.slice a1 K.cps.length c1) := fun px => px.cell y2 yz
    have YS : ∀ px : Pst wr, px.W.cell? ⟨bs, 0, none⟩ = some (.string svc) := fun px => px.cell ys ysl
    have YL : ∀ px : Pst wr, bs < px.W.heap.size := fun px => px.size ysl
    by_cases hql : q < K.cps.length
    · obtain ⟨b, off, ha, hbl, hf⟩ := HI2.out.cps.at_ q hql
      subst ha
      obtain ⟨x, hx⟩ : ∃ x, x = K.cps.getD q Cp.none := ⟨_, rfl⟩
      rw [← hx] at hf
      have HXX := hid hx
      clear hx
      obtain ⟨z0, z1, z2, z3, z4, z5, z6, _⟩ := hf
      have hq0 : (0 : Int) ≤ (q : Int) := by omega
      have hq3 : (q : Int) < (K.cps.length : Int) := by omega
      cases hsm : (x.svc.toList == svc.toList)
      · have HE : Hid (m = M) := by
          show m = M
          by_cases e : m < M
          · have := HM.out.1 m e
            rw [← HQ.out, ← HXX.out] at this
            unfold same at this
            rw [hsm] at this; cases this
          · omega
        have BZ : ∀ px : Pst wr, b < px.W.heap.size := fun px => px.size hbl
        have Z0 : ∀ px : Pst wr, px.W.cell? ⟨b, off + q * 7, none⟩ = some (.string x.svc) := fun px => px.cell z0 hbl
        clear z0 z1 z2 z3 z4 z5 z6 yz y0 y1 y2 y3 ys ysl hbl hq
        go_upto_region 1 with fail
        refine region_class wr (Below.refl _ _) (by kernel_rfl) (by kernel_rfl) ?_
        repeat (first
          | go_big_quiet_skip
          | (go_big_quiet_want; go_big_quiet_op; go_big_quiet_on))
        refine wpQuiet_nil ?_
        intro _ hw'
        obtain ⟨x6, hw''⟩ := hw'
        subst hw''
        have HJ3 := hid (abides_below HJ.out.1 HJ2.out x6.ok)
        clear YZ Y2 YS YL BZ Z0
        go_wp2
        go_end0
        exact ⟨⟨_, rfl⟩, .inl ⟨_, by rw [HR.out], by rw [← HE.out]; exact HJ3.out⟩⟩
      · have HE : Hid (m < M) := by
          show m < M
          by_cases e : m = M
          · have := HM.out.2.2 (by rw [← e, ← HQ.out]; exact hql)
            rw [← e, ← HQ.out, ← HXX.out] at this
            unfold same at this
            rw [hsm] at this; cases this
          · omega
        obtain ⟨R, hR⟩ : ∃ R : Bool → World → Prop, R = fun c W => (c = true ∧ J (List.range' p m ++ [q]) W ∧ Kpt P wr.drew W) ∨ (c = false ∧ Jx (List.range' p m ++ [q]) W) := ⟨_, rfl⟩
        have HRD := hid hR
        clear hR hq YZ Y2 YS YL
        go_upto_region 1 with fail
        refine (wpIn_wide (n := n)).1 ?_
        refine RY.regionIn_rel (fun L W => L.getD 23 false = false → W = wr.drew) (VIt l bb b off K.cps.length c1 q svc x R) (by kernel_rfl) (by kernel_rfl) (by kernel_rfl) (fun _ => rfl) ?_ ?_
        · intro L a W i o h hc ho hi hall
          have et0 : a.tmps[0]?.getD undef = .func (.yield l) #[] #[] := (RY.ev_tmp a 0).trans ((h.keep (k := 0) (by kernel_rfl)).trans rfl)
          have et1 : a.tmps[1]?.getD undef = .pointer (some ⟨bb, 0, none⟩) := (RY.ev_tmp a 1).trans ((h.keep (k := 1) (by kernel_rfl)).trans rfl)
          have et2 : a.tmps[2]?.getD undef = .pointer (some ⟨bs, 0, none⟩) := (RY.ev_tmp a 2).trans ((h.keep (k := 2) (by kernel_rfl)).trans rfl)
          have et4 : a.tmps[4]?.getD undef = .int .i64 (q : Nat) := (RY.ev_tmp a 4).trans ((h.keep (k := 4) (by kernel_rfl)).trans rfl)
          have hC' : (L.setIfInBounds i true).getD 23 false = false → W = wr.drew := fun hh => h.cw (by
            cases e2 : L.getD 23 false
            · rfl
            · rw [RY.getD_set_mono e2] at hh; cases hh)
          match i, ho with
          | 0, ho =>
            injection ho with ho; subst ho
            have hWe : W = wr.drew := h.cw (RY.behind hc (n := 12) (j := 23) (by kernel_rfl) hi)
            subst hWe
            refine h.runIn (by kernel_rfl) (by kernel_rfl) rfl (fun _ => trivial) rfl hi hC' true (RY.wanted_plain rfl) (fun _ => ?_) (fun hg => by cases hg)
            exact ⟨.int .i64 (q : Nat), by simp [execOp, go_sem, et4], rfl⟩
          | 1, ho =>
            injection ho with ho; subst ho
            have hWe : W = wr.drew := h.cw (RY.behind hc (n := 12) (j := 23) (by kernel_rfl) hi)
            subst hWe
            refine h.runIn (by kernel_rfl) (by kernel_rfl) rfl (fun _ => trivial) rfl hi hC' true (RY.wanted_plain rfl) (fun _ => ?_) (fun hg => by cases hg)
            exact ⟨.pointer (some ⟨bb, 2, none⟩), by simp [execOp, go_sem, et1], rfl⟩
          | 2, ho =>
            injection ho with ho; subst ho
            have hWe : W = wr.drew := h.cw (RY.behind hc (n := 12) (j := 23) (by kernel_rfl) hi)
            subst hWe
            refine h.runIn (by kernel_rfl) (by kernel_rfl) rfl (fun _ => trivial) rfl hi hC' true (RY.wanted_plain rfl) (fun _ => ?_) (fun hg => by cases hg)
            have e0 : a.tmps[15]?.getD undef = _ := (RY.ev_tmp a 15).trans (h.new 1 _ 15 rfl rfl (hall ⟨1, .data⟩ (by simp) rfl))
            exact ⟨.slice (some ⟨b, off, none⟩) K.cps.length c1, by simp [execOp, go_sem, e0, y2], rfl⟩
          | 3, ho =>
            injection ho with ho; subst ho
            have hWe : W = wr.drew := h.cw (RY.behind hc (n := 12) (j := 23) (by kernel_rfl) hi)
            subst hWe
            refine h.runIn (by kernel_rfl) (by kernel_rfl) rfl (fun _ => trivial) rfl hi hC' true (RY.wanted_plain rfl) (fun _ => ?_) (fun hg => by cases hg)
            have e0 : a.tmps[16]?.getD undef = _ := (RY.ev_tmp a 16).trans (h.new 2 _ 16 rfl rfl (hall ⟨2, .data⟩ (by simp) rfl))
            exact ⟨.int .i64 (K.cps.length : Nat), by simp [go_sem, e0], rfl⟩
          | 4, ho =>
            injection ho with ho; subst ho
            have hWe : W = wr.drew := h.cw (RY.behind hc (n := 12) (j := 23) (by kernel_rfl) hi)
            subst hWe
            refine h.runIn (by kernel_rfl) (by kernel_rfl) rfl (fun _ => trivial) rfl hi hC' true (RY.wanted_plain rfl) (fun _ => ?_) (fun hg => by cases hg)
            have e0 : a.tmps[14]?.getD undef = _ := (RY.ev_tmp a 14).trans (h.new 0 _ 14 rfl rfl (hall ⟨0, .data⟩ (by simp) rfl))
            have e1 : a.tmps[17]?.getD undef = _ := (RY.ev_tmp a 17).trans (h.new 3 _ 17 rfl rfl (hall ⟨3, .data⟩ (by simp) rfl))
            exact ⟨.bool true, by simp [execOp, go_sem, e0, e1, hql], rfl⟩
          | 5, ho =>
            injection ho with ho; subst ho
            have hWe : W = wr.drew := h.cw (RY.behind hc (n := 12) (j := 23) (by kernel_rfl) hi)
            subst hWe
            refine h.runIn (by kernel_rfl) (by kernel_rfl) rfl (fun _ => trivial) rfl hi hC' true (RY.wanted_plain rfl) (fun _ => ?_) (fun hg => by cases hg)
            have e0 : a.tmps[18]?.getD undef = _ := (RY.ev_tmp a 18).trans (h.new 4 _ 18 rfl rfl (hall ⟨4, .data⟩ (by simp) rfl))
            exact ⟨.bool true, by simp [execOp, go_sem, e0], rfl⟩
          | 6, ho =>
            injection ho with ho; subst ho
            have hWe : W = wr.drew := h.cw (RY.behind hc (n := 12) (j := 23) (by kernel_rfl) hi)
            subst hWe
            refine h.runIn (by kernel_rfl) (by kernel_rfl) rfl (fun _ => trivial) rfl hi hC' true (RY.wanted_of rfl rfl rfl (h.new 5 _ 19 rfl rfl (hall ⟨5, .guard⟩ (by simp) rfl))) (fun _ => ?_) (fun hg => by cases hg)
            exact ⟨.pointer (some ⟨bb, 2, none⟩), by simp [execOp, go_sem, et1], rfl⟩
          | 7, ho =>
            injection ho with ho; subst ho
            have hWe : W = wr.drew := h.cw (RY.behind hc (n := 12) (j := 23) (by kernel_rfl) hi)
            subst hWe
            refine h.runIn (by kernel_rfl) (by kernel_rfl) rfl (fun _ => trivial) rfl hi hC' true (RY.wanted_of rfl rfl rfl (h.new 5 _ 19 rfl rfl (hall ⟨5, .guard⟩ (by simp) rfl))) (fun _ => ?_) (fun hg => by cases hg)
            have e0 : a.tmps[20]?.getD undef = _ := (RY.ev_tmp a 20).trans (h.new 6 _ 20 rfl rfl (hall ⟨6, .data⟩ (by simp) rfl))
            exact ⟨.slice (some ⟨b, off, none⟩) K.cps.length c1, by simp [execOp, go_sem, e0, y2], rfl⟩
          | 8, ho =>
            injection ho with ho; subst ho
            have hWe : W = wr.drew := h.cw (RY.behind hc (n := 12) (j := 23) (by kernel_rfl) hi)
            subst hWe
            refine h.runIn (by kernel_rfl) (by kernel_rfl) rfl (fun _ => trivial) rfl hi hC' true (RY.wanted_of rfl rfl rfl (h.new 5 _ 19 rfl rfl (hall ⟨5, .guard⟩ (by simp) rfl))) (fun _ => ?_) (fun hg => by cases hg)
            exact ⟨.int .i64 (q : Nat), by simp [execOp, go_sem, et4], rfl⟩
          | 9, ho =>
            injection ho with ho; subst ho
            have hWe : W = wr.drew := h.cw (RY.behind hc (n := 12) (j := 23) (by kernel_rfl) hi)
            subst hWe
            refine h.runIn (by kernel_rfl) (by kernel_rfl) rfl (fun _ => trivial) rfl hi hC' true (RY.wanted_of rfl rfl rfl (h.new 5 _ 19 rfl rfl (hall ⟨5, .guard⟩ (by simp) rfl))) (fun _ => ?_) (fun hg => by cases hg)
            have e0 : a.tmps[21]?.getD undef = _ := (RY.ev_tmp a 21).trans (h.new 7 _ 21 rfl rfl (hall ⟨7, .data⟩ (by simp) rfl))
            have e1 : a.tmps[22]?.getD undef = _ := (RY.ev_tmp a 22).trans (h.new 8 _ 22 rfl rfl (hall ⟨8, .data⟩ (by simp) rfl))
            exact ⟨.pointer (some ⟨b, off + q * 7, none⟩), by simp [execOp, go_sem, e0, e1]; (try (first | omega | (intro hh; omega))), rfl⟩
          | 10, ho =>
            injection ho with ho; subst ho
            have hWe : W = wr.drew := h.cw (RY.behind hc (n := 12) (j := 23) (by kernel_rfl) hi)
            subst hWe
            refine h.runIn (by kernel_rfl) (by kernel_rfl) rfl (fun _ => trivial) rfl hi hC' true (RY.wanted_of rfl rfl rfl (h.new 5 _ 19 rfl rfl (hall ⟨5, .guard⟩ (by simp) rfl))) (fun _ => ?_) (fun hg => by cases hg)
            have e0 : a.tmps[23]?.getD undef = _ := (RY.ev_tmp a 23).trans (h.new 9 _ 23 rfl rfl (hall ⟨9, .data⟩ (by simp) rfl))
            exact ⟨.pointer (some ⟨b, off + q * 7, none⟩), by simp [execOp, go_sem, e0], rfl⟩
          | 11, ho =>
            injection ho with ho; subst ho
            have hWe : W = wr.drew := h.cw (RY.behind hc (n := 12) (j := 23) (by kernel_rfl) hi)
            subst hWe
            refine h.runIn (by kernel_rfl) (by kernel_rfl) rfl (fun _ => trivial) rfl hi hC' true (RY.wanted_of rfl rfl rfl (h.new 5 _ 19 rfl rfl (hall ⟨5, .guard⟩ (by simp) rfl))) (fun _ => ?_) (fun hg => by cases hg)
            have e0 : a.tmps[24]?.getD undef = _ := (RY.ev_tmp a 24).trans (h.new 10 _ 24 rfl rfl (hall ⟨10, .data⟩ (by simp) rfl))
            exact ⟨.string x.svc, by simp [execOp, go_sem, e0, z0], rfl⟩
          | 12, ho =>
            injection ho with ho; subst ho
            have hWe : W = wr.drew := h.cw (RY.behind hc (n := 12) (j := 23) (by kernel_rfl) hi)
            subst hWe
            refine h.runIn (by kernel_rfl) (by kernel_rfl) rfl (fun _ => trivial) rfl hi hC' true (RY.wanted_of rfl rfl rfl (h.new 5 _ 19 rfl rfl (hall ⟨5, .guard⟩ (by simp) rfl))) (fun _ => ?_) (fun hg => by cases hg)
            exact ⟨.string svc, by simp [execOp, go_sem, et2, ys], rfl⟩
          | 13, ho =>
            injection ho with ho; subst ho
            have hWe : W = wr.drew := h.cw (RY.behind hc (n := 12) (j := 23) (by kernel_rfl) hi)
            subst hWe
            refine h.runIn (by kernel_rfl) (by kernel_rfl) rfl (fun _ => trivial) rfl hi hC' true (RY.wanted_of rfl rfl rfl (h.new 5 _ 19 rfl rfl (hall ⟨5, .guard⟩ (by simp) rfl))) (fun _ => ?_) (fun hg => by cases hg)
            have e0 : a.tmps[25]?.getD undef = _ := (RY.ev_tmp a 25).trans (h.new 11 _ 25 rfl rfl (hall ⟨11, .data⟩ (by simp) rfl))
            have e1 : a.tmps[26]?.getD undef = _ := (RY.ev_tmp a 26).trans (h.new 12 _ 26 rfl rfl (hall ⟨12, .data⟩ (by simp) rfl))
            exact ⟨.bool true, by simp [execOp, go_sem, e0, e1, hsm], rfl⟩
          | 14, ho =>
            injection ho with ho; subst ho
            have hWe : W = wr.drew := h.cw (RY.behind hc (n := 12) (j := 23) (by kernel_rfl) hi)
            subst hWe
            refine h.runIn (by kernel_rfl) (by kernel_rfl) rfl (fun _ => trivial) rfl hi hC' true (RY.wanted_plain rfl) (fun _ => ?_) (fun hg => by cases hg)
            have e0 : a.tmps[19]?.getD undef = _ := (RY.ev_tmp a 19).trans (h.new 5 _ 19 rfl rfl (hall ⟨5, .data⟩ (by simp) rfl))
            have e1 : a.tmps[27]?.getD undef = _ := (RY.ev_tmp a 27).trans (h.new 13 _ 27 rfl rfl (hall ⟨13, .data⟩ (by simp) rfl))
            exact ⟨.bool true, by simp [execOp, go_sem, e0, e1], rfl⟩
          | 15, ho =>
            injection ho with ho; subst ho
            have hWe : W = wr.drew := h.cw (RY.behind hc (n := 12) (j := 23) (by kernel_rfl) hi)
            subst hWe
            refine h.runIn (by kernel_rfl) (by kernel_rfl) rfl (fun _ => trivial) rfl hi hC' true (RY.wanted_plain rfl) (fun _ => ?_) (fun hg => by cases hg)
            have e0 : a.tmps[28]?.getD undef = _ := (RY.ev_tmp a 28).trans (h.new 14 _ 28 rfl rfl (hall ⟨14, .data⟩ (by simp) rfl))
            exact ⟨.bool true, by simp [execOp, go_sem, e0], rfl⟩
          | 16, ho =>
            injection ho with ho; subst ho
            have hWe : W = wr.drew := h.cw (RY.behind hc (n := 12) (j := 23) (by kernel_rfl) hi)
            subst hWe
            refine h.runIn (by kernel_rfl) (by kernel_rfl) rfl (fun _ => trivial) rfl hi hC' true (RY.wanted_of rfl rfl rfl (h.new 15 _ 29 rfl rfl (hall ⟨15, .guard⟩ (by simp) rfl))) (fun _ => ?_) (fun hg => by cases hg)
            exact ⟨.func (.yield l) #[] #[], by simp [execOp, go_sem, et0], rfl⟩
          | 17, ho =>
            injection ho with ho; subst ho
            have hWe : W = wr.drew := h.cw (RY.behind hc (n := 12) (j := 23) (by kernel_rfl) hi)
            subst hWe
            refine h.runIn (by kernel_rfl) (by kernel_rfl) rfl (fun _ => trivial) rfl hi hC' true (RY.wanted_of rfl rfl rfl (h.new 15 _ 29 rfl rfl (hall ⟨15, .guard⟩ (by simp) rfl))) (fun _ => ?_) (fun hg => by cases hg)
            exact ⟨.int .i64 (q : Nat), by simp [execOp, go_sem, et4], rfl⟩
          | 18, ho =>
            injection ho with ho; subst ho
            have hWe : W = wr.drew := h.cw (RY.behind hc (n := 12) (j := 23) (by kernel_rfl) hi)
            subst hWe
            refine h.runIn (by kernel_rfl) (by kernel_rfl) rfl (fun _ => trivial) rfl hi hC' true (RY.wanted_of rfl rfl rfl (h.new 15 _ 29 rfl rfl (hall ⟨15, .guard⟩ (by simp) rfl))) (fun _ => ?_) (fun hg => by cases hg)
            exact ⟨.pointer (some ⟨bb, 2, none⟩), by simp [execOp, go_sem, et1], rfl⟩
          | 19, ho =>
            injection ho with ho; subst ho
            have hWe : W = wr.drew := h.cw (RY.behind hc (n := 12) (j := 23) (by kernel_rfl) hi)
            subst hWe
            refine h.runIn (by kernel_rfl) (by kernel_rfl) rfl (fun _ => trivial) rfl hi hC' true (RY.wanted_of rfl rfl rfl (h.new 15 _ 29 rfl rfl (hall ⟨15, .guard⟩ (by simp) rfl))) (fun _ => ?_) (fun hg => by cases hg)
            have e0 : a.tmps[32]?.getD undef = _ := (RY.ev_tmp a 32).trans (h.new 18 _ 32 rfl rfl (hall ⟨18, .data⟩ (by simp) rfl))
            exact ⟨.slice (some ⟨b, off, none⟩) K.cps.length c1, by simp [execOp, go_sem, e0, y2], rfl⟩
          | 20, ho =>
            injection ho with ho; subst ho
            have hWe : W = wr.drew := h.cw (RY.behind hc (n := 12) (j := 23) (by kernel_rfl) hi)
            subst hWe
            refine h.runIn (by kernel_rfl) (by kernel_rfl) rfl (fun _ => trivial) rfl hi hC' true (RY.wanted_of rfl rfl rfl (h.new 15 _ 29 rfl rfl (hall ⟨15, .guard⟩ (by simp) rfl))) (fun _ => ?_) (fun hg => by cases hg)
            exact ⟨.int .i64 (q : Nat), by simp [execOp, go_sem, et4], rfl⟩
          | 21, ho =>
            injection ho with ho; subst ho
            have hWe : W = wr.drew := h.cw (RY.behind hc (n := 12) (j := 23) (by kernel_rfl) hi)
            subst hWe
            refine h.runIn (by kernel_rfl) (by kernel_rfl) rfl (fun _ => trivial) rfl hi hC' true (RY.wanted_of rfl rfl rfl (h.new 15 _ 29 rfl rfl (hall ⟨15, .guard⟩ (by simp) rfl))) (fun _ => ?_) (fun hg => by cases hg)
            have e0 : a.tmps[33]?.getD undef = _ := (RY.ev_tmp a 33).trans (h.new 19 _ 33 rfl rfl (hall ⟨19, .data⟩ (by simp) rfl))
            have e1 : a.tmps[34]?.getD undef = _ := (RY.ev_tmp a 34).trans (h.new 20 _ 34 rfl rfl (hall ⟨20, .data⟩ (by simp) rfl))
            exact ⟨.pointer (some ⟨b, off + q * 7, none⟩), by simp [execOp, go_sem, e0, e1]; (try (first | omega | (intro hh; omega))), rfl⟩
          | 22, ho =>
            injection ho with ho; subst ho
            have hWe : W = wr.drew := h.cw (RY.behind hc (n := 12) (j := 23) (by kernel_rfl) hi)
            subst hWe
            refine h.runIn (by kernel_rfl) (by kernel_rfl) rfl (fun _ => trivial) rfl hi hC' true (RY.wanted_of rfl rfl rfl (h.new 15 _ 29 rfl rfl (hall ⟨15, .guard⟩ (by simp) rfl))) (fun _ => ?_) (fun hg => by cases hg)
            have e0 : a.tmps[35]?.getD undef = _ := (RY.ev_tmp a 35).trans (h.new 21 _ 35 rfl rfl (hall ⟨21, .data⟩ (by simp) rfl))
            exact ⟨.agg #[.string x.svc, .int .i64 x.num, .int .i64 x.ver, .int .i64 x.image, .int .i64 x.state, .bool x.ending, .string x.berth], by simp [execOp, go_sem, e0, z0, z1, z2, z3, z4, z5, z6], rfl⟩
          | 23, ho =>
            injection ho with ho; subst ho
            have hWe : W = wr.drew := h.cw (RY.behind hc (n := 0) (j := 23) (by kernel_rfl) hi)
            have hn2 := RY.behind hc (n := 1) (j := 24) (by kernel_rfl) hi
            have hn0 := RY.behind hc (n := 0) (j := 23) (by kernel_rfl) hi
            subst hWe
            obtain ⟨fn, tmps, assign, body, hy, hRd⟩ := HY.out (List.range' p m) q wr.drew (abides_below HJ.out.1 HJ2.out ⟨rfl, rfl, rfl, Nat.le_refl _, fun _ _ => rfl⟩) (by rw [List.length_range']; have := HQ.out; omega)
            try dsimp only at hy
            rw [← HXX.out] at hy
            have e0 : a.tmps[30]?.getD undef = _ := (RY.ev_tmp a 30).trans (h.new 16 _ 30 rfl rfl (hall ⟨16, .data⟩ (by simp) rfl))
            have e1 : a.tmps[31]?.getD undef = _ := (RY.ev_tmp a 31).trans (h.new 17 _ 31 rfl rfl (hall ⟨17, .data⟩ (by simp) rfl))
            have e2 : a.tmps[36]?.getD undef = _ := (RY.ev_tmp a 36).trans (h.new 22 _ 36 rfl rfl (hall ⟨22, .data⟩ (by simp) rfl))
            refine h.roundIn (by kernel_rfl) (by kernel_rfl) rfl (fun _ => trivial) rfl rfl hi (RY.wanted_of rfl rfl rfl (h.new 15 _ 29 rfl rfl (hall ⟨15, .guard⟩ (by simp) rfl))) (by simp [execOp, go_sem, e0, e1, e2, hy]) hRd ?_
            intro e W' he
            have hmn : ∀ j u, L.getD j false = true → VIt l bb b off K.cps.length c1 q svc x R j u wr.drew → VIt l bb b off K.cps.length c1 q svc x R j u W' := by
              intro j u hj hu
              refine VIt_mono ?_ ?_ hu <;> (rintro rfl; simp_all)
            rcases he with ⟨rfl, he1, he2⟩ | ⟨rfl, he1⟩
            · exact ⟨_, rfl, fun hh => (by rw [RY.set_here hi] at hh; cases hh), hmn, ⟨true, rfl, (by rw [HRD.out]; exact Or.inl ⟨rfl, he1, he2⟩)⟩⟩
            · exact ⟨_, rfl, fun hh => (by rw [RY.set_here hi] at hh; cases hh), hmn, ⟨false, rfl, (by rw [HRD.out]; exact Or.inr ⟨rfl, he1⟩)⟩⟩
          | 24, ho =>
            injection ho with ho; subst ho
            refine h.runIn (by kernel_rfl) (by kernel_rfl) rfl (fun _ => trivial) rfl hi hC' true (RY.wanted_plain rfl) (fun _ => ?_) (fun hg => by cases hg)
            have e0 : a.tmps[29]?.getD undef = _ := (RY.ev_tmp a 29).trans (h.new 15 _ 29 rfl rfl (hall ⟨15, .data⟩ (by simp) rfl))
            obtain ⟨c, e1, hr⟩ := h.new 23 _ 37 rfl rfl (hall ⟨23, .data⟩ (by simp) rfl)
            have e1 := (RY.ev_tmp a 37).trans e1
            exact ⟨.bool c, by simp [execOp, go_sem, e0, e1], c, rfl, hr⟩
          | n + 25, ho => simp at ho
        · intro L w9 vals hup hC9 hv9
          have v24 : VIt l bb b off K.cps.length c1 q svc x R 24 (vals 38) w9 := hv9 24 _ 38 rfl rfl
          clear hv9
          simp only [RY.putAll, Act.put, List.setIfInBounds_toArray, List.set_cons_zero, List.set_cons_succ]
          obtain ⟨c, ev, hr⟩ := v24
          rw [ev]
          generalize vals 14 = s14
          generalize vals 15 = s15
          generalize vals 16 = s16
          generalize vals 17 = s17
          generalize vals 18 = s18
          generalize vals 19 = s19
          generalize vals 20 = s20
          generalize vals 21 = s21
          generalize vals 22 = s22
          generalize vals 23 = s23
          generalize vals 24 = s24
          generalize vals 25 = s25
          generalize vals 26 = s26
          generalize vals 27 = s27
          generalize vals 28 = s28
          generalize vals 29 = s29
          generalize vals 30 = s30
          generalize vals 31 = s31
          generalize vals 32 = s32
          generalize vals 33 = s33
          generalize vals 34 = s34
          generalize vals 35 = s35
          generalize vals 36 = s36
          generalize vals 37 = s37
          rw [HRD.out] at hr
          clear ev hC9 hup z0 z1 z2 z3 z4 z5 z6 yz y0 y1 y2 y3 ys ysl hbl
          rcases hr with ⟨rfl, hj9, hk9⟩ | ⟨rfl, hj9⟩
          · have HJN : Hid (J (List.range' p (m + 1)) w9) := by show J _ _; rw [← range_snoc, ← HQ.out]; exact hj9
            have HIN := hid ((HI2.out.later (B := wr.drew) ⟨rfl, rfl, rfl, Nat.le_refl _, fun _ _ => rfl⟩).keep hk9 HP.out.1 HP.out.2.1 HP.out.2.2)
            clear hj9 hk9
            go_wp2
            go_roundw
            case rel => exact ⟨m + 1, HE.out, by rw [HQ.out]; go_num, HIN.out, HJN.out⟩
            case measure => simp [intOf]; omega
          · have HJN : Hid (Jx (List.range' p (m + 1)) w9) := by show Jx _ _; rw [← range_snoc, ← HQ.out]; exact hj9
            clear hj9
            go_wp2
            go_end0
            exact ⟨⟨_, rfl⟩, .inr ⟨_, by rw [HR.out]; exact range_pre _ _ _ HE.out, HJN.out⟩⟩
    · have HE : Hid (m = M) := by
        show m = M
        have h1 := HM.out.2.1
        have h2 := HQ.out
        omega
      clear yz y0 y1 y2 y3 ys ysl hq
      go_upto_region 1 with fail
      refine region_class wr (Below.refl _ _) (by kernel_rfl) (by kernel_rfl) ?_
      repeat (first
        | go_big_quiet_skip
        | (go_big_quiet_want; go_big_quiet_op; go_big_quiet_on))
      refine wpQuiet_nil ?_
      intro _ hw'
      obtain ⟨x6, hw''⟩ := hw'
      subst hw''
      have HJ3 := hid (abides_below HJ.out.1 HJ2.out x6.ok)
      clear YZ Y2 YS YL
      go_wp2
      go_end0
      exact ⟨⟨_, rfl⟩, .inl ⟨_, by rw [HR.out], by rw [← HE.out]; exact HJ3.out⟩⟩

end Go.Proofs.Ytamhfnlogldpaaa
