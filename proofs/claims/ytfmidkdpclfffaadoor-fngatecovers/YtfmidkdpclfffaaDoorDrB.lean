/-
  Draws: rules, acts, verbs.
-/
import Derived.Test.YtfmidkdpclfffaaDoorDrA
import Derived.Test.YtfmidkdpclfffaaDoorWalkSC
namespace Go.Proofs.YtfmidkdpclfffaaDoor
open Go.RowKit Go.Deep

/-- What a draw leaves: all but R is as it was, the reader went at most k on. -/
def Dr (R : Nat) (v : Value) (len p k : Nat) (W W' : World) : Prop := Fr R W W' ∧ ∃ p', p' ≤ p + k ∧ Rd W' R v len p'

theorem TxIn.new (W : World) (l : List ByteArray) (cs : Array Value) (t : TypeId) (h : cs = (l.map Value.string).toArray) : TxIn (W.alloc (.cells cs t)) W.heap.size l := by
  subst h
  refine ⟨by simp, fun i hi => ?_⟩
  rw [World.cell?_alloc_at _ _ _ _ rfl]
  simp [hi]

def strOf : Value → ByteArray | .string s => s | _ => ByteArray.empty

theorem of_lit (R : Nat) (v : Value) (len p : Nat) (W : World) (h : Rd W R v len p) (hp : p ≤ 1000000) (cs : List Value) (n : Nat) (hn : cs.length = n) (hcs : cs = (cs.map strOf).map Value.string) (h1 : 1 ≤ n) (h2 : n ≤ 1000) (K : Nat) (hz : ∀ s ∈ cs.map strOf, s.size ≤ K) :
    Calls Tryd.prog 37 #[.pointer (some ⟨R, 0, none⟩), .slice (some ⟨W.heap.size, 0, none⟩) n n] (W.alloc (.cells cs.toArray 9)) fun e W' => (∃ s : ByteArray, e = .returned (.string s) ∧ s.size ≤ K) ∧ Fr R W W' ∧ Rd W' R v len (p + 1) := by
  have hlt := h.own.lt
  have hb : Below W.heap.size W (W.alloc (.cells cs.toArray 9)) := blw_alloc (Below.refl _ _) _
  have hl : (cs.map strOf).length = n := by simpa using hn
  have hT : TxIn (W.alloc (.cells cs.toArray 9)) W.heap.size (cs.map strOf) := TxIn.new W _ _ 9 (by rw [← hcs])
  have := of_any R v len p (cs.map strOf) W.heap.size n _ (h.later hb) hp hT hlt (by omega) (by omega)
  rw [hl] at this
  refine this.mono ?_
  rintro e W' ⟨⟨i, hi, rfl⟩, hF, hR⟩
  refine ⟨⟨_, rfl, hz _ ?_⟩, (Fr.of_below hb hlt).trans hF, hR⟩
  rw [List.getD_eq_getElem?_getD, List.getElem?_eq_getElem (by omega)]
  exact List.getElem_mem _

set_option maxRecDepth 8000 in
set_option maxHeartbeats 4000000 in
theorem drawTeam_any (R : Nat) (v : Value) (len p : Nat) (W : World) (h : Rd W R v len p) (hp : p ≤ 1000000) :
    Calls Tryd.prog 57 #[.pointer (some ⟨R, 0, none⟩)] W fun e W' => (∃ s : ByteArray, e = .returned (.string s) ∧ s.size ≤ maxLen) ∧ Dr R v len p 1 W W' := by
  have HR : Hid (Rd W R v len p) := h
  have hlt := h.own.lt
  clear h
  go_enter Tryd.func57, Tryd.ntmps57
  go_wp2_with fail
  refine (of_lit R v len p W HR.out hp _ 8 rfl rfl (by omega) (by omega) maxLen (by decide)).mono ?_
  rintro e W1 ⟨⟨s, rfl, hs⟩, hF, hR⟩
  have HD : Hid (Dr R v len p 1 W W1) := ⟨hF, _, Nat.le_refl _, hR⟩
  clear hF hR hlt HR
  go_wp2
  go_ret
  exact ⟨⟨s, rfl, hs⟩, HD.out⟩

theorem own_fr {R : Nat} {W W' : World} {B : Nat} {t : TypeId} {m : Nat} (h : OwnBlk W B t m) (hF : Fr R W W') (hR : R < B) : OwnBlk W' B t m := by
  have hl := h.lt
  obtain ⟨cs, h1, h2⟩ := h
  exact ⟨cs, (hF.blk B hR hl).trans h1, h2⟩
theorem owns_fr {R : Nat} {W W' : World} {lo : Nat} {e : TypeId} {size : Nat} {v : Value} {n : Nat} {xs : List Value} (h : W.ownsRow lo e size v n xs) (hF : Fr R W W') (hR : R < lo) : W'.ownsRow lo e size v n xs := by
  refine ⟨h.1, ?_⟩
  rcases h.2 with h | ⟨g, cap, cur, h1, h2, h3, h4⟩
  · exact Or.inl h
  · have hl : g < W.heap.size := (Array.getElem?_eq_some_iff.1 h3).1
    exact Or.inr ⟨g, cap, cur, h1, h2, (hF.blk g (by omega) hl).trans h3, h4⟩
theorem Fr.sc {R : Nat} {W W' : World} (h : Fr R W W') {B : Nat} (hB : W.heap.size ≤ B) (hR : R ≤ B) (o : Nat) (u : Value) : Fr R W (W'.setCell ⟨B, o, none⟩ u) :=
  ⟨h.bel.setCell (p := ⟨B, o, none⟩) hR u, fun k h1 h2 => (Below.heap_setCell _ _ _ _ (by show k ≠ B; omega)).trans (h.blk k h1 h2)⟩
theorem Rd.sc {W : World} {R : Nat} {v : Value} {n p : Nat} (h : Rd W R v n p) {B : Nat} (hB : R < B) (o : Nat) (u : Value) : Rd (W.setCell ⟨B, o, none⟩ u) R v n p := by
  refine ⟨h.own.sc_other (by omega) o u, (sc_ne _ _ _ _ _ _ (Or.inl (by omega))).trans h.c0, (sc_ne _ _ _ _ _ _ (Or.inl (by omega))).trans h.c1, h.len, ?_⟩
  rcases h.code with hq | ⟨b, off, cap, rfl, hb, hx⟩
  · exact Or.inl hq
  · refine Or.inr ⟨b, off, cap, rfl, hb, fun i hi => ?_⟩
    obtain ⟨x, h0, h1, hc⟩ := hx i hi
    exact ⟨x, h0, h1, (sc_ne _ _ _ _ _ _ (Or.inl (by omega))).trans hc⟩
theorem Rd.below {W W' : World} {R : Nat} {v : Value} {n p : Nat} (h : Rd W R v n p) (hb : Below (R + 1) W W') : Rd W' R v n p := by
  have hc : ∀ b j, b ≤ R → W'.cell? ⟨b, j, none⟩ = W.cell? ⟨b, j, none⟩ := fun b j hb' => by simp only [World.cell?]; rw [hb.block b (by omega)]
  obtain ⟨cs, h1, h2⟩ := h.own
  refine ⟨⟨cs, (hb.block R (by omega)).trans h1, h2⟩, (hc _ _ (Nat.le_refl _)).trans h.c0, (hc _ _ (Nat.le_refl _)).trans h.c1, h.len, ?_⟩
  rcases h.code with hq | ⟨b, off, cap, rfl, hb2, hx⟩
  · exact Or.inl hq
  · refine Or.inr ⟨b, off, cap, rfl, hb2, fun i hi => ?_⟩
    obtain ⟨x, h0, h1, hc'⟩ := hx i hi
    exact ⟨x, h0, h1, (hc _ _ (by omega)).trans hc'⟩
theorem Fr.grown {R : Nat} {W w1 w5 : World} {row : Option Nat} (h : Fr R W w1) (hg : w1.grownBy w5 row) (hR : R < w1.heap.size) (hr : ∀ k, row = some k → W.heap.size ≤ k ∧ R < k) : Fr R W w5 :=
  ⟨Below.grown h.bel hg (by omega) (fun k e => by have := hr k e; omega), fun k h1 h2 => (hg.block k (Nat.lt_of_lt_of_le h2 h.bel.size) (fun e => by have := hr k e.symm; omega)).trans (h.blk k h1 h2)⟩
theorem Rd.grown {W w5 : World} {R : Nat} {v : Value} {n p : Nat} {row : Option Nat} (h : Rd W R v n p) (hg : W.grownBy w5 row) (hr : ∀ k, row = some k → R < k) : Rd w5 R v n p :=
  h.below (Below.grown (Below.refl _ _) hg (by have := h.own.lt; omega) (fun k e => hr k e))

theorem Dr.four {R : Nat} {v : Value} {len p k : Nat} {W W' : World} (h : Dr R v len p k W W') {B : Nat} (hB : W.heap.size ≤ B) (hR : R < B) (v0 v1 v2 v3 : Value) :
    Dr R v len p k W ((((W'.setCell ⟨B, 0, none⟩ v0).setCell ⟨B, 1, none⟩ v1).setCell ⟨B, 2, none⟩ v2).setCell ⟨B, 3, none⟩ v3) := by
  obtain ⟨hF, p', hp, hR'⟩ := h
  exact ⟨(((hF.sc hB (by omega) _ _).sc hB (by omega) _ _).sc hB (by omega) _ _).sc hB (by omega) _ _, p', hp, (((hR'.sc hR _ _).sc hR _ _).sc hR _ _).sc hR _ _⟩
theorem four_at {W : World} {P : Nat} {t : TypeId} (h : OwnBlk W P t 4) (v0 v1 v2 v3 : Value) :
    ((((W.setCell ⟨P, 0, none⟩ v0).setCell ⟨P, 1, none⟩ v1).setCell ⟨P, 2, none⟩ v2).setCell ⟨P, 3, none⟩ v3).cell? ⟨P, 0, none⟩ = some v0 ∧
    ((((W.setCell ⟨P, 0, none⟩ v0).setCell ⟨P, 1, none⟩ v1).setCell ⟨P, 2, none⟩ v2).setCell ⟨P, 3, none⟩ v3).cell? ⟨P, 1, none⟩ = some v1 ∧
    ((((W.setCell ⟨P, 0, none⟩ v0).setCell ⟨P, 1, none⟩ v1).setCell ⟨P, 2, none⟩ v2).setCell ⟨P, 3, none⟩ v3).cell? ⟨P, 2, none⟩ = some v2 ∧
    ((((W.setCell ⟨P, 0, none⟩ v0).setCell ⟨P, 1, none⟩ v1).setCell ⟨P, 2, none⟩ v2).setCell ⟨P, 3, none⟩ v3).cell? ⟨P, 3, none⟩ = some v3 := by
  have c := fun i hi => puts_at 0 [v0, v1, v2, v3] W 0 h (by simp) i hi
  exact ⟨c 0 (by simp), c 1 (by simp), c 2 (by simp), c 3 (by simp)⟩

set_option maxRecDepth 8000 in
set_option maxHeartbeats 4000000 in
theorem drawAct_any (R : Nat) (v : Value) (len p : Nat) (W : World) (h : Rd W R v len p) (hp : p ≤ 900000) :
    Calls Tryd.prog 33 #[.pointer (some ⟨R, 0, none⟩)] W fun e W' => (∃ (x : Int) (s1 s2 s3 : ByteArray), e = .returned (.agg #[.int .i64 x, .string s1, .string s2, .string s3]) ∧ s1.size ≤ maxLen ∧ s2.size ≤ maxLen ∧ s3.size ≤ maxLen) ∧ Dr R v len p 4 W W' := by
  obtain ⟨Wa, hWa⟩ : ∃ Wa, Wa = W.alloc (.cells #[.int .i64 0, .string ⟨#[]⟩, .string ⟨#[]⟩, .string ⟨#[]⟩] 32) := ⟨_, rfl⟩
  obtain ⟨B, hB⟩ : ∃ B, B = W.heap.size := ⟨_, rfl⟩
  have hba : Below W.heap.size W Wa := by rw [hWa]; exact blw_alloc (Below.refl _ _) _
  have H0 : Hid (Fr R W Wa ∧ Rd Wa R v len p ∧ OwnBlk Wa B 32 4 ∧ R < B ∧ W.heap.size ≤ B) := ⟨Fr.of_below hba h.own.lt, h.later hba, by rw [hWa, hB]; exact OwnBlk.alloc _ _ _ _ rfl, by rw [hB]; exact h.own.lt, by omega⟩
  clear h hba
  go_enter Tryd.func33, Tryd.ntmps33
  go_upto_region 1 with fail
  rw [← hWa, ← hB]
  clear hWa hB
  go_wp2_with fail
  refine (pick_any R v len p 8 Wa H0.out.2.1 (by omega) (by omega)).mono ?_
  rintro e W1 ⟨⟨x, rfl, hx⟩, hF, hR⟩
  have x0 := hx.1
  have x1 := hx.2.1 (by omega)
  have H1 : Hid (Fr R W W1 ∧ Rd W1 R v len (p + 1) ∧ OwnBlk W1 B 32 4 ∧ R < B ∧ W.heap.size ≤ B) := ⟨H0.out.1.trans hF, hR, own_fr H0.out.2.2.1 hF H0.out.2.2.2.1, H0.out.2.2.2⟩
  clear hx hF hR H0
  go_wp2_with fail
  refine (of_lit R v len (p + 1) W1 H1.out.2.1 (by omega) _ 5 rfl rfl (by omega) (by omega) maxLen (by decide)).mono ?_
  rintro e W2 ⟨⟨s1, rfl, hs1⟩, hF, hR⟩
  have H2 : Hid (Fr R W W2 ∧ Rd W2 R v len (p + 1 + 1) ∧ OwnBlk W2 B 32 4 ∧ R < B ∧ W.heap.size ≤ B) := ⟨H1.out.1.trans hF, hR, own_fr H1.out.2.2.1 hF H1.out.2.2.2.1, H1.out.2.2.2⟩
  clear hF hR H1
  go_wp2_with fail
  refine (drawTeam_any R v len (p + 1 + 1) W2 H2.out.2.1 (by omega)).mono ?_
  rintro e W3 ⟨⟨s2, rfl, hs2⟩, hF, p3, hp3, hR⟩
  have H3 : Hid (Fr R W W3 ∧ Rd W3 R v len p3 ∧ OwnBlk W3 B 32 4 ∧ R < B ∧ W.heap.size ≤ B) := ⟨H2.out.1.trans hF, hR, own_fr H2.out.2.2.1 hF H2.out.2.2.2.1, H2.out.2.2.2⟩
  clear hF hR H2
  go_wp2_with fail
  refine (of_lit R v len p3 W3 H3.out.2.1 (by omega) _ 6 rfl rfl (by omega) (by omega) maxLen (by decide)).mono ?_
  rintro e W4 ⟨⟨s3, rfl, hs3⟩, hF, hR⟩
  have H4 : Hid (Dr R v len p 4 W W4 ∧ OwnBlk W4 B 32 4 ∧ R < B ∧ W.heap.size ≤ B) := ⟨⟨H3.out.1.trans hF, _, by omega, hR⟩, own_fr H3.out.2.2.1 hF H3.out.2.2.2.1, H3.out.2.2.2⟩
  clear hF hR H3
  have hfz := H4.out.2.1.frozen
  have hz := H4.out.2.1.lt
  obtain ⟨z0, y0⟩ := H4.out.2.1.cell 0 (by omega)
  obtain ⟨z1, y1⟩ := H4.out.2.1.cell 1 (by omega)
  obtain ⟨z2, y2⟩ := H4.out.2.1.cell 2 (by omega)
  obtain ⟨z3, y3⟩ := H4.out.2.1.cell 3 (by omega)
  go_wp2
  obtain ⟨r0, r1, r2, r3⟩ := four_at H4.out.2.1 (.int .i64 (x - 1)) (.string s1) (.string s2) (.string s3)
  refine bodyPost_ret (v := .agg #[.int .i64 (x - 1), .string s1, .string s2, .string s3]) (by simp only [results, Tryd.results33]; simp [go_sem, r0, r1, r2, r3]) rfl ⟨⟨_, s1, s2, s3, rfl, hs1, hs2, hs3⟩, ?_⟩
  exact H4.out.1.four H4.out.2.2.2 H4.out.2.2.1 _ _ _ _

theorem Tryd.info3 : (Tryd.prog.info? 3).map (fun i => (i.zero, i.size, i.bytes)) = some (some (.int .i64 0), 1, 8) := by kernel_rfl

/-- Numbers in a slice of the call's own, behind lo. -/
def IntsO (W : World) (lo : Nat) (v : Value) (L : List Int) : Prop := W.ownsRow lo 3 1 v L.length (L.map (Value.int .i64))

theorem IntsO.at_ {W : World} {lo : Nat} {a : Option Addr} {n c : Nat} {L : List Int} (h : IntsO W lo (.slice a n c) L) (hl : L.length ≤ 1048576) (hne : a ≠ none) : ∃ b, a = some ⟨b, 0, none⟩ ∧ n = L.length ∧ lo ≤ b ∧ IntsIn W b L := by
  have hcs : ∀ g, (Value.slice a n c).ownBlock = some g → ∀ j u, (L.map (Value.int .i64))[j]? = some u → W.cell? ((⟨g, 0, none⟩ : Addr).add j) = some u := fun g hg => World.ownsRow.cells h hg
  rcases h.2 with ⟨e, _⟩ | ⟨g, cap, cur, e, hg0, hg, _⟩
  · injection e with e1; exact absurd e1 hne
  · injection e with e1 e2 e3
    subst e1 e2 e3
    refine ⟨g, rfl, rfl, hg0, (Array.getElem?_eq_some_iff.1 hg).1, hl, fun i hi => ?_⟩
    have := hcs g rfl i (.int .i64 (L.getD i 0)) (by simp [hi])
    rw [Addr.add_lit, Nat.zero_add] at this
    exact this

set_option maxRecDepth 8000 in
set_option maxHeartbeats 4000000 in
theorem drawVerbs_any (R : Nat) (v : Value) (len p : Nat) (W : World) (h : Rd W R v len p) (hp : p ≤ 900000) :
    Calls Tryd.prog 59 #[.pointer (some ⟨R, 0, none⟩)] W fun e W' => (∃ (b c : Nat) (L : List Int), e = .returned (.slice (some ⟨b, 0, none⟩) L.length c) ∧ IntsIn W' b L ∧ W.heap.size ≤ b ∧ L.length ≤ 5) ∧ Dr R v len p 6 W W' := by
  obtain ⟨i0, hi, hz0, hz1, hz2⟩ := info_parts Tryd.info3
  have hlt := h.own.lt
  obtain ⟨Wa, hWa⟩ : ∃ Wa, Wa = W.alloc (.cells #[] 3) := ⟨_, rfl⟩
  obtain ⟨lo, hlo⟩ : ∃ lo, lo = W.heap.size := ⟨_, rfl⟩
  have hba : Below W.heap.size W Wa := by rw [hWa]; exact blw_alloc (Below.refl _ _) _
  have H0 : Hid (Fr R W Wa ∧ Rd Wa R v len p ∧ IntsO Wa lo (.slice (some ⟨lo, 0, none⟩) 0 0) [] ∧ R < lo ∧ W.heap.size ≤ lo ∧ lo ≤ Wa.heap.size) := by
    refine ⟨Fr.of_below hba h.own.lt, h.later hba, ⟨rfl, Or.inr ⟨lo, 0, #[], rfl, Nat.le_refl _, ?_, Nat.le_refl _, by decide, rfl, rfl⟩⟩, by rw [hlo]; exact hlt, by omega, by rw [hlo]; exact hba.size⟩
    rw [hWa, hlo]
    show (W.heap.push _)[W.heap.size]? = _
    simp
  clear h hba
  go_enter Tryd.func59, Tryd.ntmps59
  go_upto_region 2 with fail
  rw [← hWa, ← hlo]
  clear hWa hlo hlt
  go_wp2
  go_loopw [3, 4] (fun s i wr => ∃ (k q : Nat) (b c : Nat) (L : List Int), 1 ≤ k ∧ k ≤ 6 ∧ i = .int .i64 k ∧ s = .slice (some ⟨b, 0, none⟩) L.length c ∧ IntsO wr lo s L ∧ L.length < k ∧ Fr R W wr ∧ Rd wr R v len q ∧ q < p + k ∧ lo ≤ wr.heap.size) (fun _ i _ => 6 - (intOf i).toNat)
  case atStart => exact ⟨1, p, lo, 0, [], by omega, by omega, rfl, rfl, H0.out.2.2.1, by simp, H0.out.1, H0.out.2.1, by omega, H0.out.2.2.2.2.2⟩
  case round =>
    obtain ⟨k, q, b, c, L, hk1, hk6, rfl, rfl, hO, hL, hF, hR, hq, hls⟩ := hrel
    have HQ : Hid (IntsO wr lo (.slice (some ⟨b, 0, none⟩) L.length c) L ∧ Fr R W wr ∧ Rd wr R v len q ∧ R < lo ∧ W.heap.size ≤ lo ∧ lo ≤ wr.heap.size) := ⟨hO, hF, hR, H0.out.2.2.2.1, H0.out.2.2.2.2.1, hls⟩
    clear hO hF hR hls
    by_cases hlt : k ≤ 5
    · have hlt' : ((k : Int) ≤ 5) := by omega
      go_wp2_with fail
      refine (pick_any R v len q 2 wr HQ.out.2.2.1 (by omega) (by omega)).mono ?_
      rintro e w1 ⟨⟨r, rfl, hr⟩, hF, hR⟩
      have r0 := hr.1
      have r1 := hr.2.1 (by omega)
      have H1 : Hid (IntsO w1 lo (.slice (some ⟨b, 0, none⟩) L.length c) L ∧ Fr R W w1 ∧ Rd w1 R v len (q + 1) ∧ R < lo ∧ W.heap.size ≤ lo ∧ lo ≤ w1.heap.size) := ⟨owns_fr HQ.out.1 hF HQ.out.2.2.2.1, HQ.out.2.1.trans hF, hR, HQ.out.2.2.2.1, HQ.out.2.2.2.2.1, Nat.le_trans HQ.out.2.2.2.2.2 hF.bel.size⟩
      clear hr hF hR HQ
      by_cases hr0 : r = 0
      · subst hr0
        go_wp2_with (at_builtin; refine wpList_append_own _ rfl _ _ 25 rfl lo 3 i0 (.int .i64 0) 1 8 Tryd.underlying25 hi hz0 hz1 hz2 rfl (by decide) (.slice (some ⟨b, 0, none⟩) L.length c) L.length (L.map (Value.int .i64)) rfl ?c0 ⟨w1.heap.size, 0, none⟩ 1 1 [.int .i64 (k : Nat)] rfl ?c1 ?c2 ?c3 ?c4 ?c5 ?c6 ?_)
        case c0 => exact owns_later H1.out.1 (blw_alloc (Below.refl _ _) _)
        case c1 => rfl
        case c2 =>
          intro j u hj
          match j, hj with
          | 0, hj => simp at hj; subst hj; simp [Addr.add]
          | k + 1, hj => simp at hj
        case c3 => intro u hu; simp at hu; rcases hu with rfl; rfl
        case c4 => unfold maxLen; omega
        case c5 => omega
        case c6 => have hs := H1.out.2.2.2.2.2; simp; omega
        intro v' w5 hown hgrow hnn
        rcases hown.2 with ⟨e, _⟩ | ⟨g, cap, cur, rfl, hg0, hg1, hg2⟩
        · exact absurd e hnn
        have hbt : Below w1.heap.size w1 (w1.alloc (.cells #[.int .i64 (k : Nat)] 3)) := blw_alloc (Below.refl _ _) _
        have hrow : ∀ x, (Value.slice (some ⟨b, 0, none⟩) L.length c).ownBlock = some x → lo ≤ x := fun x hx => (World.ownsRow.lt H1.out.1 x hx).1
        have HN : Hid (IntsO w5 lo (.slice (some ⟨g, 0, none⟩) (L.length + 1) cap) (L ++ [(k : Int)]) ∧ Fr R W w5 ∧ Rd w5 R v len (q + 1) ∧ lo ≤ w5.heap.size) := by
          obtain ⟨e1, e2, e3, e4, e5, e6⟩ := H1.out
          refine ⟨?_, (e2.trans (Fr.of_below hbt e3.own.lt)).grown hgrow (by have := e3.own.lt; have := hbt.size; omega) (fun x hx => by have := hrow x hx; omega), (e3.later hbt).grown hgrow (fun x hx => by have := hrow x hx; omega), Nat.le_trans e6 (Nat.le_trans hbt.size hgrow.size)⟩
          unfold IntsO
          rw [List.length_append, List.map_append]
          exact hown
        clear hown hgrow hbt H1 hg0 hg1 hg2 hrow hnn
        go_wp2
        go_roundw
        case rel => exact ⟨k + 1, q + 1, g, cap, L ++ [(k : Int)], by omega, by omega, by go_num, by simp, HN.out.1, by simp; omega, HN.out.2.1, HN.out.2.2.1, by omega, HN.out.2.2.2⟩
        case measure => simp [intOf]; omega
      · have hr' : (r == 0) = false := beq_eq_false_iff_ne.2 hr0
        go_wp2
        go_roundw
        case rel => exact ⟨k + 1, q + 1, b, c, L, by omega, by omega, by go_num, rfl, H1.out.1, by omega, H1.out.2.1, H1.out.2.2.1, by omega, H1.out.2.2.2.2.2⟩
        case measure => simp [intOf]; omega
    · have hlt' : ¬ ((k : Int) ≤ 5) := by omega
      obtain ⟨b', hb', _, hb0, hin⟩ := IntsO.at_ HQ.out.1 (by omega) (by simp)
      injection hb' with hb'
      injection hb' with hb'
      subst hb'
      have HI : Hid (IntsIn wr b L ∧ W.heap.size ≤ b ∧ L.length ≤ 5 ∧ Dr R v len p 5 W wr) := ⟨hin, by have := HQ.out.2.2.2.2.1; omega, by omega, HQ.out.2.1, q, by omega, HQ.out.2.2.1⟩
      clear hin hb0
      by_cases hL0 : L.length = 0
      · have hL0' : ((L.length : Nat) : Int) = 0 := by omega
        go_wp2_with fail
        obtain ⟨hF0, q2, hq2, hR2⟩ := HI.out.2.2.2
        refine (pick_any R v len q2 5 wr hR2 (by omega) (by omega)).mono ?_
        rintro e w1 ⟨⟨r, rfl, hr⟩, hF, hR⟩
        have r0 := hr.1
        have r1 := hr.2.1 (by omega)
        have hlt1 := hR.own.lt
        have HD : Hid (Dr R v len p 6 W w1 ∧ R < w1.heap.size ∧ W.heap.size ≤ w1.heap.size) := ⟨⟨hF0.trans hF, _, by omega, hR⟩, hlt1, (hF0.trans hF).bel.size⟩
        clear hr hF hR hF0 hR2 HI HQ hlt1
        go_wp2
        go_ret
        refine ⟨⟨w1.heap.size, 1, [1 + r], rfl, ⟨by simp, by simp, fun i hi => ?_⟩, HD.out.2.2, by simp⟩, ?_⟩
        · obtain rfl : i = 0 := by simpa using hi
          simp
        · obtain ⟨⟨e1, q3, e2, e3⟩, e4⟩ := HD.out
          have hbt : Below w1.heap.size w1 (w1.alloc (.cells #[.int .i64 (1 + r)] 3)) := blw_alloc (Below.refl _ _) _
          exact ⟨e1.trans (Fr.of_below hbt e4.1), q3, e2, e3.later hbt⟩
      · have hL0' : ¬ ((L.length : Nat) : Int) = 0 := by omega
        go_wp2
        go_ret
        obtain ⟨e1, q3, e2, e3⟩ := HI.out.2.2.2
        exact ⟨⟨b, c, L, rfl, HI.out.1, HI.out.2.1, HI.out.2.2.1⟩, e1, q3, by omega, e3⟩

end Go.Proofs.YtfmidkdpclfffaaDoor
