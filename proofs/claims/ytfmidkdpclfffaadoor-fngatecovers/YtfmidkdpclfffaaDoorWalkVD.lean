/-
  Walks: an act that is not covered: the program.
-/
import Derived.Test.YtfmidkdpclfffaaDoorWalkVC
import Derived.Test.YtfmidkdpclfffaaDoorPlainW
import Derived.Test.YtfmidkdpclfffaaDoorCh
namespace Go.Proofs.YtfmidkdpclfffaaDoor
open Go.RowKit Go.Deep

variable {CT CR CV CQ CL : Nat}

/-- An act in a block of the call's own. -/
structure ActAt (W : World) (P : Nat) (v : Int) (k t n : ByteArray) : Prop where
  own : OwnBlk W P 32 4
  c0 : W.cell? ⟨P, 0, none⟩ = some (.int .i64 v)
  c1 : W.cell? ⟨P, 1, none⟩ = some (.string k)
  c2 : W.cell? ⟨P, 2, none⟩ = some (.string t)
  c3 : W.cell? ⟨P, 3, none⟩ = some (.string n)

theorem ActAt.later {W W' : World} {P : Nat} {v : Int} {k t n : ByteArray} (h : ActAt W P v k t n) (hb : Below W.heap.size W W') : ActAt W' P v k t n :=
  ⟨h.own.later hb, (hb.cell (p := ⟨P, 0, none⟩) h.own.lt).trans h.c0, (hb.cell (p := ⟨P, 1, none⟩) h.own.lt).trans h.c1, (hb.cell (p := ⟨P, 2, none⟩) h.own.lt).trans h.c2, (hb.cell (p := ⟨P, 3, none⟩) h.own.lt).trans h.c3⟩
theorem ActAt.new (W : World) (v : Int) (k t n : ByteArray) : ActAt (W.alloc (.cells #[.int .i64 v, .string k, .string t, .string n] 32)) W.heap.size v k t n :=
  ⟨OwnBlk.alloc W _ 32 4 rfl, by simp, by simp, by simp, by simp⟩
theorem ActAt.put1 {W : World} {P : Nat} {v : Int} {k t n : ByteArray} (h : ActAt W P v k t n) (g : ByteArray) : ActAt (W.setCell ⟨P, 1, none⟩ (.string g)) P v g t n :=
  ⟨h.own.setCell _ _, (sc_ne _ _ _ _ _ _ (Or.inr (by decide))).trans h.c0, sc_eq h.own 1 (by decide) _, (sc_ne _ _ _ _ _ _ (Or.inr (by decide))).trans h.c2, (sc_ne _ _ _ _ _ _ (Or.inr (by decide))).trans h.c3⟩
theorem ActAt.put2 {W : World} {P : Nat} {v : Int} {k t n : ByteArray} (h : ActAt W P v k t n) (g : ByteArray) : ActAt (W.setCell ⟨P, 2, none⟩ (.string g)) P v k g n :=
  ⟨h.own.setCell _ _, (sc_ne _ _ _ _ _ _ (Or.inr (by decide))).trans h.c0, (sc_ne _ _ _ _ _ _ (Or.inr (by decide))).trans h.c1, sc_eq h.own 2 (by decide) _, (sc_ne _ _ _ _ _ _ (Or.inr (by decide))).trans h.c3⟩

theorem four_puts {W : World} {P : Nat} (h : OwnBlk W P 32 4) (v0 v1 v2 v3 : Value) :
    ((((W.setCell ⟨P, 0, none⟩ v0).setCell ⟨P, 1, none⟩ v1).setCell ⟨P, 2, none⟩ v2).setCell ⟨P, 3, none⟩ v3).cell? ⟨P, 0, none⟩ = some v0 ∧
    ((((W.setCell ⟨P, 0, none⟩ v0).setCell ⟨P, 1, none⟩ v1).setCell ⟨P, 2, none⟩ v2).setCell ⟨P, 3, none⟩ v3).cell? ⟨P, 1, none⟩ = some v1 ∧
    ((((W.setCell ⟨P, 0, none⟩ v0).setCell ⟨P, 1, none⟩ v1).setCell ⟨P, 2, none⟩ v2).setCell ⟨P, 3, none⟩ v3).cell? ⟨P, 2, none⟩ = some v2 ∧
    ((((W.setCell ⟨P, 0, none⟩ v0).setCell ⟨P, 1, none⟩ v1).setCell ⟨P, 2, none⟩ v2).setCell ⟨P, 3, none⟩ v3).cell? ⟨P, 3, none⟩ = some v3 := by
  have c := fun i hi => puts_at 0 [v0, v1, v2, v3] W 0 h (by simp) i hi
  exact ⟨c 0 (by simp), c 1 (by simp), c 2 (by simp), c 3 (by simp)⟩

theorem four_below {w W : World} {P : Nat} (h : Below w.heap.size w W) (hP : w.heap.size ≤ P) (v0 v1 v2 v3 : Value) :
    Below w.heap.size w ((((W.setCell ⟨P, 0, none⟩ v0).setCell ⟨P, 1, none⟩ v1).setCell ⟨P, 2, none⟩ v2).setCell ⟨P, 3, none⟩ v3) :=
  Below.setCell (Below.setCell (Below.setCell (Below.setCell h (p := ⟨P, 0, none⟩) hP _) (p := ⟨P, 1, none⟩) hP _) (p := ⟨P, 2, none⟩) hP _) (p := ⟨P, 3, none⟩) hP _

theorem ret_unc {v v' : Int} {k k' t t' n n' : ByteArray} {u u' : Bool} (hu : u = u') (hv : v = v') (hk : k = k') (ht : t = t') (hn : n = n') :
    Ending.returned (.tuple #[.agg #[.int .i64 v, .string k, .string t, .string n], .bool u]) = .returned (.tuple #[.agg #[.int .i64 v', .string k', .string t', .string n'], .bool u']) := by rw [hu, hv, hk, ht, hn]

def uncOk (ts : List Tm) (rs : List Rul) (r : Rul) : Bool := allOk ts rs r && !(lackOf ts rs r r.verbs == 0)
def uncV (ts : List Tm) (rs : List Rul) (r : Rul) : Int := if uncOk ts rs r = true then lackOf ts rs r r.verbs else 0
def uncK (ts : List Tm) (rs : List Rul) (r : Rul) : ByteArray := if uncOk ts rs r = true then uncKind rs r else ⟨#[]⟩
def uncT (ts : List Tm) (rs : List Rul) (r : Rul) : ByteArray := if uncOk ts rs r = true then uncTeam ts rs r else ⟨#[]⟩
def uncP (ts : List Tm) (rs : List Rul) (r : Rul) : ByteArray := if uncOk ts rs r = true then r.pre else ⟨#[]⟩

set_option maxHeartbeats 400000 in
theorem gateFirst (S : Nat) (w : World) (hS : S < 64) :
    Calls Tryd.prog 18 #[.int .u8 (S : Nat)] w fun e w' => e = .returned (.int .i64 (Lib.trailingZeros8 S : Nat)) ∧ w = w' := by
  have HX : Hid (∀ W, Calls Tryd.prog 41 #[.int .u8 (S : Nat)] W fun e w' => e = .returned (.int .i64 (Lib.trailingZeros8 S : Nat)) ∧ W = w') := by
    intro W
    refine (Tryd.bits_TrailingZeros8 (S : Int) W (by omega) (by omega)).mono ?_
    rintro e w' ⟨rfl, rfl⟩
    exact ⟨by rw [Int.toNat_natCast], rfl⟩
  obtain ⟨Z, hZ⟩ : ∃ Z : Nat, Z = Lib.trailingZeros8 S := ⟨_, rfl⟩
  rw [← hZ] at HX ⊢
  clear hZ
  go_enter Tryd.func18, Tryd.ntmps18
  go_wp2_with fail
  refine (HX.out _).mono ?_
  rintro e w2 ⟨rfl, rfl⟩
  go_wp2
  go_ret
  exact ⟨rfl, rfl⟩

theorem gen_frame {R : Act → Prop} (a : Act) (h : ∀ a0, a0 = a → R a0) : R a := h a rfl

theorem wpOp_value {P : Program} {ops : Array Oper} {Q : Exit → Act → World → Prop} {i : Nat} {K : Act → World → Prop} {a : Act} {w w' : World} {o : Oper} {v : Value} (ho : ops[i]? = some o) (hg : o.guard = none)
    (hr : (execOp a.eval o).run P w = .ok (.value v) w') (hk : K (a.put o.dst v) w') : wpOp P ops Q i K a w := by
  have hw : Region.wanted o (yielded ops a.tmps) = true := by simp [Region.wanted, hg]
  simp only [wpOp, ho, hw, if_true]
  left
  simp only [Oper.wp, hr, Oper.upon]
  exact hk
theorem wpOp_skip {P : Program} {ops : Array Oper} {Q : Exit → Act → World → Prop} {i : Nat} {K : Act → World → Prop} {a : Act} {w w' : World} {o : Oper} (ho : ops[i]? = some o) (hg : o.guard = none)
    (hr : (execOp a.eval o).run P w = .ok .skip w') (hk : K (a.put o.dst undef) w') : wpOp P ops Q i K a w := by
  have hw : Region.wanted o (yielded ops a.tmps) = true := by simp [Region.wanted, hg]
  simp only [wpOp, ho, hw, if_true]
  left
  simp only [Oper.wp, hr, Oper.upon]
  exact hk
theorem put_none (a : Act) (u : Value) : a.put none u = a := rfl
theorem set_here {l : Array Bool} {i : Nat} (h : l.getD i true = false) : (l.setIfInBounds i true).getD i false = true := by
  have hlt : i < l.size := by
    rcases Nat.lt_or_ge i l.size with h' | h'
    · exact h'
    · simp [Array.getElem?_eq_none h'] at h
  simp [hlt]
theorem getD_flip {l : Array Bool} {i : Nat} (h : l.getD i true = false) : l.getD i false = false := by
  have hlt : i < l.size := by
    rcases Nat.lt_or_ge i l.size with h' | h'
    · exact h'
    · simp [Array.getElem?_eq_none h'] at h
  simpa [hlt] using h
theorem all_up {md : Region.Mode} {ops : Array Oper} {l : Array Bool} {j : Nat} {o : Oper} (hr : Region.ready md ops l = []) (hj : j < l.size) (ho : ops[j]? = some o) (hd : ∀ e ∈ o.after, Region.binds md e = true → l.getD e.on false = true) : l.getD j false = true := by
  cases h : l.getD j false with
  | true => rfl
  | false =>
    exfalso
    have h2 : l.getD j true = false := by simpa [hj] using h
    have := mem_ready.2 ⟨h2, o, ho, hd⟩
    rw [hr] at this
    cases this
theorem wpOp_enter {P : Program} {ops : Array Oper} {Q : Exit → Act → World → Prop} {i : Nat} {K : Act → World → Prop} {a : Act} {w : World} {o : Oper} {f : FuncId} {args : Array Value} (ho : ops[i]? = some o) (hg : o.guard = none)
    (hr : (execOp a.eval o).run P w = .ok (.enter f args) w) (hk : Calls P f args w fun e w' => ∃ u, e = .returned u ∧ K (a.put o.dst u) w') : wpOp P ops Q i K a w := by
  have hw : Region.wanted o (yielded ops a.tmps) = true := by simp [Region.wanted, hg]
  simp only [wpOp, ho, hw, if_true]
  left
  simp only [Oper.wp, hr, Oper.upon]
  refine hk.mono ?_
  rintro e w' ⟨u, rfl, h⟩
  exact h

set_option maxRecDepth 8000 in
set_option maxHeartbeats 16000000 in
theorem uncI (B Br b : Nat) (ts : List Tm) (rs : List Rul) (r : Rul) (w : World) (hT : TmsIn w B ts) (hR : RulsIn w Br rs) (h : IntsIn w b r.verbs) (hs : r.sized) (htab : Tab w) :
    Calls Tryd.prog 6 #[.slice (some ⟨B, 0, none⟩) ts.length CT, .slice (some ⟨Br, 0, none⟩) rs.length CR, .agg #[.slice (some ⟨b, 0, none⟩) r.verbs.length CV, .string r.kind, .string r.team, .string r.pre]] w fun e w' => e = .returned (.tuple #[.agg #[.int .i64 (uncV ts rs r), .string (uncK ts rs r), .string (uncT ts rs r), .string (uncP ts rs r)], .bool (uncOk ts rs r)]) ∧ Below w.heap.size w w' := by
  have HLN : Hid ((kindsOf rs).length ≤ 4000000 ∧ (namesOf ts rs).length ≤ 4000000) := by
    have h1 := hT.len
    have h2 := hR.len
    exact ⟨by unfold kindsOf; rw [List.length_map]; omega, by unfold namesOf; rw [List.length_append, List.length_map, List.length_map]; omega⟩
  obtain ⟨w4, hw4⟩ : ∃ w4, w4 = ((((w.alloc (.cells #[.slice (some ⟨B, 0, none⟩) ts.length CT] 23)).alloc (.cells #[.slice (some ⟨Br, 0, none⟩) rs.length CR] 24)).alloc (.cells #[.slice (some ⟨b, 0, none⟩) r.verbs.length CV, .string r.kind, .string r.team, .string r.pre] 27)).alloc (.cells #[.int .i64 0, .string ⟨#[]⟩, .string ⟨#[]⟩, .string ⟨#[]⟩] 32)) := ⟨_, rfl⟩
  have hsz : w4.heap.size = w.heap.size + 1 + 1 + 1 + 1 := by rw [hw4]; simp
  have HM : Hid (∀ W, Below w4.heap.size w4 W → TmsIn W B ts ∧ RulsIn W Br rs ∧ Boxed W w.heap.size #[.slice (some ⟨B, 0, none⟩) ts.length CT] ∧ Boxed W (w.heap.size + 1) #[.slice (some ⟨Br, 0, none⟩) rs.length CR] ∧ Boxed W (w.heap.size + 1 + 1) #[.slice (some ⟨b, 0, none⟩) r.verbs.length CV, .string r.kind, .string r.team, .string r.pre] ∧ OwnBlk W (w.heap.size + 1 + 1 + 1) 32 4 ∧ Tab W ∧ Below w.heap.size w W) := by
    have b1 : Below w.heap.size w (w.alloc (.cells #[.slice (some ⟨B, 0, none⟩) ts.length CT] 23)) := blw_alloc (Below.refl _ _) _
    have hBw : Below w.heap.size w w4 := by rw [hw4]; exact blw_alloc (blw_alloc (blw_alloc b1 _) _) _
    have x1 : Boxed w4 w.heap.size #[.slice (some ⟨B, 0, none⟩) ts.length CT] := by rw [hw4]; exact (Boxed.new w _ 23).later (blw_alloc (blw_alloc (blw_alloc (Below.refl _ _) _) _) _)
    have x2 : Boxed w4 (w.heap.size + 1) #[.slice (some ⟨Br, 0, none⟩) rs.length CR] := by
      rw [hw4]
      have := (Boxed.new (w.alloc (.cells #[.slice (some ⟨B, 0, none⟩) ts.length CT] 23)) #[.slice (some ⟨Br, 0, none⟩) rs.length CR] 24).later (blw_alloc (blw_alloc (Below.refl _ _) (.cells #[.slice (some ⟨b, 0, none⟩) r.verbs.length CV, .string r.kind, .string r.team, .string r.pre] 27)) (.cells #[.int .i64 0, .string ⟨#[]⟩, .string ⟨#[]⟩, .string ⟨#[]⟩] 32))
      simpa using this
    have x3 : Boxed w4 (w.heap.size + 1 + 1) #[.slice (some ⟨b, 0, none⟩) r.verbs.length CV, .string r.kind, .string r.team, .string r.pre] := by
      rw [hw4]
      have := (Boxed.new ((w.alloc (.cells #[.slice (some ⟨B, 0, none⟩) ts.length CT] 23)).alloc (.cells #[.slice (some ⟨Br, 0, none⟩) rs.length CR] 24)) #[.slice (some ⟨b, 0, none⟩) r.verbs.length CV, .string r.kind, .string r.team, .string r.pre] 27).later (blw_alloc (Below.refl _ _) (.cells #[.int .i64 0, .string ⟨#[]⟩, .string ⟨#[]⟩, .string ⟨#[]⟩] 32))
      simpa using this
    have x4 : OwnBlk w4 (w.heap.size + 1 + 1 + 1) 32 4 := by
      rw [hw4]
      have := OwnBlk.alloc (((w.alloc (.cells #[.slice (some ⟨B, 0, none⟩) ts.length CT] 23)).alloc (.cells #[.slice (some ⟨Br, 0, none⟩) rs.length CR] 24)).alloc (.cells #[.slice (some ⟨b, 0, none⟩) r.verbs.length CV, .string r.kind, .string r.team, .string r.pre] 27)) #[.int .i64 0, .string ⟨#[]⟩, .string ⟨#[]⟩, .string ⟨#[]⟩] 32 4 rfl
      simpa using this
    intro W hW
    have hBW := blw_trans hBw hW
    exact ⟨hT.later hBW, hR.later hBW, x1.later hW, x2.later hW, x3.later hW, x4.later hW, htab.later hBW, hBW⟩
  have HN : Hid (∀ W, Below w4.heap.size w4 W → IntsIn W b r.verbs ∧ r.sized) := fun W hW => ⟨h.later (HM.out W hW).2.2.2.2.2.2.2, hs⟩
  have hm4 := HM.out w4 (Below.refl _ _)
  have p0 : w4.cell? ⟨w.heap.size, 0, none⟩ = some (.slice (some ⟨B, 0, none⟩) ts.length CT) := hm4.2.2.1.2 0
  have p1 : w4.cell? ⟨w.heap.size + 1, 0, none⟩ = some (.slice (some ⟨Br, 0, none⟩) rs.length CR) := hm4.2.2.2.1.2 0
  have c0 : w4.cell? ⟨w.heap.size + 1 + 1, 0, none⟩ = some (.slice (some ⟨b, 0, none⟩) r.verbs.length CV) := hm4.2.2.2.2.1.2 0
  have c1 : w4.cell? ⟨w.heap.size + 1 + 1, 1, none⟩ = some (.string r.kind) := hm4.2.2.2.2.1.2 1
  have c2 : w4.cell? ⟨w.heap.size + 1 + 1, 2, none⟩ = some (.string r.team) := hm4.2.2.2.2.1.2 2
  have c3 : w4.cell? ⟨w.heap.size + 1 + 1, 3, none⟩ = some (.string r.pre) := hm4.2.2.2.2.1.2 3
  obtain ⟨A, hA⟩ : ∃ A, A = allOk ts rs r := ⟨_, rfl⟩
  obtain ⟨Q, hQ⟩ : ∃ Q, Q = missIf ts rs r := ⟨_, rfl⟩
  have HAL : Hid (A = allOk ts rs r ∧ Q = missIf ts rs r) := ⟨hA, hQ⟩
  obtain ⟨U, hU⟩ : ∃ U, U = uncOk ts rs r := ⟨_, rfl⟩
  obtain ⟨VV, hVV⟩ : ∃ VV, VV = uncV ts rs r := ⟨_, rfl⟩
  obtain ⟨K, hK⟩ : ∃ K, K = uncK ts rs r := ⟨_, rfl⟩
  obtain ⟨T, hTt⟩ : ∃ T, T = uncT ts rs r := ⟨_, rfl⟩
  obtain ⟨NP, hNP⟩ : ∃ NP, NP = uncP ts rs r := ⟨_, rfl⟩
  have HU : Hid (U = uncOk ts rs r ∧ VV = uncV ts rs r ∧ K = uncK ts rs r ∧ T = uncT ts rs r ∧ NP = uncP ts rs r) := ⟨hU, hVV, hK, hTt, hNP⟩
  rw [← hU, ← hVV, ← hK, ← hTt, ← hNP]
  have HBAD : Hid ((A = false ∨ Q = 0) → U = false ∧ VV = 0 ∧ K = ⟨#[]⟩ ∧ T = ⟨#[]⟩ ∧ NP = ⟨#[]⟩) := by
    intro hb
    have hf : uncOk ts rs r = false := by
      unfold uncOk
      rcases hb with hb | hb
      · rw [← HAL.out.1, hb]; rfl
      · cases hc : allOk ts rs r
        · rfl
        · have h0 : missOf ts rs r = 0 := by have := HAL.out.2; rw [hb, missIf, if_pos hc] at this; exact this.symm
          rw [(miss_lack hc).1 h0]; rfl
    have q := HU.out
    unfold uncV uncK uncT uncP at q
    rw [hf] at q
    exact q
  have HGOOD : Hid (A = true → Q ≠ 0 → U = true ∧ VV = ((Lib.trailingZeros8 Q : Nat) : Int) ∧ NP = r.pre ∧ K = uncKind rs r ∧ T = uncTeam ts rs r ∧ Q < 64) := by
    intro ha hq
    have hc : allOk ts rs r = true := by rw [← HAL.out.1]; exact ha
    have hQm : Q = missOf ts rs r := by rw [HAL.out.2, missIf, if_pos hc]
    have hlk : lackOf ts rs r r.verbs ≠ 0 := fun e => hq (by rw [hQm]; exact (miss_lack hc).2 e)
    have ht : uncOk ts rs r = true := by unfold uncOk; rw [hc, beq_eq_false_iff_ne.2 hlk]; rfl
    have q := HU.out
    unfold uncV uncK uncT uncP at q
    rw [ht] at q
    refine ⟨q.1, ?_, q.2.2.2.2, q.2.2.1, q.2.2.2.1, ?_⟩
    · rw [hQm, first_verb hc hlk]; exact q.2.1
    · rw [hQm]; have := missTo_small ts rs r rs.length; rw [missTo_all _ _ _ _ (Nat.le_refl _)] at this; exact this
  clear hA hQ hU hVV hK hTt hNP hT hR h hs htab hm4
  go_enter Tryd.func6, Tryd.ntmps6
  go_upto_region 1 with fail
  rw [← hw4]
  clear hw4
  go_wp2_with fail
  refine (gateMissing B Br b ts rs r w4 (HM.out _ (Below.refl _ _)).1 (HM.out _ (Below.refl _ _)).2.1 (HN.out _ (Below.refl _ _)).1 (HN.out _ (Below.refl _ _)).2).mono ?_
  rintro e w5 ⟨rfl, hb5⟩
  rw [← HAL.out.1, ← HAL.out.2]
  have HB5 : Hid (Below w4.heap.size w4 w5) := hb5
  clear hb5 p0 p1 c0 c1 c2 c3 HN
  cases hA : A
  · have HE := HBAD.out (Or.inl hA)
    have HEE : Hid (U = false ∧ VV = 0 ∧ K = ⟨#[]⟩ ∧ T = ⟨#[]⟩ ∧ NP = ⟨#[]⟩) := HE
    clear HE hA
    have HE := HEE
    clear HEE
    have hO := (HM.out w5 HB5.out).2.2.2.2.2.1
    have hBw := (HM.out w5 HB5.out).2.2.2.2.2.2.2
    have hfz := hO.frozen
    obtain ⟨y0, o0⟩ := hO.cell 0 (by omega)
    obtain ⟨y1, o1⟩ := hO.cell 1 (by omega)
    obtain ⟨y2, o2⟩ := hO.cell 2 (by omega)
    obtain ⟨y3, o3⟩ := hO.cell 3 (by omega)
    go_wp2
    obtain ⟨r0, r1, r2, r3⟩ := four_puts hO (.int .i64 0) (.string ⟨#[]⟩) (.string ⟨#[]⟩) (.string ⟨#[]⟩)
    refine bodyPost_ret (v := .tuple #[.agg #[.int .i64 0, .string ⟨#[]⟩, .string ⟨#[]⟩, .string ⟨#[]⟩], .bool false]) (by simp only [results, Tryd.results6]; simp [go_sem, r0, r1, r2, r3]) rfl ⟨ret_unc HE.out.1.symm HE.out.2.1.symm HE.out.2.2.1.symm HE.out.2.2.2.1.symm HE.out.2.2.2.2.symm, ?_⟩
    exact four_below hBw (by omega) _ _ _ _
  by_cases hq : Q = 0
  · have HE : Hid (U = false ∧ VV = 0 ∧ K = ⟨#[]⟩ ∧ T = ⟨#[]⟩ ∧ NP = ⟨#[]⟩) := HBAD.out (Or.inr hq)
    subst hq
    clear hA
    have hO := (HM.out w5 HB5.out).2.2.2.2.2.1
    have hBw := (HM.out w5 HB5.out).2.2.2.2.2.2.2
    have hfz := hO.frozen
    obtain ⟨y0, o0⟩ := hO.cell 0 (by omega)
    obtain ⟨y1, o1⟩ := hO.cell 1 (by omega)
    obtain ⟨y2, o2⟩ := hO.cell 2 (by omega)
    obtain ⟨y3, o3⟩ := hO.cell 3 (by omega)
    go_wp2
    obtain ⟨r0, r1, r2, r3⟩ := four_puts hO (.int .i64 0) (.string ⟨#[]⟩) (.string ⟨#[]⟩) (.string ⟨#[]⟩)
    refine bodyPost_ret (v := .tuple #[.agg #[.int .i64 0, .string ⟨#[]⟩, .string ⟨#[]⟩, .string ⟨#[]⟩], .bool false]) (by simp only [results, Tryd.results6]; simp [go_sem, r0, r1, r2, r3]) rfl ⟨ret_unc HE.out.1.symm HE.out.2.1.symm HE.out.2.2.1.symm HE.out.2.2.2.1.symm HE.out.2.2.2.2.symm, ?_⟩
    exact four_below hBw (by omega) _ _ _ _
  obtain ⟨g1, g2, g3, g4, g5, g6⟩ := HGOOD.out hA hq
  obtain ⟨V, hV⟩ : ∃ V : Int, V = ((Lib.trailingZeros8 Q : Nat) : Int) := ⟨_, rfl⟩
  have HV : Hid (U = true ∧ VV = V ∧ NP = r.pre) := ⟨g1, by rw [hV]; exact g2, g3⟩
  have HD : Hid (K = uncKind rs r ∧ T = uncTeam ts rs r) := ⟨g4, g5⟩
  have HQ6 : Hid (Q < 64 ∧ ((Lib.trailingZeros8 Q : Nat) : Int) = V) := ⟨g6, hV.symm⟩
  have hqb : ((Q : Int) == 0) = false := beq_eq_false_iff_ne.2 (by omega)
  clear g1 g2 g3 g4 g5 g6 hV HBAD HGOOD hq hA
  have hm5 := HM.out w5 HB5.out
  have c1 : w5.cell? ⟨w.heap.size + 1 + 1, 1, none⟩ = some (.string r.kind) := hm5.2.2.2.2.1.2 1
  have c2 : w5.cell? ⟨w.heap.size + 1 + 1, 2, none⟩ = some (.string r.team) := hm5.2.2.2.2.1.2 2
  have c3 : w5.cell? ⟨w.heap.size + 1 + 1, 3, none⟩ = some (.string r.pre) := hm5.2.2.2.2.1.2 3
  have c4 : w.heap.size + 1 + 1 < w5.heap.size := hm5.2.2.2.2.1.1
  clear hm5
  go_upto_region 4 with fail
  go_cut [10] (fun s wx => ∃ P, s = .pointer (some ⟨P, 0, none⟩) ∧ ActAt wx P V r.kind r.team r.pre ∧ Below w5.heap.size w5 wx ∧ w5.heap.size ≤ P)
  case first =>
    refine wp_region_any (by kernel_rfl) ?_
    refine gen_frame (R := fun a => wpAny _ _ _ _ _ _ a _) _ ?_
    intro a0 ha0
    have hsz0 : 33 < a0.tmps.size := by rw [ha0]; simp
    have f5 : a0.eval (.tmp 5) = .pointer (some ⟨w.heap.size + 1 + 1, 0, none⟩) := by rw [ha0]; rfl
    have f8 : a0.eval (.tmp 8) = .int .u8 (Q : Nat) := by rw [ha0]; rfl
    refine wpAny_inv (fun l a W => ∃ s10 s25 s26 s27 s28 s29 s30 s31 s32 s33 : Value, a = ch a0 s10 s25 s26 s27 s28 s29 s30 s31 s32 s33 ∧ (l.getD 0 false = true → s25 = .int .u8 (Q : Nat)) ∧ (l.getD 1 false = true → s26 = .int .i64 V) ∧ (l.getD 2 false = true → s27 = .pointer (some ⟨w.heap.size + 1 + 1, 1, none⟩)) ∧ (l.getD 3 false = true → s28 = .string r.kind) ∧ (l.getD 4 false = true → s29 = .pointer (some ⟨w.heap.size + 1 + 1, 2, none⟩)) ∧ (l.getD 5 false = true → s30 = .string r.team) ∧ (l.getD 6 false = true → s31 = .pointer (some ⟨w.heap.size + 1 + 1, 3, none⟩)) ∧ (l.getD 7 false = true → s32 = .string r.pre) ∧ (l.getD 8 false = true → s33 = .agg #[.int .i64 V, .string r.kind, .string r.team, .string r.pre]) ∧ (l.getD 9 false = true → s10 = .pointer (some ⟨w5.heap.size, 0, none⟩)) ∧ l.size = 11 ∧ ((l.getD 9 false = false ∧ l.getD 10 false = false ∧ W = w5.drew) ∨ (l.getD 9 false = true ∧ l.getD 10 false = false ∧ W = (w5.alloc (.cells #[.int .i64 0, .string ⟨#[]⟩, .string ⟨#[]⟩, .string ⟨#[]⟩] 32)).drew) ∨ (l.getD 9 false = true ∧ l.getD 10 false = true ∧ W = (w5.alloc (.cells #[.int .i64 V, .string r.kind, .string r.team, .string r.pre] 32)).drew))) ?_ ?_ _ _ _ _ ?_ ?_
    · rintro l a W i ⟨s10, s25, s26, s27, s28, s29, s30, s31, s32, s33, rfl, h0, h1, h2, h3, h4, h5, h6, h7, h8, h9, hls, hw⟩ hi
      obtain ⟨hun, o, ho, hall⟩ := mem_ready.1 hi
      have hlt : i < 11 := (Array.getElem?_eq_some_iff.1 ho).1
      have hcases : i = 0 ∨ i = 1 ∨ i = 2 ∨ i = 3 ∨ i = 4 ∨ i = 5 ∨ i = 6 ∨ i = 7 ∨ i = 8 ∨ i = 9 ∨ i = 10 := by omega
      rcases hcases with rfl | rfl | rfl | rfl | rfl | rfl | rfl | rfl | rfl | rfl | rfl
      · have ho1 := ho
        simp at ho
        subst ho
        refine wpOp_value (v := .int .u8 (Q : Nat)) (w' := W) ho1 rfl ?_ ?_
        · rcases hw with ⟨_, _, rfl⟩ | ⟨_, _, rfl⟩ | ⟨_, _, rfl⟩ <;> simp [execOp, go_sem, ch_get8 _ _ _ _ _ _ _ _ _ _ _ _ f8]
        · show ∃ s10, _
          rw [ch_put25]
          exact ⟨s10, (.int .u8 (Q : Nat)), s26, s27, s28, s29, s30, s31, s32, s33, rfl, fun _ => rfl, fun h => h1 ((set_get h).resolve_left (by decide)), fun h => h2 ((set_get h).resolve_left (by decide)), fun h => h3 ((set_get h).resolve_left (by decide)), fun h => h4 ((set_get h).resolve_left (by decide)), fun h => h5 ((set_get h).resolve_left (by decide)), fun h => h6 ((set_get h).resolve_left (by decide)), fun h => h7 ((set_get h).resolve_left (by decide)), fun h => h8 ((set_get h).resolve_left (by decide)), fun h => h9 ((set_get h).resolve_left (by decide)), (by simpa using hls), (by simpa only [getD_set_ne _ (show (0 : Nat) ≠ 9 by decide), getD_set_ne _ (show (0 : Nat) ≠ 10 by decide)] using hw)⟩
      · have ho1 := ho
        simp at ho
        subst ho
        have e0 := h0 (hall ⟨0, .data⟩ (by simp) rfl)
        subst e0
        refine wpOp_enter (f := 18) (args := #[.int .u8 (Q : Nat)]) ho1 rfl ?_ ?_
        · simp [go_sem, ch_get25 _ _ _ _ _ _ _ _ _ _ _ hsz0]
        · refine (gateFirst Q W HQ6.out.1).mono ?_
          rintro e w6 ⟨rfl, rfl⟩
          rw [HQ6.out.2]
          refine ⟨_, rfl, ?_⟩
          show ∃ s10, _
          rw [ch_put26]
          exact ⟨s10, (.int .u8 (Q : Nat)), (.int .i64 V), s27, s28, s29, s30, s31, s32, s33, rfl, fun _ => rfl, fun _ => rfl, fun h => h2 ((set_get h).resolve_left (by decide)), fun h => h3 ((set_get h).resolve_left (by decide)), fun h => h4 ((set_get h).resolve_left (by decide)), fun h => h5 ((set_get h).resolve_left (by decide)), fun h => h6 ((set_get h).resolve_left (by decide)), fun h => h7 ((set_get h).resolve_left (by decide)), fun h => h8 ((set_get h).resolve_left (by decide)), fun h => h9 ((set_get h).resolve_left (by decide)), (by simpa using hls), (by simpa only [getD_set_ne _ (show (1 : Nat) ≠ 9 by decide), getD_set_ne _ (show (1 : Nat) ≠ 10 by decide)] using hw)⟩
      · have ho1 := ho
        simp at ho
        subst ho
        refine wpOp_value (v := .pointer (some ⟨w.heap.size + 1 + 1, 1, none⟩)) (w' := W) ho1 rfl ?_ ?_
        · rcases hw with ⟨_, _, rfl⟩ | ⟨_, _, rfl⟩ | ⟨_, _, rfl⟩ <;> simp [execOp, go_sem, ch_get5 _ _ _ _ _ _ _ _ _ _ _ _ f5]
        · show ∃ s10, _
          rw [ch_put27]
          exact ⟨s10, s25, s26, (.pointer (some ⟨w.heap.size + 1 + 1, 1, none⟩)), s28, s29, s30, s31, s32, s33, rfl, fun h => h0 ((set_get h).resolve_left (by decide)), fun h => h1 ((set_get h).resolve_left (by decide)), fun _ => rfl, fun h => h3 ((set_get h).resolve_left (by decide)), fun h => h4 ((set_get h).resolve_left (by decide)), fun h => h5 ((set_get h).resolve_left (by decide)), fun h => h6 ((set_get h).resolve_left (by decide)), fun h => h7 ((set_get h).resolve_left (by decide)), fun h => h8 ((set_get h).resolve_left (by decide)), fun h => h9 ((set_get h).resolve_left (by decide)), (by simpa using hls), (by simpa only [getD_set_ne _ (show (2 : Nat) ≠ 9 by decide), getD_set_ne _ (show (2 : Nat) ≠ 10 by decide)] using hw)⟩
      · have ho1 := ho
        simp at ho
        subst ho
        have e2 := h2 (hall ⟨2, .data⟩ (by simp) rfl)
        subst e2
        refine wpOp_value (v := .string r.kind) (w' := W) ho1 rfl ?_ ?_
        · rcases hw with ⟨_, _, rfl⟩ | ⟨_, _, rfl⟩ | ⟨_, _, rfl⟩ <;> simp [execOp, go_sem, ch_get27 _ _ _ _ _ _ _ _ _ _ _ hsz0, c1, c4]
        · show ∃ s10, _
          rw [ch_put28]
          exact ⟨s10, s25, s26, (.pointer (some ⟨w.heap.size + 1 + 1, 1, none⟩)), (.string r.kind), s29, s30, s31, s32, s33, rfl, fun h => h0 ((set_get h).resolve_left (by decide)), fun h => h1 ((set_get h).resolve_left (by decide)), fun _ => rfl, fun _ => rfl, fun h => h4 ((set_get h).resolve_left (by decide)), fun h => h5 ((set_get h).resolve_left (by decide)), fun h => h6 ((set_get h).resolve_left (by decide)), fun h => h7 ((set_get h).resolve_left (by decide)), fun h => h8 ((set_get h).resolve_left (by decide)), fun h => h9 ((set_get h).resolve_left (by decide)), (by simpa using hls), (by simpa only [getD_set_ne _ (show (3 : Nat) ≠ 9 by decide), getD_set_ne _ (show (3 : Nat) ≠ 10 by decide)] using hw)⟩
      · have ho1 := ho
        simp at ho
        subst ho
        refine wpOp_value (v := .pointer (some ⟨w.heap.size + 1 + 1, 2, none⟩)) (w' := W) ho1 rfl ?_ ?_
        · rcases hw with ⟨_, _, rfl⟩ | ⟨_, _, rfl⟩ | ⟨_, _, rfl⟩ <;> simp [execOp, go_sem, ch_get5 _ _ _ _ _ _ _ _ _ _ _ _ f5]
        · show ∃ s10, _
          rw [ch_put29]
          exact ⟨s10, s25, s26, s27, s28, (.pointer (some ⟨w.heap.size + 1 + 1, 2, none⟩)), s30, s31, s32, s33, rfl, fun h => h0 ((set_get h).resolve_left (by decide)), fun h => h1 ((set_get h).resolve_left (by decide)), fun h => h2 ((set_get h).resolve_left (by decide)), fun h => h3 ((set_get h).resolve_left (by decide)), fun _ => rfl, fun h => h5 ((set_get h).resolve_left (by decide)), fun h => h6 ((set_get h).resolve_left (by decide)), fun h => h7 ((set_get h).resolve_left (by decide)), fun h => h8 ((set_get h).resolve_left (by decide)), fun h => h9 ((set_get h).resolve_left (by decide)), (by simpa using hls), (by simpa only [getD_set_ne _ (show (4 : Nat) ≠ 9 by decide), getD_set_ne _ (show (4 : Nat) ≠ 10 by decide)] using hw)⟩
      · have ho1 := ho
        simp at ho
        subst ho
        have e4 := h4 (hall ⟨4, .data⟩ (by simp) rfl)
        subst e4
        refine wpOp_value (v := .string r.team) (w' := W) ho1 rfl ?_ ?_
        · rcases hw with ⟨_, _, rfl⟩ | ⟨_, _, rfl⟩ | ⟨_, _, rfl⟩ <;> simp [execOp, go_sem, ch_get29 _ _ _ _ _ _ _ _ _ _ _ hsz0, c2, c4]
        · show ∃ s10, _
          rw [ch_put30]
          exact ⟨s10, s25, s26, s27, s28, (.pointer (some ⟨w.heap.size + 1 + 1, 2, none⟩)), (.string r.team), s31, s32, s33, rfl, fun h => h0 ((set_get h).resolve_left (by decide)), fun h => h1 ((set_get h).resolve_left (by decide)), fun h => h2 ((set_get h).resolve_left (by decide)), fun h => h3 ((set_get h).resolve_left (by decide)), fun _ => rfl, fun _ => rfl, fun h => h6 ((set_get h).resolve_left (by decide)), fun h => h7 ((set_get h).resolve_left (by decide)), fun h => h8 ((set_get h).resolve_left (by decide)), fun h => h9 ((set_get h).resolve_left (by decide)), (by simpa using hls), (by simpa only [getD_set_ne _ (show (5 : Nat) ≠ 9 by decide), getD_set_ne _ (show (5 : Nat) ≠ 10 by decide)] using hw)⟩
      · have ho1 := ho
        simp at ho
        subst ho
        refine wpOp_value (v := .pointer (some ⟨w.heap.size + 1 + 1, 3, none⟩)) (w' := W) ho1 rfl ?_ ?_
        · rcases hw with ⟨_, _, rfl⟩ | ⟨_, _, rfl⟩ | ⟨_, _, rfl⟩ <;> simp [execOp, go_sem, ch_get5 _ _ _ _ _ _ _ _ _ _ _ _ f5]
        · show ∃ s10, _
          rw [ch_put31]
          exact ⟨s10, s25, s26, s27, s28, s29, s30, (.pointer (some ⟨w.heap.size + 1 + 1, 3, none⟩)), s32, s33, rfl, fun h => h0 ((set_get h).resolve_left (by decide)), fun h => h1 ((set_get h).resolve_left (by decide)), fun h => h2 ((set_get h).resolve_left (by decide)), fun h => h3 ((set_get h).resolve_left (by decide)), fun h => h4 ((set_get h).resolve_left (by decide)), fun h => h5 ((set_get h).resolve_left (by decide)), fun _ => rfl, fun h => h7 ((set_get h).resolve_left (by decide)), fun h => h8 ((set_get h).resolve_left (by decide)), fun h => h9 ((set_get h).resolve_left (by decide)), (by simpa using hls), (by simpa only [getD_set_ne _ (show (6 : Nat) ≠ 9 by decide), getD_set_ne _ (show (6 : Nat) ≠ 10 by decide)] using hw)⟩
      · have ho1 := ho
        simp at ho
        subst ho
        have e6 := h6 (hall ⟨6, .data⟩ (by simp) rfl)
        subst e6
        refine wpOp_value (v := .string r.pre) (w' := W) ho1 rfl ?_ ?_
        · rcases hw with ⟨_, _, rfl⟩ | ⟨_, _, rfl⟩ | ⟨_, _, rfl⟩ <;> simp [execOp, go_sem, ch_get31 _ _ _ _ _ _ _ _ _ _ _ hsz0, c3, c4]
        · show ∃ s10, _
          rw [ch_put32]
          exact ⟨s10, s25, s26, s27, s28, s29, s30, (.pointer (some ⟨w.heap.size + 1 + 1, 3, none⟩)), (.string r.pre), s33, rfl, fun h => h0 ((set_get h).resolve_left (by decide)), fun h => h1 ((set_get h).resolve_left (by decide)), fun h => h2 ((set_get h).resolve_left (by decide)), fun h => h3 ((set_get h).resolve_left (by decide)), fun h => h4 ((set_get h).resolve_left (by decide)), fun h => h5 ((set_get h).resolve_left (by decide)), fun _ => rfl, fun _ => rfl, fun h => h8 ((set_get h).resolve_left (by decide)), fun h => h9 ((set_get h).resolve_left (by decide)), (by simpa using hls), (by simpa only [getD_set_ne _ (show (7 : Nat) ≠ 9 by decide), getD_set_ne _ (show (7 : Nat) ≠ 10 by decide)] using hw)⟩
      · have ho1 := ho
        simp at ho
        subst ho
        have e1 := h1 (hall ⟨1, .data⟩ (by simp) rfl)
        have e3 := h3 (hall ⟨3, .data⟩ (by simp) rfl)
        have e5 := h5 (hall ⟨5, .data⟩ (by simp) rfl)
        have e7 := h7 (hall ⟨7, .data⟩ (by simp) rfl)
        subst e1
        subst e3
        subst e5
        subst e7
        refine wpOp_value (v := .agg #[.int .i64 V, .string r.kind, .string r.team, .string r.pre]) (w' := W) ho1 rfl ?_ ?_
        · rcases hw with ⟨_, _, rfl⟩ | ⟨_, _, rfl⟩ | ⟨_, _, rfl⟩ <;> simp [execOp, go_sem, ch_get26 _ _ _ _ _ _ _ _ _ _ _ hsz0, ch_get28 _ _ _ _ _ _ _ _ _ _ _ hsz0, ch_get30 _ _ _ _ _ _ _ _ _ _ _ hsz0, ch_get32 _ _ _ _ _ _ _ _ _ _ _ hsz0]
        · show ∃ s10, _
          rw [ch_put33]
          exact ⟨s10, s25, (.int .i64 V), s27, (.string r.kind), s29, (.string r.team), s31, (.string r.pre), (.agg #[.int .i64 V, .string r.kind, .string r.team, .string r.pre]), rfl, fun h => h0 ((set_get h).resolve_left (by decide)), fun _ => rfl, fun h => h2 ((set_get h).resolve_left (by decide)), fun _ => rfl, fun h => h4 ((set_get h).resolve_left (by decide)), fun _ => rfl, fun h => h6 ((set_get h).resolve_left (by decide)), fun _ => rfl, fun _ => rfl, fun h => h9 ((set_get h).resolve_left (by decide)), (by simpa using hls), (by simpa only [getD_set_ne _ (show (8 : Nat) ≠ 9 by decide), getD_set_ne _ (show (8 : Nat) ≠ 10 by decide)] using hw)⟩
      · have ho1 := ho
        simp at ho
        subst ho
        rcases hw with ⟨_, h10f, rfl⟩ | ⟨h9f, _⟩ | ⟨h9f, _⟩
        · refine wpOp_value (v := .pointer (some ⟨w5.heap.size, 0, none⟩)) (w' := (w5.alloc (.cells #[.int .i64 0, .string ⟨#[]⟩, .string ⟨#[]⟩, .string ⟨#[]⟩] 32)).drew) ho1 rfl ?_ ?_
          · simp [execOp, go_sem]
          · show ∃ s10, _
            rw [ch_put10]
            exact ⟨(.pointer (some ⟨w5.heap.size, 0, none⟩)), s25, s26, s27, s28, s29, s30, s31, s32, s33, rfl, fun h => h0 ((set_get h).resolve_left (by decide)), fun h => h1 ((set_get h).resolve_left (by decide)), fun h => h2 ((set_get h).resolve_left (by decide)), fun h => h3 ((set_get h).resolve_left (by decide)), fun h => h4 ((set_get h).resolve_left (by decide)), fun h => h5 ((set_get h).resolve_left (by decide)), fun h => h6 ((set_get h).resolve_left (by decide)), fun h => h7 ((set_get h).resolve_left (by decide)), fun h => h8 ((set_get h).resolve_left (by decide)), fun _ => rfl, (by simpa using hls), Or.inr (Or.inl ⟨set_here hun, by rw [getD_set_ne _ (show (9 : Nat) ≠ 10 by decide)]; exact h10f, rfl⟩)⟩
        · rw [getD_flip hun] at h9f; cases h9f
        · rw [getD_flip hun] at h9f; cases h9f
      · have ho1 := ho
        simp at ho
        subst ho
        have e9 := h9 (hall ⟨9, .data⟩ (by simp) rfl)
        have e8 := h8 (hall ⟨8, .data⟩ (by simp) rfl)
        subst e9 e8
        rcases hw with ⟨h9f, _, _⟩ | ⟨h9t, _, rfl⟩ | ⟨_, h10t, _⟩
        · have := hall ⟨9, .data⟩ (by simp) rfl; rw [h9f] at this; cases this
        · refine wpOp_skip (w' := (w5.alloc (.cells #[.int .i64 V, .string r.kind, .string r.team, .string r.pre] 32)).drew) ho1 rfl ?_ ?_
          · simp [execOp, go_sem, ch_get10 _ _ _ _ _ _ _ _ _ _ _ hsz0, ch_get33 _ _ _ _ _ _ _ _ _ _ _ hsz0]
          · show ∃ s10, _
            rw [put_none]
            exact ⟨(.pointer (some ⟨w5.heap.size, 0, none⟩)), s25, s26, s27, s28, s29, s30, s31, s32, (.agg #[.int .i64 V, .string r.kind, .string r.team, .string r.pre]), rfl, fun h => h0 ((set_get h).resolve_left (by decide)), fun h => h1 ((set_get h).resolve_left (by decide)), fun h => h2 ((set_get h).resolve_left (by decide)), fun h => h3 ((set_get h).resolve_left (by decide)), fun h => h4 ((set_get h).resolve_left (by decide)), fun h => h5 ((set_get h).resolve_left (by decide)), fun h => h6 ((set_get h).resolve_left (by decide)), fun h => h7 ((set_get h).resolve_left (by decide)), fun _ => rfl, fun _ => rfl, (by simpa using hls), Or.inr (Or.inr ⟨by rw [getD_set_ne _ (show (10 : Nat) ≠ 9 by decide)]; exact h9t, set_here hun, rfl⟩)⟩
        · rw [getD_flip hun] at h10t; cases h10t
    · rintro l a W ⟨s10, s25, s26, s27, s28, s29, s30, s31, s32, s33, rfl, h0, h1, h2, h3, h4, h5, h6, h7, h8, h9, hls, hw⟩ hr
      have L0 : l.getD 0 false = true := all_up hr (by omega) rfl (by intro e he _; simp at he)
      have L1 : l.getD 1 false = true := all_up hr (by omega) rfl (by intro e he _; simp at he; subst he; assumption)
      have L2 : l.getD 2 false = true := all_up hr (by omega) rfl (by intro e he _; simp at he)
      have L3 : l.getD 3 false = true := all_up hr (by omega) rfl (by intro e he _; simp at he; subst he; assumption)
      have L4 : l.getD 4 false = true := all_up hr (by omega) rfl (by intro e he _; simp at he)
      have L5 : l.getD 5 false = true := all_up hr (by omega) rfl (by intro e he _; simp at he; subst he; assumption)
      have L6 : l.getD 6 false = true := all_up hr (by omega) rfl (by intro e he _; simp at he)
      have L7 : l.getD 7 false = true := all_up hr (by omega) rfl (by intro e he _; simp at he; subst he; assumption)
      have L8 : l.getD 8 false = true := all_up hr (by omega) rfl (by intro e he _; simp at he; rcases he with rfl | rfl | rfl | rfl <;> assumption)
      have L9 : l.getD 9 false = true := all_up hr (by omega) rfl (by intro e he _; simp at he)
      have L10 : l.getD 10 false = true := all_up hr (by omega) rfl (by intro e he _; simp at he; rcases he with rfl | rfl | rfl | rfl | rfl | rfl | rfl | rfl | rfl | rfl | rfl | rfl | rfl <;> assumption)
      obtain rfl := h0 L0
      obtain rfl := h1 L1
      obtain rfl := h2 L2
      obtain rfl := h3 L3
      obtain rfl := h4 L4
      obtain rfl := h5 L5
      obtain rfl := h6 L6
      obtain rfl := h7 L7
      obtain rfl := h8 L8
      obtain rfl := h9 L9
      rcases hw with ⟨h9f, _⟩ | ⟨_, h10f, _⟩ | ⟨_, _, rfl⟩
      · rw [L9] at h9f; cases h9f
      · rw [L10] at h10f; cases h10f
      · subst ha0
        simp [ch, Act.put]
        go_wp2_with fail
        go_meet
        refine ⟨w5.heap.size, rfl, ?_, ?_, Nat.le_refl _⟩
        · exact (ActAt.new w5 V r.kind r.team r.pre).later (by repeat (first | exact Below.refl _ _ | refine Below.drew ?_))
        · repeat (first | exact Below.refl _ _ | refine Below.drew ?_ | refine blw_alloc ?_ _)
    · refine ⟨undef, undef, undef, undef, undef, undef, undef, undef, undef, undef, by rw [ha0]; kernel_rfl, ?_⟩
      exact ⟨fun h => absurd h Bool.false_ne_true, fun h => absurd h Bool.false_ne_true, fun h => absurd h Bool.false_ne_true, fun h => absurd h Bool.false_ne_true, fun h => absurd h Bool.false_ne_true, fun h => absurd h Bool.false_ne_true, fun h => absurd h Bool.false_ne_true, fun h => absurd h Bool.false_ne_true, fun h => absurd h Bool.false_ne_true, fun h => absurd h Bool.false_ne_true, rfl, Or.inl ⟨rfl, rfl, rfl⟩⟩
    · exact Nat.le_of_eq (by kernel_rfl)
  case rest =>
  obtain ⟨P, rfl, hAct, hb6, hP5⟩ := hcut
  rename World => w6
  have hP : w4.heap.size ≤ P := Nat.le_trans HB5.out.size hP5
  have HS : Hid (ActAt w6 P V r.kind r.team r.pre ∧ Below w4.heap.size w4 w6) := ⟨hAct, blw_trans HB5.out hb6⟩
  clear hAct hb6 hP5 c1 c2 c3 c4 hqb HB5 HQ6
  have k1 := HS.out.1.c1
  cases hk : r.kind.toList.isEmpty
  · have HKK : Hid (K = r.kind) := by show K = _; rw [HD.out.1, uncKind, hk]; rfl
    go_upto_region 7 with fail
    clear hk k1
    have t2 := HS.out.1.c2
    cases ht : r.team.toList.isEmpty
    · have HTT : Hid (T = r.team) := by show T = _; rw [HD.out.2, uncTeam, ht]; rfl
      go_upto_region 9 with fail
      clear ht t2
      obtain ⟨a0, a1, a2, a3⟩ : w6.cell? ⟨P, 0, none⟩ = some (.int .i64 V) ∧ w6.cell? ⟨P, 1, none⟩ = some (.string r.kind) ∧ w6.cell? ⟨P, 2, none⟩ = some (.string r.team) ∧ w6.cell? ⟨P, 3, none⟩ = some (.string r.pre) := ⟨HS.out.1.c0, HS.out.1.c1, HS.out.1.c2, HS.out.1.c3⟩
      have hO := (HM.out w6 HS.out.2).2.2.2.2.2.1
      have hBw := (HM.out w6 HS.out.2).2.2.2.2.2.2.2
      have hfz := hO.frozen
      obtain ⟨y0, o0⟩ := hO.cell 0 (by omega)
      obtain ⟨y1, o1⟩ := hO.cell 1 (by omega)
      obtain ⟨y2, o2⟩ := hO.cell 2 (by omega)
      obtain ⟨y3, o3⟩ := hO.cell 3 (by omega)
      go_wp2
      obtain ⟨r0, r1, r2, r3⟩ := four_puts hO (.int .i64 V) (.string r.kind) (.string r.team) (.string r.pre)
      refine bodyPost_ret (v := .tuple #[.agg #[.int .i64 V, .string r.kind, .string r.team, .string r.pre], .bool true]) (by simp only [results, Tryd.results6]; simp [go_sem, r0, r1, r2, r3]) rfl ⟨ret_unc HV.out.1.symm HV.out.2.1.symm (by rw [HKK.out]) (by rw [HTT.out]) HV.out.2.2.symm, ?_⟩
      exact four_below hBw (by omega) _ _ _ _
    · have HTT : Hid (T = fresh ⟨#[116]⟩ (namesOf ts rs)) := by show T = _; rw [HD.out.2, uncTeam, ht]; rfl
      have HX : Hid (Calls Tryd.prog 19 #[.string ⟨#[116]⟩, .func (.func 23) #[] #[.pointer (some ⟨w.heap.size, 0, none⟩), .pointer (some ⟨w.heap.size + 1, 0, none⟩)]] w6 fun e w' => e = .returned (.string (fresh ⟨#[116]⟩ (namesOf ts rs))) ∧ Below w6.heap.size w6 w') :=
        fresh_name ⟨#[116]⟩ w.heap.size (w.heap.size + 1) (namesOf ts rs) w6 (by decide) HLN.out.2 (HM.out _ HS.out.2).2.2.2.2.2.2.1 fun s X hX => taken_name w.heap.size (w.heap.size + 1) B Br ts rs s X (HM.out X (blw_trans HS.out.2 hX)).1 (HM.out X (blw_trans HS.out.2 hX)).2.1 ((HM.out X (blw_trans HS.out.2 hX)).2.2.1.2 0) (HM.out X (blw_trans HS.out.2 hX)).2.2.1.1 ((HM.out X (blw_trans HS.out.2 hX)).2.2.2.1.2 0) (HM.out X (blw_trans HS.out.2 hX)).2.2.2.1.1
      go_wp2_with fail
      clear ht
      refine HX.out.mono ?_
      rintro e w9 ⟨rfl, hb9⟩
      obtain ⟨G, hG⟩ : ∃ G, G = fresh ⟨#[116]⟩ (namesOf ts rs) := ⟨_, rfl⟩
      rw [← hG] at HTT ⊢
      have hA9 := HS.out.1.later hb9
      have hB9 : Below w4.heap.size w4 w9 := blw_trans HS.out.2 hb9
      obtain ⟨wa, hwa⟩ : ∃ wa, wa = w9.setCell ⟨P, 2, none⟩ (.string G) := ⟨_, rfl⟩
      have HSN : Hid (ActAt wa P V r.kind G r.pre ∧ Below w4.heap.size w4 wa) := by rw [hwa]; exact ⟨hA9.put2 G, Below.setCell hB9 (p := ⟨P, 2, none⟩) hP _⟩
      have hfz := hA9.own.frozen
      have t3 := hA9.c2
      clear hG HX hb9 HS t2 hA9 hB9
      go_upto_region 9 with fail
      rw [← hwa]
      clear hwa hfz t3
      have HS : Hid (ActAt wa P V r.kind G r.pre ∧ Below w4.heap.size w4 wa) := HSN.out
      obtain ⟨a0, a1, a2, a3⟩ : wa.cell? ⟨P, 0, none⟩ = some (.int .i64 V) ∧ wa.cell? ⟨P, 1, none⟩ = some (.string r.kind) ∧ wa.cell? ⟨P, 2, none⟩ = some (.string G) ∧ wa.cell? ⟨P, 3, none⟩ = some (.string r.pre) := ⟨HS.out.1.c0, HS.out.1.c1, HS.out.1.c2, HS.out.1.c3⟩
      have hO := (HM.out wa HS.out.2).2.2.2.2.2.1
      have hBw := (HM.out wa HS.out.2).2.2.2.2.2.2.2
      have hfz := hO.frozen
      obtain ⟨y0, o0⟩ := hO.cell 0 (by omega)
      obtain ⟨y1, o1⟩ := hO.cell 1 (by omega)
      obtain ⟨y2, o2⟩ := hO.cell 2 (by omega)
      obtain ⟨y3, o3⟩ := hO.cell 3 (by omega)
      go_wp2
      obtain ⟨r0, r1, r2, r3⟩ := four_puts hO (.int .i64 V) (.string r.kind) (.string G) (.string r.pre)
      refine bodyPost_ret (v := .tuple #[.agg #[.int .i64 V, .string r.kind, .string G, .string r.pre], .bool true]) (by simp only [results, Tryd.results6]; simp [go_sem, r0, r1, r2, r3]) rfl ⟨ret_unc HV.out.1.symm HV.out.2.1.symm (by rw [HKK.out]) (by rw [HTT.out]) HV.out.2.2.symm, ?_⟩
      exact four_below hBw (by omega) _ _ _ _
  · have HKK : Hid (K = fresh ⟨#[107]⟩ (kindsOf rs)) := by show K = _; rw [HD.out.1, uncKind, hk]; rfl
    have HX : Hid (Calls Tryd.prog 19 #[.string ⟨#[107]⟩, .func (.func 20) #[] #[.pointer (some ⟨w.heap.size + 1, 0, none⟩)]] w6 fun e w' => e = .returned (.string (fresh ⟨#[107]⟩ (kindsOf rs))) ∧ Below w6.heap.size w6 w') :=
      fresh_kind ⟨#[107]⟩ (w.heap.size + 1) (kindsOf rs) w6 (by decide) HLN.out.1 (HM.out _ HS.out.2).2.2.2.2.2.2.1 fun s X hX => taken_kind (w.heap.size + 1) Br rs s X (HM.out X (blw_trans HS.out.2 hX)).2.1 ((HM.out X (blw_trans HS.out.2 hX)).2.2.2.1.2 0) (HM.out X (blw_trans HS.out.2 hX)).2.2.2.1.1
    go_wp2_with fail
    clear hk
    refine HX.out.mono ?_
    rintro e w7 ⟨rfl, hb7⟩
    obtain ⟨F, hF⟩ : ∃ F, F = fresh ⟨#[107]⟩ (kindsOf rs) := ⟨_, rfl⟩
    rw [← hF] at HKK ⊢
    have hA7 := HS.out.1.later hb7
    have hB7 : Below w4.heap.size w4 w7 := blw_trans HS.out.2 hb7
    obtain ⟨w8, hw8⟩ : ∃ w8, w8 = w7.setCell ⟨P, 1, none⟩ (.string F) := ⟨_, rfl⟩
    have HSN : Hid (ActAt w8 P V F r.team r.pre ∧ Below w4.heap.size w4 w8) := by rw [hw8]; exact ⟨hA7.put1 F, Below.setCell hB7 (p := ⟨P, 1, none⟩) hP _⟩
    have hfz := hA7.own.frozen
    have t1 := hA7.c1
    clear hF HX hb7 HS k1 hA7 hB7
    go_upto_region 7 with fail
    rw [← hw8]
    clear hw8 hfz t1
    have HS : Hid (ActAt w8 P V F r.team r.pre ∧ Below w4.heap.size w4 w8) := HSN.out
    clear HSN
    have t2 := HS.out.1.c2
    cases ht : r.team.toList.isEmpty
    · have HTT : Hid (T = r.team) := by show T = _; rw [HD.out.2, uncTeam, ht]; rfl
      go_upto_region 9 with fail
      clear ht t2
      obtain ⟨a0, a1, a2, a3⟩ : w8.cell? ⟨P, 0, none⟩ = some (.int .i64 V) ∧ w8.cell? ⟨P, 1, none⟩ = some (.string F) ∧ w8.cell? ⟨P, 2, none⟩ = some (.string r.team) ∧ w8.cell? ⟨P, 3, none⟩ = some (.string r.pre) := ⟨HS.out.1.c0, HS.out.1.c1, HS.out.1.c2, HS.out.1.c3⟩
      have hO := (HM.out w8 HS.out.2).2.2.2.2.2.1
      have hBw := (HM.out w8 HS.out.2).2.2.2.2.2.2.2
      have hfz := hO.frozen
      obtain ⟨y0, o0⟩ := hO.cell 0 (by omega)
      obtain ⟨y1, o1⟩ := hO.cell 1 (by omega)
      obtain ⟨y2, o2⟩ := hO.cell 2 (by omega)
      obtain ⟨y3, o3⟩ := hO.cell 3 (by omega)
      go_wp2
      obtain ⟨r0, r1, r2, r3⟩ := four_puts hO (.int .i64 V) (.string F) (.string r.team) (.string r.pre)
      refine bodyPost_ret (v := .tuple #[.agg #[.int .i64 V, .string F, .string r.team, .string r.pre], .bool true]) (by simp only [results, Tryd.results6]; simp [go_sem, r0, r1, r2, r3]) rfl ⟨ret_unc HV.out.1.symm HV.out.2.1.symm (by rw [HKK.out]) (by rw [HTT.out]) HV.out.2.2.symm, ?_⟩
      exact four_below hBw (by omega) _ _ _ _
    · have HTT : Hid (T = fresh ⟨#[116]⟩ (namesOf ts rs)) := by show T = _; rw [HD.out.2, uncTeam, ht]; rfl
      have HX : Hid (Calls Tryd.prog 19 #[.string ⟨#[116]⟩, .func (.func 23) #[] #[.pointer (some ⟨w.heap.size, 0, none⟩), .pointer (some ⟨w.heap.size + 1, 0, none⟩)]] w8 fun e w' => e = .returned (.string (fresh ⟨#[116]⟩ (namesOf ts rs))) ∧ Below w8.heap.size w8 w') :=
        fresh_name ⟨#[116]⟩ w.heap.size (w.heap.size + 1) (namesOf ts rs) w8 (by decide) HLN.out.2 (HM.out _ HS.out.2).2.2.2.2.2.2.1 fun s X hX => taken_name w.heap.size (w.heap.size + 1) B Br ts rs s X (HM.out X (blw_trans HS.out.2 hX)).1 (HM.out X (blw_trans HS.out.2 hX)).2.1 ((HM.out X (blw_trans HS.out.2 hX)).2.2.1.2 0) (HM.out X (blw_trans HS.out.2 hX)).2.2.1.1 ((HM.out X (blw_trans HS.out.2 hX)).2.2.2.1.2 0) (HM.out X (blw_trans HS.out.2 hX)).2.2.2.1.1
      go_wp2_with fail
      clear ht
      refine HX.out.mono ?_
      rintro e w9 ⟨rfl, hb9⟩
      obtain ⟨G, hG⟩ : ∃ G, G = fresh ⟨#[116]⟩ (namesOf ts rs) := ⟨_, rfl⟩
      rw [← hG] at HTT ⊢
      have hA9 := HS.out.1.later hb9
      have hB9 : Below w4.heap.size w4 w9 := blw_trans HS.out.2 hb9
      obtain ⟨wa, hwa⟩ : ∃ wa, wa = w9.setCell ⟨P, 2, none⟩ (.string G) := ⟨_, rfl⟩
      have HSN : Hid (ActAt wa P V F G r.pre ∧ Below w4.heap.size w4 wa) := by rw [hwa]; exact ⟨hA9.put2 G, Below.setCell hB9 (p := ⟨P, 2, none⟩) hP _⟩
      have hfz := hA9.own.frozen
      have t3 := hA9.c2
      clear hG HX hb9 HS t2 hA9 hB9
      go_upto_region 9 with fail
      rw [← hwa]
      clear hwa hfz t3
      have HS : Hid (ActAt wa P V F G r.pre ∧ Below w4.heap.size w4 wa) := HSN.out
      obtain ⟨a0, a1, a2, a3⟩ : wa.cell? ⟨P, 0, none⟩ = some (.int .i64 V) ∧ wa.cell? ⟨P, 1, none⟩ = some (.string F) ∧ wa.cell? ⟨P, 2, none⟩ = some (.string G) ∧ wa.cell? ⟨P, 3, none⟩ = some (.string r.pre) := ⟨HS.out.1.c0, HS.out.1.c1, HS.out.1.c2, HS.out.1.c3⟩
      have hO := (HM.out wa HS.out.2).2.2.2.2.2.1
      have hBw := (HM.out wa HS.out.2).2.2.2.2.2.2.2
      have hfz := hO.frozen
      obtain ⟨y0, o0⟩ := hO.cell 0 (by omega)
      obtain ⟨y1, o1⟩ := hO.cell 1 (by omega)
      obtain ⟨y2, o2⟩ := hO.cell 2 (by omega)
      obtain ⟨y3, o3⟩ := hO.cell 3 (by omega)
      go_wp2
      obtain ⟨r0, r1, r2, r3⟩ := four_puts hO (.int .i64 V) (.string F) (.string G) (.string r.pre)
      refine bodyPost_ret (v := .tuple #[.agg #[.int .i64 V, .string F, .string G, .string r.pre], .bool true]) (by simp only [results, Tryd.results6]; simp [go_sem, r0, r1, r2, r3]) rfl ⟨ret_unc HV.out.1.symm HV.out.2.1.symm (by rw [HKK.out]) (by rw [HTT.out]) HV.out.2.2.symm, ?_⟩
      exact four_below hBw (by omega) _ _ _ _

end Go.Proofs.YtfmidkdpclfffaaDoor
