/-
  The walk over the law of GateShaped.
-/
import Derived.Deep.DeepCutAuto
import Derived.Test.YtfdahoekjpobaaaGreatLawJ
import Derived.Test.YtfdahoekjpobaaaGreatWalkDS
import Derived.Test.YtfdahoekjpobaaaGreatFrM
import Derived.Test.YtfdahoekjpobaaaGreatWalkDK
import Derived.Test.YtfdahoekjpobaaaGreatSzM
namespace Go.Proofs.YtfdahoekjpobaaaGreat
open Go.RowKit Go.Deep

theorem mendStep_sizes {L : List Mng} (hL : ∀ x ∈ L, x.put.size ≤ maxLen) {vs : List ByteArray} (hv : ∀ i, i < vs.length → (vs.getD i ByteArray.empty).size ≤ maxLen) (p : Nat) : ∀ i, i < (mendStep L vs p).length → ((mendStep L vs p).getD i ByteArray.empty).size ≤ maxLen := by
  intro i hi
  rw [mendStep_len] at hi
  unfold mendStep
  split
  · rename_i hd
    by_cases hip : p = i
    · subst hip
      have e : (vs.set p (givesB (L.getD (decAt L p vs) Mng.none) vs)).getD p ByteArray.empty = givesB (L.getD (decAt L p vs) Mng.none) vs := by simp [hi]
      rw [e]
      unfold givesB
      split
      · by_cases hf : (L.getD (decAt L p vs) Mng.none).frm < vs.length
        · exact hv _ hf
        · have e2 : vs.getD (L.getD (decAt L p vs) Mng.none).frm ByteArray.empty = ByteArray.empty := by rw [List.getD_eq_getElem?_getD, List.getElem?_eq_none (by omega)]; rfl
          rw [e2]; exact Nat.zero_le _
      · exact hL _ (by simp [hd])
    · have e : (vs.set p (givesB (L.getD (decAt L p vs) Mng.none) vs)).getD i ByteArray.empty = vs.getD i ByteArray.empty := by simp [hip]
      rw [e]; exact hv i hi
  · exact hv i hi

theorem mendBy_sizes {L : List Mng} (hL : ∀ x ∈ L, x.put.size ≤ maxLen) : ∀ (row : List Nat) (vs : List ByteArray), (∀ i, i < vs.length → (vs.getD i ByteArray.empty).size ≤ maxLen) → ∀ i, i < (mendBy L vs row).length → ((mendBy L vs row).getD i ByteArray.empty).size ≤ maxLen
  | [], _, hv => hv
  | p :: row, vs, hv => mendBy_sizes hL row (mendStep L vs p) (mendStep_sizes hL hv p)

theorem l2_sizes {w : World} {B : Nat} {ss : List Shp} {o : Ob} (h : ShpsIn w B ss) (hv : ∀ i, i < o.values.length → (o.values.getD i ByteArray.empty).size ≤ maxLen) : ∀ i, i < (l2Vals ss o).length → ((l2Vals ss o).getD i ByteArray.empty).size ≤ maxLen := by
  intro i hi
  rw [l2Vals_len] at hi
  unfold l2Vals
  split
  · rename_i hc
    unfold hasFields at hc
    have hc1 := ((Bool.and_eq_true _ _).mp hc).1
    have hc2 : o.values.length = (ss.getD (kindAt ss o.kind) Shp.none).fields.length := of_decide_eq_true ((Bool.and_eq_true _ _).mp hc).2
    rw [fillTo_at _ _ _ _ hi]
    split
    · have hk' : kindAt ss o.kind < ss.length := by unfold hasKind at hc1; exact of_decide_eq_true hc1
      obtain ⟨b, _, _, _, _, _, _, hf⟩ := h.at_ _ hk'
      obtain ⟨b', _, _, hfi⟩ := hf i (by rw [← hc2]; exact hi)
      exact hfi.sized.2.2.1
    · exact hv i hi
  · exact hv i hi

theorem shaped_sizes {w w' : World} {B mb : Nat} {ss : List Shp} {ms : List Mnd} {o : Ob} (hs : ShpsIn w' B ss) (h : MndsIn w mb ms) (hv : ∀ i, i < o.values.length → (o.values.getD i ByteArray.empty).size ≤ maxLen) : ∀ i, i < (shapedVals ss ms o).length → ((shapedVals ss ms o).getD i ByteArray.empty).size ≤ maxLen := by
  have hL : ∀ x ∈ mngsAt ss ms o.kind, x.put.size ≤ maxLen := by
    intro x hx
    unfold mngsAt mngsOf at hx
    obtain ⟨m, hm, rfl⟩ := List.mem_map.1 hx
    obtain ⟨hm1, _⟩ := List.mem_filter.1 hm
    obtain ⟨i, hi, rfl⟩ := List.getElem_of_mem hm1
    have := (h.at_ i hi).sized
    have e : ms.getD i Mnd.none = ms[i] := by simp [hi]
    rw [e] at this
    exact this.2.2.2.2.1
  unfold shapedVals
  split
  · unfold shapeVals mendVals
    split
    · exact mendBy_sizes hL _ _ (l2_sizes hs hv)
    · exact l2_sizes hs hv
  · exact hv

set_option maxRecDepth 8000 in
set_option maxHeartbeats 40000000 in
theorem lawShaped (v vm : Value) (ss : List Shp) (ms : List Mnd) (o : Ob) (v1 v2 : Value) (w : World) (h : ShpsAt w v ss) (hmm : MndsAt w vm ms) (t1 : Texts w v1 o.values) (t2 : Texts w v2 o.holds) (hsz : o.sized) :
    Calls Tryz.prog 3 #[v, vm, .agg #[.string o.kind, .string o.name, .string o.team, v1, .bool o.ending, v2, .int .i64 o.version]] w fun e w' => e = .returned (.bool true) ∧ Below w.heap.size w w' := by
  have HH : Hid (ShpsAt w v ss ∧ Texts w v1 o.values ∧ Texts w v2 o.holds) := ⟨h, t1, t2⟩
  have HZ : Hid (o.sized) := hsz
  have HMM : Hid (MndsAt w vm ms) := hmm
  clear h t1 t2 hsz hmm
  have HB0 : Hid (Below w.heap.size w (w.alloc (.cells #[.string o.kind, .string o.name, .string o.team, v1, .bool o.ending, v2, .int .i64 o.version] 26))) := blw_alloc (Below.refl _ _) _
  have HX0 : Hid (BoxAt (w.alloc (.cells #[.string o.kind, .string o.name, .string o.team, v1, .bool o.ending, v2, .int .i64 o.version] 26)) w.heap.size o v1 v2) := BoxAt.new w o v1 v2 26
  go_enter Tryz.func3, Tryz.ntmps3
  go_wp2_with fail
  refine (szShapes v ss 1048576 _ (by omega) (by omega) (HH.out.1.later HB0.out)).mono ?_
  rintro e w1 ⟨⟨r, rfl, hr⟩, hb1⟩
  have HR : Hid (szP (((ss.length : Int) ≤ 1048576) ∧ ∀ s ∈ ss, s.small) 1048576 r) := hr
  have hr1 : r ≤ 1048576 := hr.2.1
  have HB1 : Hid (Below w.heap.size w w1) := blw_trans HB0.out hb1
  have HX1 : Hid (BoxAt w1 w.heap.size o v1 v2) := HX0.out.later hb1
  clear hr hb1 HX0 HB0
  by_cases c1 : r < 0
  · go_wp2
    go_ret
    exact ⟨rfl, HB1.out⟩
  have HL : Hid (ss.length ≤ 1048576 ∧ ∀ s ∈ ss, s.small) := by have := HR.out.2.2 (by omega); exact ⟨by omega, this.2⟩
  clear HR
  go_wp2_with fail
  refine (szMends vm ms r _ (by omega) hr1 (HMM.out.later HB1.out)).mono ?_
  rintro e w1m ⟨⟨rm, rfl, hr⟩, hb1m⟩
  have HRm : Hid (szP ((ms.length : Int) ≤ r) r rm) := hr
  have hrm1 : rm ≤ 1048576 := Int.le_trans hr.2.1 hr1
  have HB1m : Hid (Below w.heap.size w w1m) := blw_trans HB1.out hb1m
  have HX1m : Hid (BoxAt w1m w.heap.size o v1 v2) := HX1.out.later hb1m
  clear hr hb1m HX1 HB1
  by_cases c1m : rm < 0
  · go_wp2
    go_ret
    exact ⟨rfl, HB1m.out⟩
  have HLm : Hid (ms.length ≤ 1048576) := by have := HRm.out.2.2 (by omega); show ms.length ≤ 1048576; omega
  clear HRm
  have HX1 := HX1m
  have HB1 := HB1m
  clear HX1m HB1m
  have z1 := HX1.out.lt
  have f0 := HX1.out.x0
  have f1 := HX1.out.x1
  have f2 := HX1.out.x2
  have f3 := HX1.out.x3
  have f4 := HX1.out.x4
  have f5 := HX1.out.x5
  have f6 := HX1.out.x6
  go_wp2_with fail
  refine (szObj o v1 v2 rm _ (by omega) hrm1 (HH.out.2.1.later HB1.out) (HH.out.2.2.later HB1.out) HZ.out).mono ?_
  rintro e w2 ⟨⟨r2, rfl, hr2⟩, hb2⟩
  have HR2 : Hid (szP (o.values.length ≤ 1048576 ∧ o.holds.length ≤ 1048576) rm r2) := hr2
  have HB2 : Hid (Below w.heap.size w w2) := blw_trans HB1.out hb2
  have HX2 : Hid (BoxAt w2 w.heap.size o v1 v2) := HX1.out.later hb2
  clear hr2 hb2 f0 f1 f2 f3 f4 f5 f6 z1 HX1 HB1
  by_cases c2 : r2 < 0
  · go_wp2
    go_ret
    exact ⟨rfl, HB2.out⟩
  have HLO : Hid (o.values.length ≤ 1048576 ∧ o.holds.length ≤ 1048576) := HR2.out.2.2 (by omega)
  clear HR2
  have HT13 : Hid (∀ W, Below w.heap.size w W → Calls Tryz.prog 8 #[v] W fun e w' => e = .returned (.slice (some ⟨W.heap.size, 0, none⟩) ss.length ss.length) ∧ Below W.heap.size W w' ∧ ShpsIn w' W.heap.size ss) := by
    intro W hW
    refine (toShapes v ss W HL.out.1 HL.out.2 (HH.out.1.later hW)).mono ?_
    rintro e w' ⟨rfl, h1, h2, h3⟩
    exact ⟨rfl, h1, ⟨h2.lt, HL.out.1, HL.out.2, h3, h2⟩⟩
  have HTM : Hid (∀ W, Below w.heap.size w W → Calls Tryz.prog 9 #[vm] W fun e w' => ∃ BM, (e = .returned (.slice (some ⟨BM, 0, none⟩) ms.length ms.length) ∧ BM = W.heap.size) ∧ Below W.heap.size W w' ∧ MndsIn w' BM ms ∧ OwnBlk w' BM 58 (ms.length * 6)) := by
    intro W hW
    refine (toMendsO vm ms W HLm.out (HMM.out.later hW)).mono ?_
    rintro e w' ⟨rfl, h1, h2, h3⟩
    exact ⟨_, ⟨rfl, rfl⟩, h1, h2, h3⟩
  have HT18 : Hid (∀ W, Below w.heap.size w W → Calls Tryz.prog 10 #[.agg #[.string o.kind, .string o.name, .string o.team, v1, .bool o.ending, v2, .int .i64 o.version]] W fun e w' => (∃ b1 b2, e = .returned (.agg #[.string o.kind, .string o.name, .string o.team, .slice (some ⟨b1, 0, none⟩) o.values.length o.values.length, .bool o.ending, .slice (some ⟨b2, 0, none⟩) o.holds.length o.holds.length, .int .i64 o.version]) ∧ ObArg w' b1 b2 o ∧ OwnBlk w' b1 9 o.values.length ∧ OwnBlk w' b2 9 o.holds.length ∧ W.heap.size ≤ b1 ∧ b1 < b2) ∧ Below W.heap.size W w') := fun W hW => toObj o v1 v2 W HLO.out.1 HLO.out.2 (HH.out.2.1.later hW) (HH.out.2.2.later hW)
  have z2 := HX2.out.lt
  have f0 := HX2.out.x0
  have f1 := HX2.out.x1
  have f2 := HX2.out.x2
  have f3 := HX2.out.x3
  have f4 := HX2.out.x4
  have f5 := HX2.out.x5
  have f6 := HX2.out.x6
  have HK : Hid (∀ (W W' : World), Below w2.heap.size w2 W → Below W.heap.size W W' → Below w2.heap.size w2 W' ∧ BoxAt W' w.heap.size o v1 v2 ∧ w2.heap.size ≤ W.heap.size) := fun W W' h1 h2 => ⟨blw_trans h1 h2, HX2.out.later (blw_trans h1 h2), h1.size⟩
  have hsv : Hid (∀ i, i < o.values.length → (o.values.getD i ByteArray.empty).size ≤ maxLen) := HH.out.2.1.sizes
  have hsh : Hid (∀ i, i < o.holds.length → (o.holds.getD i ByteArray.empty).size ≤ maxLen) := HH.out.2.2.sizes
  have HTx : Hid (∀ W, Below w.heap.size w W → Calls Tryz.prog 8 #[v] W fun e w' => ∃ BA, e = .returned (.slice (some ⟨BA, 0, none⟩) ss.length ss.length) ∧ Below W.heap.size W w' ∧ ShpsIn w' BA ss) := by
    intro W hW
    refine (HT13.out W hW).mono ?_
    rintro e w' ⟨rfl, h1, h2⟩
    exact ⟨_, rfl, h1, h2⟩
  go_upto_region 11 with fail
  go_cut [8] (fun s6 wx => ∃ p6 a1 n1 d1 a2 n2 d2, s6 = .pointer (some ⟨p6, 0, none⟩) ∧ St w wx o v1 v2 wx.heap.size p6 (shapedVals ss ms o) (.slice a1 n1 d1) (.slice a2 n2 d2))
  case first =>
    refine wp_region_any (by kernel_rfl) ?_
    refine gen_frame (R := fun a => wpAny _ _ _ _ _ _ a _) _ ?_
    intro a0 ha0
    have hsz0 : 38 < a0.tmps.size := by rw [ha0]; simp
    have f0z : a0.eval (.tmp 0) = v := by rw [ha0]; rfl
    have f1z : a0.eval (.tmp 1) = vm := by rw [ha0]; rfl
    have f5z : a0.eval (.tmp 5) = .pointer (some ⟨w.heap.size, 0, none⟩) := by rw [ha0]; rfl
    refine wpAny_inv (fun l a W => ∃ s32 s33 s34 s35 s36 s37 s38 s8 : Value, a = cm a0 s32 s33 s34 s35 s36 s37 s38 s8 ∧ (l.getD 0 false = true → s32 = v) ∧ (l.getD 2 false = true → s34 = vm) ∧ (l.getD 4 false = true → s36 = .agg #[.string o.kind, .string o.name, .string o.team, v1, .bool o.ending, v2, .int .i64 o.version]) ∧ l.size = 9 ∧ ((l.getD 8 false = false ∧ PreM w2 ss ms o (shapedVals ss ms o) (l.getD 1 false) (l.getD 3 false) (l.getD 5 false) (l.getD 6 false) (l.getD 7 false) s33 s35 s37 s38 s8 W) ∨ (l.getD 8 false = true ∧ PostM w2 o (shapedVals ss ms o) s8 W))) ?_ ?_ _ _ _ _ ?_ ?_ ?_
    · rintro l a W i ⟨s32, s33, s34, s35, s36, s37, s38, s8, rfl, h0, h2, h4, hls, hw⟩ hC hi
      obtain ⟨hun, o', ho, hall⟩ := mem_ready.1 hi
      have hlt : i < 9 := (Array.getElem?_eq_some_iff.1 ho).1
      have hcases : i = 0 ∨ i = 1 ∨ i = 2 ∨ i = 3 ∨ i = 4 ∨ i = 5 ∨ i = 6 ∨ i = 7 ∨ i = 8 := by omega
      rcases hw with ⟨h8f, hP⟩ | ⟨L8, _⟩
      rotate_left
      · exfalso
        have L7 : l.getD 7 false = true := hC 8 _ ⟨7, .data⟩ rfl (by simp) rfl L8
        have L6 : l.getD 6 false = true := hC 8 _ ⟨6, .data⟩ rfl (by simp) rfl L8
        have L1 : l.getD 1 false = true := hC 6 _ ⟨1, .data⟩ rfl (by simp) rfl L6
        have L3 : l.getD 3 false = true := hC 6 _ ⟨3, .data⟩ rfl (by simp) rfl L6
        have L5 : l.getD 5 false = true := hC 6 _ ⟨5, .data⟩ rfl (by simp) rfl L6
        have L0 : l.getD 0 false = true := hC 1 _ ⟨0, .data⟩ rfl (by simp) rfl L1
        have L2 : l.getD 2 false = true := hC 3 _ ⟨2, .data⟩ rfl (by simp) rfl L3
        have L4 : l.getD 4 false = true := hC 5 _ ⟨4, .data⟩ rfl (by simp) rfl L5
        have hf := getD_flip hun
        rcases hcases with rfl | rfl | rfl | rfl | rfl | rfl | rfl | rfl | rfl
        · rw [L0] at hf; cases hf
        · rw [L1] at hf; cases hf
        · rw [L2] at hf; cases hf
        · rw [L3] at hf; cases hf
        · rw [L4] at hf; cases hf
        · rw [L5] at hf; cases hf
        · rw [L6] at hf; cases hf
        · rw [L7] at hf; cases hf
        · rw [L8] at hf; cases hf
      have hB := hP.bel
      obtain ⟨_, p0, p1, p2, p3, p4, p5, p6⟩ := (HX2.out.later hB)
      rcases hcases with rfl | rfl | rfl | rfl | rfl | rfl | rfl | rfl | rfl
      · have ho1 := ho
        simp at ho
        subst ho
        refine wpOp_value (v := v) (w' := W) ho1 rfl ?_ ?_
        · simp [execOp, go_sem, cm_get0 _ _ _ _ _ _ _ _ _ _ f0z]
        · show ∃ s32, _
          rw [cm_put32]
          exact ⟨_, _, _, _, _, _, _, _, rfl, fun _ => rfl, fun h => h2 ((set_get h).resolve_left (by decide)), fun h => h4 ((set_get h).resolve_left (by decide)), (by simpa using hls), Or.inl ⟨by rw [getD_set_ne _ (show (0 : Nat) ≠ 8 by decide)]; exact h8f, (by rw [getD_set_ne _ (show (0 : Nat) ≠ 1 by decide), getD_set_ne _ (show (0 : Nat) ≠ 3 by decide), getD_set_ne _ (show (0 : Nat) ≠ 5 by decide), getD_set_ne _ (show (0 : Nat) ≠ 6 by decide), getD_set_ne _ (show (0 : Nat) ≠ 7 by decide)]; exact hP)⟩⟩
      · have ho1 := ho
        simp at ho
        subst ho
        have e0 := (h0 (hall ⟨0, .data⟩ (by simp) rfl)).symm
        subst e0
        refine wpOp_enter (f := 8) (args := #[v]) ho1 rfl ?_ ?_
        · simp [go_sem, cm_get32 _ _ _ _ _ _ _ _ _ hsz0]
        · refine (HTx.out W (blw_trans HB2.out hB)).mono ?_
          rintro e W2 ⟨BA, rfl, hb2, ht⟩
          refine ⟨_, rfl, ?_⟩
          show ∃ s32, _
          rw [cm_put33]
          exact ⟨_, _, _, _, _, _, _, _, rfl, fun h => h0 ((set_get h).resolve_left (by decide)), fun h => h2 ((set_get h).resolve_left (by decide)), fun h => h4 ((set_get h).resolve_left (by decide)), (by simpa using hls), Or.inl ⟨by rw [getD_set_ne _ (show (1 : Nat) ≠ 8 by decide)]; exact h8f, (by rw [getD_set_ne _ (show (1 : Nat) ≠ 3 by decide), getD_set_ne _ (show (1 : Nat) ≠ 5 by decide), getD_set_ne _ (show (1 : Nat) ≠ 6 by decide), getD_set_ne _ (show (1 : Nat) ≠ 7 by decide), set_here hun]; exact (hP.later hb2).shapes ht)⟩⟩
      · have ho1 := ho
        simp at ho
        subst ho
        refine wpOp_value (v := vm) (w' := W) ho1 rfl ?_ ?_
        · simp [execOp, go_sem, cm_get1 _ _ _ _ _ _ _ _ _ _ f1z]
        · show ∃ s32, _
          rw [cm_put34]
          exact ⟨_, _, _, _, _, _, _, _, rfl, fun h => h0 ((set_get h).resolve_left (by decide)), fun _ => rfl, fun h => h4 ((set_get h).resolve_left (by decide)), (by simpa using hls), Or.inl ⟨by rw [getD_set_ne _ (show (2 : Nat) ≠ 8 by decide)]; exact h8f, (by rw [getD_set_ne _ (show (2 : Nat) ≠ 1 by decide), getD_set_ne _ (show (2 : Nat) ≠ 3 by decide), getD_set_ne _ (show (2 : Nat) ≠ 5 by decide), getD_set_ne _ (show (2 : Nat) ≠ 6 by decide), getD_set_ne _ (show (2 : Nat) ≠ 7 by decide)]; exact hP)⟩⟩
      · have ho1 := ho
        simp at ho
        subst ho
        have e2 := (h2 (hall ⟨2, .data⟩ (by simp) rfl)).symm
        subst e2
        refine wpOp_enter (f := 9) (args := #[vm]) ho1 rfl ?_ ?_
        · simp [go_sem, cm_get34 _ _ _ _ _ _ _ _ _ hsz0]
        · refine (HTM.out W (blw_trans HB2.out hB)).mono ?_
          rintro e W2 ⟨BA, ⟨rfl, _⟩, hb2, ht, _⟩
          refine ⟨_, rfl, ?_⟩
          show ∃ s32, _
          rw [cm_put35]
          exact ⟨_, _, _, _, _, _, _, _, rfl, fun h => h0 ((set_get h).resolve_left (by decide)), fun h => h2 ((set_get h).resolve_left (by decide)), fun h => h4 ((set_get h).resolve_left (by decide)), (by simpa using hls), Or.inl ⟨by rw [getD_set_ne _ (show (3 : Nat) ≠ 8 by decide)]; exact h8f, (by rw [getD_set_ne _ (show (3 : Nat) ≠ 1 by decide), getD_set_ne _ (show (3 : Nat) ≠ 5 by decide), getD_set_ne _ (show (3 : Nat) ≠ 6 by decide), getD_set_ne _ (show (3 : Nat) ≠ 7 by decide), set_here hun]; exact (hP.later hb2).mends ht)⟩⟩
      · have ho1 := ho
        simp at ho
        subst ho
        refine wpOp_value (v := .agg #[.string o.kind, .string o.name, .string o.team, v1, .bool o.ending, v2, .int .i64 o.version]) (w' := W) ho1 rfl ?_ ?_
        · simp [execOp, go_sem, cm_get5 _ _ _ _ _ _ _ _ _ _ f5z, p0, p1, p2, p3, p4, p5, p6]
        · show ∃ s32, _
          rw [cm_put36]
          exact ⟨_, _, _, _, _, _, _, _, rfl, fun h => h0 ((set_get h).resolve_left (by decide)), fun h => h2 ((set_get h).resolve_left (by decide)), fun _ => rfl, (by simpa using hls), Or.inl ⟨by rw [getD_set_ne _ (show (4 : Nat) ≠ 8 by decide)]; exact h8f, (by rw [getD_set_ne _ (show (4 : Nat) ≠ 1 by decide), getD_set_ne _ (show (4 : Nat) ≠ 3 by decide), getD_set_ne _ (show (4 : Nat) ≠ 5 by decide), getD_set_ne _ (show (4 : Nat) ≠ 6 by decide), getD_set_ne _ (show (4 : Nat) ≠ 7 by decide)]; exact hP)⟩⟩
      · have ho1 := ho
        simp at ho
        subst ho
        have e4 := (h4 (hall ⟨4, .data⟩ (by simp) rfl)).symm
        subst e4
        refine wpOp_enter (f := 10) (args := #[.agg #[.string o.kind, .string o.name, .string o.team, v1, .bool o.ending, v2, .int .i64 o.version]]) ho1 rfl ?_ ?_
        · simp [go_sem, cm_get36 _ _ _ _ _ _ _ _ _ hsz0]
        · refine (HT18.out W (blw_trans HB2.out hB)).mono ?_
          rintro e W2 ⟨⟨x1, x2, rfl, ht, _, _, _, _⟩, hb2⟩
          refine ⟨_, rfl, ?_⟩
          show ∃ s32, _
          rw [cm_put37]
          exact ⟨_, _, _, _, _, _, _, _, rfl, fun h => h0 ((set_get h).resolve_left (by decide)), fun h => h2 ((set_get h).resolve_left (by decide)), fun h => h4 ((set_get h).resolve_left (by decide)), (by simpa using hls), Or.inl ⟨by rw [getD_set_ne _ (show (5 : Nat) ≠ 8 by decide)]; exact h8f, (by rw [getD_set_ne _ (show (5 : Nat) ≠ 1 by decide), getD_set_ne _ (show (5 : Nat) ≠ 3 by decide), getD_set_ne _ (show (5 : Nat) ≠ 6 by decide), getD_set_ne _ (show (5 : Nat) ≠ 7 by decide), set_here hun]; exact (hP.later hb2).object ht)⟩⟩
      · have ho1 := ho
        simp at ho
        subst ho
        obtain ⟨BA, e1, t1⟩ := hP.q1 (hall ⟨1, .data⟩ (by simp) rfl)
        obtain ⟨BM, e3, t3⟩ := hP.q3 (hall ⟨3, .data⟩ (by simp) rfl)
        obtain ⟨x1, x2, e5, t5⟩ := hP.q5 (hall ⟨5, .data⟩ (by simp) rfl)
        subst e1 e3 e5
        refine wpOp_enter (f := 7) (args := #[.slice (some ⟨BA, 0, none⟩) ss.length ss.length, .slice (some ⟨BM, 0, none⟩) ms.length ms.length, .agg #[.string o.kind, .string o.name, .string o.team, .slice (some ⟨x1, 0, none⟩) o.values.length o.values.length, .bool o.ending, .slice (some ⟨x2, 0, none⟩) o.holds.length o.holds.length, .int .i64 o.version]]) ho1 rfl ?_ ?_
        · simp [go_sem, cm_get33 _ _ _ _ _ _ _ _ _ hsz0, cm_get35 _ _ _ _ _ _ _ _ _ hsz0, cm_get37 _ _ _ _ _ _ _ _ _ hsz0]
        · refine (shapedS BA BM ss ms o _ _ _ _ W t1 t3 (t5.g _ _)).mono ?_
          rintro e W2 ⟨⟨a1, n1, d1, a2, n2, d2, mid, rfl, hct1, hct2, hm1, hm2⟩, hb2⟩
          refine ⟨_, rfl, ?_⟩
          show ∃ s32, _
          rw [cm_put38]
          exact ⟨_, _, _, _, _, _, _, _, rfl, fun h => h0 ((set_get h).resolve_left (by decide)), fun h => h2 ((set_get h).resolve_left (by decide)), fun h => h4 ((set_get h).resolve_left (by decide)), (by simpa using hls), Or.inl ⟨by rw [getD_set_ne _ (show (6 : Nat) ≠ 8 by decide)]; exact h8f, (by rw [getD_set_ne _ (show (6 : Nat) ≠ 1 by decide), getD_set_ne _ (show (6 : Nat) ≠ 3 by decide), getD_set_ne _ (show (6 : Nat) ≠ 5 by decide), getD_set_ne _ (show (6 : Nat) ≠ 7 by decide), set_here hun]; exact hP.answer hb2 hct1 hct2 hm1 hm2)⟩⟩
      · have ho1 := ho
        simp at ho
        subst ho
        refine wpOp_value (v := .pointer (some ⟨W.heap.size, 0, none⟩)) (w' := W.alloc (.cells #[.string ⟨#[]⟩, .string ⟨#[]⟩, .string ⟨#[]⟩, .slice none 0 0, .bool false, .slice none 0 0, .int .i64 0] 30)) ho1 rfl ?_ ?_
        · simp [execOp, go_sem]
        · show ∃ s32, _
          rw [cm_put8]
          exact ⟨_, _, _, _, _, _, _, _, rfl, fun h => h0 ((set_get h).resolve_left (by decide)), fun h => h2 ((set_get h).resolve_left (by decide)), fun h => h4 ((set_get h).resolve_left (by decide)), (by simpa using hls), Or.inl ⟨by rw [getD_set_ne _ (show (7 : Nat) ≠ 8 by decide)]; exact h8f, (by rw [getD_set_ne _ (show (7 : Nat) ≠ 1 by decide), getD_set_ne _ (show (7 : Nat) ≠ 3 by decide), getD_set_ne _ (show (7 : Nat) ≠ 5 by decide), getD_set_ne _ (show (7 : Nat) ≠ 6 by decide), set_here hun]; exact hP.block _ rfl)⟩⟩
      · have ho1 := ho
        simp at ho
        subst ho
        have L6 : l.getD 6 false = true := hall ⟨6, .data⟩ (by simp) rfl
        have L7 : l.getD 7 false = true := hall ⟨7, .data⟩ (by simp) rfl
        obtain ⟨P, e7, hPl, hO⟩ := hP.q7 L7
        obtain ⟨a1, n1, d1, a2, n2, d2, lo, hi', e6, t1, t2, t3, t4, t5⟩ := hP.q6 L6
        have hd := t5 L7 P e7
        have hS := FB.store (o := o) hB hO hd t1 t2 t3 t4 hPl
        clear t1 t2 t3 t4 t5 hd hP
        subst e7 e6
        have hfz := hO.frozen
        obtain ⟨y0, o0⟩ := hO.cell 0 (by omega)
        obtain ⟨y1, o1⟩ := hO.cell 1 (by omega)
        obtain ⟨y2, o2⟩ := hO.cell 2 (by omega)
        obtain ⟨y3, o3⟩ := hO.cell 3 (by omega)
        obtain ⟨y4, o4⟩ := hO.cell 4 (by omega)
        obtain ⟨y5, o5⟩ := hO.cell 5 (by omega)
        obtain ⟨y6, o6⟩ := hO.cell 6 (by omega)
        refine wpOp_skip (w' := (((((((W.setCell ⟨P, 0, none⟩ (.string o.kind)).setCell ⟨P, 1, none⟩ (.string o.name)).setCell ⟨P, 2, none⟩ (.string o.team)).setCell ⟨P, 3, none⟩ (.slice a1 n1 d1)).setCell ⟨P, 4, none⟩ (.bool o.ending)).setCell ⟨P, 5, none⟩ (.slice a2 n2 d2)).setCell ⟨P, 6, none⟩ (.int .i64 o.version))) ho1 rfl ?_ ?_
        · simp [execOp, go_sem, cm_get8 _ _ _ _ _ _ _ _ _ hsz0, cm_get38 _ _ _ _ _ _ _ _ _ hsz0, hfz, o0, o1, o2, o3, o4, o5, o6]
        · show ∃ s32, _
          rw [put_none]
          exact ⟨_, _, _, _, _, _, _, _, rfl, fun h => h0 ((set_get h).resolve_left (by decide)), fun h => h2 ((set_get h).resolve_left (by decide)), fun h => h4 ((set_get h).resolve_left (by decide)), (by simpa using hls), Or.inr ⟨set_here hun, P, a1, n1, d1, a2, n2, d2, rfl, hS.1, hS.2⟩⟩
    · rintro l a W ⟨s32, s33, s34, s35, s36, s37, s38, s8, rfl, h0, h2, h4, hls, hw⟩ hr
      have L := all_up hr (by kernel_rfl) hls
      rcases hw with ⟨h8f, _⟩ | ⟨_, P, a1, n1, d1, a2, n2, d2, rfl, hBP, hFB⟩
      · rw [L 8 (by decide)] at h8f; cases h8f
      · subst ha0
        simp [cm, Act.put]
        go_wp2_with fail
        go_meet
        exact ⟨P, a1, n1, d1, a2, n2, d2, rfl, stOf HB2.out HX2.out z2 ⟨hBP, hFB⟩⟩
    · refine ⟨_, _, _, _, _, _, _, _, cm_self a0, fun h => absurd h Bool.false_ne_true, fun h => absurd h Bool.false_ne_true, fun h => absurd h Bool.false_ne_true, rfl, Or.inl ⟨rfl, ?_⟩⟩
      exact ⟨by repeat (first | exact Below.refl _ _ | refine Below.drew ?_), fun h => absurd h Bool.false_ne_true, fun h => absurd h Bool.false_ne_true, fun h => absurd h Bool.false_ne_true, fun h => absurd h Bool.false_ne_true, fun h => absurd h Bool.false_ne_true⟩
    · exact Closed.none _ (rep_none 9)
    · exact Nat.le_of_eq (by kernel_rfl)
  case rest =>
  obtain ⟨p6, a1, n1, d1, a2, n2, d2, rfl, hSt⟩ := hcut
  rename World => w3
  have HS3 : Hid (St w w3 o v1 v2 w3.heap.size p6 (shapedVals ss ms o) (.slice a1 n1 d1) (.slice a2 n2 d2)) := hSt
  clear hSt f0 f1 f2 f3 f4 f5 f6 z2 HB2 HX2 HK
  have hp6 := HS3.out.f.box.lt
  go_wp2_with fail
  refine (HT13.out _ HS3.out.bel).mono ?_
  rintro e w4s ⟨rfl, hb4s, hi4s⟩
  have HS4s : Hid (St w w4s o v1 v2 w3.heap.size p6 (shapedVals ss ms o) (.slice a1 n1 d1) (.slice a2 n2 d2)) := HS3.out.later hb4s
  have HI4s : Hid (ShpsIn w4s w3.heap.size ss ∧ w3.heap.size ≤ w4s.heap.size) := ⟨hi4s, hb4s.size⟩
  clear hb4s hi4s
  go_wp2_with fail
  refine (HTM.out _ HS4s.out.bel).mono ?_
  rintro e w4 ⟨mbk, ⟨rfl, hmbk⟩, hb4, hmi, hmo⟩
  have HMB : Hid (w3.heap.size ≤ mbk ∧ mbk < w4.heap.size) := ⟨by rw [hmbk]; exact HI4s.out.2, hmo.lt⟩
  have HMI4 : Hid (MndsIn w4 mbk ms ∧ OwnBlk w4 mbk 58 (ms.length * 6)) := ⟨hmi, hmo⟩
  clear hmbk hmi hmo
  have HS4 : Hid (St w w4 o v1 v2 w3.heap.size p6 (shapedVals ss ms o) (.slice a1 n1 d1) (.slice a2 n2 d2)) := HS4s.out.later hb4
  have HI4 : Hid (ShpsIn w4 w3.heap.size ss) := HI4s.out.1.later hb4
  have z4 := HS4.out.box.lt
  have f0 := HS4.out.box.x0
  have f1 := HS4.out.box.x1
  have f2 := HS4.out.box.x2
  have f3 := HS4.out.box.x3
  have f4 := HS4.out.box.x4
  have f5 := HS4.out.box.x5
  have f6 := HS4.out.box.x6
  clear hb4 HS4s HI4s
  go_wp2_with fail
  refine (HT18.out _ HS4.out.bel).mono ?_
  rintro e w5 ⟨⟨b1, b2, rfl, ho5, hw1, hw2, hl1, hl2⟩, hb5⟩
  have HMI5 : Hid (MndsIn w5 mbk ms ∧ OwnBlk w5 mbk 58 (ms.length * 6)) := ⟨HMI4.out.1.later hb5, HMI4.out.2.later hb5⟩
  have HMB5 : Hid (w3.heap.size ≤ mbk ∧ mbk < w5.heap.size) := ⟨HMB.out.1, Nat.lt_of_lt_of_le HMB.out.2 hb5.size⟩
  have HS5 : Hid (St w w5 o v1 v2 w3.heap.size p6 (shapedVals ss ms o) (.slice a1 n1 d1) (.slice a2 n2 d2)) := HS4.out.later hb5
  have HU5 : Hid (Su (w5.alloc (.cells #[.string o.kind, .string o.name, .string o.team, .slice (some ⟨b1, 0, none⟩) o.values.length o.values.length, .bool o.ending, .slice (some ⟨b2, 0, none⟩) o.holds.length o.holds.length, .int .i64 o.version] 30)) ss o w3.heap.size w3.heap.size w4.heap.size b1 b2 w5.heap.size) := by
    have hn : Below w5.heap.size w5 (w5.alloc (.cells #[.string o.kind, .string o.name, .string o.team, .slice (some ⟨b1, 0, none⟩) o.values.length o.values.length, .bool o.ending, .slice (some ⟨b2, 0, none⟩) o.holds.length o.holds.length, .int .i64 o.version] 30)) := blw_alloc (Below.refl _ _) _
    exact ⟨(HI4.out.later hb5).later hn, ho5.later hn, hw1.later hn, hw2.later hn, BoxAt.new w5 o _ _ 30, Nat.le_refl _, HI4.out.lt, hl1, hl2, hw2.lt, fun S hS => ((HI4.out.sk S hS).later hb5).later hn⟩
  have HSF : Hid (∀ i, i < (shapedVals ss ms o).length → ((shapedVals ss ms o).getD i ByteArray.empty).size ≤ maxLen) := shaped_sizes HI4.out HMI4.out.1 hsv.out
  have HSL : Hid ((shapedVals ss ms o).length ≤ 1048576) := by show (shapedVals ss ms o).length ≤ 1048576; rw [shaped_len]; exact HLO.out.1
  clear hb5 ho5 hw1 hw2 hl1 hl2 HI4 f0 f1 f2 f3 f4 f5 f6 z4 HS4 HS3
  have HS5a : Hid (St w (w5.alloc (.cells #[.string o.kind, .string o.name, .string o.team, .slice (some ⟨b1, 0, none⟩) o.values.length o.values.length, .bool o.ending, .slice (some ⟨b2, 0, none⟩) o.holds.length o.holds.length, .int .i64 o.version] 30)) o v1 v2 w3.heap.size p6 (shapedVals ss ms o) (.slice a1 n1 d1) (.slice a2 n2 d2)) := HS5.out.later (blw_alloc (Below.refl _ _) _)
  have hp65 := HS5.out.f.box.lt
  go_wp2_with fail
  refine (shapedI _ mbk ss ms o _ _ _ _ _ HU5.out.sh (HMI5.out.1.later (blw_alloc (Below.refl _ _) _)) (HU5.out.oa.g _ _)).mono ?_
  rintro e w6 ⟨⟨g1, m1, k1, g2, m2, k2, mid9, rfl, hct1, hct2, hm1, hm2⟩, hb6⟩
  have hw5 : (w5.alloc (.cells #[.string o.kind, .string o.name, .string o.team, .slice (some ⟨b1, 0, none⟩) o.values.length o.values.length, .bool o.ending, .slice (some ⟨b2, 0, none⟩) o.holds.length o.holds.length, .int .i64 o.version] 30)).heap.size = w5.heap.size + 1 := by simp
  have HF6 : Hid (FA (w6.alloc (.cells #[.string o.kind, .string o.name, .string o.team, .slice g1 m1 k1, .bool o.ending, .slice g2 m2 k2, .int .i64 o.version] 30)) (w5.heap.size + 1) mid9 w6.heap.size o (shapedVals ss ms o) (.slice g1 m1 k1) (.slice g2 m2 k2)) := by
    rw [hw5] at hct1 hm1
    exact FA.new hct1 hct2 hm1 hm2
  have HMI6 : Hid (MndsIn w6 mbk ms ∧ OwnBlk w6 mbk 58 (ms.length * 6)) := ⟨(HMI5.out.1.later (blw_alloc (Below.refl _ _) _)).later hb6, (HMI5.out.2.later (blw_alloc (Below.refl _ _) _)).later hb6⟩
  have HS6 : Hid (St w w6 o v1 v2 w3.heap.size p6 (shapedVals ss ms o) (.slice a1 n1 d1) (.slice a2 n2 d2)) := HS5a.out.later hb6
  have HS6a : Hid (St w (w6.alloc (.cells #[.string o.kind, .string o.name, .string o.team, .slice g1 m1 k1, .bool o.ending, .slice g2 m2 k2, .int .i64 o.version] 30)) o v1 v2 w3.heap.size p6 (shapedVals ss ms o) (.slice a1 n1 d1) (.slice a2 n2 d2)) := HS6.out.later (blw_alloc (Below.refl _ _) _)
  have HU6 : Hid (Su (w6.alloc (.cells #[.string o.kind, .string o.name, .string o.team, .slice g1 m1 k1, .bool o.ending, .slice g2 m2 k2, .int .i64 o.version] 30)) ss o w3.heap.size w3.heap.size w4.heap.size b1 b2 w5.heap.size) := (HU5.out.later hb6).later (blw_alloc (Below.refl _ _) _)
  have h56 : w5.heap.size + 1 ≤ w6.heap.size := by have := hb6.size; rw [hw5] at this; exact this
  have z6 := HS6.out.f.box.lt
  have f0 := HS6.out.f.box.x0
  have f1 := HS6.out.f.box.x1
  have f2 := HS6.out.f.box.x2
  have f3 := HS6.out.f.box.x3
  have f4 := HS6.out.f.box.x4
  have f5 := HS6.out.f.box.x5
  have f6 := HS6.out.f.box.x6
  clear hct1 hct2 hm1 hm2 hb6 hw5 HS5 HS5a HU5 hp65
  go_wp2_with fail
  refine (eqFB o _ _ _ _ _ _ _ _ _ _ _ w _ HF6.out HS6a.out.f HSL.out HSF.out HLO.out.2 hsh.out HS6a.out.bel).mono ?_
  rintro e w7 ⟨rfl, hb7, hB7⟩
  have HMI7 : Hid (MndsIn w7 mbk ms ∧ OwnBlk w7 mbk 58 (ms.length * 6)) := ⟨(HMI6.out.1.later (blw_alloc (Below.refl _ _) _)).later hb7, (HMI6.out.2.later (blw_alloc (Below.refl _ _) _)).later hb7⟩
  have HS7 : Hid (St w w7 o v1 v2 w3.heap.size p6 (shapedVals ss ms o) (.slice a1 n1 d1) (.slice a2 n2 d2)) := HS6a.out.later hb7
  have HU7 : Hid (Su w7 ss o w3.heap.size w3.heap.size w4.heap.size b1 b2 w5.heap.size) := HU6.out.later hb7
  have HF7 : Hid (FA w7 (w5.heap.size + 1) mid9 w6.heap.size o (shapedVals ss ms o) (.slice g1 m1 k1) (.slice g2 m2 k2)) := HF6.out.later hb7
  clear hb7 hB7 f0 f1 f2 f3 f4 f5 f6 z6 HS6 HS6a HU6 HF6
  have HL0 : Hid (w3.heap.size ≤ w5.heap.size) := by have := HU7.out.l1; have := HU7.out.l2; have := HU7.out.l3; have := HU7.out.l4; show w3.heap.size ≤ w5.heap.size; omega
  go_wp2_with fail
  refine (HT13.out _ HS7.out.bel).mono ?_
  rintro e w8 ⟨rfl, hb8, hi8⟩
  have HI8 : Hid (ShpsIn w8 w3.heap.size ss ∧ ShpsIn w8 w7.heap.size ss) := ⟨HU7.out.sh.later hb8, hi8⟩
  have HB8 : Hid (Below w7.heap.size w7 w8) := hb8
  clear hb8 hi8
  go_wp2_with fail
  refine (eqShapes _ _ ss _ HL.out.1 HL.out.2 HI8.out.1.lt HI8.out.2.lt HI8.out.1.at_ HI8.out.2.at_).mono ?_
  rintro e w9s ⟨rfl, hb9s⟩
  have HB9s : Hid (Below w7.heap.size w7 w9s) := blw_trans HB8.out hb9s
  clear hb9s
  go_wp2_with fail
  refine (HTM.out _ (HS7.out.later HB9s.out).bel).mono ?_
  rintro e w9m ⟨mb9, ⟨rfl, hmb9⟩, hb9m, hmi9, _⟩
  clear hmb9
  have HMI9 : Hid (MndsIn w9m mbk ms ∧ MndsIn w9m mb9 ms) := ⟨(HMI7.out.1.later HB9s.out).later hb9m, hmi9⟩
  have HB9m : Hid (Below w7.heap.size w7 w9m) := blw_trans HB9s.out hb9m
  clear hb9m hmi9
  go_wp2_with fail
  refine (eqMends _ _ ms _ HMI9.out.1 HMI9.out.2).mono ?_
  rintro e w9 ⟨rfl, hb9⟩
  have HB9 : Hid (Below w7.heap.size w7 w9) := blw_trans HB9m.out hb9
  have HO9 : Hid (OwnBlk w9 mbk 58 (ms.length * 6)) := HMI7.out.2.later HB9.out
  clear HMI9
  have HS9 : Hid (St w w9 o v1 v2 w3.heap.size p6 (shapedVals ss ms o) (.slice a1 n1 d1) (.slice a2 n2 d2)) := HS7.out.later HB9.out
  have HU9 : Hid (Su w9 ss o w3.heap.size w3.heap.size w4.heap.size b1 b2 w5.heap.size) := HU7.out.later HB9.out
  have HF9 : Hid (FA w9 (w5.heap.size + 1) mid9 w6.heap.size o (shapedVals ss ms o) (.slice g1 m1 k1) (.slice g2 m2 k2)) := HF7.out.later HB9.out
  clear hb9 HB8 HB9 HI8 HS7 HU7 HF7
  have HEQ : Hid (∀ W q1 q2, Below w9.heap.size w9 W → ObArg W q1 q2 o → Calls Tryz.prog 12 #[.agg #[.string o.kind, .string o.name, .string o.team, .slice (some ⟨b1, 0, none⟩) o.values.length o.values.length, .bool o.ending, .slice (some ⟨b2, 0, none⟩) o.holds.length o.holds.length, .int .i64 o.version], .agg #[.string o.kind, .string o.name, .string o.team, .slice (some ⟨q1, 0, none⟩) o.values.length o.values.length, .bool o.ending, .slice (some ⟨q2, 0, none⟩) o.holds.length o.holds.length, .int .i64 o.version]] W fun e w' => e = .returned (.bool true) ∧ Below w9.heap.size w9 w') := by
    intro W q1 q2 hW hq
    have h1 := (HU9.out.oa.later hW).texts hsv.out hsh.out
    have h2 := hq.texts hsv.out hsh.out
    refine (eqObj o _ _ _ _ W h1.1 h1.2 h2.1 h2.2).mono ?_
    rintro e w' ⟨rfl, hb⟩
    exact ⟨rfl, blw_trans hW hb⟩
  have HK : Hid (∀ (W W' : World), Below w9.heap.size w9 W → Below W.heap.size W W' → Below w9.heap.size w9 W' ∧ BoxAt W' w.heap.size o v1 v2 ∧ BoxAt W' w5.heap.size o (.slice (some ⟨b1, 0, none⟩) o.values.length o.values.length) (.slice (some ⟨b2, 0, none⟩) o.holds.length o.holds.length)) := fun W W' h1 h2 => ⟨blw_trans h1 h2, HS9.out.box.later (blw_trans h1 h2), HU9.out.box.later (blw_trans h1 h2)⟩
  have z9 := HS9.out.box.lt
  have f0 := HS9.out.box.x0
  have f1 := HS9.out.box.x1
  have f2 := HS9.out.box.x2
  have f3 := HS9.out.box.x3
  have f4 := HS9.out.box.x4
  have f5 := HS9.out.box.x5
  have f6 := HS9.out.box.x6
  have z9' := HU9.out.box.lt
  have h0 := HU9.out.box.x0
  have h1 := HU9.out.box.x1
  have h2 := HU9.out.box.x2
  have h3 := HU9.out.box.x3
  have h4 := HU9.out.box.x4
  have h5 := HU9.out.box.x5
  have h6 := HU9.out.box.x6
  go_upto_region 22 with fail
  go_cut [67] (fun s49 wx => s49 = .bool false ∧ Below w9.heap.size w9 wx)
  case first =>
    go_region_with (first
      | (go_at_call 10; refine (HT18.out _ ?_).mono ?_; (repeat (first | exact HS9.out.bel | refine Below.drew ?_)); rintro e wB ⟨⟨q1, q2, rfl, hoB, _, _, _, _⟩, hbB⟩; obtain ⟨kB, xB, yB⟩ := HK.out _ wB (by repeat (first | exact Below.refl _ _ | refine Below.drew ?_)) hbB; clear hbB; obtain ⟨zB, gB0, gB1, gB2, gB3, gB4, gB5, gB6⟩ := xB; obtain ⟨zB', eB0, eB1, eB2, eB3, eB4, eB5, eB6⟩ := yB)
      | (go_at_call 12; refine (HEQ.out _ _ _ ?_ ?_).mono ?_; (repeat (first | exact kB | refine Below.drew ?_)); exact hoB.later (by repeat (first | exact Below.refl _ _ | refine Below.drew ?_)); rintro e wC ⟨rfl, kC⟩))
    all_goals
      go_wp2_with fail
      go_meet
      refine ⟨rfl, ?_⟩
      repeat (first | exact kC | refine Below.drew ?_)
  case rest =>
  obtain ⟨rfl, hbx⟩ := hcut
  rename World => w10
  have HS10 : Hid (St w w10 o v1 v2 w3.heap.size p6 (shapedVals ss ms o) (.slice a1 n1 d1) (.slice a2 n2 d2)) := HS9.out.later hbx
  have HO10 : Hid (OwnBlk w10 mbk 58 (ms.length * 6)) := HO9.out.later hbx
  have HU10 : Hid (Su w10 ss o w3.heap.size w3.heap.size w4.heap.size b1 b2 w5.heap.size) := HU9.out.later hbx
  have HF10 : Hid (FA w10 (w5.heap.size + 1) mid9 w6.heap.size o (shapedVals ss ms o) (.slice g1 m1 k1) (.slice g2 m2 k2)) := HF9.out.later hbx
  clear hbx HK HEQ f0 f1 f2 f3 f4 f5 f6 h0 h1 h2 h3 h4 h5 h6 z9 z9' HS9 HU9 HF9
  have H21 : Hid (Calls Tryz.prog 15 #[.slice (some ⟨w3.heap.size, 0, none⟩) ss.length ss.length, .int .i64 1] w10 fun e w' => (∃ q : Nat, e = .returned (.int .i64 (q : Int)) ∧ 1 ≤ q ∧ q ≤ sTop 1) ∧ Marks (fun p => w3.heap.size ≤ p ∧ p < w5.heap.size) w10 w') :=
    markShapes _ _ _ 1 w10 (HU10.out.sk _ (fun q a b => ⟨a, by have := HU10.out.l2; have := HU10.out.l3; have := HU10.out.l4; omega⟩)) (by omega) (by omega)
  go_wp2_with fail
  refine H21.out.mono ?_
  rintro e w11 ⟨⟨k, rfl, hk1, hk2⟩, hm⟩
  have HKB : Hid (1 ≤ k ∧ k ≤ 1500000000000000000) := ⟨hk1, Nat.le_trans hk2 (by unfold sTop sB; omega)⟩
  have HO11 : Hid (OwnBlk w11 mbk 58 (ms.length * 6)) := hm.own _ _ _ HO10.out
  have HS11 : Hid (St w w11 o v1 v2 w3.heap.size p6 (shapedVals ss ms o) (.slice a1 n1 d1) (.slice a2 n2 d2)) := HS10.out.marks hm (fun q e => e.1)
  have HF11 : Hid (FA w11 (w5.heap.size + 1) mid9 w6.heap.size o (shapedVals ss ms o) (.slice g1 m1 k1) (.slice g2 m2 k2)) := HF10.out.marks hm (fun q e a _ => by have := e.2; omega)
  have HX11 : Hid (BoxAt w11 w5.heap.size o (.slice (some ⟨b1, 0, none⟩) o.values.length o.values.length) (.slice (some ⟨b2, 0, none⟩) o.holds.length o.holds.length)) := HU10.out.box.marks hm (fun e => by have := e.2; omega)
  have HT11 : Hid (TxSk w11 (fun p => w3.heap.size ≤ p ∧ p < w5.heap.size) (.slice (some ⟨b1, 0, none⟩) o.values.length o.values.length) ∧ TxSk w11 (fun p => w3.heap.size ≤ p ∧ p < w5.heap.size) (.slice (some ⟨b2, 0, none⟩) o.holds.length o.holds.length)) := by
    have := HU10.out.tx (fun p => w3.heap.size ≤ p ∧ p < w5.heap.size) (fun q a b => ⟨a, b⟩)
    exact ⟨this.1.marks hm, this.2.marks hm⟩
  clear hm hk1 hk2 H21 HS10 HF10 HU10
  go_wp2_with fail
  refine (markMends (fun p => w3.heap.size ≤ p ∧ p < w5.heap.size) mbk ms.length k _ HMB5.out HLm.out HO11.out HKB.out.2 HKB.out.1).mono ?_
  rintro e w11m ⟨⟨km, rfl, hk1, hk2⟩, hm⟩
  have HKM : Hid (1 ≤ km ∧ km ≤ 2000000000000000000) := ⟨Nat.le_trans HKB.out.1 hk1, by have := HKB.out.2; have := HLm.out; omega⟩
  have HS11m : Hid (St w w11m o v1 v2 w3.heap.size p6 (shapedVals ss ms o) (.slice a1 n1 d1) (.slice a2 n2 d2)) := HS11.out.marks hm (fun q e => e.1)
  have HF11m : Hid (FA w11m (w5.heap.size + 1) mid9 w6.heap.size o (shapedVals ss ms o) (.slice g1 m1 k1) (.slice g2 m2 k2)) := HF11.out.marks hm (fun q e a _ => by have := e.2; omega)
  have HX11m : Hid (BoxAt w11m w5.heap.size o (.slice (some ⟨b1, 0, none⟩) o.values.length o.values.length) (.slice (some ⟨b2, 0, none⟩) o.holds.length o.holds.length)) := HX11.out.marks hm (fun e => by have := e.2; omega)
  have HT11m : Hid (TxSk w11m (fun p => w3.heap.size ≤ p ∧ p < w5.heap.size) (.slice (some ⟨b1, 0, none⟩) o.values.length o.values.length) ∧ TxSk w11m (fun p => w3.heap.size ≤ p ∧ p < w5.heap.size) (.slice (some ⟨b2, 0, none⟩) o.holds.length o.holds.length)) := ⟨HT11.out.1.marks hm, HT11.out.2.marks hm⟩
  clear hm hk1 hk2 HS11 HF11 HX11 HT11 HKB
  have HS11 := HS11m
  have HF11 := HF11m
  have HX11 := HX11m
  have HT11 := HT11m
  have HKB := HKM
  clear HS11m HF11m HX11m HT11m HKM
  have z11 := HX11.out.lt
  have f0 := HX11.out.x0
  have f1 := HX11.out.x1
  have f2 := HX11.out.x2
  have f3 := HX11.out.x3
  have f4 := HX11.out.x4
  have f5 := HX11.out.x5
  have f6 := HX11.out.x6
  go_wp2_with fail
  refine (markObj (fun p => w3.heap.size ≤ p ∧ p < w5.heap.size) o _ _ km _ HT11.out.1 HT11.out.2 (fun q e => by have := e.2; have := HX11.out.lt; omega) HKB.out.2 HKB.out.1).mono ?_
  rintro e w12 ⟨⟨q, rfl⟩, hm⟩
  have HS12 : Hid (St w w12 o v1 v2 w3.heap.size p6 (shapedVals ss ms o) (.slice a1 n1 d1) (.slice a2 n2 d2)) := HS11.out.marks hm (fun q e => e.1)
  have HF12 : Hid (FA w12 (w5.heap.size + 1) mid9 w6.heap.size o (shapedVals ss ms o) (.slice g1 m1 k1) (.slice g2 m2 k2)) := HF11.out.marks hm (fun q e a _ => by have := e.2; omega)
  clear hm f0 f1 f2 f3 f4 f5 f6 z11 HT11 HX11 HS11 HF11 HKB
  have hq0 : decide ((q : Int) < 0) = false := by simp
  have z12 := HS12.out.f.box.lt
  have f0 := HS12.out.f.box.x0
  have f1 := HS12.out.f.box.x1
  have f2 := HS12.out.f.box.x2
  have f3 := HS12.out.f.box.x3
  have f4 := HS12.out.f.box.x4
  have f5 := HS12.out.f.box.x5
  have f6 := HS12.out.f.box.x6
  have z12' := HF12.out.box.lt
  have h0 := HF12.out.box.x0
  have h1 := HF12.out.box.x1
  have h2 := HF12.out.box.x2
  have h3 := HF12.out.box.x3
  have h4 := HF12.out.box.x4
  have h5 := HF12.out.box.x5
  have h6 := HF12.out.box.x6
  go_wp2_with fail
  refine (eqFB o _ _ _ _ _ _ _ _ _ _ _ w _ HF12.out HS12.out.f HSL.out HSF.out HLO.out.2 hsh.out HS12.out.bel).mono ?_
  rintro e w13 ⟨rfl, hb13, _⟩
  have HS13 : Hid (St w w13 o v1 v2 w3.heap.size p6 (shapedVals ss ms o) (.slice a1 n1 d1) (.slice a2 n2 d2)) := HS12.out.later hb13
  have HF13 : Hid (FA w13 (w5.heap.size + 1) mid9 w6.heap.size o (shapedVals ss ms o) (.slice g1 m1 k1) (.slice g2 m2 k2)) := HF12.out.later hb13
  clear hb13 f0 f1 f2 f3 f4 f5 f6 h0 h1 h2 h3 h4 h5 h6 z12 z12' HS12 HF12
  obtain ⟨M, hM⟩ : ∃ M : Nat, M = 1 + (shapedVals ss ms o).length + o.holds.length := ⟨_, rfl⟩
  have HM : Hid (M = 1 + (shapedVals ss ms o).length + o.holds.length) := hM
  clear hM
  have z13 := HF13.out.box.lt
  have f0 := HF13.out.box.x0
  have f1 := HF13.out.box.x1
  have f2 := HF13.out.box.x2
  have f3 := HF13.out.box.x3
  have f4 := HF13.out.box.x4
  have f5 := HF13.out.box.x5
  have f6 := HF13.out.box.x6
  go_wp2_with fail
  refine (markVals _ _ _ o _ _ _ M _ HF13.out.c1 HF13.out.c2 HF13.out.m1 HF13.out.m2 (Nat.le_of_lt HF13.out.box.lt) HSL.out HLO.out.2 HM.out).mono ?_
  rintro e w14 ⟨rfl, hm, hr1', hr2'⟩
  have HS14 : Hid (St w w14 o v1 v2 w3.heap.size p6 (shapedVals ss ms o) (.slice a1 n1 d1) (.slice a2 n2 d2)) := HS13.out.marks hm (fun q e => by have := e.1; have := HL0.out; omega)
  have HG14 : Hid (BoxAt w14 w6.heap.size o (.slice g1 m1 k1) (.slice g2 m2 k2) ∧ MRow w14 (w5.heap.size + 1) mid9 (.slice g1 m1 k1) (shapedVals ss ms o).length 1 ∧ MRow w14 mid9 w6.heap.size (.slice g2 m2 k2) o.holds.length (1 + (shapedVals ss ms o).length)) := ⟨HF13.out.box.marks hm (fun e => by have := e.2; omega), hr1', hr2'⟩
  clear hm hr1' hr2' f0 f1 f2 f3 f4 f5 f6 z13 HS13 HF13
  have z14 := HG14.out.1.lt
  have f0 := HG14.out.1.x0
  have f1 := HG14.out.1.x1
  have f2 := HG14.out.1.x2
  have f3 := HG14.out.1.x3
  have f4 := HG14.out.1.x4
  have f5 := HG14.out.1.x5
  have f6 := HG14.out.1.x6
  go_wp2_with fail
  refine (heldVals _ _ _ o _ _ _ _ M _ HG14.out.2.1 HG14.out.2.2 HSL.out HLO.out.2 HM.out).mono ?_
  rintro e w15 ⟨rfl, hb15⟩
  have HS15 : Hid (St w w15 o v1 v2 w3.heap.size p6 (shapedVals ss ms o) (.slice a1 n1 d1) (.slice a2 n2 d2)) := HS14.out.later hb15
  have HG15 : Hid (BoxAt w15 w6.heap.size o (.slice g1 m1 k1) (.slice g2 m2 k2) ∧ MRow w15 (w5.heap.size + 1) mid9 (.slice g1 m1 k1) (shapedVals ss ms o).length 1 ∧ MRow w15 mid9 w6.heap.size (.slice g2 m2 k2) o.holds.length (1 + (shapedVals ss ms o).length)) := ⟨HG14.out.1.later hb15, HG14.out.2.1.later hb15, HG14.out.2.2.later hb15⟩
  clear hb15 f0 f1 f2 f3 f4 f5 f6 z14 HS14 HG14
  have hM0 : decide ((M : Int) < 0) = false := by simp
  have z15 := HS15.out.box.lt
  have f0 := HS15.out.box.x0
  have f1 := HS15.out.box.x1
  have f2 := HS15.out.box.x2
  have f3 := HS15.out.box.x3
  have f4 := HS15.out.box.x4
  have f5 := HS15.out.box.x5
  have f6 := HS15.out.box.x6
  have HK : Hid (∀ (W W' : World), Below w15.heap.size w15 W → Below W.heap.size W W' → Below w15.heap.size w15 W' ∧ BoxAt W' w.heap.size o v1 v2 ∧ w15.heap.size ≤ W.heap.size) := fun W W' h1 h2 => ⟨blw_trans h1 h2, HS15.out.box.later (blw_trans h1 h2), h1.size⟩
  go_upto_region 38 with fail
  go_cut [16] (fun s13 wx => ∃ p7 e1 e2 e3 e4 e5 e6, s13 = .pointer (some ⟨p7, 0, none⟩) ∧ Below w15.heap.size w15 wx ∧ FB wx w15.heap.size wx.heap.size p7 o (shapedVals ss ms o) (.slice e1 e2 e3) (.slice e4 e5 e6))
  case first =>
    refine wp_region_any (by kernel_rfl) ?_
    refine gen_frame (R := fun a => wpAny _ _ _ _ _ _ a _) _ ?_
    intro a0 ha0
    have hsz0 : 102 < a0.tmps.size := by rw [ha0]; simp
    have f0z : a0.eval (.tmp 0) = v := by rw [ha0]; rfl
    have f1z : a0.eval (.tmp 1) = vm := by rw [ha0]; rfl
    have f5z : a0.eval (.tmp 5) = .pointer (some ⟨w.heap.size, 0, none⟩) := by rw [ha0]; rfl
    refine wpAny_inv (fun l a W => ∃ s96 s97 s98 s99 s100 s101 s102 s16 : Value, a = cn a0 s96 s97 s98 s99 s100 s101 s102 s16 ∧ (l.getD 0 false = true → s96 = v) ∧ (l.getD 2 false = true → s98 = vm) ∧ (l.getD 4 false = true → s100 = .agg #[.string o.kind, .string o.name, .string o.team, v1, .bool o.ending, v2, .int .i64 o.version]) ∧ l.size = 9 ∧ ((l.getD 8 false = false ∧ PreM w15 ss ms o (shapedVals ss ms o) (l.getD 1 false) (l.getD 3 false) (l.getD 5 false) (l.getD 6 false) (l.getD 7 false) s97 s99 s101 s102 s16 W) ∨ (l.getD 8 false = true ∧ PostM w15 o (shapedVals ss ms o) s16 W))) ?_ ?_ _ _ _ _ ?_ ?_ ?_
    · rintro l a W i ⟨s96, s97, s98, s99, s100, s101, s102, s16, rfl, h0, h2, h4, hls, hw⟩ hC hi
      obtain ⟨hun, o', ho, hall⟩ := mem_ready.1 hi
      have hlt : i < 9 := (Array.getElem?_eq_some_iff.1 ho).1
      have hcases : i = 0 ∨ i = 1 ∨ i = 2 ∨ i = 3 ∨ i = 4 ∨ i = 5 ∨ i = 6 ∨ i = 7 ∨ i = 8 := by omega
      rcases hw with ⟨h8f, hP⟩ | ⟨L8, _⟩
      rotate_left
      · exfalso
        have L7 : l.getD 7 false = true := hC 8 _ ⟨7, .data⟩ rfl (by simp) rfl L8
        have L6 : l.getD 6 false = true := hC 8 _ ⟨6, .data⟩ rfl (by simp) rfl L8
        have L1 : l.getD 1 false = true := hC 6 _ ⟨1, .data⟩ rfl (by simp) rfl L6
        have L3 : l.getD 3 false = true := hC 6 _ ⟨3, .data⟩ rfl (by simp) rfl L6
        have L5 : l.getD 5 false = true := hC 6 _ ⟨5, .data⟩ rfl (by simp) rfl L6
        have L0 : l.getD 0 false = true := hC 1 _ ⟨0, .data⟩ rfl (by simp) rfl L1
        have L2 : l.getD 2 false = true := hC 3 _ ⟨2, .data⟩ rfl (by simp) rfl L3
        have L4 : l.getD 4 false = true := hC 5 _ ⟨4, .data⟩ rfl (by simp) rfl L5
        have hf := getD_flip hun
        rcases hcases with rfl | rfl | rfl | rfl | rfl | rfl | rfl | rfl | rfl
        · rw [L0] at hf; cases hf
        · rw [L1] at hf; cases hf
        · rw [L2] at hf; cases hf
        · rw [L3] at hf; cases hf
        · rw [L4] at hf; cases hf
        · rw [L5] at hf; cases hf
        · rw [L6] at hf; cases hf
        · rw [L7] at hf; cases hf
        · rw [L8] at hf; cases hf
      have hB := hP.bel
      obtain ⟨_, p0, p1, p2, p3, p4, p5, p6⟩ := (HS15.out.box.later hB)
      rcases hcases with rfl | rfl | rfl | rfl | rfl | rfl | rfl | rfl | rfl
      · have ho1 := ho
        simp at ho
        subst ho
        refine wpOp_value (v := v) (w' := W) ho1 rfl ?_ ?_
        · simp [execOp, go_sem, cn_get0 _ _ _ _ _ _ _ _ _ _ f0z]
        · show ∃ s96, _
          rw [cn_put96]
          exact ⟨_, _, _, _, _, _, _, _, rfl, fun _ => rfl, fun h => h2 ((set_get h).resolve_left (by decide)), fun h => h4 ((set_get h).resolve_left (by decide)), (by simpa using hls), Or.inl ⟨by rw [getD_set_ne _ (show (0 : Nat) ≠ 8 by decide)]; exact h8f, (by rw [getD_set_ne _ (show (0 : Nat) ≠ 1 by decide), getD_set_ne _ (show (0 : Nat) ≠ 3 by decide), getD_set_ne _ (show (0 : Nat) ≠ 5 by decide), getD_set_ne _ (show (0 : Nat) ≠ 6 by decide), getD_set_ne _ (show (0 : Nat) ≠ 7 by decide)]; exact hP)⟩⟩
      · have ho1 := ho
        simp at ho
        subst ho
        have e0 := (h0 (hall ⟨0, .data⟩ (by simp) rfl)).symm
        subst e0
        refine wpOp_enter (f := 8) (args := #[v]) ho1 rfl ?_ ?_
        · simp [go_sem, cn_get96 _ _ _ _ _ _ _ _ _ hsz0]
        · refine (HTx.out W (blw_trans HS15.out.bel hB)).mono ?_
          rintro e W2 ⟨BA, rfl, hb2, ht⟩
          refine ⟨_, rfl, ?_⟩
          show ∃ s96, _
          rw [cn_put97]
          exact ⟨_, _, _, _, _, _, _, _, rfl, fun h => h0 ((set_get h).resolve_left (by decide)), fun h => h2 ((set_get h).resolve_left (by decide)), fun h => h4 ((set_get h).resolve_left (by decide)), (by simpa using hls), Or.inl ⟨by rw [getD_set_ne _ (show (1 : Nat) ≠ 8 by decide)]; exact h8f, (by rw [getD_set_ne _ (show (1 : Nat) ≠ 3 by decide), getD_set_ne _ (show (1 : Nat) ≠ 5 by decide), getD_set_ne _ (show (1 : Nat) ≠ 6 by decide), getD_set_ne _ (show (1 : Nat) ≠ 7 by decide), set_here hun]; exact (hP.later hb2).shapes ht)⟩⟩
      · have ho1 := ho
        simp at ho
        subst ho
        refine wpOp_value (v := vm) (w' := W) ho1 rfl ?_ ?_
        · simp [execOp, go_sem, cn_get1 _ _ _ _ _ _ _ _ _ _ f1z]
        · show ∃ s96, _
          rw [cn_put98]
          exact ⟨_, _, _, _, _, _, _, _, rfl, fun h => h0 ((set_get h).resolve_left (by decide)), fun _ => rfl, fun h => h4 ((set_get h).resolve_left (by decide)), (by simpa using hls), Or.inl ⟨by rw [getD_set_ne _ (show (2 : Nat) ≠ 8 by decide)]; exact h8f, (by rw [getD_set_ne _ (show (2 : Nat) ≠ 1 by decide), getD_set_ne _ (show (2 : Nat) ≠ 3 by decide), getD_set_ne _ (show (2 : Nat) ≠ 5 by decide), getD_set_ne _ (show (2 : Nat) ≠ 6 by decide), getD_set_ne _ (show (2 : Nat) ≠ 7 by decide)]; exact hP)⟩⟩
      · have ho1 := ho
        simp at ho
        subst ho
        have e2 := (h2 (hall ⟨2, .data⟩ (by simp) rfl)).symm
        subst e2
        refine wpOp_enter (f := 9) (args := #[vm]) ho1 rfl ?_ ?_
        · simp [go_sem, cn_get98 _ _ _ _ _ _ _ _ _ hsz0]
        · refine (HTM.out W (blw_trans HS15.out.bel hB)).mono ?_
          rintro e W2 ⟨BA, ⟨rfl, _⟩, hb2, ht, _⟩
          refine ⟨_, rfl, ?_⟩
          show ∃ s96, _
          rw [cn_put99]
          exact ⟨_, _, _, _, _, _, _, _, rfl, fun h => h0 ((set_get h).resolve_left (by decide)), fun h => h2 ((set_get h).resolve_left (by decide)), fun h => h4 ((set_get h).resolve_left (by decide)), (by simpa using hls), Or.inl ⟨by rw [getD_set_ne _ (show (3 : Nat) ≠ 8 by decide)]; exact h8f, (by rw [getD_set_ne _ (show (3 : Nat) ≠ 1 by decide), getD_set_ne _ (show (3 : Nat) ≠ 5 by decide), getD_set_ne _ (show (3 : Nat) ≠ 6 by decide), getD_set_ne _ (show (3 : Nat) ≠ 7 by decide), set_here hun]; exact (hP.later hb2).mends ht)⟩⟩
      · have ho1 := ho
        simp at ho
        subst ho
        refine wpOp_value (v := .agg #[.string o.kind, .string o.name, .string o.team, v1, .bool o.ending, v2, .int .i64 o.version]) (w' := W) ho1 rfl ?_ ?_
        · simp [execOp, go_sem, cn_get5 _ _ _ _ _ _ _ _ _ _ f5z, p0, p1, p2, p3, p4, p5, p6]
        · show ∃ s96, _
          rw [cn_put100]
          exact ⟨_, _, _, _, _, _, _, _, rfl, fun h => h0 ((set_get h).resolve_left (by decide)), fun h => h2 ((set_get h).resolve_left (by decide)), fun _ => rfl, (by simpa using hls), Or.inl ⟨by rw [getD_set_ne _ (show (4 : Nat) ≠ 8 by decide)]; exact h8f, (by rw [getD_set_ne _ (show (4 : Nat) ≠ 1 by decide), getD_set_ne _ (show (4 : Nat) ≠ 3 by decide), getD_set_ne _ (show (4 : Nat) ≠ 5 by decide), getD_set_ne _ (show (4 : Nat) ≠ 6 by decide), getD_set_ne _ (show (4 : Nat) ≠ 7 by decide)]; exact hP)⟩⟩
      · have ho1 := ho
        simp at ho
        subst ho
        have e4 := (h4 (hall ⟨4, .data⟩ (by simp) rfl)).symm
        subst e4
        refine wpOp_enter (f := 10) (args := #[.agg #[.string o.kind, .string o.name, .string o.team, v1, .bool o.ending, v2, .int .i64 o.version]]) ho1 rfl ?_ ?_
        · simp [go_sem, cn_get100 _ _ _ _ _ _ _ _ _ hsz0]
        · refine (HT18.out W (blw_trans HS15.out.bel hB)).mono ?_
          rintro e W2 ⟨⟨x1, x2, rfl, ht, _, _, _, _⟩, hb2⟩
          refine ⟨_, rfl, ?_⟩
          show ∃ s96, _
          rw [cn_put101]
          exact ⟨_, _, _, _, _, _, _, _, rfl, fun h => h0 ((set_get h).resolve_left (by decide)), fun h => h2 ((set_get h).resolve_left (by decide)), fun h => h4 ((set_get h).resolve_left (by decide)), (by simpa using hls), Or.inl ⟨by rw [getD_set_ne _ (show (5 : Nat) ≠ 8 by decide)]; exact h8f, (by rw [getD_set_ne _ (show (5 : Nat) ≠ 1 by decide), getD_set_ne _ (show (5 : Nat) ≠ 3 by decide), getD_set_ne _ (show (5 : Nat) ≠ 6 by decide), getD_set_ne _ (show (5 : Nat) ≠ 7 by decide), set_here hun]; exact (hP.later hb2).object ht)⟩⟩
      · have ho1 := ho
        simp at ho
        subst ho
        obtain ⟨BA, e1, t1⟩ := hP.q1 (hall ⟨1, .data⟩ (by simp) rfl)
        obtain ⟨BM, e3, t3⟩ := hP.q3 (hall ⟨3, .data⟩ (by simp) rfl)
        obtain ⟨x1, x2, e5, t5⟩ := hP.q5 (hall ⟨5, .data⟩ (by simp) rfl)
        subst e1 e3 e5
        refine wpOp_enter (f := 11) (args := #[.slice (some ⟨BA, 0, none⟩) ss.length ss.length, .slice (some ⟨BM, 0, none⟩) ms.length ms.length, .agg #[.string o.kind, .string o.name, .string o.team, .slice (some ⟨x1, 0, none⟩) o.values.length o.values.length, .bool o.ending, .slice (some ⟨x2, 0, none⟩) o.holds.length o.holds.length, .int .i64 o.version]]) ho1 rfl ?_ ?_
        · simp [go_sem, cn_get97 _ _ _ _ _ _ _ _ _ hsz0, cn_get99 _ _ _ _ _ _ _ _ _ hsz0, cn_get101 _ _ _ _ _ _ _ _ _ hsz0]
        · refine (shapedI BA BM ss ms o _ _ _ _ W t1 t3 (t5.g _ _)).mono ?_
          rintro e W2 ⟨⟨a1, n1, d1, a2, n2, d2, mid, rfl, hct1, hct2, hm1, hm2⟩, hb2⟩
          refine ⟨_, rfl, ?_⟩
          show ∃ s96, _
          rw [cn_put102]
          exact ⟨_, _, _, _, _, _, _, _, rfl, fun h => h0 ((set_get h).resolve_left (by decide)), fun h => h2 ((set_get h).resolve_left (by decide)), fun h => h4 ((set_get h).resolve_left (by decide)), (by simpa using hls), Or.inl ⟨by rw [getD_set_ne _ (show (6 : Nat) ≠ 8 by decide)]; exact h8f, (by rw [getD_set_ne _ (show (6 : Nat) ≠ 1 by decide), getD_set_ne _ (show (6 : Nat) ≠ 3 by decide), getD_set_ne _ (show (6 : Nat) ≠ 5 by decide), getD_set_ne _ (show (6 : Nat) ≠ 7 by decide), set_here hun]; exact hP.answer hb2 hct1 hct2 hm1 hm2)⟩⟩
      · have ho1 := ho
        simp at ho
        subst ho
        refine wpOp_value (v := .pointer (some ⟨W.heap.size, 0, none⟩)) (w' := W.alloc (.cells #[.string ⟨#[]⟩, .string ⟨#[]⟩, .string ⟨#[]⟩, .slice none 0 0, .bool false, .slice none 0 0, .int .i64 0] 30)) ho1 rfl ?_ ?_
        · simp [execOp, go_sem]
        · show ∃ s96, _
          rw [cn_put16]
          exact ⟨_, _, _, _, _, _, _, _, rfl, fun h => h0 ((set_get h).resolve_left (by decide)), fun h => h2 ((set_get h).resolve_left (by decide)), fun h => h4 ((set_get h).resolve_left (by decide)), (by simpa using hls), Or.inl ⟨by rw [getD_set_ne _ (show (7 : Nat) ≠ 8 by decide)]; exact h8f, (by rw [getD_set_ne _ (show (7 : Nat) ≠ 1 by decide), getD_set_ne _ (show (7 : Nat) ≠ 3 by decide), getD_set_ne _ (show (7 : Nat) ≠ 5 by decide), getD_set_ne _ (show (7 : Nat) ≠ 6 by decide), set_here hun]; exact hP.block _ rfl)⟩⟩
      · have ho1 := ho
        simp at ho
        subst ho
        have L6 : l.getD 6 false = true := hall ⟨6, .data⟩ (by simp) rfl
        have L7 : l.getD 7 false = true := hall ⟨7, .data⟩ (by simp) rfl
        obtain ⟨P, e7, hPl, hO⟩ := hP.q7 L7
        obtain ⟨a1, n1, d1, a2, n2, d2, lo, hi', e6, t1, t2, t3, t4, t5⟩ := hP.q6 L6
        have hd := t5 L7 P e7
        have hS := FB.store (o := o) hB hO hd t1 t2 t3 t4 hPl
        clear t1 t2 t3 t4 t5 hd hP
        subst e7 e6
        have hfz := hO.frozen
        obtain ⟨y0, o0⟩ := hO.cell 0 (by omega)
        obtain ⟨y1, o1⟩ := hO.cell 1 (by omega)
        obtain ⟨y2, o2⟩ := hO.cell 2 (by omega)
        obtain ⟨y3, o3⟩ := hO.cell 3 (by omega)
        obtain ⟨y4, o4⟩ := hO.cell 4 (by omega)
        obtain ⟨y5, o5⟩ := hO.cell 5 (by omega)
        obtain ⟨y6, o6⟩ := hO.cell 6 (by omega)
        refine wpOp_skip (w' := (((((((W.setCell ⟨P, 0, none⟩ (.string o.kind)).setCell ⟨P, 1, none⟩ (.string o.name)).setCell ⟨P, 2, none⟩ (.string o.team)).setCell ⟨P, 3, none⟩ (.slice a1 n1 d1)).setCell ⟨P, 4, none⟩ (.bool o.ending)).setCell ⟨P, 5, none⟩ (.slice a2 n2 d2)).setCell ⟨P, 6, none⟩ (.int .i64 o.version))) ho1 rfl ?_ ?_
        · simp [execOp, go_sem, cn_get16 _ _ _ _ _ _ _ _ _ hsz0, cn_get102 _ _ _ _ _ _ _ _ _ hsz0, hfz, o0, o1, o2, o3, o4, o5, o6]
        · show ∃ s96, _
          rw [put_none]
          exact ⟨_, _, _, _, _, _, _, _, rfl, fun h => h0 ((set_get h).resolve_left (by decide)), fun h => h2 ((set_get h).resolve_left (by decide)), fun h => h4 ((set_get h).resolve_left (by decide)), (by simpa using hls), Or.inr ⟨set_here hun, P, a1, n1, d1, a2, n2, d2, rfl, hS.1, hS.2⟩⟩
    · rintro l a W ⟨s96, s97, s98, s99, s100, s101, s102, s16, rfl, h0, h2, h4, hls, hw⟩ hr
      have L := all_up hr (by kernel_rfl) hls
      rcases hw with ⟨h8f, _⟩ | ⟨_, P, a1, n1, d1, a2, n2, d2, rfl, hBP, hFB⟩
      · rw [L 8 (by decide)] at h8f; cases h8f
      · subst ha0
        simp [cn, Act.put]
        go_wp2_with fail
        go_meet
        exact ⟨P, a1, n1, d1, a2, n2, d2, rfl, hBP, hFB⟩
    · refine ⟨_, _, _, _, _, _, _, _, cn_self a0, fun h => absurd h Bool.false_ne_true, fun h => absurd h Bool.false_ne_true, fun h => absurd h Bool.false_ne_true, rfl, Or.inl ⟨rfl, ?_⟩⟩
      exact ⟨by repeat (first | exact Below.refl _ _ | refine Below.drew ?_), fun h => absurd h Bool.false_ne_true, fun h => absurd h Bool.false_ne_true, fun h => absurd h Bool.false_ne_true, fun h => absurd h Bool.false_ne_true, fun h => absurd h Bool.false_ne_true⟩
    · exact Closed.none _ (rep_none 9)
    · exact Nat.le_of_eq (by kernel_rfl)
  case rest =>
  obtain ⟨p7, e1, e2, e3, e4, e5, e6, rfl, hbx, hfb⟩ := hcut
  rename World => w16
  have HS16 : Hid (St w w16 o v1 v2 w3.heap.size p6 (shapedVals ss ms o) (.slice a1 n1 d1) (.slice a2 n2 d2)) := HS15.out.later hbx
  have HG16 : Hid (BoxAt w16 w6.heap.size o (.slice g1 m1 k1) (.slice g2 m2 k2) ∧ MRow w16 (w5.heap.size + 1) mid9 (.slice g1 m1 k1) (shapedVals ss ms o).length 1 ∧ MRow w16 mid9 w6.heap.size (.slice g2 m2 k2) o.holds.length (1 + (shapedVals ss ms o).length)) := ⟨HG15.out.1.later hbx, HG15.out.2.1.later hbx, HG15.out.2.2.later hbx⟩
  have HF16 : Hid (FB w16 w15.heap.size w16.heap.size p7 o (shapedVals ss ms o) (.slice e1 e2 e3) (.slice e4 e5 e6)) := hfb
  clear hbx hfb HK f0 f1 f2 f3 f4 f5 f6 z15 HS15 HG15
  have z16 := HS16.out.f.box.lt
  have f0 := HS16.out.f.box.x0
  have f1 := HS16.out.f.box.x1
  have f2 := HS16.out.f.box.x2
  have f3 := HS16.out.f.box.x3
  have f4 := HS16.out.f.box.x4
  have f5 := HS16.out.f.box.x5
  have f6 := HS16.out.f.box.x6
  have z16' := HF16.out.box.lt
  have h0 := HF16.out.box.x0
  have h1 := HF16.out.box.x1
  have h2 := HF16.out.box.x2
  have h3 := HF16.out.box.x3
  have h4 := HF16.out.box.x4
  have h5 := HF16.out.box.x5
  have h6 := HF16.out.box.x6
  go_wp2_with fail
  refine (eqFBB o _ _ _ _ _ _ _ _ _ _ _ w _ HF16.out HS16.out.f HSL.out HSF.out HLO.out.2 hsh.out HS16.out.bel).mono ?_
  rintro e w17 ⟨rfl, hb17, _⟩
  have HS17 : Hid (Below w.heap.size w w17) := blw_trans HS16.out.bel hb17
  have HG17 : Hid (BoxAt w17 w6.heap.size o (.slice g1 m1 k1) (.slice g2 m2 k2) ∧ MRow w17 (w5.heap.size + 1) mid9 (.slice g1 m1 k1) (shapedVals ss ms o).length 1 ∧ MRow w17 mid9 w6.heap.size (.slice g2 m2 k2) o.holds.length (1 + (shapedVals ss ms o).length)) := ⟨HG16.out.1.later hb17, HG16.out.2.1.later hb17, HG16.out.2.2.later hb17⟩
  clear hb17 f0 f1 f2 f3 f4 f5 f6 h0 h1 h2 h3 h4 h5 h6 z16 z16' HS16 HG16 HF16
  have z17 := HG17.out.1.lt
  have f0 := HG17.out.1.x0
  have f1 := HG17.out.1.x1
  have f2 := HG17.out.1.x2
  have f3 := HG17.out.1.x3
  have f4 := HG17.out.1.x4
  have f5 := HG17.out.1.x5
  have f6 := HG17.out.1.x6
  go_wp2_with fail
  refine (heldVals _ _ _ o _ _ _ _ M _ HG17.out.2.1 HG17.out.2.2 HSL.out HLO.out.2 HM.out).mono ?_
  rintro e w18 ⟨rfl, hb18⟩
  have HB18 : Hid (Below w.heap.size w w18) := blw_trans HS17.out hb18
  clear hb18
  go_wp2
  go_ret
  exact ⟨rfl, HB18.out⟩
end Go.Proofs.YtfdahoekjpobaaaGreat
