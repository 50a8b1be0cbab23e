/-
  The sea: a wish, by the specification: whole.
-/
import Derived.Test.YtclagbakddkjcaaGreatSeF
import Derived.Test.YtclagbakddkjcaaGreatCls
namespace Go.Proofs.YtclagbakddkjcaaGreat
open Go.RowKit Go.Deep

theorem t_ks : (41 : TypeId) ≠ 37 := by decide
theorem cut_svs {R : World} {lo n q px : Nat} {p : Option Addr} {l : List Sv} {cs : Array Value} (h : R.ownsRow lo 41 13 (.slice p n q) n (l.flatMap SvC)) (hl : l.length = n) (hpx : R.heap[px]? = some (.cells cs 37 (0, 0))) (m : Nat) (hm : m ≤ n) (hn : n ≤ 1048576) :
    ∃ A1 A2 c2, (∀ W, (Instr.slice 33 (.slice p n q) none (some (.int .i64 (m : Nat))) none).run Tryz.prog W = .ok (.slice A1 m q) W) ∧ (∀ W, (Instr.slice 33 (.slice p n q) (some (.int .i64 (m : Nat))) none none).run Tryz.prog W = .ok (.slice A2 (n - m) c2) W) ∧
      (∀ ad, A1 = some ad → ad.block ≠ px ∧ ad.block < R.heap.size ∧ ∀ i u, ((l.take m).flatMap SvC)[i]? = some u → R.cell? (ad.add i) = some u) ∧ (∀ ad, A2 = some ad → ad.block ≠ px ∧ ad.block < R.heap.size ∧ ∀ i u, ((l.drop m).flatMap SvC)[i]? = some u → R.cell? (ad.add i) = some u) ∧ (A1 = none → m = 0) ∧ (A2 = none → n - m = 0) := by
  rcases h.2 with ⟨hv, h0⟩ | ⟨g, cap, cur, hv, hlo, hg, hc, hcm, hs, ht⟩
  · cases hv
    obtain rfl : m = 0 := by omega
    have hl0 : l = [] := List.eq_nil_of_length_eq_zero hl
    subst hl0
    exact ⟨none, none, 0, fun W => by kernel_rfl, fun W => by kernel_rfl, fun ad e => (by cases e), fun ad e => (by cases e), fun _ => rfl, fun _ => rfl⟩
  · cases hv
    have h1 : (0 : Int) ≤ (m : Int) := by omega
    have h2 : (m : Int) ≤ (n : Int) := by omega
    have h4 : (m : Int) ≤ (q : Int) := by omega
    have hgz : g < R.heap.size := lt_heap hg
    have hne : g ≠ px := fun e => by
      subst e
      rw [hg] at hpx
      injection hpx with hpx
      injection hpx with _ hpx _
      first | exact t_ks hpx.symm | exact t_ks hpx
    have hcell : ∀ i u, (l.flatMap SvC)[i]? = some u → R.cell? ⟨g, i, none⟩ = some u := fun i u hi => by
      rw [← ht, List.getElem?_take] at hi
      simp only [World.cell?, hg]
      split at hi
      · simpa using hi
      · cases hi
    refine ⟨some ⟨g, 0, none⟩, if q = m then some ⟨g, 0, none⟩ else some ⟨g, m * 13, none⟩, q - m, fun W => (by simp [Instr.slice, go_sem, h1, h4]), fun W => (by simp [Instr.slice, go_sem, h1, h2]), fun ad e => ?_, fun ad e => ?_, fun e => (by cases e), fun e => (by split at e <;> cases e)⟩
    · injection e with e
      subst e
      refine ⟨hne, hgz, fun i u hi => ?_⟩
      rw [addN, Nat.zero_add]
      refine hcell i u ?_
      rw [← flat_take SvC 13 SvC_len, List.getElem?_take] at hi
      split at hi
      · exact hi
      · cases hi
    · have hb : ad.block = g := by split at e <;> (injection e with e; subst e; rfl)
      refine ⟨by rw [hb]; exact hne, by rw [hb]; exact hgz, fun i u hi => ?_⟩
      rw [← flat_drop SvC 13 SvC_len, List.getElem?_drop] at hi
      by_cases hq : q = m
      · exfalso
        have : (l.flatMap SvC).length ≤ m * 13 := by rw [flat_len SvC 13 SvC_len, hl]; exact Nat.mul_le_mul_right 13 (by omega)
        rw [List.getElem?_eq_none (by omega)] at hi
        cases hi
      · rw [if_neg hq] at e
        injection e with e
        subst e
        rw [addN]
        exact hcell _ u hi

theorem set_at {W : World} {p : Nat} {cs : Array Value} {t : TypeId} (h : W.heap[p]? = some (.cells cs t (0, 0))) (j : Nat) (x : Value) : (W.setCell ⟨p, j, none⟩ x).heap[p]? = some (.cells (cs.setIfInBounds j x) t (0, 0)) := by
  simp [World.setCell, Array.getElem?_modify, h]
theorem set_off {W : World} {p q : Nat} (hne : q ≠ p) (j : Nat) (x : Value) : (W.setCell ⟨p, j, none⟩ x).heap[q]? = W.heap[q]? := Below.heap_setCell W ⟨p, j, none⟩ x q hne

set_option maxRecDepth 8000 in
set_option maxHeartbeats 16000000 in
theorem wiC (now : Int) (a1 a2 : Option Addr) (n1 n2 c1 c2 : Nat) (L : List Sv) (w : World) (W : World) (l : List Sv) (s : Sv) (v : Int) (k : Nat) (a : Option Addr) (c lo : Nat) (hL : L = wishOf l s v) (hP : posS l s.nm = k) (hk : k ≤ l.length) (hl : l.length ≤ 100000)
    (hpx : W.heap[w.heap.size]? = some (.cells #[.int .i64 now, .slice a l.length c, .slice a1 n1 c1, .slice a2 n2 c2] 37 (0, 0))) (hpc : W.heap[w.heap.size + 1]? = some (.cells #[.string s.nm, .int .i64 s.ver, .bool s.gone, .int .i64 s.image, .int .i64 s.want, .int .i64 s.down, .int .i64 s.over, .int .i64 s.next, .int .i64 s.per, .int .i64 s.least, .int .i64 s.most, .int .i64 s.load, .int .i64 s.cool] 41 (0, 0))) (hr : OwnBlk W (w.heap.size + 2) 37 4) (hB : Below w.heap.size w W)
    (hO : W.ownsRow lo 41 13 (.slice a l.length c) l.length (l.flatMap SvC)) (hg : ∀ g, (Value.slice a l.length c).ownBlock = some g → g < w.heap.size) (u0 u1 u5 u8 u9 u10 u11 u12 u13 u14 u15 u16 u17 u18 u19 u20 u21 u22 u23 u24 u25 u26 u27 u28 u29 u30 u31 u32 u33 u34 u35 u36 u37 u38 u39 u40 u41 u42 u43 u44 u45 u46 u47 u48 u49 u50 u51 u52 u53 u54 u55 u56 u57 u58 u59 u60 u61 u62 u63 u64 u65 u66 : Value) :
    Code.wp Tryz.prog wi3 (bodyPost Tryz.prog Tryz.f45 (fun e w' => (∃ a' c', e = .returned (.agg #[.int .i64 now, .slice a' L.length c', .slice a1 n1 c1, .slice a2 n2 c2]) ∧ w'.ownsRow (w.heap.size + 3) 41 13 (.slice a' L.length c') L.length (L.flatMap SvC)) ∧ Below w.heap.size w w')) { tmps := #[u0, u1, .int .i64 v, .pointer (some ⟨w.heap.size, 0, none⟩), .pointer (some ⟨w.heap.size + 1, 0, none⟩), u5, .pointer (some ⟨w.heap.size + 2, 0, none⟩), .int .i64 (k : Nat), u8, u9, u10, u11, u12, u13, u14, u15, u16, u17, u18, u19, u20, u21, u22, u23, u24, u25, u26, u27, u28, u29, u30, u31, u32, u33, u34, u35, u36, u37, u38, u39, u40, u41, u42, u43, u44, u45, u46, u47, u48, u49, u50, u51, u52, u53, u54, u55, u56, u57, u58, u59, u60, u61, u62, u63, u64, u65, u66], defers := [] } W := by
  rw [wi3_8]
  simp only [wi7, wi6, wi5, wi4, wi3, wi2, wi1, wi0, Tryz.f45, Option.getD_some, sfst_seq, ssnd_seq]
  have HL := hid hL
  have HPP := hid hP
  have HG := hid hg
  have pcz : w.heap.size + 1 < W.heap.size := lt_heap hpc
  have pcf : ∀ j, W.frozen? ⟨w.heap.size + 1, j, none⟩ = false := fun j => by simp [World.frozen?, hpc]
  have d1 : W.cell? ⟨w.heap.size + 1, 1, none⟩ = some (.int .i64 s.ver) := by simp [World.cell?, hpc]
  have d12 : W.cell? ⟨w.heap.size + 1, 12, none⟩ = some (.int .i64 s.cool) := by simp [World.cell?, hpc]
  obtain ⟨W2, hW2⟩ : ∃ W2, W2 = ((W.setCell ⟨w.heap.size + 1, 1, none⟩ (.int .i64 v)).setCell ⟨w.heap.size + 1, 12, none⟩ (.int .i64 0)) := ⟨_, rfl⟩
  have HX2 : Hid (W2.heap[w.heap.size]? = some (.cells #[.int .i64 now, .slice a l.length c, .slice a1 n1 c1, .slice a2 n2 c2] 37 (0, 0))) := by show _ = _; rw [hW2]; exact (set_off (by omega) _ _).trans ((set_off (by omega) _ _).trans hpx)
  have HC2 : Hid (W2.heap[w.heap.size + 1]? = some (.cells #[.string s.nm, .int .i64 v, .bool s.gone, .int .i64 s.image, .int .i64 s.want, .int .i64 s.down, .int .i64 s.over, .int .i64 s.next, .int .i64 s.per, .int .i64 s.least, .int .i64 s.most, .int .i64 s.load, .int .i64 0] 41 (0, 0))) := by show _ = _; rw [hW2]; exact set_at (set_at hpc 1 _) 12 _
  have HR2 : Hid (OwnBlk W2 (w.heap.size + 2) 37 4) := by show OwnBlk _ _ _ _; rw [hW2]; exact (hr.sc_other (by omega) _ _).sc_other (by omega) _ _
  have HB2 : Hid (Below w.heap.size w W2) := by show Below _ _ _; rw [hW2]; exact (hB.setCell (p := ⟨w.heap.size + 1, 1, none⟩) (by show w.heap.size ≤ w.heap.size + 1; omega) _).setCell (p := ⟨w.heap.size + 1, 12, none⟩) (by show w.heap.size ≤ w.heap.size + 1; omega) _
  have hne : ∀ g, (Value.slice a l.length c).ownBlock = some g → g ≠ w.heap.size + 1 := fun g e => by have := hg g e; omega
  have HO2 : Hid (W2.ownsRow lo 41 13 (.slice a l.length c) l.length (l.flatMap SvC)) := by show World.ownsRow _ _ _ _ _ _ _; rw [hW2]; exact owns_scn (owns_scn hO hne _ _) hne _ _
  go_upto_region 6 with fail
  rw [← hW2]
  clear hW2 hpx hpc hr hB hO pcz pcf d1 d12 hL hP hg
  have pcz : w.heap.size + 1 < W2.heap.size := lt_heap HC2.out
  have pcf : ∀ j, W2.frozen? ⟨w.heap.size + 1, j, none⟩ = false := fun j => by have := HC2.out; simp [World.frozen?, this]
  have d7 : W2.cell? ⟨w.heap.size + 1, 7, none⟩ = some (.int .i64 s.next) := by have := HC2.out; simp [World.cell?, this]
  have yz : w.heap.size < W2.heap.size := lt_heap HX2.out
  have y1 : W2.cell? ⟨w.heap.size, 1, none⟩ = some (.slice a l.length c) := by have := HX2.out; simp [World.cell?, this]
  obtain ⟨W4, hW4⟩ : ∃ W4, W4 = W2.setCell ⟨w.heap.size + 1, 7, none⟩ (.int .i64 1) := ⟨_, rfl⟩
  have HX4 : Hid (W4.heap[w.heap.size]? = some (.cells #[.int .i64 now, .slice a l.length c, .slice a1 n1 c1, .slice a2 n2 c2] 37 (0, 0))) := by show _ = _; rw [hW4]; exact (set_off (by omega) _ _).trans HX2.out
  have HC4 : Hid (W4.heap[w.heap.size + 1]? = some (.cells #[.string s.nm, .int .i64 v, .bool s.gone, .int .i64 s.image, .int .i64 s.want, .int .i64 s.down, .int .i64 s.over, .int .i64 1, .int .i64 s.per, .int .i64 s.least, .int .i64 s.most, .int .i64 s.load, .int .i64 0] 41 (0, 0))) := by show _ = _; rw [hW4]; exact set_at HC2.out 7 _
  have HR4 : Hid (OwnBlk W4 (w.heap.size + 2) 37 4) := by show OwnBlk _ _ _ _; rw [hW4]; exact HR2.out.sc_other (by omega) _ _
  have HB4 : Hid (Below w.heap.size w W4) := by show Below _ _ _; rw [hW4]; exact HB2.out.setCell (p := ⟨w.heap.size + 1, 7, none⟩) (by show w.heap.size ≤ w.heap.size + 1; omega) _
  have HO4 : Hid (W4.ownsRow lo 41 13 (.slice a l.length c) l.length (l.flatMap SvC)) := by show World.ownsRow _ _ _ _ _ _ _; rw [hW4]; exact owns_scn HO2.out hne _ _
  clear hne
  obtain ⟨A1, A2, cc, hs4, hs12, hn1, hn2, hA1, hA2⟩ := cut_svs HO4.out rfl HX4.out k hk (by omega)
  have HS4 := hid hs4
  have HN := hid (And.intro hn1 (And.intro hA1 (And.intro hn2 hA2)))
  clear hs4 hn1 hn2 hA1 hA2
  have hm0 : (0 : Int) ≤ (k : Int) := by omega
  by_cases hlt : k < l.length
  · have HH : Hid (l.length ≤ c) := by
      rcases HO4.out.2 with ⟨hv, h0⟩ | ⟨g', cap, cur, hv, _, _, hc, _⟩
      · omega
      · injection hv with _ _ e; show l.length ≤ c; omega
    obtain ⟨g, c', ev, hlo, hgl, hcell⟩ := owns_cells HO4.out (by omega)
    injection ev with ev1 ev2 ev3
    subst ev1
    subst ev3
    clear ev2
    have hcap := HH.out
    have hgB := HG.out g rfl
    obtain ⟨x, hx⟩ : ∃ x, x = l.getD k Sv.none := ⟨_, rfl⟩
    have e0 : W4.cell? ⟨g, k * 13, none⟩ = some (.string x.nm) := hcell (k * 13 + 0) _ ((flat_at Sv.none SvC 13 SvC_len l k 0 hlt (by omega)).trans (by rw [← hx]; rfl))
    have e7 : W4.cell? ⟨g, k * 13 + 7, none⟩ = some (.int .i64 x.next) := hcell (k * 13 + 7) _ ((flat_at Sv.none SvC 13 SvC_len l k 7 hlt (by omega)).trans (by rw [← hx]; rfl))
    have HCL := hid hcell
    have HXE := hid hx
    have hq2 : (k : Int) ≤ (l.length : Int) := by omega
    have hck : ¬ c = k := by omega
    have hsl1 : ∀ W, (Instr.slice 33 (.slice (some ⟨g, 0, none⟩) l.length c) (some (.int .i64 (k : Nat))) none none).run Tryz.prog W = .ok (.slice (some ⟨g, k * 13, none⟩) (l.length - k) (c - k)) W := fun W => by simp [Instr.slice, go_sem, hm0, hq2, hck]
    have hsl2 : ∀ W, (Instr.slice 33 (.slice (some ⟨g, 0, none⟩) l.length c) none (some (.int .i64 (k : Nat))) none).run Tryz.prog W = .ok (.slice (some ⟨g, 0, none⟩) k c) W := fun W => by
      have hq1 : (k : Int) ≤ (c : Int) := by omega
      simp [Instr.slice, go_sem, hm0, hq1]
    have hA : A2 = some ⟨g, k * 13, none⟩ ∧ cc = c - k := by
      have q := (hs12 W4).symm.trans (hsl1 W4)
      injection q with q _
      injection q with q1 _ q3
      exact ⟨q1, q3⟩
    obtain ⟨hA1, hA2⟩ := hA
    subst hA1
    subst hA2
    have HE4 := hid (And.intro e0 e7)
    have s0 : W4.cell? ⟨w.heap.size + 1, 0, none⟩ = some (.string s.nm) := by have := HC4.out; simp [World.cell?, this]
    have hNE := pst_some W4
    have gz : ∀ px : Pst W4, g < px.W.heap.size := fun px => px.size hgl
    have bz : ∀ px : Pst W4, w.heap.size + 1 < px.W.heap.size := fun px => px.size (lt_heap HC4.out)
    have E0 : ∀ px : Pst W4, px.W.cell? ⟨g, k * 13, none⟩ = some (.string x.nm) := fun px => px.cell e0 hgl
    have S0 : ∀ px : Pst W4, px.W.cell? ⟨w.heap.size + 1, 0, none⟩ = some (.string s.nm) := fun px => px.cell s0 (lt_heap HC4.out)
    obtain ⟨rn, hrn⟩ : ∃ rn : Nat, rn = l.length - k := ⟨_, rfl⟩
    have hrp : 0 < rn := by omega
    have hrd : decide ((0 : Int) < (rn : Int)) = true := decide_eq_true (by omega)
    have hri : (0 : Int) < (rn : Int) := by omega
    rw [← hrn] at hs12
    have HRN := hid hrn
    clear hrn
    clear hsl1 hx hcell e0 e7 s0
    go_upto_region 8 with fail
    rw [← hW4]
    clear hW4 y1 yz d7 pcz pcf hs12
    cases hsm : (x.nm.toList == s.nm.toList)
    · have HE : Hid (L = l.take k ++ [wishV s v 1] ++ l.drop k) := by show _ = _; rw [HL.out, wishOf, HPP.out, decide_eq_true hlt, ← HXE.out, show same x.nm s.nm = false from hsm]; rfl
      refine region_class W4 (Below.refl _ _) (by kernel_rfl) (by kernel_rfl) ?_
      repeat (first
        | go_big_quiet_skip
        | (go_big_quiet_want; go_big_quiet_op; go_big_quiet_on))
      refine wpQuiet_nil ?_
      intro _ hw'
      obtain ⟨x6, hw''⟩ := hw'
      subst hw''
      clear gz bz E0 S0 hNE
      go_wp2
      have hb := x6.ok
      have t1 : (l.take k).length = k := by rw [List.length_take]; omega
      have t2 : (l.drop k).length = rn := by rw [List.length_drop, HRN.out]
      have N := HN.out
      exact (wiD now a1 a2 n1 n2 c1 c2 L w x6.W (l.take k) (l.drop k) (wishV s v 1) (some ⟨g, 0, none⟩) A1 (some ⟨g, k * 13, none⟩) l.length c (c - k) _ _ t1 t2 HE.out (by have := HRN.out; rw [t1, t2]; omega) ((hb.block _ (lt_heap HX4.out)).trans HX4.out) ((hb.block _ (lt_heap HC4.out)).trans HC4.out) (HR4.out.later hb) (blw_trans HB4.out hb) (by rw [t1]; exact HS4.out)
        (fun ad e => by obtain ⟨p1, p2, p3⟩ := N.1 ad e; exact ⟨p1, Nat.lt_of_lt_of_le p2 hb.size, fun i u hu => (cell_blk i (hb.block _ p2)).trans (p3 i u hu)⟩)
        (fun ad e => by obtain ⟨p1, p2, p3⟩ := N.2.2.1 ad e; exact ⟨p1, Nat.lt_of_lt_of_le p2 hb.size, fun i u hu => (cell_blk i (hb.block _ p2)).trans (p3 i u hu)⟩) (by rw [t1]; exact N.2.1) (fun e => by cases e) _ _ _ _ _ _ _ _ _ _ _ _ _ _ _ _ _ _ _ _ _ _ _ _ _ _ _ _ _ _ _ _ _ _ _ _ _ _ _ _ _ _ _ _ _ _ _ _ _ _ _ _ _ _ _ _ _ _ _ _ _ _)
    · have HE : Hid (L = l.take k ++ [wishV s v x.next] ++ l.drop (k + 1)) := by show _ = _; rw [HL.out, wishOf, HPP.out, decide_eq_true hlt, ← HXE.out, show same x.nm s.nm = true from hsm]; rfl
      refine region_class W4 (Below.refl _ _) (by kernel_rfl) (by kernel_rfl) ?_
      repeat (first
        | go_big_quiet_skip
        | (go_big_quiet_want; go_big_quiet_op; go_big_quiet_on))
      refine wpQuiet_nil ?_
      intro _ hw'
      obtain ⟨x6, hw''⟩ := hw'
      subst hw''
      clear gz bz E0 S0 hNE
      have hb := x6.ok
      obtain ⟨W6, hW6⟩ : ∃ W6, W6 = x6.W := ⟨_, rfl⟩
      rw [← hW6] at hb ⊢
      clear hW6
      have HX6 : Hid (W6.heap[w.heap.size]? = some (.cells #[.int .i64 now, .slice (some ⟨g, 0, none⟩) l.length c, .slice a1 n1 c1, .slice a2 n2 c2] 37 (0, 0))) := (hb.block _ (lt_heap HX4.out)).trans HX4.out
      have HC6 : Hid (W6.heap[w.heap.size + 1]? = some (.cells #[.string s.nm, .int .i64 v, .bool s.gone, .int .i64 s.image, .int .i64 s.want, .int .i64 s.down, .int .i64 s.over, .int .i64 1, .int .i64 s.per, .int .i64 s.least, .int .i64 s.most, .int .i64 s.load, .int .i64 0] 41 (0, 0))) := (hb.block _ (lt_heap HC4.out)).trans HC4.out
      have HB6 := hid (blw_trans HB4.out hb)
      have HR6 := hid (HR4.out.later hb)
      have HCL6 : Hid (∀ j u, (l.flatMap SvC)[j]? = some u → W6.cell? ⟨g, j, none⟩ = some u) := fun j u hu => (hb.cell (p := ⟨g, j, none⟩) hgl).trans (HCL.out j u hu)
      have e7 : W6.cell? ⟨g, k * 13 + 7, none⟩ = some (.int .i64 x.next) := (hb.cell (p := ⟨g, k * 13 + 7, none⟩) hgl).trans HE4.out.2
      have gz : g < W6.heap.size := Nat.lt_of_lt_of_le hgl hb.size
      have pcz : w.heap.size + 1 < W6.heap.size := lt_heap HC6.out
      have pcf : ∀ j, W6.frozen? ⟨w.heap.size + 1, j, none⟩ = false := fun j => by have := HC6.out; simp [World.frozen?, this]
      have d7 : W6.cell? ⟨w.heap.size + 1, 7, none⟩ = some (.int .i64 1) := by have := HC6.out; simp [World.cell?, this]
      obtain ⟨W7, hW7⟩ : ∃ W7, W7 = W6.setCell ⟨w.heap.size + 1, 7, none⟩ (.int .i64 x.next) := ⟨_, rfl⟩
      have HX7 : Hid (W7.heap[w.heap.size]? = some (.cells #[.int .i64 now, .slice (some ⟨g, 0, none⟩) l.length c, .slice a1 n1 c1, .slice a2 n2 c2] 37 (0, 0))) := by show _ = _; rw [hW7]; exact (set_off (by omega) _ _).trans HX6.out
      have HC7 : Hid (W7.heap[w.heap.size + 1]? = some (.cells #[.string s.nm, .int .i64 v, .bool s.gone, .int .i64 s.image, .int .i64 s.want, .int .i64 s.down, .int .i64 s.over, .int .i64 x.next, .int .i64 s.per, .int .i64 s.least, .int .i64 s.most, .int .i64 s.load, .int .i64 0] 41 (0, 0))) := by show _ = _; rw [hW7]; exact set_at HC6.out 7 _
      have HR7 : Hid (OwnBlk W7 (w.heap.size + 2) 37 4) := by show OwnBlk _ _ _ _; rw [hW7]; exact HR6.out.sc_other (by omega) _ _
      have HB7 : Hid (Below w.heap.size w W7) := by show Below _ _ _; rw [hW7]; exact HB6.out.setCell (p := ⟨w.heap.size + 1, 7, none⟩) (by show w.heap.size ≤ w.heap.size + 1; omega) _
      have HCL7 : Hid (∀ j u, (l.flatMap SvC)[j]? = some u → W7.cell? ⟨g, j, none⟩ = some u) := fun j u hu => by rw [hW7]; exact (sc_ne _ _ _ _ _ _ (Or.inl (by omega))).trans (HCL6.out j u hu)
      have HGZ : Hid (g < W7.heap.size) := by show _ < _; rw [hW7]; simpa [World.setCell] using gz
      obtain ⟨A3, hsl3, hA3⟩ : ∃ A3, (∀ W, (Instr.slice 33 (.slice (some ⟨g, k * 13, none⟩) rn (c - k)) (some (.int .i64 1)) none none).run Tryz.prog W = .ok (.slice A3 (rn - 1) (c - k - 1)) W) ∧ (A3 = some ⟨g, k * 13, none⟩ ∧ l.length = k + 1 ∨ A3 = some ⟨g, (k + 1) * 13, none⟩) := by
        have h1 : (1 : Int) ≤ (rn : Int) := by omega
        have hrr := HRN.out
        by_cases hc1 : c - k = 1
        · exact ⟨some ⟨g, k * 13, none⟩, fun W => by simp [Instr.slice, go_sem, h1, hc1], Or.inl ⟨rfl, by omega⟩⟩
        · exact ⟨some ⟨g, (k + 1) * 13, none⟩, fun W => by simp [Instr.slice, go_sem, h1, hc1, Nat.add_mul], Or.inr rfl⟩
      have HA3 := hid hA3
      clear hA3
      go_wp2
      first | rw [← hW7] | (trace_state; fail)
      have t1 : (l.take k).length = k := by rw [List.length_take]; omega
      have t2 : (l.drop (k + 1)).length = rn - 1 := by have := HRN.out; rw [List.length_drop]; omega
      have N := HN.out
      have hsz : W4.heap.size ≤ W7.heap.size := by rw [hW7]; simpa [World.setCell] using hb.size
      have hA1g : ∀ ad, A1 = some ad → ad.block ≠ w.heap.size ∧ ad.block < W7.heap.size ∧ ∀ i u, ((l.take k).flatMap SvC)[i]? = some u → W7.cell? (ad.add i) = some u := fun ad e => by
        obtain ⟨p1, p2, p3⟩ := N.1 ad e
        have hbl : ad.block ≠ w.heap.size + 1 := fun e2 => by
          have q := (HS4.out W4).symm.trans (hsl2 W4)
          injection q with q _
          injection q with q _ _
          rw [q] at e
          injection e with e
          subst e
          have e3 : g = w.heap.size + 1 := e2
          omega
        refine ⟨p1, Nat.lt_of_lt_of_le p2 hsz, fun i u hu => ?_⟩
        refine Eq.trans (cell_blk i ?_) (p3 i u hu)
        rw [hW7]
        exact (set_off hbl _ _).trans (hb.block _ p2)
      have hA3g : ∀ ad, A3 = some ad → ad.block ≠ w.heap.size ∧ ad.block < W7.heap.size ∧ ∀ i u, ((l.drop (k + 1)).flatMap SvC)[i]? = some u → W7.cell? (ad.add i) = some u := fun ad e => by
        rcases HA3.out with ⟨q, hq⟩ | q
        · rw [q] at e
          injection e with e
          subst e
          refine ⟨by show g ≠ _; omega, HGZ.out, fun i u hu => ?_⟩
          rw [show l.drop (k + 1) = [] from List.drop_eq_nil_of_le (by omega)] at hu
          cases hu
        · rw [q] at e
          injection e with e
          subst e
          refine ⟨by show g ≠ _; omega, HGZ.out, fun i u hu => ?_⟩
          rw [addN]
          rw [← flat_drop SvC 13 SvC_len, List.getElem?_drop] at hu
          exact HCL7.out _ u hu
      exact (wiD now a1 a2 n1 n2 c1 c2 L w W7 (l.take k) (l.drop (k + 1)) (wishV s v x.next) (some ⟨g, 0, none⟩) A1 A3 l.length c (c - k - 1) _ _ t1 t2 HE.out (by have := HRN.out; rw [t1, t2]; omega) HX7.out HC7.out HR7.out HB7.out (by rw [t1]; exact HS4.out)
        hA1g hA3g (by rw [t1]; exact N.2.1) (fun e => by rcases HA3.out with ⟨q, _⟩ | q <;> (rw [q] at e; cases e)) _ _ _ _ _ _ _ _ _ _ _ _ _ _ _ _ _ _ _ _ _ _ _ _ _ _ _ _ _ _ _ _ _ _ _ _ _ _ _ _ _ _ _ _ _ _ _ _ _ _ _ _ _ _ _ _ _ _ _ _ _ _)
  · obtain rfl : k = l.length := by omega
    have hz0 : l.length - l.length = 0 := by omega
    rw [hz0] at hs12
    have HE : Hid (L = l.take l.length ++ [wishV s v 1] ++ l.drop l.length) := by show _ = _; rw [HL.out, wishOf, HPP.out, decide_eq_false hlt]; rfl
    go_upto_region 8 with fail
    rw [← hW4]
    clear hW4 y1 yz d7 pcz pcf
    have hNE := pst_some W4
    refine region_class W4 (Below.refl _ _) (by kernel_rfl) (by kernel_rfl) ?_
    repeat (first
      | go_big_quiet_skip
      | (go_big_quiet_want; go_big_quiet_op; go_big_quiet_on))
    refine wpQuiet_nil ?_
    intro _ hw'
    obtain ⟨x6, hw''⟩ := hw'
    subst hw''
    go_wp2
    have hb := x6.ok
    have t1 : (l.take l.length).length = l.length := by rw [List.length_take]; omega
    have t2 : (l.drop l.length).length = 0 := by rw [List.length_drop]; omega
    have K := fun q cs (hq : W4.heap[q]? = some (.cells cs 37 (0, 0))) => (hb.block q (lt_heap hq)).trans hq
    have N := HN.out
    exact (wiD now a1 a2 n1 n2 c1 c2 L w x6.W (l.take l.length) (l.drop l.length) (wishV s v 1) a A1 A2 l.length c cc _ _ t1 t2 HE.out (by rw [t1, t2]; omega) (K _ _ HX4.out) ((hb.block _ (lt_heap HC4.out)).trans HC4.out) (HR4.out.later hb) (blw_trans HB4.out hb) (by rw [t1]; exact HS4.out)
      (fun ad e => by obtain ⟨p1, p2, p3⟩ := N.1 ad e; exact ⟨p1, Nat.lt_of_lt_of_le p2 hb.size, fun i u hu => (cell_blk i (hb.block _ p2)).trans (p3 i u hu)⟩)
      (fun ad e => by obtain ⟨p1, p2, p3⟩ := N.2.2.1 ad e; exact ⟨p1, Nat.lt_of_lt_of_le p2 hb.size, fun i u hu => (cell_blk i (hb.block _ p2)).trans (p3 i u hu)⟩) (by rw [t1]; exact N.2.1) (by rw [t2]; intro _; rfl) _ _ _ _ _ _ _ _ _ _ _ _ _ _ _ _ _ _ _ _ _ _ _ _ _ _ _ _ _ _ _ _ _ _ _ _ _ _ _ _ _ _ _ _ _ _ _ _ _ _ _ _ _ _ _ _ _ _ _ _ _ _)

end Go.Proofs.YtclagbakddkjcaaGreat

namespace Go.Proofs.YtclagbakddkjcaaGreat
open Go.RowKit Go.Deep

set_option maxRecDepth 8000 in
set_option maxHeartbeats 16000000 in
theorem l17WishS (now : Int) (a1 a2 : Option Addr) (n1 n2 c1 c2 : Nat) (l : List Sv) (a : Option Addr) (c lo : Nat) (s : Sv) (v : Int) (w : World) (h : w.ownsRow lo 41 13 (.slice a l.length c) l.length (l.flatMap SvC)) (hl : l.length ≤ 100000) :
    Calls Tryz.prog 45 #[.agg #[.int .i64 now, .slice a l.length c, .slice a1 n1 c1, .slice a2 n2 c2], .agg #[.string s.nm, .int .i64 s.ver, .bool s.gone, .int .i64 s.image, .int .i64 s.want, .int .i64 s.down, .int .i64 s.over, .int .i64 s.next, .int .i64 s.per, .int .i64 s.least, .int .i64 s.most, .int .i64 s.load, .int .i64 s.cool], .int .i64 v] w fun e w' => (∃ a' c', e = .returned (.agg #[.int .i64 now, .slice a' (wishOf l s v).length c', .slice a1 n1 c1, .slice a2 n2 c2]) ∧ w'.ownsRow (w.heap.size + 3) 41 13 (.slice a' (wishOf l s v).length c') (wishOf l s v).length ((wishOf l s v).flatMap SvC)) ∧ Below w.heap.size w w' := by
  obtain ⟨wx, hwx⟩ : ∃ wx, wx = w.alloc (.cells #[.int .i64 now, .slice a l.length c, .slice a1 n1 c1, .slice a2 n2 c2] 37) := ⟨_, rfl⟩
  have zx : wx.heap.size = w.heap.size + 1 := by rw [hwx]; exact Array.size_push _
  obtain ⟨wy, hwy⟩ : ∃ wy, wy = wx.alloc (.cells #[.string s.nm, .int .i64 s.ver, .bool s.gone, .int .i64 s.image, .int .i64 s.want, .int .i64 s.down, .int .i64 s.over, .int .i64 s.next, .int .i64 s.per, .int .i64 s.least, .int .i64 s.most, .int .i64 s.load, .int .i64 s.cool] 41) := ⟨_, rfl⟩
  have zy : wy.heap.size = w.heap.size + 2 := by rw [hwy]; exact (Array.size_push _).trans (by rw [zx])
  obtain ⟨wa, hwa⟩ : ∃ wa, wa = wy.alloc (.cells #[.int .i64 0, .slice none 0 0, .slice none 0 0, .slice none 0 0] 37) := ⟨_, rfl⟩
  have b1 : Below w.heap.size w wx := by rw [hwx]; exact blw_alloc (Below.refl _ _) _
  have b2 : Below wx.heap.size wx wy := by rw [hwy]; exact blw_alloc (Below.refl _ _) _
  have b3 : Below wy.heap.size wy wa := by rw [hwa]; exact blw_alloc (Below.refl _ _) _
  have HX : Hid (wa.heap[w.heap.size]? = some (.cells #[.int .i64 now, .slice a l.length c, .slice a1 n1 c1, .slice a2 n2 c2] 37 (0, 0))) := by
    have q : wx.heap[w.heap.size]? = some (.cells #[.int .i64 now, .slice a l.length c, .slice a1 n1 c1, .slice a2 n2 c2] 37 (0, 0)) := by rw [hwx]; exact World.alloc_heap_new w _
    exact (b3.block _ (by omega)).trans ((b2.block _ (by omega)).trans q)
  have HC : Hid (wa.heap[w.heap.size + 1]? = some (.cells #[.string s.nm, .int .i64 s.ver, .bool s.gone, .int .i64 s.image, .int .i64 s.want, .int .i64 s.down, .int .i64 s.over, .int .i64 s.next, .int .i64 s.per, .int .i64 s.least, .int .i64 s.most, .int .i64 s.load, .int .i64 s.cool] 41 (0, 0))) := by
    have q : wy.heap[w.heap.size + 1]? = some (.cells #[.string s.nm, .int .i64 s.ver, .bool s.gone, .int .i64 s.image, .int .i64 s.want, .int .i64 s.down, .int .i64 s.over, .int .i64 s.next, .int .i64 s.per, .int .i64 s.least, .int .i64 s.most, .int .i64 s.load, .int .i64 s.cool] 41 (0, 0)) := by rw [hwy, ← zx]; exact World.alloc_heap_new wx _
    exact (b3.block _ (by omega)).trans q
  have HR : Hid (OwnBlk wa (w.heap.size + 2) 37 4) := by show OwnBlk _ _ _ _; rw [hwa, ← zy]; exact OwnBlk.alloc wy _ _ _ rfl
  have HB := hid (blw_trans (blw_trans b1 b2) b3)
  have HO := hid (owns_on h HB.out)
  have HG : Hid (∀ g, (Value.slice a l.length c).ownBlock = some g → g < w.heap.size) := fun g e => (World.ownsRow.lt h g e).2
  clear h b1 b2 b3
  go_enter Tryz.func45, Tryz.ntmps45
  show Code.wp Tryz.prog wi0 _ _ _
  rw [wi0_3]
  simp only [wi2, wi1, wi0, Tryz.f45, Option.getD_some, sfst_seq, ssnd_seq]
  go_upto_region 1 with fail
  rw [← hwx, ← hwy, ← hwa]
  clear hwx hwy hwa zx zy
  go_wp2
  go_loopw [7] (fun i wr => ∃ k : Nat, k ≤ l.length ∧ i = .int .i64 k ∧ (∀ j, j < k → Pl.less (l.getD j Sv.none).nm s.nm = true) ∧ Below wa.heap.size wa wr) (fun i _ => l.length - (intOf i).toNat)
  case atStart => exact ⟨0, Nat.zero_le _, rfl, fun j hj => absurd hj (Nat.not_lt_zero j), Below.refl _ _⟩
  case round =>
    obtain ⟨k, hk, rfl, hall, hW⟩ := hrel
    have HA := hid hall
    have HW := hid hW
    clear hall hW
    have hx := (HW.out.block _ (lt_heap HX.out)).trans HX.out
    have hc := (HW.out.block _ (lt_heap HC.out)).trans HC.out
    have yz : w.heap.size < wr.heap.size := lt_heap hx
    have cz : w.heap.size + 1 < wr.heap.size := lt_heap hc
    have hNE := pst_some wr
    have hyz : ∀ px : Pst wr, w.heap.size < px.W.heap.size := fun px => px.size yz
    have hcz : ∀ px : Pst wr, w.heap.size + 1 < px.W.heap.size := fun px => px.size cz
    have Y1 : ∀ px : Pst wr, px.W.cell? ⟨w.heap.size, 1, none⟩ = some (.slice a l.length c) := fun px => px.cell (by simp [World.cell?, hx]) yz
    have S0 : ∀ px : Pst wr, px.W.cell? ⟨w.heap.size + 1, 0, none⟩ = some (.string s.nm) := fun px => px.cell (by simp [World.cell?, hc]) cz
    clear hx hc
    by_cases hlt : k < l.length
    · obtain ⟨g, c', ev, hlo, hgl, hcell⟩ := owns_cells (owns_on HO.out HW.out) (by omega)
      injection ev with ev1 ev2 ev3
      subst ev1
      subst ev3
      clear ev2
      obtain ⟨x, hx⟩ : ∃ x, x = l.getD k Sv.none := ⟨_, rfl⟩
      have e0 : wr.cell? ⟨g, k * 13, none⟩ = some (.string x.nm) := hcell (k * 13 + 0) _ ((flat_at Sv.none SvC 13 SvC_len l k 0 hlt (by omega)).trans (by rw [← hx]; rfl))
      have HXE := hid hx
      have gz : ∀ px : Pst wr, g < px.W.heap.size := fun px => px.size hgl
      have E0 : ∀ px : Pst wr, px.W.cell? ⟨g, k * 13, none⟩ = some (.string x.nm) := fun px => px.cell e0 hgl
      have hm0 : (0 : Int) ≤ (k : Int) := by omega
      have hm3 : (k : Int) < (l.length : Int) := by omega
      clear hx hcell e0
      cases hcs : Op.bytesLess x.nm.toList s.nm.toList
      · have HP : Hid (posS l s.nm = k) := posS_at hlt HA.out (by rw [← HXE.out]; exact hcs)
        go_wp2_with fail
        clear yz cz
        refine region_class wr (Below.refl _ _) (by kernel_rfl) (by kernel_rfl) ?_
        repeat (first
          | go_big_quiet_skip
          | (go_big_quiet_want; go_big_quiet_op; go_big_quiet_on))
        refine wpQuiet_nil ?_
        intro _ hw'
        obtain ⟨x6, hw''⟩ := hw'
        subst hw''
        go_wp2
        have hb := blw_trans HW.out x6.ok
        exact wiC now a1 a2 n1 n2 c1 c2 _ w x6.W l s v k (some ⟨g, 0, none⟩) c lo rfl HP.out hk hl ((hb.block _ (lt_heap HX.out)).trans HX.out) ((hb.block _ (lt_heap HC.out)).trans HC.out) (HR.out.later hb) (blw_trans HB.out hb) (owns_on HO.out hb) HG.out _ _ _ _ _ _ _ _ _ _ _ _ _ _ _ _ _ _ _ _ _ _ _ _ _ _ _ _ _ _ _ _ _ _ _ _ _ _ _ _ _ _ _ _ _ _ _ _ _ _ _ _ _ _ _ _ _ _ _ _ _ _
      · have HN : Hid (∀ j, j < k + 1 → Pl.less (l.getD j Sv.none).nm s.nm = true) := fun j hj => by
          by_cases e : j = k
          · subst e; rw [← HXE.out]; exact hcs
          · exact HA.out j (by omega)
        go_wp2_with fail
        clear yz cz
        refine region_class wr (Below.refl _ _) (by kernel_rfl) (by kernel_rfl) ?_
        repeat (first
          | go_big_quiet_skip
          | (go_big_quiet_want; go_big_quiet_op; go_big_quiet_on))
        refine wpQuiet_nil ?_
        intro _ hw'
        obtain ⟨x6, hw''⟩ := hw'
        subst hw''
        go_wp2
        go_roundw
        case rel => exact ⟨k + 1, by omega, by go_num, HN.out, blw_trans HW.out x6.ok⟩
        case measure => simp [intOf]; omega
    · obtain rfl : k = l.length := by omega
      have HP : Hid (posS l s.nm = l.length) := posS_end HA.out
      go_wp2_with fail
      clear yz cz
      refine region_class wr (Below.refl _ _) (by kernel_rfl) (by kernel_rfl) ?_
      repeat (first
        | go_big_quiet_skip
        | (go_big_quiet_want; go_big_quiet_op; go_big_quiet_on))
      refine wpQuiet_nil ?_
      intro _ hw'
      obtain ⟨x6, hw''⟩ := hw'
      subst hw''
      go_wp2
      have hb := blw_trans HW.out x6.ok
      exact wiC now a1 a2 n1 n2 c1 c2 _ w x6.W l s v l.length a c lo rfl HP.out (Nat.le_refl _) hl ((hb.block _ (lt_heap HX.out)).trans HX.out) ((hb.block _ (lt_heap HC.out)).trans HC.out) (HR.out.later hb) (blw_trans HB.out hb) (owns_on HO.out hb) HG.out _ _ _ _ _ _ _ _ _ _ _ _ _ _ _ _ _ _ _ _ _ _ _ _ _ _ _ _ _ _ _ _ _ _ _ _ _ _ _ _ _ _ _ _ _ _ _ _ _ _ _ _ _ _ _ _ _ _ _ _ _ _

end Go.Proofs.YtclagbakddkjcaaGreat
