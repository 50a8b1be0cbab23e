/-
  RecMerge by the program.
-/
import Derived.Deep.MidRow
import Derived.Test.YtejhknclhdbgfaaRgS
import Derived.Test.YtejhknclhdbgfaaRpA
namespace Go.Proofs.Ytejhknclhdbgfaa
open Go.RowKit Go.Deep

/-- A row of slots of one's own, in a block of whatever type. -/
structure RowC (w : World) (lo g cap : Nat) (l : List Rs) : Prop where
  ge : lo ≤ g
  own : ∃ ty, OwnBlk w g ty (cap * 2)
  fit : l.length ≤ cap
  cap_ : cap ≤ maxLen
  at_ : w.rangeAt g 0 (l.flatMap RsC)
theorem RowC.lt {w : World} {lo g cap : Nat} {l : List Rs} (h : RowC w lo g cap l) : g < w.heap.size := by obtain ⟨_, ho⟩ := h.own; exact ho.lt
theorem RowC.later {w w' : World} {lo g cap : Nat} {l : List Rs} (h : RowC w lo g cap l) (hb : Below w.heap.size w w') : RowC w' lo g cap l :=
  ⟨h.ge, by obtain ⟨t, ho⟩ := h.own; exact ⟨t, ho.later hb⟩, h.fit, h.cap_, fun j v hv => (hb.cell (p := ⟨g, 0 + j, none⟩) h.lt).trans (h.at_ j v hv)⟩

theorem own_scs {g : Nat} {t : TypeId} {m : Nat} : ∀ (cs : List Value) (o : Nat) (W : World), OwnBlk W g t m → OwnBlk (W.setCells g o cs) g t m :=
  RY.keeps_scs (p := g) (A := fun W => OwnBlk W g t m) (fun _ o x h => h.setCell o x)
theorem blw_scs {u : World} {g : Nat} (hg : u.heap.size ≤ g) : ∀ (cs : List Value) (o : Nat) (W : World), Below u.heap.size u W → Below u.heap.size u (W.setCells g o cs) :=
  RY.keeps_scs (p := g) (A := fun W => Below u.heap.size u W) (fun _ o x h => h.setCell (p := ⟨g, o, none⟩) hg x)
theorem OwnBlk.there {w : World} {g : Nat} {t : TypeId} {m : Nat} (h : OwnBlk w g t m) (o n : Nat) (ho : o + n ≤ m) : w.there g o n := fun j hj => by
  obtain ⟨v, hv⟩ := h.cell (o + j) (by omega)
  exact ⟨by rw [hv]; rfl, h.frozen _⟩

theorem rng_join {w : World} {g o : Nat} {xs ys : List Value} (h : w.rangeAt g o xs) (k : w.rangeAt g (o + xs.length) ys) : w.rangeAt g o (xs ++ ys) := fun j v hv => by
  by_cases hj : j < xs.length
  · rw [List.getElem?_append_left hj] at hv; exact h j v hv
  · rw [List.getElem?_append_right (by omega)] at hv
    have := k (j - xs.length) v hv
    rw [show o + xs.length + (j - xs.length) = o + j by omega] at this
    exact this

set_option maxHeartbeats 1000000 in
theorem rowc_app {ty : TypeId} {u w : World} {g cap : Nat} {l : List Rs} (h : RowC w u.heap.size g cap l) (m : Rs) (a : Addr) (c : Nat)
    (hn : ∀ j v, (RsC m)[j]? = some v → w.cell? (a.add j) = some v) (hl : l.length ≤ 2097152) (hu : Below u.heap.size u w) :
    ∃ g' cap' w', (Builtin.append_ #[27, 27] ty #[.slice (some ⟨g, 0, none⟩) l.length cap, .slice (some a) 1 c]).run Try.prog w = .ok (.slice (some ⟨g', 0, none⟩) (l.length + 1) cap') w' ∧ RowC w' u.heap.size g' cap' (l ++ [m]) ∧ Below u.heap.size u w' := by
  obtain ⟨i, hi, ei⟩ := Option.map_eq_some_iff.1 Try.infRs
  simp only [Prod.mk.injEq] at ei
  obtain ⟨hz, hs, hby⟩ := ei
  obtain ⟨t, ho⟩ := h.own
  have hlen : (l.flatMap RsC).length = l.length * 2 := flat_len RsC 2 RsC_len l
  have hone : ∀ v ∈ RsC m, v.oneCell' = true := fun v hv => RsC_one [m] v (by simpa using hv)
  have hfl : (l ++ [m]).flatMap RsC = l.flatMap RsC ++ RsC m := by simp
  by_cases hc : l.length + 1 ≤ cap
  · have hsrc : Src Try.prog i.size 27 (.slice (some a) 1 c) 1 (RsC m) w := Src.ofSlice w Try.undRs a 1 c (RsC m) (by rw [hs]; rfl) hn hone
    have hth := ho.there (l.length * 2) 2 (by omega)
    have hr := run_append_room_src (P := Try.prog) w 27 27 ty 69 i Try.undRs hi g 0 l.length cap (.slice (some a) 1 c) 1 (RsC m) hsrc hc
      (fun j hj => by rw [hs, Nat.zero_add]; exact (hth j hj).1) (fun j hj => by rw [hs, Nat.zero_add]; exact (hth j hj).2)
    rw [hs, Nat.zero_add] at hr
    refine ⟨g, cap, _, hr, ⟨h.ge, ⟨t, own_scs _ _ _ ho⟩, by rw [List.length_append]; exact hc, h.cap_, ?_⟩, blw_scs h.ge _ _ _ hu⟩
    rw [hfl]
    refine rng_join (World.rangeAt_setCells_apart h.at_ _ _ _ (Or.inr (Or.inl (by omega)))) ?_
    rw [hlen, Nat.zero_add]
    exact World.rangeAt_setCells_same _ _ _ _ hth
  · have hge := grownCap_ge w (l.length + 1) cap 69
    have hr := run_append_grow (P := Try.prog) w 27 ty 69 i _ Try.undRs hi hz ⟨g, 0, none⟩ l.length cap (l.flatMap RsC) (by rw [hlen, hs]) (fun j v hv => by have := h.at_ j v hv; rw [Addr.add_lit]; exact this) a 1 c (RsC m) (by rw [hs]; rfl) hn (by omega) (by omega) (growslice_fits (by omega) (by rw [hby]; omega))
    refine ⟨w.heap.size, _, _, hr, ⟨hu.size, ⟨69, _, heap_alloc_new w.drew _, ?_⟩, by rw [List.length_append]; exact hge, grownCap_le_maxLen w _ _ _ (by unfold maxLen; omega), ?_⟩, blw_alloc (Below.drew hu) _⟩
    · rw [Array.size_append, Array.size_append, size_zeroCells]
      simp only [List.size_toArray, hlen, RsC_len]
      show l.length * 2 + 2 + (_ - (l.length + 1)) * 2 = _
      omega
    · rw [hfl]
      intro j v hv
      rw [cell_of_row _ w.heap.size (0 + j) _ 69 (0, 0) (heap_alloc_new w.drew _), Nat.zero_add]
      have hj : j < (l.flatMap RsC ++ RsC m).length := by
        rcases Nat.lt_or_ge j (l.flatMap RsC ++ RsC m).length with q | q
        · exact q
        · rw [List.getElem?_eq_none q] at hv; cases hv
      rw [← Array.getElem?_toList]
      simp only [Array.toList_append]
      rw [List.getElem?_append_left hj]
      exact hv

/-- Merged, place by place. -/
def ML (x y : List Rs) (k : Nat) : List Rs := (List.range k).map (mergeAt x y)
theorem ML_len (x y : List Rs) (k : Nat) : (ML x y k).length = k := by simp [ML]
theorem ML_succ (x y : List Rs) (k : Nat) : ML x y (k + 1) = ML x y k ++ [mergeAt x y k] := by simp [ML, List.range_succ]
theorem ML_eq (x y : List Rs) : ML x y (max x.length y.length) = mergeOf x y := by
  refine List.ext_getElem? fun i => ?_
  by_cases hi : i < max x.length y.length
  · have := mergeOf_at x y i hi
    have hl : i < (mergeOf x y).length := by rw [mergeOf_len]; exact hi
    rw [List.getD_eq_getElem?_getD, List.getElem?_eq_getElem hl, Option.getD_some] at this
    rw [List.getElem?_eq_getElem hl, this]
    simp only [ML, List.getElem?_map, List.getElem?_range hi, Option.map_some]
  · rw [List.getElem?_eq_none (by rw [ML_len]; omega), List.getElem?_eq_none (by rw [mergeOf_len]; omega)]

set_option maxHeartbeats 2000000 in
theorem cmpRsI (x y : Rs) (w : World) :
    Calls Try.prog 44 #[.agg #[.int .i64 x.bal, .string x.txt], .agg #[.int .i64 y.bal, .string y.txt]] w fun e w' => e = .returned (.int .i64 (numCmp x.bal y.bal)) ∧ Below w.heap.size w w' := by
  obtain ⟨wa, hwa⟩ : ∃ wa, wa = (w.alloc (.cells #[.int .i64 x.bal, .string x.txt] 69)).alloc (.cells #[.int .i64 y.bal, .string y.txt] 69) := ⟨_, rfl⟩
  have HB : Hid (Below w.heap.size w wa) := by show Below _ _ _; rw [hwa]; exact blw_alloc (blw_alloc (Below.refl _ _) _) _
  have a0 : wa.cell? ⟨w.heap.size, 0, none⟩ = some (.int .i64 x.bal) := by
    rw [hwa]; exact (World.cell?_alloc_past _ _ _ (by simp)).trans (World.cell?_alloc_at _ _ _ _ rfl)
  have b0 : wa.cell? ⟨w.heap.size + 1, 0, none⟩ = some (.int .i64 y.bal) := by
    rw [hwa]; exact (World.cell?_alloc_at _ _ _ _ (by simp))
  have z : w.heap.size + 1 < wa.heap.size := by rw [hwa]; simp
  have z' : w.heap.size < wa.heap.size := by omega
  go_enter Try.func44, Try.ntmps44
  go_upto_region 1 with fail
  rw [← hwa]
  clear hwa
  go_wp2_with (go_at_call 81; refine (cmpI _ _ _).mono ?_; rintro e w' ⟨rfl, rfl⟩)
  go_ret
  exact ⟨rfl, HB.out⟩

theorem numCmp_lt (a b : Int) : numCmp a b < 0 ↔ a < b := by
  unfold numCmp
  split
  · simp [*]
  · split
    · simp; omega
    · simp; omega

set_option maxRecDepth 8000 in
set_option maxHeartbeats 16000000 in
theorem mergedI (x y : List Rs) (a a' : Option Addr) (c c' g cap : Nat) (u w : World) (h : RssV u a x) (h' : RssV u a' y) (hx : x.length ≤ 1048576) (hy : y.length ≤ 1048576) (hu : Below u.heap.size u w) (hr : RowC w u.heap.size g cap []) :
    Calls Try.prog 43 #[.slice (some ⟨g, 0, none⟩) 0 cap, .slice a x.length c, .slice a' y.length c', .func (.func 44) #[] #[]] w fun e w' => ∃ g' cap', e = .returned (.slice (some ⟨g', 0, none⟩) (max x.length y.length) cap') ∧ RowC w' u.heap.size g' cap' (mergeOf x y) ∧ Below u.heap.size u w' := by
  have HX := hid h
  have HY := hid h'
  have HU := hid hu
  have HR := hid hr
  obtain ⟨n, hn⟩ : ∃ n, n = max x.length y.length := ⟨_, rfl⟩
  have hnx : x.length ≤ n := by omega
  have hny : y.length ≤ n := by omega
  have hnb : n ≤ 1048576 := by omega
  have hmx : (if x.length < y.length then (y.length : Int) else (x.length : Int)) = (n : Int) := by split <;> omega
  have HML := hid (ML_eq x y)
  rw [← hn] at HML ⊢
  have HNN := hid hn
  clear h h' hu hr hn
  go_enter Try.func43, Try.ntmps43
  go_wp2
  clear hmx
  go_loopw [0, 15] (fun v i wr => ∃ k g cap : Nat, k ≤ n ∧ i = .int .i64 k ∧ v = .slice (some ⟨g, 0, none⟩) k cap ∧ RowC wr u.heap.size g cap (ML x y k) ∧ Below u.heap.size u wr) (fun _ i _ => n - (intOf i).toNat)
  case atStart => exact ⟨0, g, cap, Nat.zero_le _, rfl, rfl, HR.out, HU.out⟩
  case round =>
    obtain ⟨k, g1, cap1, hk, rfl, rfl, hO, hW⟩ := hrel
    have HO := hid hO
    have HW := hid hW
    clear hO hW HR HU
    by_cases hlt : k < n
    · have hNE := pst_some wr
      have hm0 : (0 : Int) ≤ (k : Int) := by omega
      have hm3 : (k : Int) < (n : Int) := by omega
      by_cases hxk : k < x.length
      · obtain ⟨bx, ox, ha, hbx, hfx⟩ := (HX.out.later HW.out).at_ k hxk
        obtain ⟨p, hp⟩ : ∃ p, p = x.getD k Rs.none := ⟨_, rfl⟩
        rw [← hp] at hfx
        obtain ⟨p0, p1, _⟩ := hfx
        subst ha
        have hq1 : ¬ ((x.length : Int) ≤ (k : Int)) := by omega
        have hq2 : decide ((x.length : Int) ≤ (k : Int)) = false := decide_eq_false hq1
        have hq3 : (k : Int) < (x.length : Int) := by omega
        by_cases hyk : k < y.length
        · obtain ⟨bY, oy, ha, hby, hfy⟩ := (HY.out.later HW.out).at_ k hyk
          obtain ⟨q, hq⟩ : ∃ q, q = y.getD k Rs.none := ⟨_, rfl⟩
          rw [← hq] at hfy
          obtain ⟨q0, q1, _⟩ := hfy
          subst ha
          have hs3 : (k : Int) < (y.length : Int) := by omega
          have hs4 : decide ((k : Int) < (y.length : Int)) = true := decide_eq_true hs3
          obtain ⟨r, hr⟩ : ∃ r, r = numCmp p.bal q.bal := ⟨_, rfl⟩
          have HC : Hid (∀ W, Calls Try.prog 44 #[.agg #[.int .i64 p.bal, .string p.txt], .agg #[.int .i64 q.bal, .string q.txt]] W fun e w' => e = .returned (.int .i64 r) ∧ Below W.heap.size W w') := fun W => by rw [hr]; exact cmpRsI p q W
          have HEE := hid (And.intro p0 (And.intro p1 (And.intro q0 q1)))
          have P0 : ∀ px : Pst wr, px.W.cell? ⟨bx, ox + k * 2, none⟩ = some (.int .i64 p.bal) := fun px => px.cell p0 hbx
          have P1 : ∀ px : Pst wr, px.W.cell? ⟨bx, ox + k * 2 + 1, none⟩ = some (.string p.txt) := fun px => px.cell p1 hbx
          have Q0 : ∀ px : Pst wr, px.W.cell? ⟨bY, oy + k * 2, none⟩ = some (.int .i64 q.bal) := fun px => px.cell q0 hby
          have Q1 : ∀ px : Pst wr, px.W.cell? ⟨bY, oy + k * 2 + 1, none⟩ = some (.string q.txt) := fun px => px.cell q1 hby
          have hbxz : ∀ px : Pst wr, bx < px.W.heap.size := fun px => px.size hbx
          have hbyz : ∀ px : Pst wr, bY < px.W.heap.size := fun px => px.size hby
          by_cases hc : p.bal < q.bal
          · have HZ : Hid (mergeAt x y k = q) := by show _ = _; rw [mergeAt, if_neg (by omega), if_pos ⟨hyk, by rw [← hp, ← hq]; exact hc⟩, hq]
            have hrz : r < 0 := by rw [hr]; exact (numCmp_lt _ _).2 hc
            have hrd : decide (r < 0) = true := decide_eq_true hrz
            clear hr hp hq hc p0 p1 q0 q1 hrz
            go_upto_region 4 with fail
            refine region_class wr (Below.refl _ _) (by kernel_rfl) (by kernel_rfl) ?_
            repeat (first
              | go_big_quiet_skip
              | (go_big_quiet_want; go_big_quiet_op; first | go_big_quiet_on | (apply Exists.intro; refine ⟨fun px => ?_, ?_⟩; (focus (go_at_call 44; refine (HC.out _).mono ?_; rintro e w' ⟨he, hb⟩; exact ⟨he, ⟨w', blw_trans px.ok hb⟩, rfl⟩)); go_big_quiet_on)))
            refine wpQuiet_nil ?_
            intro _ hw'
            obtain ⟨x6, hw''⟩ := hw'
            subst hw''
            have HE6 : Hid (x6.W.cell? ⟨bY, oy + k * 2, none⟩ = some (.int .i64 q.bal) ∧ x6.W.cell? ⟨bY, oy + k * 2 + 1, none⟩ = some (.string q.txt)) := ⟨x6.cell HEE.out.2.2.1 hby, x6.cell HEE.out.2.2.2 hby⟩
            obtain ⟨W, hWW⟩ : ∃ W, W = x6.W := ⟨_, rfl⟩
            have hx6 := x6.ok
            have bz := x6.size hby
            rw [← hWW] at hx6 bz HE6 ⊢
            clear hNE hWW P0 P1 Q0 Q1 hbxz hbyz
            have HB6 := hid (blw_trans HW.out hx6)
            have HR6 := hid (HO.out.later hx6)
            have e0 := HE6.out.1
            have e1 := HE6.out.2
            obtain ⟨W1, hW1⟩ : ∃ W1, W1 = W.alloc (.cells #[.int .i64 q.bal, .string q.txt] 69) := ⟨_, rfl⟩
            have hb1 : Below W.heap.size W W1 := by rw [hW1]; exact blw_alloc (Below.refl _ _) _
            have hn1 : ∀ j u, (RsC q)[j]? = some u → W1.cell? ((⟨W.heap.size, 0, none⟩ : Addr).add j) = some u := by rw [hW1]; exact World.news_of_block (World.alloc_heap_new _ _)
            obtain ⟨g2, cap2, W2, hr, hrow, hbel⟩ := rowc_app (ty := 27) (HR6.out.later hb1) q ⟨W.heap.size, 0, none⟩ 1 hn1 (by rw [ML_len]; omega) (blw_trans HB6.out hb1)
            rw [ML_len] at hr
            have HN := hid (And.intro hrow hbel)
            clear hrow hbel hn1 hb1 HE6
            go_wp2_with (at_builtin; first | (rw [← hW1]; refine wpList_append_run rfl (.tmp 41) (.tmp 46) 27 rfl rfl rfl hr ?_) | refine wpList_append_run rfl (.tmp 41) (.tmp 46) 27 rfl rfl rfl hr ?_)
            go_roundw
            case rel => exact ⟨k + 1, g2, cap2, by omega, by go_num, rfl, by rw [ML_succ, HZ.out]; exact HN.out.1, HN.out.2⟩
            case measure => simp [intOf]; omega
          · have HZ : Hid (mergeAt x y k = p) := by show _ = _; rw [mergeAt, if_neg (by omega), if_neg (fun hh => hc (by have := hh.2; rw [← hp, ← hq] at this; exact this)), hp]
            have hrz : ¬ r < 0 := by rw [hr]; exact fun hh => hc ((numCmp_lt _ _).1 hh)
            have hrd : decide (r < 0) = false := decide_eq_false hrz
            clear hr hp hq hc p0 p1 q0 q1 hrz
            go_upto_region 4 with fail
            refine region_class wr (Below.refl _ _) (by kernel_rfl) (by kernel_rfl) ?_
            repeat (first
              | go_big_quiet_skip
              | (go_big_quiet_want; go_big_quiet_op; first | go_big_quiet_on | (apply Exists.intro; refine ⟨fun px => ?_, ?_⟩; (focus (go_at_call 44; refine (HC.out _).mono ?_; rintro e w' ⟨he, hb⟩; exact ⟨he, ⟨w', blw_trans px.ok hb⟩, rfl⟩)); go_big_quiet_on)))
            refine wpQuiet_nil ?_
            intro _ hw'
            obtain ⟨x6, hw''⟩ := hw'
            subst hw''
            have HE6 : Hid (x6.W.cell? ⟨bx, ox + k * 2, none⟩ = some (.int .i64 p.bal) ∧ x6.W.cell? ⟨bx, ox + k * 2 + 1, none⟩ = some (.string p.txt)) := ⟨x6.cell HEE.out.1 hbx, x6.cell HEE.out.2.1 hbx⟩
            obtain ⟨W, hWW⟩ : ∃ W, W = x6.W := ⟨_, rfl⟩
            have hx6 := x6.ok
            have bz := x6.size hbx
            rw [← hWW] at hx6 bz HE6 ⊢
            clear hNE hWW P0 P1 Q0 Q1 hbxz hbyz
            have HB6 := hid (blw_trans HW.out hx6)
            have HR6 := hid (HO.out.later hx6)
            have e0 := HE6.out.1
            have e1 := HE6.out.2
            obtain ⟨W1, hW1⟩ : ∃ W1, W1 = W.alloc (.cells #[.int .i64 p.bal, .string p.txt] 69) := ⟨_, rfl⟩
            have hb1 : Below W.heap.size W W1 := by rw [hW1]; exact blw_alloc (Below.refl _ _) _
            have hn1 : ∀ j u, (RsC p)[j]? = some u → W1.cell? ((⟨W.heap.size, 0, none⟩ : Addr).add j) = some u := by rw [hW1]; exact World.news_of_block (World.alloc_heap_new _ _)
            obtain ⟨g2, cap2, W2, hr, hrow, hbel⟩ := rowc_app (ty := 27) (HR6.out.later hb1) p ⟨W.heap.size, 0, none⟩ 1 hn1 (by rw [ML_len]; omega) (blw_trans HB6.out hb1)
            rw [ML_len] at hr
            have HN := hid (And.intro hrow hbel)
            clear hrow hbel hn1 hb1 HE6
            go_wp2_with (at_builtin; first | (rw [← hW1]; refine wpList_append_run rfl (.tmp 48) (.tmp 53) 27 rfl rfl rfl hr ?_) | refine wpList_append_run rfl (.tmp 48) (.tmp 53) 27 rfl rfl rfl hr ?_)
            go_roundw
            case rel => exact ⟨k + 1, g2, cap2, by omega, by go_num, rfl, by rw [ML_succ, HZ.out]; exact HN.out.1, HN.out.2⟩
            case measure => simp [intOf]; omega
        · have hs3 : ¬ (k : Int) < (y.length : Int) := by omega
          have hs4 : decide ((k : Int) < (y.length : Int)) = false := decide_eq_false hs3
          have HEE := hid (And.intro p0 p1)
          have HZ : Hid (mergeAt x y k = p) := by show _ = _; rw [mergeAt, if_neg (by omega), if_neg (fun hh => by omega), hp]
          have HC : Hid (∀ W, Calls Try.prog 44 #[.agg #[.int .i64 p.bal, .string p.txt], .agg #[.int .i64 p.bal, .string p.txt]] W fun e w' => e = .returned (.int .i64 (numCmp p.bal p.bal)) ∧ Below W.heap.size W w') := fun W => cmpRsI p p W
          clear hp p0 p1
          go_upto_region 4 with fail
          refine region_class wr (Below.refl _ _) (by kernel_rfl) (by kernel_rfl) ?_
          repeat (first
            | go_big_quiet_skip
            | (go_big_quiet_want; go_big_quiet_op; first | go_big_quiet_on | (apply Exists.intro; refine ⟨fun px => ?_, ?_⟩; (focus (go_at_call 44; refine (HC.out _).mono ?_; rintro e w' ⟨he, hb⟩; exact ⟨he, ⟨w', blw_trans px.ok hb⟩, rfl⟩)); go_big_quiet_on)))
          refine wpQuiet_nil ?_
          intro _ hw'
          obtain ⟨x6, hw''⟩ := hw'
          subst hw''
          have HE6 : Hid (x6.W.cell? ⟨bx, ox + k * 2, none⟩ = some (.int .i64 p.bal) ∧ x6.W.cell? ⟨bx, ox + k * 2 + 1, none⟩ = some (.string p.txt)) := ⟨x6.cell HEE.out.1 hbx, x6.cell HEE.out.2 hbx⟩
          obtain ⟨W, hWW⟩ : ∃ W, W = x6.W := ⟨_, rfl⟩
          have hx6 := x6.ok
          have bz := x6.size hbx
          rw [← hWW] at hx6 bz HE6 ⊢
          clear hNE hWW
          have HB6 := hid (blw_trans HW.out hx6)
          have HR6 := hid (HO.out.later hx6)
          have e0 := HE6.out.1
          have e1 := HE6.out.2
          obtain ⟨W1, hW1⟩ : ∃ W1, W1 = W.alloc (.cells #[.int .i64 p.bal, .string p.txt] 69) := ⟨_, rfl⟩
          have hb1 : Below W.heap.size W W1 := by rw [hW1]; exact blw_alloc (Below.refl _ _) _
          have hn1 : ∀ j u, (RsC p)[j]? = some u → W1.cell? ((⟨W.heap.size, 0, none⟩ : Addr).add j) = some u := by rw [hW1]; exact World.news_of_block (World.alloc_heap_new _ _)
          obtain ⟨g2, cap2, W2, hr, hrow, hbel⟩ := rowc_app (ty := 27) (HR6.out.later hb1) p ⟨W.heap.size, 0, none⟩ 1 hn1 (by rw [ML_len]; omega) (blw_trans HB6.out hb1)
          rw [ML_len] at hr
          have HN := hid (And.intro hrow hbel)
          clear hrow hbel hn1 hb1 HE6
          go_wp2_with (at_builtin; first | (rw [← hW1]; refine wpList_append_run rfl (.tmp 48) (.tmp 53) 27 rfl rfl rfl hr ?_) | refine wpList_append_run rfl (.tmp 48) (.tmp 53) 27 rfl rfl rfl hr ?_)
          go_roundw
          case rel => exact ⟨k + 1, g2, cap2, by omega, by go_num, rfl, by rw [ML_succ, HZ.out]; exact HN.out.1, HN.out.2⟩
          case measure => simp [intOf]; omega
      · have hyk : k < y.length := by have := HNN.out; omega
        obtain ⟨bY, oy, ha, hby, hfy⟩ := (HY.out.later HW.out).at_ k hyk
        obtain ⟨q, hq⟩ : ∃ q, q = y.getD k Rs.none := ⟨_, rfl⟩
        rw [← hq] at hfy
        obtain ⟨q0, q1, _⟩ := hfy
        subst ha
        have hq1 : (x.length : Int) ≤ (k : Int) := by omega
        have hq2 : decide ((x.length : Int) ≤ (k : Int)) = true := decide_eq_true hq1
        have hs3 : (k : Int) < (y.length : Int) := by omega
        have HEE := hid (And.intro q0 q1)
        have HZ : Hid (mergeAt x y k = q) := by show _ = _; rw [mergeAt, if_pos (by omega), hq]
        have HC : Hid (∀ W, Calls Try.prog 44 #[.agg #[.int .i64 q.bal, .string q.txt], .agg #[.int .i64 q.bal, .string q.txt]] W fun e w' => e = .returned (.int .i64 (numCmp q.bal q.bal)) ∧ Below W.heap.size W w') := fun W => cmpRsI q q W
        clear hq q0 q1
        go_upto_region 4 with fail
        refine region_class wr (Below.refl _ _) (by kernel_rfl) (by kernel_rfl) ?_
        repeat (first
          | go_big_quiet_skip
          | (go_big_quiet_want; go_big_quiet_op; first | go_big_quiet_on | (apply Exists.intro; refine ⟨fun px => ?_, ?_⟩; (focus (go_at_call 44; refine (HC.out _).mono ?_; rintro e w' ⟨he, hb⟩; exact ⟨he, ⟨w', blw_trans px.ok hb⟩, rfl⟩)); go_big_quiet_on)))
        refine wpQuiet_nil ?_
        intro _ hw'
        obtain ⟨x6, hw''⟩ := hw'
        subst hw''
        have HE6 : Hid (x6.W.cell? ⟨bY, oy + k * 2, none⟩ = some (.int .i64 q.bal) ∧ x6.W.cell? ⟨bY, oy + k * 2 + 1, none⟩ = some (.string q.txt)) := ⟨x6.cell HEE.out.1 hby, x6.cell HEE.out.2 hby⟩
        obtain ⟨W, hWW⟩ : ∃ W, W = x6.W := ⟨_, rfl⟩
        have hx6 := x6.ok
        have bz := x6.size hby
        rw [← hWW] at hx6 bz HE6 ⊢
        clear hNE hWW
        have HB6 := hid (blw_trans HW.out hx6)
        have HR6 := hid (HO.out.later hx6)
        have e0 := HE6.out.1
        have e1 := HE6.out.2
        obtain ⟨W1, hW1⟩ : ∃ W1, W1 = W.alloc (.cells #[.int .i64 q.bal, .string q.txt] 69) := ⟨_, rfl⟩
        have hb1 : Below W.heap.size W W1 := by rw [hW1]; exact blw_alloc (Below.refl _ _) _
        have hn1 : ∀ j u, (RsC q)[j]? = some u → W1.cell? ((⟨W.heap.size, 0, none⟩ : Addr).add j) = some u := by rw [hW1]; exact World.news_of_block (World.alloc_heap_new _ _)
        obtain ⟨g2, cap2, W2, hr, hrow, hbel⟩ := rowc_app (ty := 27) (HR6.out.later hb1) q ⟨W.heap.size, 0, none⟩ 1 hn1 (by rw [ML_len]; omega) (blw_trans HB6.out hb1)
        rw [ML_len] at hr
        have HN := hid (And.intro hrow hbel)
        clear hrow hbel hn1 hb1 HE6
        go_wp2_with (at_builtin; first | (rw [← hW1]; refine wpList_append_run rfl (.tmp 41) (.tmp 46) 27 rfl rfl rfl hr ?_) | refine wpList_append_run rfl (.tmp 41) (.tmp 46) 27 rfl rfl rfl hr ?_)
        go_roundw
        case rel => exact ⟨k + 1, g2, cap2, by omega, by go_num, rfl, by rw [ML_succ, HZ.out]; exact HN.out.1, HN.out.2⟩
        case measure => simp [intOf]; omega
    · obtain rfl : k = n := by omega
      have HN := hid (And.intro HO.out HW.out)
      rw [HML.out] at HN
      go_wp2
      go_ret
      exact ⟨g1, cap1, rfl, HN.out.1, HN.out.2⟩


end Go.Proofs.Ytejhknclhdbgfaa
