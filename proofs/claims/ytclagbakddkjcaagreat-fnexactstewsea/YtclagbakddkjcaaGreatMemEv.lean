/-
  Events: sizes, copies.
-/
import Derived.Test.YtclagbakddkjcaaGreatSeP
namespace Go.Proofs.YtclagbakddkjcaaGreat
open Go.RowKit Go.Deep

set_option maxRecDepth 8000 in
set_option maxHeartbeats 4000000 in
theorem szEv (E : Ev) (left : Int) (w : World) (h0 : 0 ≤ left) (h1 : left ≤ 1048576) (hs : E.sv.nm.size ≤ maxLen ∧ E.nm.size ≤ maxLen) :
    Calls Tryz.prog 5 #[.agg #[.int .i64 E.kind, .string E.sv.nm, .int .i64 E.sv.ver, .bool E.sv.gone, .int .i64 E.sv.image, .int .i64 E.sv.want, .int .i64 E.sv.down, .int .i64 E.sv.over, .int .i64 E.sv.next, .int .i64 E.sv.per, .int .i64 E.sv.least, .int .i64 E.sv.most, .int .i64 E.sv.load, .int .i64 E.sv.cool, .string E.nm, .int .i64 E.num, .bool E.flag], .int .i64 left] w fun e w' => (∃ r : Int, e = .returned (.int .i64 r) ∧ -1 ≤ r ∧ r ≤ left) ∧ Below w.heap.size w w' := by
  have s1 : E.nm.size ≤ maxLen := hs.2
  have HS1 : Hid (E.sv.sized) := hs.1
  unfold maxLen at s1
  obtain ⟨wa, hwa⟩ : ∃ wa, wa = w.alloc (.cells #[.int .i64 E.kind, .string E.sv.nm, .int .i64 E.sv.ver, .bool E.sv.gone, .int .i64 E.sv.image, .int .i64 E.sv.want, .int .i64 E.sv.down, .int .i64 E.sv.over, .int .i64 E.sv.next, .int .i64 E.sv.per, .int .i64 E.sv.least, .int .i64 E.sv.most, .int .i64 E.sv.load, .int .i64 E.sv.cool, .string E.nm, .int .i64 E.num, .bool E.flag] 30) := ⟨_, rfl⟩
  have HB : Hid (Below w.heap.size w wa) := by show Below _ _ _; rw [hwa]; exact blw_alloc (Below.refl _ _) _
  have HX : Hid (LBox wa w.heap.size [.int .i64 E.kind, .string E.sv.nm, .int .i64 E.sv.ver, .bool E.sv.gone, .int .i64 E.sv.image, .int .i64 E.sv.want, .int .i64 E.sv.down, .int .i64 E.sv.over, .int .i64 E.sv.next, .int .i64 E.sv.per, .int .i64 E.sv.least, .int .i64 E.sv.most, .int .i64 E.sv.load, .int .i64 E.sv.cool, .string E.nm, .int .i64 E.num, .bool E.flag]) := by show LBox _ _ _; rw [hwa]; exact LBox.new _ _ _ _ rfl
  go_enter Tryz.func5, Tryz.ntmps5
  go_upto_region 1 with fail
  rw [← hwa]
  clear hwa hs
  have xz := HX.out.lt
  have x1 := HX.out.get 1 _ rfl
  have x2 := HX.out.get 2 _ rfl
  have x3 := HX.out.get 3 _ rfl
  have x4 := HX.out.get 4 _ rfl
  have x5 := HX.out.get 5 _ rfl
  have x6 := HX.out.get 6 _ rfl
  have x7 := HX.out.get 7 _ rfl
  have x8 := HX.out.get 8 _ rfl
  have x9 := HX.out.get 9 _ rfl
  have x10 := HX.out.get 10 _ rfl
  have x11 := HX.out.get 11 _ rfl
  have x12 := HX.out.get 12 _ rfl
  have x13 := HX.out.get 13 _ rfl
  go_wp2_with fail
  refine (szSv E.sv left wa h0 h1 HS1.out).mono ?_
  rintro e wb ⟨⟨r, rfl, hr0, hr1⟩, hb⟩
  have HB2 := hid (blw_trans HB.out hb)
  have HX2 := hid (HX.out.later hb)
  clear hb HX HB xz x1 x2 x3 x4 x5 x6 x7 x8 x9 x10 x11 x12 x13
  have xz := HX2.out.lt
  have x14 := HX2.out.get 14 _ rfl
  by_cases c0 : r < 0
  · go_wp2
    go_ret
    exact ⟨⟨_, rfl, by omega, by omega⟩, HB2.out⟩
  by_cases c1 : r < (E.nm.size : Int)
  all_goals
    go_wp2
    go_ret
    exact ⟨⟨_, rfl, by omega, by omega⟩, HB2.out⟩

theorem rng_app {W : World} {b o : Nat} {xs ys : List Value} (h1 : W.rangeAt b o xs) (h2 : W.rangeAt b (o + xs.length) ys) : W.rangeAt b o (xs ++ ys) := fun j v hv => by
  by_cases hj : j < xs.length
  · exact h1 j v (by rwa [List.getElem?_append_left hj] at hv)
  · have := h2 (j - xs.length) v (by rwa [List.getElem?_append_right (by omega)] at hv)
    rwa [show o + xs.length + (j - xs.length) = o + j by omega] at this
theorem own_scs_other {p q : Nat} {t : TypeId} {n : Nat} (hne : p ≠ q) : ∀ (cs : List Value) (o : Nat) (W : World), OwnBlk W p t n → OwnBlk (W.setCells q o cs) p t n
  | [], _, _, h => h
  | v :: vs, o, W, h => by rw [World.setCells]; exact own_scs_other hne vs (o + 1) _ (h.sc_other (fun e => hne (by omega)) o v)

set_option maxRecDepth 8000 in
set_option maxHeartbeats 8000000 in
theorem toEv (E : Ev) (w : World) :
    Calls Tryz.prog 8 #[.agg #[.int .i64 E.kind, .string E.sv.nm, .int .i64 E.sv.ver, .bool E.sv.gone, .int .i64 E.sv.image, .int .i64 E.sv.want, .int .i64 E.sv.down, .int .i64 E.sv.over, .int .i64 E.sv.next, .int .i64 E.sv.per, .int .i64 E.sv.least, .int .i64 E.sv.most, .int .i64 E.sv.load, .int .i64 E.sv.cool, .string E.nm, .int .i64 E.num, .bool E.flag]] w fun e w' => e = .returned (.agg #[.int .i64 E.kind, .string E.sv.nm, .int .i64 E.sv.ver, .bool E.sv.gone, .int .i64 E.sv.image, .int .i64 E.sv.want, .int .i64 E.sv.down, .int .i64 E.sv.over, .int .i64 E.sv.next, .int .i64 E.sv.per, .int .i64 E.sv.least, .int .i64 E.sv.most, .int .i64 E.sv.load, .int .i64 E.sv.cool, .string E.nm, .int .i64 E.num, .bool E.flag]) ∧ Below w.heap.size w w' := by
  obtain ⟨wa, hwa⟩ : ∃ wa, wa = ((w.alloc (.cells #[.int .i64 E.kind, .string E.sv.nm, .int .i64 E.sv.ver, .bool E.sv.gone, .int .i64 E.sv.image, .int .i64 E.sv.want, .int .i64 E.sv.down, .int .i64 E.sv.over, .int .i64 E.sv.next, .int .i64 E.sv.per, .int .i64 E.sv.least, .int .i64 E.sv.most, .int .i64 E.sv.load, .int .i64 E.sv.cool, .string E.nm, .int .i64 E.num, .bool E.flag] 30)).alloc (.cells #[.int .i64 0, .string { data := #[] }, .int .i64 0, .bool false, .int .i64 0, .int .i64 0, .int .i64 0, .int .i64 0, .int .i64 0, .int .i64 0, .int .i64 0, .int .i64 0, .int .i64 0, .int .i64 0, .string { data := #[] }, .int .i64 0, .bool false] 43)).alloc (.cells #[.int .i64 E.kind, .string { data := #[] }, .int .i64 0, .bool false, .int .i64 0, .int .i64 0, .int .i64 0, .int .i64 0, .int .i64 0, .int .i64 0, .int .i64 0, .int .i64 0, .int .i64 0, .int .i64 0, .string { data := #[] }, .int .i64 0, .bool false] 43) := ⟨_, rfl⟩
  have HB : Hid (Below w.heap.size w wa) := by show Below _ _ _; rw [hwa]; exact blw_alloc (blw_alloc (blw_alloc (Below.refl _ _) _) _) _
  have HX : Hid (LBox wa w.heap.size [.int .i64 E.kind, .string E.sv.nm, .int .i64 E.sv.ver, .bool E.sv.gone, .int .i64 E.sv.image, .int .i64 E.sv.want, .int .i64 E.sv.down, .int .i64 E.sv.over, .int .i64 E.sv.next, .int .i64 E.sv.per, .int .i64 E.sv.least, .int .i64 E.sv.most, .int .i64 E.sv.load, .int .i64 E.sv.cool, .string E.nm, .int .i64 E.num, .bool E.flag]) := by show LBox _ _ _; rw [hwa]; exact ((LBox.new _ _ _ _ rfl).past _).past _
  have HR : Hid (wa.heap[w.heap.size + 1]? = some (.cells #[.int .i64 0, .string { data := #[] }, .int .i64 0, .bool false, .int .i64 0, .int .i64 0, .int .i64 0, .int .i64 0, .int .i64 0, .int .i64 0, .int .i64 0, .int .i64 0, .int .i64 0, .int .i64 0, .string { data := #[] }, .int .i64 0, .bool false] 43 (0, 0))) := by
    show _ = _
    rw [hwa]
    have e : (w.alloc (.cells #[.int .i64 E.kind, .string E.sv.nm, .int .i64 E.sv.ver, .bool E.sv.gone, .int .i64 E.sv.image, .int .i64 E.sv.want, .int .i64 E.sv.down, .int .i64 E.sv.over, .int .i64 E.sv.next, .int .i64 E.sv.per, .int .i64 E.sv.least, .int .i64 E.sv.most, .int .i64 E.sv.load, .int .i64 E.sv.cool, .string E.nm, .int .i64 E.num, .bool E.flag] 30)).heap.size = w.heap.size + 1 := by simp
    rw [← e]
    exact ((blw_alloc (Below.refl _ _) _).block _ (by simp)).trans (heap_alloc_new _ _)
  have HV : Hid (wa.heap[w.heap.size + 2]? = some (.cells #[.int .i64 E.kind, .string { data := #[] }, .int .i64 0, .bool false, .int .i64 0, .int .i64 0, .int .i64 0, .int .i64 0, .int .i64 0, .int .i64 0, .int .i64 0, .int .i64 0, .int .i64 0, .int .i64 0, .string { data := #[] }, .int .i64 0, .bool false] 43 (0, 0))) := by
    show _ = _
    rw [hwa]
    have e : ((w.alloc (.cells #[.int .i64 E.kind, .string E.sv.nm, .int .i64 E.sv.ver, .bool E.sv.gone, .int .i64 E.sv.image, .int .i64 E.sv.want, .int .i64 E.sv.down, .int .i64 E.sv.over, .int .i64 E.sv.next, .int .i64 E.sv.per, .int .i64 E.sv.least, .int .i64 E.sv.most, .int .i64 E.sv.load, .int .i64 E.sv.cool, .string E.nm, .int .i64 E.num, .bool E.flag] 30)).alloc (.cells #[.int .i64 0, .string { data := #[] }, .int .i64 0, .bool false, .int .i64 0, .int .i64 0, .int .i64 0, .int .i64 0, .int .i64 0, .int .i64 0, .int .i64 0, .int .i64 0, .int .i64 0, .int .i64 0, .string { data := #[] }, .int .i64 0, .bool false] 43)).heap.size = w.heap.size + 2 := by simp
    rw [← e]
    exact heap_alloc_new _ _
  go_enter Tryz.func8, Tryz.ntmps8
  go_upto_region 3 with fail
  rw [← hwa]
  clear hwa
  have xz := HX.out.lt
  have x1 := HX.out.get 1 _ rfl
  have x2 := HX.out.get 2 _ rfl
  have x3 := HX.out.get 3 _ rfl
  have x4 := HX.out.get 4 _ rfl
  have x5 := HX.out.get 5 _ rfl
  have x6 := HX.out.get 6 _ rfl
  have x7 := HX.out.get 7 _ rfl
  have x8 := HX.out.get 8 _ rfl
  have x9 := HX.out.get 9 _ rfl
  have x10 := HX.out.get 10 _ rfl
  have x11 := HX.out.get 11 _ rfl
  have x12 := HX.out.get 12 _ rfl
  have x13 := HX.out.get 13 _ rfl
  go_wp2_with fail
  refine (toSv E.sv wa).mono ?_
  rintro e wb ⟨rfl, hb⟩
  have HB2 := hid (blw_trans HB.out hb)
  have HX2 := hid (HX.out.later hb)
  have HR2 : Hid (wb.heap[w.heap.size + 1]? = some (.cells #[.int .i64 0, .string { data := #[] }, .int .i64 0, .bool false, .int .i64 0, .int .i64 0, .int .i64 0, .int .i64 0, .int .i64 0, .int .i64 0, .int .i64 0, .int .i64 0, .int .i64 0, .int .i64 0, .string { data := #[] }, .int .i64 0, .bool false] 43 (0, 0))) := (hb.block _ (lt_heap HR.out)).trans HR.out
  have HV2 : Hid (wb.heap[w.heap.size + 2]? = some (.cells #[.int .i64 E.kind, .string { data := #[] }, .int .i64 0, .bool false, .int .i64 0, .int .i64 0, .int .i64 0, .int .i64 0, .int .i64 0, .int .i64 0, .int .i64 0, .int .i64 0, .int .i64 0, .int .i64 0, .string { data := #[] }, .int .i64 0, .bool false] 43 (0, 0))) := (hb.block _ (lt_heap HV.out)).trans HV.out
  clear hb HX HB HR HV xz x1 x2 x3 x4 x5 x6 x7 x8 x9 x10 x11 x12 x13
  have own : OwnBlk wb (w.heap.size + 2) 43 17 := ⟨_, HV2.out, rfl⟩
  have HRO : Hid (OwnBlk wb (w.heap.size + 1) 43 17) := ⟨_, HR2.out, rfl⟩
  have hth : wb.there (w.heap.size + 2) 1 13 := fun j hj => by
    have := RY.own_there own (1 + j) (by omega)
    simpa using this
  have hr0 : wb.rangeAt (w.heap.size + 2) 0 [.int .i64 E.kind] := fun j v hv => by
    match j, hv with
    | 0, hv => have h := HV2.out; simp only [World.cell?, h]; simpa using hv
  obtain ⟨wc, hwc⟩ : ∃ wc, wc = wb.setCells (w.heap.size + 2) 1 [.string E.sv.nm, .int .i64 E.sv.ver, .bool E.sv.gone, .int .i64 E.sv.image, .int .i64 E.sv.want, .int .i64 E.sv.down, .int .i64 E.sv.over, .int .i64 E.sv.next, .int .i64 E.sv.per, .int .i64 E.sv.least, .int .i64 E.sv.most, .int .i64 E.sv.load, .int .i64 E.sv.cool] := ⟨_, rfl⟩
  have HB3 : Hid (Below w.heap.size w wc) := by show Below _ _ _; rw [hwc]; exact RY.below_setCells (by omega) _ 1 wb HB2.out
  have own3 : OwnBlk wc (w.heap.size + 2) 43 17 := by rw [hwc]; exact RY.own_setCells _ 1 wb own
  have HRO3 : Hid (OwnBlk wc (w.heap.size + 1) 43 17) := by show OwnBlk _ _ _ _; rw [hwc]; exact own_scs_other (by omega) _ _ _ HRO.out
  have r0 : wc.rangeAt (w.heap.size + 2) 0 [.int .i64 E.kind] := by rw [hwc]; exact World.rangeAt_setCells_apart hr0 _ _ _ (Or.inr (Or.inl (by simp)))
  have r1 : wc.rangeAt (w.heap.size + 2) 1 [.string E.sv.nm, .int .i64 E.sv.ver, .bool E.sv.gone, .int .i64 E.sv.image, .int .i64 E.sv.want, .int .i64 E.sv.down, .int .i64 E.sv.over, .int .i64 E.sv.next, .int .i64 E.sv.per, .int .i64 E.sv.least, .int .i64 E.sv.most, .int .i64 E.sv.load, .int .i64 E.sv.cool] := by rw [hwc]; exact World.rangeAt_setCells_same _ _ _ _ hth
  have x2r : wc.rangeAt w.heap.size 0 [.int .i64 E.kind, .string E.sv.nm, .int .i64 E.sv.ver, .bool E.sv.gone, .int .i64 E.sv.image, .int .i64 E.sv.want, .int .i64 E.sv.down, .int .i64 E.sv.over, .int .i64 E.sv.next, .int .i64 E.sv.per, .int .i64 E.sv.least, .int .i64 E.sv.most, .int .i64 E.sv.load, .int .i64 E.sv.cool, .string E.nm, .int .i64 E.num, .bool E.flag] := by rw [hwc]; exact World.rangeAt_setCells_apart HX2.out.at_ _ _ _ (Or.inl (by omega))
  have xz : w.heap.size < wc.heap.size := by have := own3.lt; omega
  go_upto_region 4 with (refine wpList_store_mid rfl 41 _ _ rfl (w.heap.size + 2) 1 #[.string E.sv.nm, .int .i64 E.sv.ver, .bool E.sv.gone, .int .i64 E.sv.image, .int .i64 E.sv.want, .int .i64 E.sv.down, .int .i64 E.sv.over, .int .i64 E.sv.next, .int .i64 E.sv.per, .int .i64 E.sv.least, .int .i64 E.sv.most, .int .i64 E.sv.load, .int .i64 E.sv.cool] rfl rfl hth (by kernel_rfl) (by simp [Value.oneCell']) ?_)
  rw [← hwc]
  clear hwc hth hr0 own HRO
  have x14 : wc.cell? ⟨w.heap.size, 14, none⟩ = some (.string E.nm) := x2r 14 _ rfl
  have x15 : wc.cell? ⟨w.heap.size, 15, none⟩ = some (.int .i64 E.num) := x2r 15 _ rfl
  have x16 : wc.cell? ⟨w.heap.size, 16, none⟩ = some (.bool E.flag) := x2r 16 _ rfl
  obtain ⟨u14, c14⟩ := own3.cell 14 (by omega)
  obtain ⟨u15, c15⟩ := own3.cell 15 (by omega)
  obtain ⟨u16, c16⟩ := own3.cell 16 (by omega)
  have vz := own3.lt
  have vf := own3.frozen
  obtain ⟨wd, hwd⟩ : ∃ wd, wd = ((wc.setCell ⟨w.heap.size + 2, 14, none⟩ (.string E.nm)).setCell ⟨w.heap.size + 2, 15, none⟩ (.int .i64 E.num)).setCell ⟨w.heap.size + 2, 16, none⟩ (.bool E.flag) := ⟨_, rfl⟩
  have hwd' : wd = ((wc.setCells (w.heap.size + 2) 14 [.string E.nm]).setCells (w.heap.size + 2) 15 [.int .i64 E.num]).setCells (w.heap.size + 2) 16 [.bool E.flag] := hwd
  have th : ∀ k, k < 17 → wc.there (w.heap.size + 2) k 1 := fun k hk j hj => by
    have := RY.own_there own3 (k + j) (by omega)
    simpa using this
  have HRD : Hid (wd.rangeAt (w.heap.size + 2) 0 [.int .i64 E.kind, .string E.sv.nm, .int .i64 E.sv.ver, .bool E.sv.gone, .int .i64 E.sv.image, .int .i64 E.sv.want, .int .i64 E.sv.down, .int .i64 E.sv.over, .int .i64 E.sv.next, .int .i64 E.sv.per, .int .i64 E.sv.least, .int .i64 E.sv.most, .int .i64 E.sv.load, .int .i64 E.sv.cool, .string E.nm, .int .i64 E.num, .bool E.flag]) := by
    show World.rangeAt _ _ _ _
    have s0 : wd.rangeAt (w.heap.size + 2) 0 [.int .i64 E.kind] := by
      rw [hwd']
      exact World.rangeAt_setCells_apart (World.rangeAt_setCells_apart (World.rangeAt_setCells_apart r0 _ _ _ (Or.inr (Or.inl (by simp)))) _ _ _ (Or.inr (Or.inl (by simp)))) _ _ _ (Or.inr (Or.inl (by simp)))
    have s1 : wd.rangeAt (w.heap.size + 2) 1 [.string E.sv.nm, .int .i64 E.sv.ver, .bool E.sv.gone, .int .i64 E.sv.image, .int .i64 E.sv.want, .int .i64 E.sv.down, .int .i64 E.sv.over, .int .i64 E.sv.next, .int .i64 E.sv.per, .int .i64 E.sv.least, .int .i64 E.sv.most, .int .i64 E.sv.load, .int .i64 E.sv.cool] := by
      rw [hwd']
      exact World.rangeAt_setCells_apart (World.rangeAt_setCells_apart (World.rangeAt_setCells_apart r1 _ _ _ (Or.inr (Or.inl (by simp)))) _ _ _ (Or.inr (Or.inl (by simp)))) _ _ _ (Or.inr (Or.inl (by simp)))
    have s2 : wd.rangeAt (w.heap.size + 2) 14 [.string E.nm] := by
      rw [hwd']
      exact World.rangeAt_setCells_apart (World.rangeAt_setCells_apart (World.rangeAt_setCells_same _ _ _ _ (th 14 (by omega))) _ _ _ (Or.inr (Or.inl (by simp)))) _ _ _ (Or.inr (Or.inl (by simp)))
    have s3 : wd.rangeAt (w.heap.size + 2) 15 [.int .i64 E.num] := by
      rw [hwd']
      exact World.rangeAt_setCells_apart (World.rangeAt_setCells_same _ _ _ _ (World.there_setCells (th 15 (by omega)) _ _ _)) _ _ _ (Or.inr (Or.inl (by simp)))
    have s4 : wd.rangeAt (w.heap.size + 2) 16 [.bool E.flag] := by
      rw [hwd']
      exact World.rangeAt_setCells_same _ _ _ _ (World.there_setCells (World.there_setCells (th 16 (by omega)) _ _ _) _ _ _)
    exact rng_app s0 (rng_app s1 (rng_app s2 (rng_app s3 s4)))
  have HB4 : Hid (Below w.heap.size w wd) := by show Below _ _ _; rw [hwd]; exact ((HB3.out.setCell (p := ⟨w.heap.size + 2, 14, none⟩) (by simp) _).setCell (p := ⟨w.heap.size + 2, 15, none⟩) (by simp) _).setCell (p := ⟨w.heap.size + 2, 16, none⟩) (by simp) _
  have HRO4 : Hid (OwnBlk wd (w.heap.size + 1) 43 17) := by show OwnBlk _ _ _ _; rw [hwd']; exact own_scs_other (by omega) _ _ _ (own_scs_other (by omega) _ _ _ (own_scs_other (by omega) _ _ _ HRO3.out))
  clear r0 r1 x2r hwd'
  go_upto_region 7 with fail
  rw [← hwd]
  clear hwd x14 x15 x16 c14 c15 c16 vz vf xz th own3 HRO3 HB3
  have hth := RY.own_there HRO4.out
  refine wp_region_lit ?_
  refine wpList_load_mid rfl 43 _ rfl (w.heap.size + 2) 0 rfl [.int .i64 E.kind, .string E.sv.nm, .int .i64 E.sv.ver, .bool E.sv.gone, .int .i64 E.sv.image, .int .i64 E.sv.want, .int .i64 E.sv.down, .int .i64 E.sv.over, .int .i64 E.sv.next, .int .i64 E.sv.per, .int .i64 E.sv.least, .int .i64 E.sv.most, .int .i64 E.sv.load, .int .i64 E.sv.cool, .string E.nm, .int .i64 E.num, .bool E.flag] _ HRD.out Tryz.underlying43 rfl (by kernel_rfl) ?_
  refine wpList_store_mid rfl 43 _ _ rfl (w.heap.size + 1) 0 #[.int .i64 E.kind, .string E.sv.nm, .int .i64 E.sv.ver, .bool E.sv.gone, .int .i64 E.sv.image, .int .i64 E.sv.want, .int .i64 E.sv.down, .int .i64 E.sv.over, .int .i64 E.sv.next, .int .i64 E.sv.per, .int .i64 E.sv.least, .int .i64 E.sv.most, .int .i64 E.sv.load, .int .i64 E.sv.cool, .string E.nm, .int .i64 E.num, .bool E.flag] rfl rfl hth (by kernel_rfl) (by simp [Value.oneCell']) ?_
  have hrt : World.rangeAt (wd.setCells (w.heap.size + 1) 0 [.int .i64 E.kind, .string E.sv.nm, .int .i64 E.sv.ver, .bool E.sv.gone, .int .i64 E.sv.image, .int .i64 E.sv.want, .int .i64 E.sv.down, .int .i64 E.sv.over, .int .i64 E.sv.next, .int .i64 E.sv.per, .int .i64 E.sv.least, .int .i64 E.sv.most, .int .i64 E.sv.load, .int .i64 E.sv.cool, .string E.nm, .int .i64 E.num, .bool E.flag]) (w.heap.size + 1) 0 [.int .i64 E.kind, .string E.sv.nm, .int .i64 E.sv.ver, .bool E.sv.gone, .int .i64 E.sv.image, .int .i64 E.sv.want, .int .i64 E.sv.down, .int .i64 E.sv.over, .int .i64 E.sv.next, .int .i64 E.sv.per, .int .i64 E.sv.least, .int .i64 E.sv.most, .int .i64 E.sv.load, .int .i64 E.sv.cool, .string E.nm, .int .i64 E.num, .bool E.flag] := World.rangeAt_setCells_same _ _ _ _ hth
  have HB5 : Hid (Below w.heap.size w (wd.setCells (w.heap.size + 1) 0 [.int .i64 E.kind, .string E.sv.nm, .int .i64 E.sv.ver, .bool E.sv.gone, .int .i64 E.sv.image, .int .i64 E.sv.want, .int .i64 E.sv.down, .int .i64 E.sv.over, .int .i64 E.sv.next, .int .i64 E.sv.per, .int .i64 E.sv.least, .int .i64 E.sv.most, .int .i64 E.sv.load, .int .i64 E.sv.cool, .string E.nm, .int .i64 E.num, .bool E.flag])) := RY.below_setCells (by omega) _ 0 wd HB4.out
  simp only [Act.put, List.setIfInBounds_toArray, List.set_cons_zero, List.set_cons_succ]
  obtain ⟨we, hwe⟩ : ∃ we, we = wd.setCells (w.heap.size + 1) 0 [.int .i64 E.kind, .string E.sv.nm, .int .i64 E.sv.ver, .bool E.sv.gone, .int .i64 E.sv.image, .int .i64 E.sv.want, .int .i64 E.sv.down, .int .i64 E.sv.over, .int .i64 E.sv.next, .int .i64 E.sv.per, .int .i64 E.sv.least, .int .i64 E.sv.most, .int .i64 E.sv.load, .int .i64 E.sv.cool, .string E.nm, .int .i64 E.num, .bool E.flag] := ⟨_, rfl⟩
  rw [← hwe] at hrt HB5 ⊢
  clear hwe hth
  go_wp2
  refine bodyPost_ret (v := .agg #[.int .i64 E.kind, .string E.sv.nm, .int .i64 E.sv.ver, .bool E.sv.gone, .int .i64 E.sv.image, .int .i64 E.sv.want, .int .i64 E.sv.down, .int .i64 E.sv.over, .int .i64 E.sv.next, .int .i64 E.sv.per, .int .i64 E.sv.least, .int .i64 E.sv.most, .int .i64 E.sv.load, .int .i64 E.sv.cool, .string E.nm, .int .i64 E.num, .bool E.flag]) (by simp [results, Tryz.results8, asAddr, run_loadVar_mid (P := Tryz.prog) _ _ _ 43 [.int .i64 E.kind, .string E.sv.nm, .int .i64 E.sv.ver, .bool E.sv.gone, .int .i64 E.sv.image, .int .i64 E.sv.want, .int .i64 E.sv.down, .int .i64 E.sv.over, .int .i64 E.sv.next, .int .i64 E.sv.per, .int .i64 E.sv.least, .int .i64 E.sv.most, .int .i64 E.sv.load, .int .i64 E.sv.cool, .string E.nm, .int .i64 E.num, .bool E.flag] _ hrt Tryz.underlying43 rfl (by kernel_rfl)]) rfl ⟨rfl, HB5.out⟩

end Go.Proofs.YtclagbakddkjcaaGreat
