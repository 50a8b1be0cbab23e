/-
  Stewards: the five that count, by the program.
-/
import Derived.Laws.EntriesVeiled
import Derived.Test.YtamhfnlogldpaaaPdA
namespace Go.Proofs.Ytamhfnlogldpaaa
open Go.RowKit Go.Deep

/-- The boxes that the five read. -/
structure RkB (K : SBk) (a0 a1 a2 : Option Addr) (c0 c1 c2 : Nat) (s : Sv) (n : Cn) (al : Option Addr) (cl : Nat) (L : List Cp) (lv : Int) (pv ps pc pm : Nat) (W : World) : Prop where
  v : LBox W pv [.int .i64 K.now, .slice a0 K.svcs.length c0, .slice a1 K.cps.length c1, .slice a2 K.bts.length c2, .string s.nm, .int .i64 s.ver, .bool s.gone, .int .i64 s.image, .int .i64 s.want, .int .i64 s.down, .int .i64 s.over, .int .i64 s.next, .int .i64 s.per, .int .i64 s.least, .int .i64 s.most, .int .i64 s.load, .int .i64 s.cool, .int .i64 n.live, .int .i64 n.ready, .int .i64 n.old, .int .i64 n.failed, .int .i64 n.ending, .slice al L.length cl, .int .i64 lv]
  s : LBox W ps [.string s.nm, .int .i64 s.ver, .bool s.gone, .int .i64 s.image, .int .i64 s.want, .int .i64 s.down, .int .i64 s.over, .int .i64 s.next, .int .i64 s.per, .int .i64 s.least, .int .i64 s.most, .int .i64 s.load, .int .i64 s.cool]
  c : LBox W pc [.int .i64 n.live, .int .i64 n.ready, .int .i64 n.old, .int .i64 n.failed, .int .i64 n.ending]
  m : LBox W pm [.func (.func 72) #[] #[.pointer (some ⟨pv, 0, none⟩)]]
theorem RkB.later {K : SBk} {a0 a1 a2 : Option Addr} {c0 c1 c2 : Nat} {s : Sv} {n : Cn} {al : Option Addr} {cl : Nat} {L : List Cp} {lv : Int} {pv ps pc pm : Nat} {W W' : World} (h : RkB K a0 a1 a2 c0 c1 c2 s n al cl L lv pv ps pc pm W) (hb : Below W.heap.size W W') : RkB K a0 a1 a2 c0 c1 c2 s n al cl L lv pv ps pc pm W' :=
  ⟨h.v.later hb, h.s.later hb, h.c.later hb, h.m.later hb⟩

theorem LBox.sc {W : World} {p q : Nat} {cs : List Value} (h : LBox W p cs) (hne : p ≠ q) (o : Nat) (v : Value) : LBox (W.setCell ⟨q, o, none⟩ v) p cs :=
  ⟨by simpa [World.setCell] using h.lt, fun j u hu => (sc_ne W q o v p _ (Or.inl hne)).trans (h.at_ j u hu)⟩
theorem LBox.sets {p q : Nat} {cs : List Value} (hne : p ≠ q) : ∀ (vs : List Value) (W : World) (o : Nat), LBox W p cs → LBox (W.setCells q o vs) p cs
  | [], _, _, h => h
  | v :: vs, W, o, h => by rw [World.setCells]; exact LBox.sets hne vs _ _ (h.sc hne o v)
theorem RkB.sets {K : SBk} {a0 a1 a2 : Option Addr} {c0 c1 c2 : Nat} {s : Sv} {n : Cn} {al : Option Addr} {cl : Nat} {L : List Cp} {lv : Int} {pv ps pc pm q o : Nat} {W : World} (h : RkB K a0 a1 a2 c0 c1 c2 s n al cl L lv pv ps pc pm W) (n1 : pv ≠ q) (n2 : ps ≠ q) (n3 : pc ≠ q) (n4 : pm ≠ q) (vs : List Value) : RkB K a0 a1 a2 c0 c1 c2 s n al cl L lv pv ps pc pm (W.setCells q o vs) :=
  ⟨LBox.sets n1 vs _ _ h.v, LBox.sets n2 vs _ _ h.s, LBox.sets n3 vs _ _ h.c, LBox.sets n4 vs _ _ h.m⟩
theorem RkB.sc {K : SBk} {a0 a1 a2 : Option Addr} {c0 c1 c2 : Nat} {s : Sv} {n : Cn} {al : Option Addr} {cl : Nat} {L : List Cp} {lv : Int} {pv ps pc pm q : Nat} {W : World} (h : RkB K a0 a1 a2 c0 c1 c2 s n al cl L lv pv ps pc pm W) (n1 : pv ≠ q) (n2 : ps ≠ q) (n3 : pc ≠ q) (n4 : pm ≠ q) (o : Nat) (v : Value) : RkB K a0 a1 a2 c0 c1 c2 s n al cl L lv pv ps pc pm (W.setCell ⟨q, o, none⟩ v) :=
  ⟨h.v.sc n1 o v, h.s.sc n2 o v, h.c.sc n3 o v, h.m.sc n4 o v⟩

set_option maxRecDepth 8000 in
set_option maxHeartbeats 16000000 in
theorem rankersI (K : SBk) (a0 a1 a2 : Option Addr) (c0 c1 c2 : Nat) (s : Sv) (n : Cn) (al : Option Addr) (cl : Nat) (L : List Cp) (lv : Int) (w : World) :
    Calls Try.prog 51 #[.agg #[.int .i64 K.now, .slice a0 K.svcs.length c0, .slice a1 K.cps.length c1, .slice a2 K.bts.length c2, .string s.nm, .int .i64 s.ver, .bool s.gone, .int .i64 s.image, .int .i64 s.want, .int .i64 s.down, .int .i64 s.over, .int .i64 s.next, .int .i64 s.per, .int .i64 s.least, .int .i64 s.most, .int .i64 s.load, .int .i64 s.cool, .int .i64 n.live, .int .i64 n.ready, .int .i64 n.old, .int .i64 n.failed, .int .i64 n.ending, .slice al L.length cl, .int .i64 lv]] w fun e w' => (∃ pv ps pc pm, e = .returned (.agg #[.func (.func 75) #[] #[.pointer (some ⟨ps, 0, none⟩)], .func (.func 76) #[] #[.pointer (some ⟨ps, 0, none⟩), .pointer (some ⟨pc, 0, none⟩)], .func (.func 77) #[] #[.pointer (some ⟨ps, 0, none⟩), .pointer (some ⟨pc, 0, none⟩)], .func (.func 78) #[] #[.pointer (some ⟨pv, 0, none⟩), .pointer (some ⟨pm, 0, none⟩)], .func (.func 80) #[] #[.pointer (some ⟨pc, 0, none⟩)]]) ∧ RkB K a0 a1 a2 c0 c1 c2 s n al cl L lv pv ps pc pm w' ∧ w.heap.size ≤ pv ∧ w.heap.size ≤ ps ∧ w.heap.size ≤ pc ∧ w.heap.size ≤ pm) ∧ Below w.heap.size w w' := by
  obtain ⟨wz, hwz⟩ : ∃ wz, wz = w.alloc (.cells #[.int .i64 K.now, .slice a0 K.svcs.length c0, .slice a1 K.cps.length c1, .slice a2 K.bts.length c2, .string s.nm, .int .i64 s.ver, .bool s.gone, .int .i64 s.image, .int .i64 s.want, .int .i64 s.down, .int .i64 s.over, .int .i64 s.next, .int .i64 s.per, .int .i64 s.least, .int .i64 s.most, .int .i64 s.load, .int .i64 s.cool, .int .i64 n.live, .int .i64 n.ready, .int .i64 n.old, .int .i64 n.failed, .int .i64 n.ending, .slice al L.length cl, .int .i64 lv] 88) := ⟨_, rfl⟩
  have hz : wz.heap.size = w.heap.size + 1 := by rw [hwz]; exact Array.size_push _
  have hxz : LBox wz w.heap.size [.int .i64 K.now, .slice a0 K.svcs.length c0, .slice a1 K.cps.length c1, .slice a2 K.bts.length c2, .string s.nm, .int .i64 s.ver, .bool s.gone, .int .i64 s.image, .int .i64 s.want, .int .i64 s.down, .int .i64 s.over, .int .i64 s.next, .int .i64 s.per, .int .i64 s.least, .int .i64 s.most, .int .i64 s.load, .int .i64 s.cool, .int .i64 n.live, .int .i64 n.ready, .int .i64 n.old, .int .i64 n.failed, .int .i64 n.ending, .slice al L.length cl, .int .i64 lv] := by rw [hwz]; exact LBox.new w _ _ _ rfl
  have hbz : Below w.heap.size w wz := by rw [hwz]; exact blw_alloc (Below.refl _ _) _
  obtain ⟨wa, hwa⟩ : ∃ wa, wa = wz.alloc (.cells #[.nilFunc, .nilFunc, .nilFunc, .nilFunc, .nilFunc] 85) := ⟨_, rfl⟩
  have HB : Hid (Below w.heap.size w wa) := by show Below _ _ _; rw [hwa]; exact blw_alloc hbz _
  have HX : Hid (LBox wa w.heap.size [.int .i64 K.now, .slice a0 K.svcs.length c0, .slice a1 K.cps.length c1, .slice a2 K.bts.length c2, .string s.nm, .int .i64 s.ver, .bool s.gone, .int .i64 s.image, .int .i64 s.want, .int .i64 s.down, .int .i64 s.over, .int .i64 s.next, .int .i64 s.per, .int .i64 s.least, .int .i64 s.most, .int .i64 s.load, .int .i64 s.cool, .int .i64 n.live, .int .i64 n.ready, .int .i64 n.old, .int .i64 n.failed, .int .i64 n.ending, .slice al L.length cl, .int .i64 lv]) := by show LBox _ _ _; rw [hwa]; exact hxz.past _
  have HO : Hid (OwnBlk wa (w.heap.size + 1) 85 5) := by show OwnBlk _ _ _ _; rw [hwa, ← hz]; exact OwnBlk.alloc wz _ _ _ rfl
  have hsz : wa.heap.size = w.heap.size + 2 := by rw [hwa]; exact (Array.size_push _).trans (by rw [hz])
  clear hxz hbz
  go_enter Try.func51, Try.ntmps51
  go_upto_region 1 with fail
  rw [← hwz, ← hwa]
  clear hwa hwz hz
  obtain ⟨q, hq⟩ : ∃ q, q = wa.heap.size := ⟨_, rfl⟩
  have yz := HX.out.lt
  have y4 := HX.out.get 4 _ rfl
  have y5 := HX.out.get 5 _ rfl
  have y6 := HX.out.get 6 _ rfl
  have y7 := HX.out.get 7 _ rfl
  have y8 := HX.out.get 8 _ rfl
  have y9 := HX.out.get 9 _ rfl
  have y10 := HX.out.get 10 _ rfl
  have y11 := HX.out.get 11 _ rfl
  have y12 := HX.out.get 12 _ rfl
  have y13 := HX.out.get 13 _ rfl
  have y14 := HX.out.get 14 _ rfl
  have y15 := HX.out.get 15 _ rfl
  have y16 := HX.out.get 16 _ rfl
  have y17 := HX.out.get 17 _ rfl
  have y18 := HX.out.get 18 _ rfl
  have y19 := HX.out.get 19 _ rfl
  have y20 := HX.out.get 20 _ rfl
  have y21 := HX.out.get 21 _ rfl
  clear hq
  go_region
  · obtain ⟨wb, hwb⟩ : ∃ wb, wb = ((wa.alloc (.cells #[.string s.nm, .int .i64 s.ver, .bool s.gone, .int .i64 s.image, .int .i64 s.want, .int .i64 s.down, .int .i64 s.over, .int .i64 s.next, .int .i64 s.per, .int .i64 s.least, .int .i64 s.most, .int .i64 s.load, .int .i64 s.cool] 46)).alloc (.cells #[.int .i64 n.live, .int .i64 n.ready, .int .i64 n.old, .int .i64 n.failed, .int .i64 n.ending] 59)).drew := ⟨_, rfl⟩
    have h1 : (wa.alloc (.cells #[.string s.nm, .int .i64 s.ver, .bool s.gone, .int .i64 s.image, .int .i64 s.want, .int .i64 s.down, .int .i64 s.over, .int .i64 s.next, .int .i64 s.per, .int .i64 s.least, .int .i64 s.most, .int .i64 s.load, .int .i64 s.cool] 46)).heap.size = w.heap.size + 2 + 1 := (Array.size_push _).trans (by rw [hsz])
    have h2 : wb.heap.size = w.heap.size + 4 := by rw [hwb]; exact (Array.size_push _).trans (by rw [h1])
    have HSb : Hid (LBox wb (w.heap.size + 2) [.string s.nm, .int .i64 s.ver, .bool s.gone, .int .i64 s.image, .int .i64 s.want, .int .i64 s.down, .int .i64 s.over, .int .i64 s.next, .int .i64 s.per, .int .i64 s.least, .int .i64 s.most, .int .i64 s.load, .int .i64 s.cool]) := by show LBox _ _ _; rw [hwb]; exact ((LBox.new wa _ _ _ hsz.symm).past _).later (Below.drew (Below.refl _ _))
    have HCb : Hid (LBox wb (w.heap.size + 2 + 1) [.int .i64 n.live, .int .i64 n.ready, .int .i64 n.old, .int .i64 n.failed, .int .i64 n.ending]) := by show LBox _ _ _; rw [hwb]; exact (LBox.new (wa.alloc _) _ _ _ (by rw [h1])).later (Below.drew (Below.refl _ _))
    have hbb : Below wa.heap.size wa wb := by rw [hwb]; exact Below.drew (blw_alloc (blw_alloc (Below.refl _ _) _) _)
    rw [← hwb]
    have H2 := hid h2
    clear hwb h1 h2 yz y4 y5 y6 y7 y8 y9 y10 y11 y12 y13 y14 y15 y16 y17 y18 y19 y20 y21
    obtain ⟨wm, hwm⟩ : ∃ wm, wm = wb.alloc (.cells #[.func (.func 72) #[] #[.pointer (some ⟨w.heap.size, 0, none⟩)]] 107) := ⟨_, rfl⟩
    have hbm : Below wb.heap.size wb wm := by rw [hwm]; exact blw_alloc (Below.refl _ _) _
    have hwa := blw_trans hbb hbm
    have HV : Hid (RkB K a0 a1 a2 c0 c1 c2 s n al cl L lv w.heap.size (w.heap.size + 2) (w.heap.size + 2 + 1) wb.heap.size wm) := ⟨HX.out.later hwa, HSb.out.later hbm, HCb.out.later hbm, by rw [hwm]; exact LBox.new wb _ _ _ rfl⟩
    have HOm := hid (HO.out.later hwa)
    have HBm := hid (blw_trans HB.out hwa)
    go_upto_region 3 with fail
    rw [← hwm]
    clear hwm hbm hwa hbb HSb HCb
    have hth := RY.own_there HOm.out
    have hrt : World.rangeAt (wm.setCells (w.heap.size + 1) 0 [.func (.func 75) #[] #[.pointer (some ⟨w.heap.size + 2, 0, none⟩)], .func (.func 76) #[] #[.pointer (some ⟨w.heap.size + 2, 0, none⟩), .pointer (some ⟨w.heap.size + 2 + 1, 0, none⟩)], .func (.func 77) #[] #[.pointer (some ⟨w.heap.size + 2, 0, none⟩), .pointer (some ⟨w.heap.size + 2 + 1, 0, none⟩)], .func (.func 78) #[] #[.pointer (some ⟨w.heap.size, 0, none⟩), .pointer (some ⟨wb.heap.size, 0, none⟩)], .func (.func 80) #[] #[.pointer (some ⟨w.heap.size + 2 + 1, 0, none⟩)]]) (w.heap.size + 1) 0 [.func (.func 75) #[] #[.pointer (some ⟨w.heap.size + 2, 0, none⟩)], .func (.func 76) #[] #[.pointer (some ⟨w.heap.size + 2, 0, none⟩), .pointer (some ⟨w.heap.size + 2 + 1, 0, none⟩)], .func (.func 77) #[] #[.pointer (some ⟨w.heap.size + 2, 0, none⟩), .pointer (some ⟨w.heap.size + 2 + 1, 0, none⟩)], .func (.func 78) #[] #[.pointer (some ⟨w.heap.size, 0, none⟩), .pointer (some ⟨wb.heap.size, 0, none⟩)], .func (.func 80) #[] #[.pointer (some ⟨w.heap.size + 2 + 1, 0, none⟩)]] := World.rangeAt_setCells_same _ _ _ _ hth
    have hu : Try.prog.underlying 85 = some (.array 5 84) := by kernel_rfl
    have HF : Hid (RkB K a0 a1 a2 c0 c1 c2 s n al cl L lv w.heap.size (w.heap.size + 2) (w.heap.size + 2 + 1) wb.heap.size (wm.setCells (w.heap.size + 1) 0 [.func (.func 75) #[] #[.pointer (some ⟨w.heap.size + 2, 0, none⟩)], .func (.func 76) #[] #[.pointer (some ⟨w.heap.size + 2, 0, none⟩), .pointer (some ⟨w.heap.size + 2 + 1, 0, none⟩)], .func (.func 77) #[] #[.pointer (some ⟨w.heap.size + 2, 0, none⟩), .pointer (some ⟨w.heap.size + 2 + 1, 0, none⟩)], .func (.func 78) #[] #[.pointer (some ⟨w.heap.size, 0, none⟩), .pointer (some ⟨wb.heap.size, 0, none⟩)], .func (.func 80) #[] #[.pointer (some ⟨w.heap.size + 2 + 1, 0, none⟩)]]) ∧ Below w.heap.size w (wm.setCells (w.heap.size + 1) 0 [.func (.func 75) #[] #[.pointer (some ⟨w.heap.size + 2, 0, none⟩)], .func (.func 76) #[] #[.pointer (some ⟨w.heap.size + 2, 0, none⟩), .pointer (some ⟨w.heap.size + 2 + 1, 0, none⟩)], .func (.func 77) #[] #[.pointer (some ⟨w.heap.size + 2, 0, none⟩), .pointer (some ⟨w.heap.size + 2 + 1, 0, none⟩)], .func (.func 78) #[] #[.pointer (some ⟨w.heap.size, 0, none⟩), .pointer (some ⟨wb.heap.size, 0, none⟩)], .func (.func 80) #[] #[.pointer (some ⟨w.heap.size + 2 + 1, 0, none⟩)]])) := by
      have h2 := H2.out
      exact ⟨HV.out.sets (by omega) (by omega) (by omega) (by omega) _, setCells_below HBm.out (by omega) _ _⟩
    go_wp2_with (refine wpList_store_mid rfl 85 _ _ rfl (w.heap.size + 1) 0 #[.func (.func 75) #[] #[.pointer (some ⟨w.heap.size + 2, 0, none⟩)], .func (.func 76) #[] #[.pointer (some ⟨w.heap.size + 2, 0, none⟩), .pointer (some ⟨w.heap.size + 2 + 1, 0, none⟩)], .func (.func 77) #[] #[.pointer (some ⟨w.heap.size + 2, 0, none⟩), .pointer (some ⟨w.heap.size + 2 + 1, 0, none⟩)], .func (.func 78) #[] #[.pointer (some ⟨w.heap.size, 0, none⟩), .pointer (some ⟨wb.heap.size, 0, none⟩)], .func (.func 80) #[] #[.pointer (some ⟨w.heap.size + 2 + 1, 0, none⟩)]] rfl rfl hth (by kernel_rfl) (by simp [Value.oneCell']) ?_)
    simp only [Act.put]
    refine bodyPost_ret (v := .agg #[.func (.func 75) #[] #[.pointer (some ⟨w.heap.size + 2, 0, none⟩)], .func (.func 76) #[] #[.pointer (some ⟨w.heap.size + 2, 0, none⟩), .pointer (some ⟨w.heap.size + 2 + 1, 0, none⟩)], .func (.func 77) #[] #[.pointer (some ⟨w.heap.size + 2, 0, none⟩), .pointer (some ⟨w.heap.size + 2 + 1, 0, none⟩)], .func (.func 78) #[] #[.pointer (some ⟨w.heap.size, 0, none⟩), .pointer (some ⟨wb.heap.size, 0, none⟩)], .func (.func 80) #[] #[.pointer (some ⟨w.heap.size + 2 + 1, 0, none⟩)]]) (by simp [results, Try.results51, asAddr, run_loadVar_mid (P := Try.prog) _ _ _ 85 [.func (.func 75) #[] #[.pointer (some ⟨w.heap.size + 2, 0, none⟩)], .func (.func 76) #[] #[.pointer (some ⟨w.heap.size + 2, 0, none⟩), .pointer (some ⟨w.heap.size + 2 + 1, 0, none⟩)], .func (.func 77) #[] #[.pointer (some ⟨w.heap.size + 2, 0, none⟩), .pointer (some ⟨w.heap.size + 2 + 1, 0, none⟩)], .func (.func 78) #[] #[.pointer (some ⟨w.heap.size, 0, none⟩), .pointer (some ⟨wb.heap.size, 0, none⟩)], .func (.func 80) #[] #[.pointer (some ⟨w.heap.size + 2 + 1, 0, none⟩)]] _ hrt hu rfl (by kernel_rfl)]) rfl ?_
    have h2 := H2.out
    exact ⟨⟨_, _, _, _, rfl, HF.out.1, by omega, by omega, by omega, by omega⟩, HF.out.2⟩
  · obtain ⟨wb, hwb⟩ : ∃ wb, wb = ((wa.alloc (.cells #[.int .i64 n.live, .int .i64 n.ready, .int .i64 n.old, .int .i64 n.failed, .int .i64 n.ending] 59)).alloc (.cells #[.string s.nm, .int .i64 s.ver, .bool s.gone, .int .i64 s.image, .int .i64 s.want, .int .i64 s.down, .int .i64 s.over, .int .i64 s.next, .int .i64 s.per, .int .i64 s.least, .int .i64 s.most, .int .i64 s.load, .int .i64 s.cool] 46)).drew := ⟨_, rfl⟩
    have h1 : (wa.alloc (.cells #[.int .i64 n.live, .int .i64 n.ready, .int .i64 n.old, .int .i64 n.failed, .int .i64 n.ending] 59)).heap.size = w.heap.size + 2 + 1 := (Array.size_push _).trans (by rw [hsz])
    have h2 : wb.heap.size = w.heap.size + 4 := by rw [hwb]; exact (Array.size_push _).trans (by rw [h1])
    have HSb : Hid (LBox wb (w.heap.size + 2 + 1) [.string s.nm, .int .i64 s.ver, .bool s.gone, .int .i64 s.image, .int .i64 s.want, .int .i64 s.down, .int .i64 s.over, .int .i64 s.next, .int .i64 s.per, .int .i64 s.least, .int .i64 s.most, .int .i64 s.load, .int .i64 s.cool]) := by show LBox _ _ _; rw [hwb]; exact (LBox.new (wa.alloc _) _ _ _ (by rw [h1])).later (Below.drew (Below.refl _ _))
    have HCb : Hid (LBox wb (w.heap.size + 2) [.int .i64 n.live, .int .i64 n.ready, .int .i64 n.old, .int .i64 n.failed, .int .i64 n.ending]) := by show LBox _ _ _; rw [hwb]; exact ((LBox.new wa _ _ _ hsz.symm).past _).later (Below.drew (Below.refl _ _))
    have hbb : Below wa.heap.size wa wb := by rw [hwb]; exact Below.drew (blw_alloc (blw_alloc (Below.refl _ _) _) _)
    rw [← hwb]
    have H2 := hid h2
    clear hwb h1 h2 yz y4 y5 y6 y7 y8 y9 y10 y11 y12 y13 y14 y15 y16 y17 y18 y19 y20 y21
    obtain ⟨wm, hwm⟩ : ∃ wm, wm = wb.alloc (.cells #[.func (.func 72) #[] #[.pointer (some ⟨w.heap.size, 0, none⟩)]] 107) := ⟨_, rfl⟩
    have hbm : Below wb.heap.size wb wm := by rw [hwm]; exact blw_alloc (Below.refl _ _) _
    have hwa := blw_trans hbb hbm
    have HV : Hid (RkB K a0 a1 a2 c0 c1 c2 s n al cl L lv w.heap.size (w.heap.size + 2 + 1) (w.heap.size + 2) wb.heap.size wm) := ⟨HX.out.later hwa, HSb.out.later hbm, HCb.out.later hbm, by rw [hwm]; exact LBox.new wb _ _ _ rfl⟩
    have HOm := hid (HO.out.later hwa)
    have HBm := hid (blw_trans HB.out hwa)
    go_upto_region 3 with fail
    rw [← hwm]
    clear hwm hbm hwa hbb HSb HCb
    have hth := RY.own_there HOm.out
    have hrt : World.rangeAt (wm.setCells (w.heap.size + 1) 0 [.func (.func 75) #[] #[.pointer (some ⟨w.heap.size + 2 + 1, 0, none⟩)], .func (.func 76) #[] #[.pointer (some ⟨w.heap.size + 2 + 1, 0, none⟩), .pointer (some ⟨w.heap.size + 2, 0, none⟩)], .func (.func 77) #[] #[.pointer (some ⟨w.heap.size + 2 + 1, 0, none⟩), .pointer (some ⟨w.heap.size + 2, 0, none⟩)], .func (.func 78) #[] #[.pointer (some ⟨w.heap.size, 0, none⟩), .pointer (some ⟨wb.heap.size, 0, none⟩)], .func (.func 80) #[] #[.pointer (some ⟨w.heap.size + 2, 0, none⟩)]]) (w.heap.size + 1) 0 [.func (.func 75) #[] #[.pointer (some ⟨w.heap.size + 2 + 1, 0, none⟩)], .func (.func 76) #[] #[.pointer (some ⟨w.heap.size + 2 + 1, 0, none⟩), .pointer (some ⟨w.heap.size + 2, 0, none⟩)], .func (.func 77) #[] #[.pointer (some ⟨w.heap.size + 2 + 1, 0, none⟩), .pointer (some ⟨w.heap.size + 2, 0, none⟩)], .func (.func 78) #[] #[.pointer (some ⟨w.heap.size, 0, none⟩), .pointer (some ⟨wb.heap.size, 0, none⟩)], .func (.func 80) #[] #[.pointer (some ⟨w.heap.size + 2, 0, none⟩)]] := World.rangeAt_setCells_same _ _ _ _ hth
    have hu : Try.prog.underlying 85 = some (.array 5 84) := by kernel_rfl
    have HF : Hid (RkB K a0 a1 a2 c0 c1 c2 s n al cl L lv w.heap.size (w.heap.size + 2 + 1) (w.heap.size + 2) wb.heap.size (wm.setCells (w.heap.size + 1) 0 [.func (.func 75) #[] #[.pointer (some ⟨w.heap.size + 2 + 1, 0, none⟩)], .func (.func 76) #[] #[.pointer (some ⟨w.heap.size + 2 + 1, 0, none⟩), .pointer (some ⟨w.heap.size + 2, 0, none⟩)], .func (.func 77) #[] #[.pointer (some ⟨w.heap.size + 2 + 1, 0, none⟩), .pointer (some ⟨w.heap.size + 2, 0, none⟩)], .func (.func 78) #[] #[.pointer (some ⟨w.heap.size, 0, none⟩), .pointer (some ⟨wb.heap.size, 0, none⟩)], .func (.func 80) #[] #[.pointer (some ⟨w.heap.size + 2, 0, none⟩)]]) ∧ Below w.heap.size w (wm.setCells (w.heap.size + 1) 0 [.func (.func 75) #[] #[.pointer (some ⟨w.heap.size + 2 + 1, 0, none⟩)], .func (.func 76) #[] #[.pointer (some ⟨w.heap.size + 2 + 1, 0, none⟩), .pointer (some ⟨w.heap.size + 2, 0, none⟩)], .func (.func 77) #[] #[.pointer (some ⟨w.heap.size + 2 + 1, 0, none⟩), .pointer (some ⟨w.heap.size + 2, 0, none⟩)], .func (.func 78) #[] #[.pointer (some ⟨w.heap.size, 0, none⟩), .pointer (some ⟨wb.heap.size, 0, none⟩)], .func (.func 80) #[] #[.pointer (some ⟨w.heap.size + 2, 0, none⟩)]])) := by
      have h2 := H2.out
      exact ⟨HV.out.sets (by omega) (by omega) (by omega) (by omega) _, setCells_below HBm.out (by omega) _ _⟩
    go_wp2_with (refine wpList_store_mid rfl 85 _ _ rfl (w.heap.size + 1) 0 #[.func (.func 75) #[] #[.pointer (some ⟨w.heap.size + 2 + 1, 0, none⟩)], .func (.func 76) #[] #[.pointer (some ⟨w.heap.size + 2 + 1, 0, none⟩), .pointer (some ⟨w.heap.size + 2, 0, none⟩)], .func (.func 77) #[] #[.pointer (some ⟨w.heap.size + 2 + 1, 0, none⟩), .pointer (some ⟨w.heap.size + 2, 0, none⟩)], .func (.func 78) #[] #[.pointer (some ⟨w.heap.size, 0, none⟩), .pointer (some ⟨wb.heap.size, 0, none⟩)], .func (.func 80) #[] #[.pointer (some ⟨w.heap.size + 2, 0, none⟩)]] rfl rfl hth (by kernel_rfl) (by simp [Value.oneCell']) ?_)
    simp only [Act.put]
    refine bodyPost_ret (v := .agg #[.func (.func 75) #[] #[.pointer (some ⟨w.heap.size + 2 + 1, 0, none⟩)], .func (.func 76) #[] #[.pointer (some ⟨w.heap.size + 2 + 1, 0, none⟩), .pointer (some ⟨w.heap.size + 2, 0, none⟩)], .func (.func 77) #[] #[.pointer (some ⟨w.heap.size + 2 + 1, 0, none⟩), .pointer (some ⟨w.heap.size + 2, 0, none⟩)], .func (.func 78) #[] #[.pointer (some ⟨w.heap.size, 0, none⟩), .pointer (some ⟨wb.heap.size, 0, none⟩)], .func (.func 80) #[] #[.pointer (some ⟨w.heap.size + 2, 0, none⟩)]]) (by simp [results, Try.results51, asAddr, run_loadVar_mid (P := Try.prog) _ _ _ 85 [.func (.func 75) #[] #[.pointer (some ⟨w.heap.size + 2 + 1, 0, none⟩)], .func (.func 76) #[] #[.pointer (some ⟨w.heap.size + 2 + 1, 0, none⟩), .pointer (some ⟨w.heap.size + 2, 0, none⟩)], .func (.func 77) #[] #[.pointer (some ⟨w.heap.size + 2 + 1, 0, none⟩), .pointer (some ⟨w.heap.size + 2, 0, none⟩)], .func (.func 78) #[] #[.pointer (some ⟨w.heap.size, 0, none⟩), .pointer (some ⟨wb.heap.size, 0, none⟩)], .func (.func 80) #[] #[.pointer (some ⟨w.heap.size + 2, 0, none⟩)]] _ hrt hu rfl (by kernel_rfl)]) rfl ?_
    have h2 := H2.out
    exact ⟨⟨_, _, _, _, rfl, HF.out.1, by omega, by omega, by omega, by omega⟩, HF.out.2⟩

end Go.Proofs.Ytamhfnlogldpaaa
