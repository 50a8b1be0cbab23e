/-
  A new world of the hall: plain.
-/
import Derived.BigFrame
import Derived.Lib.AppendZeros
import Derived.Test.YtfkkohfjkofgnaaGreatHPa
import Derived.Test.YtfkkohfjkofgnaaGreatHSh
import Derived.Test.YtfkkohfjkofgnaaGreatUC
import Derived.Test.YtfkkohfjkofgnaaGreatRgMk
import Derived.Test.YtfkkohfjkofgnaaGreatKNw
import Derived.Test.YtfkkohfjkofgnaaGreatHNSh
namespace Go.Proofs.YtfkkohfjkofgnaaGreat
open Go.RowKit Go.Deep

theorem Tryz.cinfoN1h : (Tryz.prog.info? 3).map (fun i => (i.zero, i.size, i.bytes)) = some (some (.int .i64 0), 1, 8) := by kernel_rfl
theorem Tryz.cunderN1h : Tryz.prog.underlying 66 = some (.slice 3) := by kernel_rfl
theorem Tryz.cinfoGateGrant : (Tryz.prog.info? 74).map (fun i => (i.zero, i.size, i.bytes)) = some (some (.agg #[.int .i64 0, .string ByteArray.empty, .string ByteArray.empty, .slice none 0 0, .string ByteArray.empty, .string ByteArray.empty, .string ByteArray.empty]), 7, 112) := by kernel_rfl
theorem Tryz.cunderGateGrant : Tryz.prog.underlying 28 = some (.slice 74) := by kernel_rfl

set_option maxRecDepth 8000 in
set_option maxHeartbeats 8000000 in
theorem l5RuleC (r : Rul) (va : Option Addr) (vc : Nat) (W : World) (hv : Raw W [.row 3 [.i]] [.row r.verbs.length (r.verbs.flatMap eNb)] [.slice va r.verbs.length vc]) (hn : r.verbs.length ≤ 1048576) :
    Calls Tryz.prog 40 #[.agg #[.slice va r.verbs.length vc, .string r.kind, .string r.team, .string r.pre]] W (Ans shGateRule (eRl r) W) := by
  obtain ⟨wa, hwa⟩ : ∃ wa, wa = (W.alloc (.cells #[.slice va r.verbs.length vc, .string r.kind, .string r.team, .string r.pre] 72)).alloc (.cells #[.slice none 0 0, .string { data := #[] }, .string { data := #[] }, .string { data := #[] }] 72) := ⟨_, rfl⟩
  have HB : Hid (Below W.heap.size W wa) := by show Below _ _ _; rw [hwa]; exact blw_alloc (blw_alloc (Below.refl _ _) _) _
  have HX : Hid (WBox wa W.heap.size 72 [.slice va r.verbs.length vc, .string r.kind, .string r.team, .string r.pre]) := by show WBox _ _ _ _; rw [hwa]; exact (WBox.new W [.slice va r.verbs.length vc, .string r.kind, .string r.team, .string r.pre] _ _ rfl).later (blw_alloc (Below.refl _ _) _)
  have HO : Hid (OwnBlk wa (W.heap.size + 1) 72 4) := by show OwnBlk _ _ _ _; rw [hwa]; exact OwnBlk.alloc_at3 _ _ _ _ _ rfl (by simp)
  have ZA : Hid (wa.heap.size = W.heap.size + 2) := by show _ = _; rw [hwa]; simp
  obtain ⟨wb, hwb⟩ : ∃ wb, wb = wa.alloc (.cells #[] 3) := ⟨_, rfl⟩
  have hbb : Below wa.heap.size wa wb := by rw [hwb]; exact blw_alloc (Below.refl _ _) _
  obtain ⟨v', W1, xs, hrun, hg, hb⟩ := app_copy (P := Tryz.prog) wa.heap.size 66 66 3 3 1 8 _ Tryz.cunderN1h Tryz.cinfoN1h rfl (by decide) (by decide) [.i] rfl (by simp [flatB]) wb (.slice (some ⟨wa.heap.size, 0, none⟩) 0 0) (Or.inr ⟨wa.heap.size, rfl, Nat.le_refl _, by rw [hwb]; exact heap_alloc_new _ _⟩) hbb.size r.verbs.length (r.verbs.flatMap eNb) (.slice va r.verbs.length vc) ((hv.later HB.out).later hbb) (by omega)
  have hb1 : Below wa.heap.size wa W1 := blw_trans hbb hb
  rw [hwb] at hrun
  obtain ⟨wx, wc, hvx⟩ := hg.shape
  subst hvx
  obtain ⟨F, r, nd, fr⟩ := hg.done
  have HR := uh (And.intro r (And.intro nd fr))
  clear r nd fr hg hv
  have hX1 := HX.out.later hb1
  have x0 := hX1.get 0 _ rfl
  have xf := hX1.own.frozen 0
  have xz := hX1.own.lt
  have xa := HX.out.get 0 _ rfl
  have xal := HX.out.own.lt
  obtain ⟨y, hy⟩ : ∃ y, y = W1.setCell ⟨W.heap.size, 0, none⟩ (.slice wx r.verbs.length wc) := ⟨_, rfl⟩
  have HX2 : Hid (WBox y W.heap.size 72 [.slice wx r.verbs.length wc, .string r.kind, .string r.team, .string r.pre]) := by show WBox _ _ _ _; rw [hy]; exact hX1.set 0 _ (by simp)
  have HM : Hid (Marks (fun b => b = W.heap.size) W1 y) := by show Marks _ _ _; rw [hy]; exact Marks.sc (S := fun b => b = W.heap.size) _ rfl _ _
  have HO2 := uh (HM.out.own _ _ _ (HO.out.later hb1))
  have HB2 : Hid (Below W.heap.size W y) := HM.out.below (fun b e => by rw [e]; exact Nat.le_refl _) (blw_trans HB.out hb1)
  have HF : Hid (∀ b ∈ F, W.heap.size + 2 ≤ b) := fun b hb => by have := HR.out.2.2 b hb; have := ZA.out; omega
  go_enter Tryz.func40, Tryz.ntmps40
  go_upto_region 1 with fail
  rw [← hwa]
  clear hwa hX1
  go_upto_region 2 with (at_builtin; refine Go.Lib.wpList_append_run _ rfl _ _ 66 66 rfl _ _ rfl rfl _ W1 hrun ?_)
  rw [← hy]
  clear hy x0 xf xz xa xal hrun
  have hxl := HX2.out.own.lt
  have hxa := HX2.out.at_
  have hth : y.there (W.heap.size + 1) 0 (#[.slice wx r.verbs.length wc, .string r.kind, .string r.team, .string r.pre] : Array Value).size := uthere HO2.out _ _ (by simp)
  obtain ⟨we, hwe⟩ : ∃ we, we = y.setCells (W.heap.size + 1) 0 [.slice wx r.verbs.length wc, .string r.kind, .string r.team, .string r.pre] := ⟨_, rfl⟩
  have hrt : we.rangeAt (W.heap.size + 1) 0 [.slice wx r.verbs.length wc, .string r.kind, .string r.team, .string r.pre] := by rw [hwe]; exact World.rangeAt_setCells_same _ _ _ _ hth
  have HMK : Hid (Marks (fun b => b = W.heap.size + 1) y we) := by show Marks _ _ _; rw [hwe]; exact mks_scs (S := fun b => b = W.heap.size + 1) rfl _ _ _
  have HBB : Hid (Below W.heap.size W we) := by show Below _ _ _; rw [hwe]; exact blw_scs (by omega) _ _ _ HB2.out
  go_wp2_with (first | (refine wpList_load_mid rfl 72 _ rfl W.heap.size 0 rfl [.slice wx r.verbs.length wc, .string r.kind, .string r.team, .string r.pre] _ hxa Tryz.underlying72 rfl (by kernel_rfl) ?_) | (refine wpList_store_mid rfl 72 _ _ rfl (W.heap.size + 1) 0 #[.slice wx r.verbs.length wc, .string r.kind, .string r.team, .string r.pre] rfl rfl hth (by kernel_rfl) (by simp [Value.oneCell']) ?_))
  first | rw [← hwe] | (simp only [List.toList_toArray]; rw [← hwe])
  try simp only [Act.put]
  refine bodyPost_ret (v := .agg #[.slice wx r.verbs.length wc, .string r.kind, .string r.team, .string r.pre]) (by simp [results, Tryz.results40, asAddr, run_loadVar_mid (P := Tryz.prog) _ _ _ 72 [.slice wx r.verbs.length wc, .string r.kind, .string r.team, .string r.pre] _ hrt Tryz.underlying72 rfl (by kernel_rfl)]) rfl ?_
  have M1 := HR.out.1.keep HM.out (fun b hb e => by have := HF.out b hb; omega)
  have M2 := M1.keep HMK.out (fun b hb e => by have := HF.out b hb; omega)
  refine ⟨[.slice wx r.verbs.length wc, .string r.kind, .string r.team, .string r.pre], F ++ [], rfl, repGateRule_mk M2 _ _ _, by rw [List.append_nil]; exact HR.out.2.1, fun b hb => by rw [List.append_nil] at hb; have := HF.out b hb; omega, HBB.out⟩

set_option maxRecDepth 8000 in
set_option maxHeartbeats 8000000 in
theorem copyGrantI (g : Gn) (va : Option Addr) (vc : Nat) (W : World) (hv : Raw W [.row 3 [.i]] [.row g.rul.verbs.length (g.rul.verbs.flatMap eNb)] [.slice va g.rul.verbs.length vc]) (hn : g.rul.verbs.length ≤ 1048576) :
    Calls Tryz.prog 51 #[.agg #[.int .i64 g.num, .string g.to_, .string g.by_, .slice va g.rul.verbs.length vc, .string g.rul.kind, .string g.rul.team, .string g.rul.pre]] W (Ans shGateGrant (eGn g) W) := by
  obtain ⟨wa, hwa⟩ : ∃ wa, wa = (W.alloc (.cells #[.int .i64 g.num, .string g.to_, .string g.by_, .slice va g.rul.verbs.length vc, .string g.rul.kind, .string g.rul.team, .string g.rul.pre] 74)).alloc (.cells #[.int .i64 0, .string { data := #[] }, .string { data := #[] }, .slice none 0 0, .string { data := #[] }, .string { data := #[] }, .string { data := #[] }] 74) := ⟨_, rfl⟩
  have HB : Hid (Below W.heap.size W wa) := by show Below _ _ _; rw [hwa]; exact blw_alloc (blw_alloc (Below.refl _ _) _) _
  have HX : Hid (WBox wa W.heap.size 74 [.int .i64 g.num, .string g.to_, .string g.by_, .slice va g.rul.verbs.length vc, .string g.rul.kind, .string g.rul.team, .string g.rul.pre]) := by show WBox _ _ _ _; rw [hwa]; exact (WBox.new W [.int .i64 g.num, .string g.to_, .string g.by_, .slice va g.rul.verbs.length vc, .string g.rul.kind, .string g.rul.team, .string g.rul.pre] _ _ rfl).later (blw_alloc (Below.refl _ _) _)
  have HO : Hid (OwnBlk wa (W.heap.size + 1) 74 7) := by show OwnBlk _ _ _ _; rw [hwa]; exact OwnBlk.alloc_at3 _ _ _ _ _ rfl (by simp)
  have ZA : Hid (wa.heap.size = W.heap.size + 2) := by show _ = _; rw [hwa]; simp
  obtain ⟨v', W1, xs, hrun, hg, hb1⟩ := app_copy (P := Tryz.prog) wa.heap.size 66 66 3 3 1 8 _ Tryz.cunderN1h Tryz.cinfoN1h rfl (by decide) (by decide) [.i] rfl (by simp [flatB]) wa (.slice none 0 0) (Or.inl rfl) (Nat.le_refl _) g.rul.verbs.length (g.rul.verbs.flatMap eNb) (.slice va g.rul.verbs.length vc) (hv.later HB.out) (by omega)
  obtain ⟨wx, wc, hvx⟩ := hg.shape
  subst hvx
  obtain ⟨F, r, nd, fr⟩ := hg.done
  have HR := uh (And.intro r (And.intro nd fr))
  clear r nd fr hg hv
  have hX1 := HX.out.later hb1
  have x0 := hX1.get 3 _ rfl
  have xf := hX1.own.frozen 3
  have xz := hX1.own.lt
  have xa := HX.out.get 3 _ rfl
  have xal := HX.out.own.lt
  obtain ⟨y, hy⟩ : ∃ y, y = W1.setCell ⟨W.heap.size, 3, none⟩ (.slice wx g.rul.verbs.length wc) := ⟨_, rfl⟩
  have HX2 : Hid (WBox y W.heap.size 74 [.int .i64 g.num, .string g.to_, .string g.by_, .slice wx g.rul.verbs.length wc, .string g.rul.kind, .string g.rul.team, .string g.rul.pre]) := by show WBox _ _ _ _; rw [hy]; exact hX1.set 3 _ (by simp)
  have HM : Hid (Marks (fun b => b = W.heap.size) W1 y) := by show Marks _ _ _; rw [hy]; exact Marks.sc (S := fun b => b = W.heap.size) _ rfl _ _
  have HO2 := uh (HM.out.own _ _ _ (HO.out.later hb1))
  have HB2 : Hid (Below W.heap.size W y) := HM.out.below (fun b e => by rw [e]; exact Nat.le_refl _) (blw_trans HB.out hb1)
  have HF : Hid (∀ b ∈ F, W.heap.size + 2 ≤ b) := fun b hb => by have := HR.out.2.2 b hb; have := ZA.out; omega
  go_enter Tryz.func51, Tryz.ntmps51
  go_upto_region 1 with fail
  rw [← hwa]
  clear hwa hX1
  go_upto_region 2 with (at_builtin; refine Go.Lib.wpList_append_run _ rfl _ _ 66 66 rfl _ _ rfl rfl _ W1 hrun ?_)
  rw [← hy]
  clear hy x0 xf xz xa xal hrun
  have hxl := HX2.out.own.lt
  have hxa := HX2.out.at_
  have hth : y.there (W.heap.size + 1) 0 (#[.int .i64 g.num, .string g.to_, .string g.by_, .slice wx g.rul.verbs.length wc, .string g.rul.kind, .string g.rul.team, .string g.rul.pre] : Array Value).size := uthere HO2.out _ _ (by simp)
  obtain ⟨we, hwe⟩ : ∃ we, we = y.setCells (W.heap.size + 1) 0 [.int .i64 g.num, .string g.to_, .string g.by_, .slice wx g.rul.verbs.length wc, .string g.rul.kind, .string g.rul.team, .string g.rul.pre] := ⟨_, rfl⟩
  have hrt : we.rangeAt (W.heap.size + 1) 0 [.int .i64 g.num, .string g.to_, .string g.by_, .slice wx g.rul.verbs.length wc, .string g.rul.kind, .string g.rul.team, .string g.rul.pre] := by rw [hwe]; exact World.rangeAt_setCells_same _ _ _ _ hth
  have HMK : Hid (Marks (fun b => b = W.heap.size + 1) y we) := by show Marks _ _ _; rw [hwe]; exact mks_scs (S := fun b => b = W.heap.size + 1) rfl _ _ _
  have HBB : Hid (Below W.heap.size W we) := by show Below _ _ _; rw [hwe]; exact blw_scs (by omega) _ _ _ HB2.out
  go_wp2_with (first | (refine wpList_load_mid rfl 74 _ rfl W.heap.size 0 rfl [.int .i64 g.num, .string g.to_, .string g.by_, .slice wx g.rul.verbs.length wc, .string g.rul.kind, .string g.rul.team, .string g.rul.pre] _ hxa Tryz.underlying74 rfl (by kernel_rfl) ?_) | (refine wpList_store_mid rfl 74 _ _ rfl (W.heap.size + 1) 0 #[.int .i64 g.num, .string g.to_, .string g.by_, .slice wx g.rul.verbs.length wc, .string g.rul.kind, .string g.rul.team, .string g.rul.pre] rfl rfl hth (by kernel_rfl) (by simp [Value.oneCell']) ?_))
  first | rw [← hwe] | (simp only [List.toList_toArray]; rw [← hwe])
  try simp only [Act.put]
  refine bodyPost_ret (v := .agg #[.int .i64 g.num, .string g.to_, .string g.by_, .slice wx g.rul.verbs.length wc, .string g.rul.kind, .string g.rul.team, .string g.rul.pre]) (by simp [results, Tryz.results51, asAddr, run_loadVar_mid (P := Tryz.prog) _ _ _ 74 [.int .i64 g.num, .string g.to_, .string g.by_, .slice wx g.rul.verbs.length wc, .string g.rul.kind, .string g.rul.team, .string g.rul.pre] _ hrt Tryz.underlying74 rfl (by kernel_rfl)]) rfl ?_
  have M1 := HR.out.1.keep HM.out (fun b hb e => by have := HF.out b hb; omega)
  have M2 := M1.keep HMK.out (fun b hb e => by have := HF.out b hb; omega)
  refine ⟨[.int .i64 g.num, .string g.to_, .string g.by_, .slice wx g.rul.verbs.length wc, .string g.rul.kind, .string g.rul.team, .string g.rul.pre], F ++ [], rfl, repGateGrant_mk _ _ _ M2 _ _ _, by rw [List.append_nil]; exact HR.out.2.1, fun b hb => by rw [List.append_nil] at hb; have := HF.out b hb; omega, HBB.out⟩
end Go.Proofs.YtfkkohfjkofgnaaGreat

namespace Go.Proofs.YtfkkohfjkofgnaaGreat
open Go.RowKit Go.Deep


/-- Grants in a row, with what they lead to. -/
structure GnsR (w : World) (p : Nat) (l : List Gn) : Prop where
  lt : p < w.heap.size
  len : l.length ≤ 1048576
  at_ : ∀ i, i < l.length → ∃ vb, w.rangeAt p (i * 7) (let g := l.getD i Gn.none; [.int .i64 g.num, .string g.to_, .string g.by_, .slice (some ⟨vb, 0, none⟩) g.rul.verbs.length g.rul.verbs.length, .string g.rul.kind, .string g.rul.team, .string g.rul.pre]) ∧ (let g := l.getD i Gn.none; Raw w [.row 3 [.i]] [.row g.rul.verbs.length (g.rul.verbs.flatMap eNb)] [.slice (some ⟨vb, 0, none⟩) g.rul.verbs.length g.rul.verbs.length] ∧ g.rul.verbs.length ≤ 1048576)
theorem GnsR.later {w w' : World} {p : Nat} {l : List Gn} (h : GnsR w p l) (hb : Below w.heap.size w w') : GnsR w' p l :=
  ⟨Nat.lt_of_lt_of_le h.lt hb.size, h.len, fun i hi => by
    obtain ⟨vb, h1, h2, h3⟩ := h.at_ i hi
    exact ⟨vb, rA_later h1 h.lt hb, h2.later hb, h3⟩⟩
theorem vGnR {W : World} {F : List Nat} {l : List Gn} {v : Value} {t : TypeId} (h : Rep W true [.row t shGateGrant] F [.row l.length (l.flatMap eGn)] [v]) (hw : l.length + wtL (l.flatMap eGn) ≤ 1048576) : ∃ p, v = .slice (some ⟨p, 0, none⟩) l.length l.length ∧ GnsR W p l := by
  obtain ⟨p, rfl, hp, hm, hall⟩ := rep_at Gn.none eGn (fun _ => rfl) h
  refine ⟨p, rfl, hp, by omega, fun i hi => ?_⟩
  obtain ⟨ve, G, hg, hE⟩ := hall i hi
  obtain ⟨F3, v3, _, rfl, r3⟩ := repGateGrant hE
  have := wt_mem eGn l _ (getD_memH (d := Gn.none) hi)
  simp only [eGn, wtL] at this
  obtain ⟨vb, rfl, hv⟩ := vNb r3 (by omega)
  exact ⟨vb, hg, r3.raw, by omega⟩
theorem WBox.grown {W W' : World} {row : Option Nat} {p : Nat} {u : TypeId} {cs : List Value} (h : WBox W p u cs) (hg : W.grownBy W' row) (hn : row ≠ some p) : WBox W' p u cs := by
  have hb : W'.heap[p]? = W.heap[p]? := hg.block p h.own.lt (fun e => hn e.symm)
  refine ⟨?_, rA_same h.at_ fun j _ => World.cell?_of_block (a := ⟨p, 0 + j, none⟩) hb⟩
  obtain ⟨c, h1, h2⟩ := h.own
  exact ⟨c, hb.trans h1, h2⟩
theorem take_fm {α : Type} (f : α → List Dt) (d : α) (l : List α) (q : Nat) (h : q < l.length) : (l.take (q + 1)).flatMap f = (l.take q).flatMap f ++ f (l.getD q d) := by
  have e : l.getD q d = l[q] := by simp [h]
  rw [List.take_succ_eq_append_getElem h, List.flatMap_append, e]; simp
theorem app_nil {P : Program} (t ty e : TypeId) (ht : P.underlying t = some (.slice e)) (hinf : (P.info? e).isSome = true) (W : World) : (Builtin.append_ #[t, t] ty #[.slice none 0 0, .slice none 0 0]).run P W = .ok (.slice none 0 0) W := by
  obtain ⟨i, hi⟩ := Option.isSome_iff_exists.1 hinf
  have hsrc : Src P i.size t (.slice none 0 0) 0 [] W := Src.ofNil W ht 0
  have h1 := hsrc.len
  have h2 := hsrc.cells
  simp [Builtin.append_, run_underlying ht, sizeOf, typeInfo, hi, h1, h2]
/-- The first books. -/
def bookD (n : Nat) (gs : List Dt) : List Dt := [.i (n : Int), .i 0, .i (n : Int), .row 0 [], .row n gs, .row 0 [], .row 0 []]
def firstD (K : Hs) : List Dt := if houseOk K then [.i (K.grs.length : Int), .i 0, .i (K.grs.length : Int), .row 0 [], .row K.grs.length (K.grs.flatMap eGn), .row 0 [], .row 0 [], .i 0, .row 0 [], .row 0 [], .row 0 []] else [.i 0, .i 0, .i 0, .row 0 [], .row 0 [], .row 0 [], .row 0 [], .i 0, .row 0 [], .row 0 [], .row 0 []]
theorem cnt_first {K : Hs} (t : Typ shHallHouse (eHs K)) (hw : wtL (eHs K) ≤ 1048576) : cntT (firstD K) ≤ 1000000000 := by
  have h1 := cntT_le (eHs K)
  have h2 := cnt_wt t shB_hs
  have h3 : shHallHouse.length = 2 := rfl
  have h4 : cntL (K.grs.flatMap eGn) ≤ cntL (eHs K) := by simp only [eHs, cntL]; omega
  unfold firstD
  split
  · simp only [cntT, cntL]; omega
  · simp [cntT, cntL]
theorem cnt_houseF {K : Hs} (t : Typ shHallHouse (eHs K)) (hw : wtL (eHs K) ≤ 1048576) : cntT (eHs K) ≤ 1000000000 := by
  have h1 := cntT_le (eHs K)
  have h2 := cnt_wt t shB_hs
  have h3 : shHallHouse.length = 2 := rfl
  omega
theorem grant_rep {w : World} {tt : Bool} {F : List Nat} {g : Gn} {c : List Value} (h : Rep w tt shGateRule F (eRl g.rul) c) : ∃ v a m, v = .slice a g.rul.verbs.length m ∧ c = [v, .string g.rul.kind, .string g.rul.team, .string g.rul.pre] ∧ Rep w tt shGateGrant F (eGn g) ([.int .i64 g.num, .string g.to_, .string g.by_, v, .string g.rul.kind, .string g.rul.team, .string g.rul.pre]) := by
  obtain ⟨F0, v0, rfl, rfl, r0⟩ := repGateRule h
  obtain ⟨a, m, rfl⟩ := r0.raw.len0
  exact ⟨_, a, m, rfl, rfl, repGateGrant_mk _ _ _ r0 _ _ _⟩
end Go.Proofs.YtfkkohfjkofgnaaGreat

namespace Go.Proofs.YtfkkohfjkofgnaaGreat
open Go.RowKit Go.Deep


theorem Tryz.cinfoGateTeam : (Tryz.prog.info? 86).map (fun i => (i.zero, i.size, i.bytes)) = some (some (.agg #[.string ByteArray.empty, .string ByteArray.empty]), 2, 32) := by kernel_rfl
theorem Tryz.cunderGateTeam : Tryz.prog.underlying 27 = some (.slice 86) := by kernel_rfl
/-- A house as it is read. -/
structure HsR (w : World) (p0 p1 : Nat) (K : Hs) : Prop where
  v : HsV w p0 p1 K
  g : GnsR w p1 K.grs
  t : Raw w [.row 86 shGateTeam] [.row K.tms.length (K.tms.flatMap eTm)] [.slice (some ⟨p0, 0, none⟩) K.tms.length K.tms.length]
  n : K.tms.length ≤ 1048576
theorem HsR.later {w w' : World} {p0 p1 : Nat} {K : Hs} (h : HsR w p0 p1 K) (hb : Below w.heap.size w w') : HsR w' p0 p1 K := ⟨h.v.later hb, h.g.later hb, h.t.later hb, h.n⟩
theorem hsR {W : World} {F : List Nat} {K : Hs} {c : List Value} (hr : Rep W true shHallHouse F (eHs K) c) (hw : wtL (eHs K) ≤ 1048576) : ∃ p0 p1, c = [.slice (some ⟨p0, 0, none⟩) K.tms.length K.tms.length, .slice (some ⟨p1, 0, none⟩) K.grs.length K.grs.length] ∧ HsR W p0 p1 K := by
  obtain ⟨p0, p1, hc, hv⟩ := vHs hr hw
  obtain ⟨F0, v0, F1, v1, _, hc2, r0, r1⟩ := repHallHouse hr
  have hwg : K.grs.length + wtL (K.grs.flatMap eGn) ≤ 1048576 := by simp only [eHs, wtL] at hw; omega
  have hwt : K.tms.length ≤ 1048576 := by simp only [eHs, wtL] at hw; omega
  obtain ⟨p2, hp2, hG⟩ := vGnR r1 hwg
  subst hc
  injection hc2 with e1 e2
  injection e2 with e2 _
  rw [hp2] at e2
  injection e2 with e2
  injection e2 with e2
  injection e2 with e2
  subst e2
  rw [← e1] at r0
  exact ⟨p0, p1, rfl, hv, hG, r0.raw, hwt⟩
def nwZ : List Dt := [.row 0 [], .row 0 [], .row 0 [], .row 0 [], .row 0 [], .i 0, .row 0 []]
def nwOk (K : Hs) (n : Int) : List Dt := [.row K.tms.length (K.tms.flatMap eTm), .row K.grs.length (K.grs.flatMap eGn), .row n.toNat (newRow n n.toNat), .row 0 [], .row 0 [], .i 0, .row 0 []]
def nwD (K : Hs) (n : Int) : List Dt := if houseOk K && inB n 1 5 then nwOk K n else nwZ
theorem cnt_nwH {K : Hs} (t : Typ shHallHouse (eHs K)) (hw : wtL (eHs K) ≤ 1048576) : cntT (eHs K) ≤ 100000000 := by
  have h1 := cntT_le (eHs K)
  have h2 := cnt_wt t shB_hs
  have h3 : shHallHouse.length = 2 := rfl
  omega
theorem cnt_nw {K : Hs} (n : Int) (t : Typ shHallHouse (eHs K)) (hw : wtL (eHs K) ≤ 1048576) : cntT (nwD K n) ≤ 1000000000 := by
  have h1 := cnt_nwH t hw
  unfold nwD
  split
  · rename_i h
    simp only [inB, Bool.and_eq_true, decide_eq_true_eq] at h
    simp only [nwOk, cntT, cnt_newRow, cntL]
    simp only [eHs, cntT] at h1
    omega
  · simp [nwZ, cntT, cntL]
end Go.Proofs.YtfkkohfjkofgnaaGreat
